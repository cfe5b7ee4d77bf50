/-
  Copies of a grid's two lists: impl.sheetsOf, spec.l3Copy; a grid of two sheets: impl.gridOf.
-/
import Derived.Test.YtknkbihjboadjaaDoorSheetFns
import Derived.Test.YtknkbihjboadjaaDoorPairAppend
import Derived.Test.YtknkbihjboadjaaDoorResMem
import Derived.Deep.RegionHeld
import Derived.Deep.RegionHeld3
namespace Go.Proofs.YtknkbihjboadjaaDoor
set_option maxRecDepth 20000
open Go.ChangeShapes Go.WideShapes Go.ChangeAt Go.RowKit
set_option linter.unusedVariables false
set_option linter.unusedSimpArgs false
set_option maxRecDepth 20000

theorem info_cell : (Tryd.prog.info? 65).map (fun i => (i.zero, i.size, i.bytes)) = some (some (.agg #[.int .i64 0, .int .i64 0]), 2, 16) := by kernel_rfl

theorem own_touch {w w' : World} {base b p q size n : Nat} {e : TypeId} {v : Value} {xs : List Value} (h : w.ownsRow base e size v n xs) (t : Touch b p q w w') (hb : ∀ k, v.ownBlock = some k → k ≠ b) : w'.ownsRow base e size v n xs :=
  h.kept (row := some b) ⟨t.os, t.tape, t.output, t.size, fun k hk hne => t.block k hk (fun e => hne (by rw [e]))⟩ (Or.inr (fun e => hb b e rfl))
/-- What a call owns by appending, as a row that may be written. -/
theorem own_row {w : World} {base n : Nat} {e : TypeId} {v : Value} {xs : List (Int × Int)} (h : w.ownsRow base e 2 v n (pvs xs)) (hn : 0 < n) : ∃ b cap, v = .slice (some ⟨b, 0, none⟩) n cap ∧ n ≤ cap ∧ xs.length = n ∧ base ≤ b ∧ b < w.heap.size ∧ Row w b 0 n (fun i => xs.getD i (0, 0)) := by
  have hp := own_pairs h (Nat.le_refl _)
  obtain ⟨hl, h⟩ := h
  rw [pvs_length] at hl
  have hl' : xs.length = n := by omega
  rcases h with ⟨rfl, h0⟩ | ⟨g, cap, cur, rfl, hb, hg, h1, h2, h3, h4⟩
  · omega
  · obtain ⟨a, c, e1, hp⟩ := hp
    injection e1 with e1 e2 e3
    rcases hp with hp | ⟨b, off, ha, p1, p2, hc⟩
    · rw [hp] at hl'; simp at hl'; omega
    · rw [ha] at e1
      injection e1 with e1
      injection e1 with e4 e5
      subst e4
      subst e5
      exact ⟨g, cap, rfl, by omega, hl', hb, p2, fun i hi => by have := hc i (by omega); exact this⟩

set_option maxHeartbeats 1000000 in
theorem sheetsOf_calls (r wd : Int) (cs bs : List (Int × Int)) (v1 v2 : Value) (w : World) (hn1 : cs.length ≤ 1048576) (hn2 : bs.length ≤ 1048576) (h1 : PRead w v1 cs) (h2 : PRead w v2 bs) :
    Calls Tryd.prog 28 #[.agg #[.int .i64 r, .int .i64 wd, v1, v2]] w fun e w' => ∃ x y m, e = .returned (.tuple #[.agg #[.int .i64 wd, x], .agg #[.int .i64 wd, y]]) ∧ w.heap.size ≤ m ∧ m ≤ w'.heap.size ∧ w'.ownsRow w.heap.size 65 2 x cs.length (pvs cs) ∧ (∀ k, x.ownBlock = some k → k < m) ∧ w'.ownsRow m 65 2 y bs.length (pvs bs) ∧ Below w.heap.size w w' := by
  obtain ⟨i0, hi, hz0, hz1, hz2⟩ := info_parts info_cell
  have h1' := h1
  obtain ⟨a1, c1, rfl, _⟩ := h1'
  have h2' := h2
  obtain ⟨a2, c2, rfl, _⟩ := h2'
  have hb0 : Below w.heap.size w (((w.alloc (.cells #[.int .i64 r, .int .i64 wd, .slice a1 cs.length c1, .slice a2 bs.length c2] 36)).alloc (.cells #[.int .i64 0, .slice none 0 0] 60)).alloc (.cells #[.int .i64 0, .slice none 0 0] 60)) := (by repeat' (first | with_reducible exact Below.refl _ _ | with_reducible assumption | with_reducible refine Below.drew ?_ | with_reducible refine Below.alloc ?_ ?_ _ | with_reducible refine Below.setCell ?_ ?_ _ | (simp; done) | (simp; omega) | omega))
  go_enter Tryd.func28, Tryd.ntmps28
  go_wp2_with fail
  refine wp_region_held_drew (S := (fun w' => w'.cell? ⟨w.heap.size, 1, none⟩ = some (.int .i64 wd) ∧ w'.cell? ⟨w.heap.size, 2, none⟩ = some (.slice a1 cs.length c1) ∧ w'.cell? ⟨w.heap.size, 3, none⟩ = some (.slice a2 bs.length c2))) (by kernel_rfl) ?_ (fun hHeld => ?_)
  · (try dsimp only); exact ⟨by simp [go_sem], by simp [go_sem], by simp [go_sem]⟩
  refine wpAnyH_take (i := 0) (oi := ⟨_, _, _, _, _, _⟩) (v := ?_) rfl (by kernel_rfl) (by kernel_rfl) (by kernel_rfl) (fun _ _ _ h => h) (Or.inl ⟨by rfl, ?_⟩) hHeld ?_
  rotate_left
  · (intro w hSw; (try dsimp only at hSw); go_simp; try (with_reducible rfl))
  try simp only [Act.put, List.setIfInBounds_toArray, List.set_cons_zero, List.set_cons_succ]
  refine wpAnyH_take (i := 1) (oi := ⟨_, _, _, _, _, _⟩) (v := ?_) rfl (by kernel_rfl) (by kernel_rfl) (by kernel_rfl) (fun _ _ _ h => h) (Or.inl ⟨by rfl, ?_⟩) hHeld ?_
  rotate_left
  · (intro w hSw; (try dsimp only at hSw); go_simp; try (with_reducible rfl))
  try simp only [Act.put, List.setIfInBounds_toArray, List.set_cons_zero, List.set_cons_succ]
  refine wpAnyH_take (i := 2) (oi := ⟨_, _, _, _, _, _⟩) (v := ?_) rfl (by kernel_rfl) (by kernel_rfl) (by kernel_rfl) (fun _ _ _ h => h) (Or.inl ⟨by rfl, ?_⟩) hHeld ?_
  rotate_left
  · (intro w hSw; (try dsimp only at hSw); go_simp; try (with_reducible rfl))
  try simp only [Act.put, List.setIfInBounds_toArray, List.set_cons_zero, List.set_cons_succ]
  refine wpAnyH_take (i := 3) (oi := ⟨_, _, _, _, _, _⟩) (v := ?_) rfl (by kernel_rfl) (by kernel_rfl) (by kernel_rfl) (fun _ _ _ h => h) (Or.inl ⟨by rfl, ?_⟩) hHeld ?_
  rotate_left
  · (intro w hSw; (try dsimp only at hSw); go_simp; try (with_reducible rfl))
  try simp only [Act.put, List.setIfInBounds_toArray, List.set_cons_zero, List.set_cons_succ]
  refine wpAnyH_ready (rs := [4]) (by kernel_rfl) (by simp) ?_
  refine (AllReadyH.cons (o := ⟨_, _, _, _, _, _⟩) rfl (fun K hK => ?_) AllReadyH.nil)
  refine step_append_pread rfl (.const (.slice none 0 0)) (.tmp 7) 34 rfl (w.heap.size + 3) 65 i0 (.agg #[.int .i64 0, .int .i64 0]) 16 Tryd.underlying34 hi hz0 hz1 hz2 rfl _ 0 [] rfl (World.ownsRow_nil _ _ _ _) a1 cs cs.length c1 rfl rfl (h1.below (below_drewN hb0 1)) (by unfold maxLen; omega) (by omega) (by simp) ?_
  intro x w1 hown1 hgr1
  have hbx : Below (w.heap.size + 3) (((w.alloc (.cells #[.int .i64 r, .int .i64 wd, .slice a1 cs.length c1, .slice a2 bs.length c2] 36)).alloc (.cells #[.int .i64 0, .slice none 0 0] 60)).alloc (.cells #[.int .i64 0, .slice none 0 0] 60)).drew w1 := (Below.refl _ _).grown hgr1 (by simp) (fun q hq => by cases hq)
  have A1 : w1.cell? ⟨w.heap.size, 1, none⟩ = some (.int .i64 wd) := cellk hbx (by omega) (by simp [go_sem])
  have A2 : w1.cell? ⟨w.heap.size, 2, none⟩ = some (.slice a1 cs.length c1) := cellk hbx (by omega) (by simp [go_sem])
  have A3 : w1.cell? ⟨w.heap.size, 3, none⟩ = some (.slice a2 bs.length c2) := cellk hbx (by omega) (by simp [go_sem])
  have R10 : w1.cell? ⟨w.heap.size + 1, 0, none⟩ = some (.int .i64 0) := cellk hbx (by simp) (by simp [go_sem])
  have Z10 : w1.frozen? ⟨w.heap.size + 1, 0, none⟩ = false := by rw [hbx.frozen (p := ⟨w.heap.size + 1, 0, none⟩) (by simp)]; simp [go_sem]
  have R11 : w1.cell? ⟨w.heap.size + 1, 1, none⟩ = some (.slice none 0 0) := cellk hbx (by simp) (by simp [go_sem])
  have Z11 : w1.frozen? ⟨w.heap.size + 1, 1, none⟩ = false := by rw [hbx.frozen (p := ⟨w.heap.size + 1, 1, none⟩) (by simp)]; simp [go_sem]
  have R20 : w1.cell? ⟨w.heap.size + 2, 0, none⟩ = some (.int .i64 0) := cellk hbx (by simp) (by simp [go_sem])
  have Z20 : w1.frozen? ⟨w.heap.size + 2, 0, none⟩ = false := by rw [hbx.frozen (p := ⟨w.heap.size + 2, 0, none⟩) (by simp)]; simp [go_sem]
  have R21 : w1.cell? ⟨w.heap.size + 2, 1, none⟩ = some (.slice none 0 0) := cellk hbx (by simp) (by simp [go_sem])
  have Z21 : w1.frozen? ⟨w.heap.size + 2, 1, none⟩ = false := by rw [hbx.frozen (p := ⟨w.heap.size + 2, 1, none⟩) (by simp)]; simp [go_sem]
  have hs1 : w.heap.size + 3 ≤ w1.heap.size := by have := hbx.size; simp at this; omega
  have hb1 : Below w.heap.size w w1 := hb0.trans (Below.trans (below_drewN (Below.refl _ _) 1) (hbx.mono (by omega)))
  rw [List.nil_append, Nat.zero_add] at hown1
  obtain ⟨ax, cx, rfl, hxc⟩ := own_room2 hown1
  clear hbx hgr1
  refine hK.out _ _ ?_ ?_
  · (try dsimp only); exact ⟨A1, A2, A3⟩
  clear hHeld hK K
  intro hHeld
  try simp only [Act.put, List.setIfInBounds_toArray, List.set_cons_zero, List.set_cons_succ]
  refine wpAnyH_take (i := 5) (oi := ⟨_, _, _, _, _, _⟩) (v := ?_) rfl (by kernel_rfl) (by kernel_rfl) (by kernel_rfl) (fun _ _ _ h => h) (Or.inl ⟨by rfl, ?_⟩) hHeld ?_
  rotate_left
  · (intro w hSw; (try dsimp only at hSw); go_simp; try (with_reducible rfl))
  try simp only [Act.put, List.setIfInBounds_toArray, List.set_cons_zero, List.set_cons_succ]
  refine wpAnyH_ready (rs := [6]) (by kernel_rfl) (by simp) ?_
  refine (AllReadyH.cons (o := ⟨_, _, _, _, _, _⟩) rfl (fun K hK => ?_) AllReadyH.nil)
  go_simp
  refine hK.out _ _ ?_ ?_
  · (try dsimp only); exact ⟨by simp [go_sem, A1], by simp [go_sem, A2], by simp [go_sem, A3]⟩
  clear hHeld hK K
  intro hHeld
  try simp only [Act.put, List.setIfInBounds_toArray, List.set_cons_zero, List.set_cons_succ]
  refine wpAnyH_done (by kernel_rfl) ?_ _
  have t1 : Touch (w.heap.size + 1) 0 2 w1 ((w1.setCell ⟨w.heap.size + 1, 0, none⟩ (.int .i64 wd)).setCell ⟨w.heap.size + 1, 1, none⟩ (.slice ax cs.length cx)) := ((Touch.refl _ _ _ _).setCell (by omega) (by omega) _).setCell (by omega) (by omega) _
  obtain ⟨s0, s1⟩ := res2 (w := w1) (r := w.heap.size + 1) (.int .i64 wd) (.slice ax cs.length cx) R10 R11
  generalize hw2 : ((w1.setCell ⟨w.heap.size + 1, 0, none⟩ (.int .i64 wd)).setCell ⟨w.heap.size + 1, 1, none⟩ (.slice ax cs.length cx)) = w2 at *
  clear hw2 hHeld
  have hlo := hown1.lt
  have hown1' := own_touch hown1 t1 (fun k hk => by have := (hlo k hk).1; omega)
  replace A1 := t1.cellAt A1 (by omega)
  replace A2 := t1.cellAt A2 (by omega)
  replace A3 := t1.cellAt A3 (by omega)
  replace R20 := t1.cellAt R20 (by omega)
  replace R21 := t1.cellAt R21 (by omega)
  replace Z10 := t1.frozenAt (by omega) Z10
  replace Z11 := t1.frozenAt (by omega) Z11
  replace Z20 := t1.frozenAt (by omega) Z20
  replace Z21 := t1.frozenAt (by omega) Z21
  have hs2 : w1.heap.size ≤ w2.heap.size := t1.size
  have hb2 : Below w.heap.size w w2 := hb1.trans (t1.below (by omega) (by omega))
  have hup : ∀ k, (Value.slice ax cs.length cx).ownBlock = some k → k < w2.heap.size := fun k hk => by have := (hlo k hk).2; omega
  have HU := hide hup
  have HO := hide hown1'
  clear hown1 hown1' hlo t1 hb1 R10 R11 hup
  go_wp2_with fail
  refine wp_region_held_drew (S := (fun w' => w'.cell? ⟨w.heap.size, 1, none⟩ = some (.int .i64 wd) ∧ w'.cell? ⟨w.heap.size, 2, none⟩ = some (.slice a1 cs.length c1) ∧ w'.cell? ⟨w.heap.size, 3, none⟩ = some (.slice a2 bs.length c2))) (by kernel_rfl) ?_ (fun hHeld => ?_)
  · (try dsimp only); exact ⟨A1, A2, A3⟩
  refine wpAnyH_take (i := 0) (oi := ⟨_, _, _, _, _, _⟩) (v := ?_) rfl (by kernel_rfl) (by kernel_rfl) (by kernel_rfl) (fun _ _ _ h => h) (Or.inl ⟨by rfl, ?_⟩) hHeld ?_
  rotate_left
  · (intro w hSw; (try dsimp only at hSw); go_simp; try (with_reducible rfl))
  try simp only [Act.put, List.setIfInBounds_toArray, List.set_cons_zero, List.set_cons_succ]
  refine wpAnyH_take (i := 1) (oi := ⟨_, _, _, _, _, _⟩) (v := ?_) rfl (by kernel_rfl) (by kernel_rfl) (by kernel_rfl) (fun _ _ _ h => h) (Or.inl ⟨by rfl, ?_⟩) hHeld ?_
  rotate_left
  · (intro w hSw; (try dsimp only at hSw); go_simp; try (with_reducible rfl))
  try simp only [Act.put, List.setIfInBounds_toArray, List.set_cons_zero, List.set_cons_succ]
  refine wpAnyH_take (i := 2) (oi := ⟨_, _, _, _, _, _⟩) (v := ?_) rfl (by kernel_rfl) (by kernel_rfl) (by kernel_rfl) (fun _ _ _ h => h) (Or.inl ⟨by rfl, ?_⟩) hHeld ?_
  rotate_left
  · (intro w hSw; (try dsimp only at hSw); go_simp; try (with_reducible rfl))
  try simp only [Act.put, List.setIfInBounds_toArray, List.set_cons_zero, List.set_cons_succ]
  refine wpAnyH_take (i := 3) (oi := ⟨_, _, _, _, _, _⟩) (v := ?_) rfl (by kernel_rfl) (by kernel_rfl) (by kernel_rfl) (fun _ _ _ h => h) (Or.inl ⟨by rfl, ?_⟩) hHeld ?_
  rotate_left
  · (intro w hSw; (try dsimp only at hSw); go_simp; try (with_reducible rfl))
  try simp only [Act.put, List.setIfInBounds_toArray, List.set_cons_zero, List.set_cons_succ]
  refine wpAnyH_ready (rs := [4]) (by kernel_rfl) (by simp) ?_
  refine (AllReadyH.cons (o := ⟨_, _, _, _, _, _⟩) rfl (fun K hK => ?_) AllReadyH.nil)
  refine step_append_pread rfl (.const (.slice none 0 0)) (.tmp 13) 34 rfl w2.heap.size 65 i0 (.agg #[.int .i64 0, .int .i64 0]) 16 Tryd.underlying34 hi hz0 hz1 hz2 rfl _ 0 [] rfl (World.ownsRow_nil _ _ _ _) a2 bs bs.length c2 rfl rfl (h2.below (below_drewN hb2 1)) (by unfold maxLen; omega) (by omega) (Nat.le_refl _) ?_
  intro y w3 hown3 hgr3
  have hbx : Below w2.heap.size w2.drew w3 := (Below.refl _ _).grown hgr3 (Nat.le_refl _) (fun q hq => by cases hq)
  have hby : Below w2.heap.size w2 w3 := (below_drewN (Below.refl _ _) 1).trans hbx
  replace A1 := cellb hby A1
  replace A2 := cellb hby A2
  replace A3 := cellb hby A3
  replace R20 := cellb hby R20
  replace R21 := cellb hby R21
  replace s0 := cellb hby s0
  replace s1 := cellb hby s1
  replace Z10 : w3.frozen? ⟨w.heap.size + 1, 0, none⟩ = false := by rw [hby.frozen (p := ⟨w.heap.size + 1, 0, none⟩) (by simp; omega)]; exact Z10
  replace Z11 : w3.frozen? ⟨w.heap.size + 1, 1, none⟩ = false := by rw [hby.frozen (p := ⟨w.heap.size + 1, 1, none⟩) (by simp; omega)]; exact Z11
  replace Z20 : w3.frozen? ⟨w.heap.size + 2, 0, none⟩ = false := by rw [hby.frozen (p := ⟨w.heap.size + 2, 0, none⟩) (by simp; omega)]; exact Z20
  replace Z21 : w3.frozen? ⟨w.heap.size + 2, 1, none⟩ = false := by rw [hby.frozen (p := ⟨w.heap.size + 2, 1, none⟩) (by simp; omega)]; exact Z21
  have hs3 : w2.heap.size ≤ w3.heap.size := hby.size
  have hb3 : Below w.heap.size w w3 := hb2.trans (hby.mono (by omega))
  have HO2 := hide (own_below HO.out hby)
  rw [List.nil_append, Nat.zero_add] at hown3
  obtain ⟨ay, cy, rfl, hyc⟩ := own_room2 hown3
  clear hbx hby hgr3
  refine hK.out _ _ ?_ ?_
  · (try dsimp only); exact ⟨A1, A2, A3⟩
  clear hHeld hK K
  intro hHeld
  try simp only [Act.put, List.setIfInBounds_toArray, List.set_cons_zero, List.set_cons_succ]
  refine wpAnyH_take (i := 5) (oi := ⟨_, _, _, _, _, _⟩) (v := ?_) rfl (by kernel_rfl) (by kernel_rfl) (by kernel_rfl) (fun _ _ _ h => h) (Or.inl ⟨by rfl, ?_⟩) hHeld ?_
  rotate_left
  · (intro w hSw; (try dsimp only at hSw); go_simp; try (with_reducible rfl))
  try simp only [Act.put, List.setIfInBounds_toArray, List.set_cons_zero, List.set_cons_succ]
  refine wpAnyH_ready (rs := [6]) (by kernel_rfl) (by simp) ?_
  refine (AllReadyH.cons (o := ⟨_, _, _, _, _, _⟩) rfl (fun K hK => ?_) AllReadyH.nil)
  go_simp
  refine hK.out _ _ ?_ ?_
  · (try dsimp only); exact ⟨by simp [go_sem, A1], by simp [go_sem, A2], by simp [go_sem, A3]⟩
  clear hHeld hK K
  intro hHeld
  try simp only [Act.put, List.setIfInBounds_toArray, List.set_cons_zero, List.set_cons_succ]
  refine wpAnyH_done (by kernel_rfl) ?_ _
  have t1 : Touch (w.heap.size + 2) 0 2 w3 ((w3.setCell ⟨w.heap.size + 2, 0, none⟩ (.int .i64 wd)).setCell ⟨w.heap.size + 2, 1, none⟩ (.slice ay bs.length cy)) := ((Touch.refl _ _ _ _).setCell (by omega) (by omega) _).setCell (by omega) (by omega) _
  obtain ⟨s2, s3⟩ := res2 (w := w3) (r := w.heap.size + 2) (.int .i64 wd) (.slice ay bs.length cy) R20 R21
  generalize hw4 : ((w3.setCell ⟨w.heap.size + 2, 0, none⟩ (.int .i64 wd)).setCell ⟨w.heap.size + 2, 1, none⟩ (.slice ay bs.length cy)) = w4 at *
  clear hw4 hHeld
  have hlo := hown3.lt
  have HO4 := hide (own_touch hown3 t1 (fun k hk => by have := (hlo k hk).1; omega))
  have hlo2 := HO.out.lt
  have HO5 := hide (own_touch HO2.out t1 (fun k hk => by have := (hlo2 k hk).1; omega))
  replace s0 := t1.cellAt s0 (by omega)
  replace s1 := t1.cellAt s1 (by omega)
  replace Z10 := t1.frozenAt (by omega) Z10
  replace Z11 := t1.frozenAt (by omega) Z11
  replace Z20 := t1.frozenAt (by omega) Z20
  replace Z21 := t1.frozenAt (by omega) Z21
  have hs4 : w3.heap.size ≤ w4.heap.size := t1.size
  have hb4 : Below w.heap.size w w4 := hb3.trans (t1.below (by omega) (by omega))
  clear hown3 HO HO2 hlo hlo2 t1 hb3 R20 R21 A1 A2 A3
  go_wp2_with fail
  go_region_held3 (fun w' => w'.cell? ⟨w.heap.size + 1, 0, none⟩ = some (.int .i64 wd) ∧ w'.cell? ⟨w.heap.size + 1, 1, none⟩ = some (.slice ax cs.length cx) ∧ w'.cell? ⟨w.heap.size + 2, 0, none⟩ = some (.int .i64 wd) ∧ w'.cell? ⟨w.heap.size + 2, 1, none⟩ = some (.slice ay bs.length cy))
    (first
      | exact ⟨s0, s1, s2, s3⟩
      | exact ⟨by simp [go_sem, s0, s1, s2, s3], by simp [go_sem, s0, s1, s2, s3], by simp [go_sem, s0, s1, s2, s3], by simp [go_sem, s0, s1, s2, s3]⟩)
    (fail)
  go_wp2
  refine bodyPost_ret (v := .tuple #[.agg #[.int .i64 wd, .slice ax cs.length cx], .agg #[.int .i64 wd, .slice ay bs.length cy]]) (by simp only [results, Tryd.results28]; simp [go_sem, s0, s1, s2, s3]) rfl ?_
  have t5 : Touch (w.heap.size + 1) 0 2 w4.drew ((w4.drew.setCell ⟨w.heap.size + 1, 0, none⟩ (.int .i64 wd)).setCell ⟨w.heap.size + 1, 1, none⟩ (.slice ax cs.length cx)) := ((Touch.refl _ _ _ _).setCell (by omega) (by omega) _).setCell (by omega) (by omega) _
  have t6 : Touch (w.heap.size + 2) 0 2 ((w4.drew.setCell ⟨w.heap.size + 1, 0, none⟩ (.int .i64 wd)).setCell ⟨w.heap.size + 1, 1, none⟩ (.slice ax cs.length cx)) ((((w4.drew.setCell ⟨w.heap.size + 1, 0, none⟩ (.int .i64 wd)).setCell ⟨w.heap.size + 1, 1, none⟩ (.slice ax cs.length cx)).setCell ⟨w.heap.size + 2, 0, none⟩ (.int .i64 wd)).setCell ⟨w.heap.size + 2, 1, none⟩ (.slice ay bs.length cy)) := ((Touch.refl _ _ _ _).setCell (by omega) (by omega) _).setCell (by omega) (by omega) _
  have o4 : w4.drew.ownsRow _ _ _ _ _ _ := HO4.out
  have o5 : w4.drew.ownsRow _ _ _ _ _ _ := HO5.out
  have l4 := o4.lt
  have l5 := o5.lt
  refine ⟨_, _, w2.heap.size, rfl, by omega, ?_, (own_touch (own_touch o5 t5 (fun k hk => by have := (l5 k hk).1; omega)) t6 (fun k hk => by have := (l5 k hk).1; omega)).mono (by omega), HU.out, own_touch (own_touch o4 t5 (fun k hk => by have := (l4 k hk).1; omega)) t6 (fun k hk => by have := (l4 k hk).1; omega), ?_⟩
  · exact Nat.le_trans (show w2.heap.size ≤ w4.heap.size by omega) (Nat.le_trans (show w4.heap.size ≤ _ from t5.size) t6.size)
  · exact hb4.trans ((below_drewN (Below.refl _ _) 1).trans ((t5.below (by omega) (by show w.heap.size ≤ w4.heap.size; omega)).trans (t6.below (by omega) (by have := t5.size; have e : w4.drew.heap.size = w4.heap.size := rfl; omega))))

set_option maxHeartbeats 400000 in
theorem l3Attr_calls (a : Int) (w : World) :
    Calls Tryd.prog 44 #[.int .i64 a] w fun e w' => e = .returned (.bool (atB a)) ∧ w' = w := by
  go_enter Tryd.func44, Tryd.ntmps44
  go_wp2_with (go_at_call 48; refine (l1In_calls a 0 31 _).mono ?_; rintro e w' ⟨rfl, hw⟩; rw [hw]; clear hw w')
  go_ret
  refine ⟨ret_bool ?_, rfl⟩
  simp [atB]

end Go.Proofs.YtknkbihjboadjaaDoor
