/-
  Copies of a grid's two lists: impl.sheetsOf, spec.l3Copy; a grid of two sheets: impl.gridOf.
-/
import Derived.Test.YtdekegjplegkeaaGreatSheetFns
import Derived.Test.YtdekegjplegkeaaGreatPairAppend
import Derived.Test.YtdekegjplegkeaaGreatResMem
import Derived.Deep.RegionHeld
import Derived.Deep.RegionHeld3
namespace Go.Proofs.YtdekegjplegkeaaGreat
set_option maxRecDepth 20000
open Go.ChangeShapes Go.WideShapes Go.ChangeAt Go.RowKit
set_option linter.unusedVariables false
set_option linter.unusedSimpArgs false
set_option maxRecDepth 20000

theorem info_cell : (Tryz.prog.info? 193).map (fun i => (i.zero, i.size, i.bytes)) = some (some (.agg #[.int .i64 0, .int .i64 0]), 2, 16) := by kernel_rfl

theorem own_touch {w w' : World} {base b p q size n : Nat} {e : TypeId} {v : Value} {xs : List Value} (h : w.ownsRow base e size v n xs) (t : Touch b p q w w') (hb : ∀ k, v.ownBlock = some k → k ≠ b) : w'.ownsRow base e size v n xs :=
  h.kept (row := some b) ⟨t.os, t.tape, t.output, t.size, fun k hk hne => t.block k hk (fun e => hne (by rw [e]))⟩ (Or.inr (fun e => hb b e rfl))
/-- What a call owns by appending, as a row that may be written. -/
theorem own_row {w : World} {base n : Nat} {e : TypeId} {v : Value} {xs : List (Int × Int)} (h : w.ownsRow base e 2 v n (pvs xs)) (hn : 0 < n) : ∃ b cap, v = .slice (some ⟨b, 0, none⟩) n cap ∧ n ≤ cap ∧ xs.length = n ∧ base ≤ b ∧ b < w.heap.size ∧ Row w b 0 n (fun i => xs.getD i (0, 0)) := by
  have hp := own_pairs h (Nat.le_refl _)
  obtain ⟨hl, h⟩ := h
  rw [pvs_length] at hl
  have hl' : xs.length = n := by omega
  rcases h with ⟨rfl, h0⟩ | ⟨g, cap, cur, rfl, hb, hg, h1, h2, h3, h4⟩
  · omega
  · obtain ⟨a, c, e1, hp⟩ := hp
    injection e1 with e1 e2 e3
    rcases hp with hp | ⟨b, off, ha, p1, p2, hc⟩
    · rw [hp] at hl'; simp at hl'; omega
    · rw [ha] at e1
      injection e1 with e1
      injection e1 with e4 e5
      subst e4
      subst e5
      exact ⟨g, cap, rfl, by omega, hl', hb, p2, fun i hi => by have := hc i (by omega); exact this⟩

set_option maxHeartbeats 1000000 in
theorem sheetsOf_calls (r wd : Int) (cs bs : List (Int × Int)) (v1 v2 : Value) (w : World) (hn1 : cs.length ≤ 1048576) (hn2 : bs.length ≤ 1048576) (h1 : PRead w v1 cs) (h2 : PRead w v2 bs) :
    Calls Tryz.prog 195 #[.agg #[.int .i64 r, .int .i64 wd, v1, v2]] w fun e w' => ∃ x y m, e = .returned (.tuple #[.agg #[.int .i64 wd, x], .agg #[.int .i64 wd, y]]) ∧ w.heap.size ≤ m ∧ m ≤ w'.heap.size ∧ w'.ownsRow w.heap.size 193 2 x cs.length (pvs cs) ∧ (∀ k, x.ownBlock = some k → k < m) ∧ w'.ownsRow m 193 2 y bs.length (pvs bs) ∧ Below w.heap.size w w' := by
  obtain ⟨i0, hi, hz0, hz1, hz2⟩ := info_parts info_cell
  have h1' := h1
  obtain ⟨a1, c1, rfl, _⟩ := h1'
  have h2' := h2
  obtain ⟨a2, c2, rfl, _⟩ := h2'
  have hb0 : Below w.heap.size w (((w.alloc (.cells #[.int .i64 r, .int .i64 wd, .slice a1 cs.length c1, .slice a2 bs.length c2] 35)).alloc (.cells #[.int .i64 0, .slice none 0 0] 217)).alloc (.cells #[.int .i64 0, .slice none 0 0] 217)) := (by repeat' (first | with_reducible exact Below.refl _ _ | with_reducible assumption | with_reducible refine Below.drew ?_ | with_reducible refine Below.alloc ?_ ?_ _ | with_reducible refine Below.setCell ?_ ?_ _ | (simp; done) | (simp; omega) | omega))
  go_enter Tryz.func195, Tryz.ntmps195
  go_wp2_with fail
  refine wp_region_held_drew (S := (fun w' => w'.cell? ⟨w.heap.size, 1, none⟩ = some (.int .i64 wd) ∧ w'.cell? ⟨w.heap.size, 2, none⟩ = some (.slice a1 cs.length c1) ∧ w'.cell? ⟨w.heap.size, 3, none⟩ = some (.slice a2 bs.length c2))) (by kernel_rfl) ?_ (fun hHeld => ?_)
  · (try dsimp only); exact ⟨by simp [go_sem], by simp [go_sem], by simp [go_sem]⟩
  refine wpAnyH_take (i := 0) (oi := ⟨_, _, _, _, _, _⟩) (v := ?_) rfl (by kernel_rfl) (by kernel_rfl) (by kernel_rfl) (fun _ _ _ h => h) (Or.inl ⟨by rfl, ?_⟩) hHeld ?_
  rotate_left
  · (intro w hSw; (try dsimp only at hSw); go_simp; try (with_reducible rfl))
  try simp only [Act.put, List.setIfInBounds_toArray, List.set_cons_zero, List.set_cons_succ]
  refine wpAnyH_take (i := 1) (oi := ⟨_, _, _, _, _, _⟩) (v := ?_) rfl (by kernel_rfl) (by kernel_rfl) (by kernel_rfl) (fun _ _ _ h => h) (Or.inl ⟨by rfl, ?_⟩) hHeld ?_
  rotate_left
  · (intro w hSw; (try dsimp only at hSw); go_simp; try (with_reducible rfl))
  try simp only [Act.put, List.setIfInBounds_toArray, List.set_cons_zero, List.set_cons_succ]
  refine wpAnyH_take (i := 2) (oi := ⟨_, _, _, _, _, _⟩) (v := ?_) rfl (by kernel_rfl) (by kernel_rfl) (by kernel_rfl) (fun _ _ _ h => h) (Or.inl ⟨by rfl, ?_⟩) hHeld ?_
  rotate_left
  · (intro w hSw; (try dsimp only at hSw); go_simp; try (with_reducible rfl))
  try simp only [Act.put, List.setIfInBounds_toArray, List.set_cons_zero, List.set_cons_succ]
  refine wpAnyH_take (i := 3) (oi := ⟨_, _, _, _, _, _⟩) (v := ?_) rfl (by kernel_rfl) (by kernel_rfl) (by kernel_rfl) (fun _ _ _ h => h) (Or.inl ⟨by rfl, ?_⟩) hHeld ?_
  rotate_left
  · (intro w hSw; (try dsimp only at hSw); go_simp; try (with_reducible rfl))
  try simp only [Act.put, List.setIfInBounds_toArray, List.set_cons_zero, List.set_cons_succ]
  refine wpAnyH_ready (rs := [4]) (by kernel_rfl) (by simp) ?_
  refine (AllReadyH.cons (o := ⟨_, _, _, _, _, _⟩) rfl (fun K hK => ?_) AllReadyH.nil)
  refine step_append_pread rfl (.const (.slice none 0 0)) (.tmp 7) 33 rfl (w.heap.size + 3) 193 i0 (.agg #[.int .i64 0, .int .i64 0]) 16 Tryz.underlying33 hi hz0 hz1 hz2 rfl _ 0 [] rfl (World.ownsRow_nil _ _ _ _) a1 cs cs.length c1 rfl rfl (h1.below (below_drewN hb0 1)) (by unfold maxLen; omega) (by omega) (by simp) ?_
  intro x w1 hown1 hgr1
  have hbx : Below (w.heap.size + 3) (((w.alloc (.cells #[.int .i64 r, .int .i64 wd, .slice a1 cs.length c1, .slice a2 bs.length c2] 35)).alloc (.cells #[.int .i64 0, .slice none 0 0] 217)).alloc (.cells #[.int .i64 0, .slice none 0 0] 217)).drew w1 := (Below.refl _ _).grown hgr1 (by simp) (fun q hq => by cases hq)
  have A1 : w1.cell? ⟨w.heap.size, 1, none⟩ = some (.int .i64 wd) := cellk hbx (by omega) (by simp [go_sem])
  have A2 : w1.cell? ⟨w.heap.size, 2, none⟩ = some (.slice a1 cs.length c1) := cellk hbx (by omega) (by simp [go_sem])
  have A3 : w1.cell? ⟨w.heap.size, 3, none⟩ = some (.slice a2 bs.length c2) := cellk hbx (by omega) (by simp [go_sem])
  have R10 : w1.cell? ⟨w.heap.size + 1, 0, none⟩ = some (.int .i64 0) := cellk hbx (by simp) (by simp [go_sem])
  have Z10 : w1.frozen? ⟨w.heap.size + 1, 0, none⟩ = false := by rw [hbx.frozen (p := ⟨w.heap.size + 1, 0, none⟩) (by simp)]; simp [go_sem]
  have R11 : w1.cell? ⟨w.heap.size + 1, 1, none⟩ = some (.slice none 0 0) := cellk hbx (by simp) (by simp [go_sem])
  have Z11 : w1.frozen? ⟨w.heap.size + 1, 1, none⟩ = false := by rw [hbx.frozen (p := ⟨w.heap.size + 1, 1, none⟩) (by simp)]; simp [go_sem]
  have R20 : w1.cell? ⟨w.heap.size + 2, 0, none⟩ = some (.int .i64 0) := cellk hbx (by simp) (by simp [go_sem])
  have Z20 : w1.frozen? ⟨w.heap.size + 2, 0, none⟩ = false := by rw [hbx.frozen (p := ⟨w.heap.size + 2, 0, none⟩) (by simp)]; simp [go_sem]
  have R21 : w1.cell? ⟨w.heap.size + 2, 1, none⟩ = some (.slice none 0 0) := cellk hbx (by simp) (by simp [go_sem])
  have Z21 : w1.frozen? ⟨w.heap.size + 2, 1, none⟩ = false := by rw [hbx.frozen (p := ⟨w.heap.size + 2, 1, none⟩) (by simp)]; simp [go_sem]
  have hs1 : w.heap.size + 3 ≤ w1.heap.size := by have := hbx.size; simp at this; omega
  have hb1 : Below w.heap.size w w1 := hb0.trans (Below.trans (below_drewN (Below.refl _ _) 1) (hbx.mono (by omega)))
  rw [List.nil_append, Nat.zero_add] at hown1
  obtain ⟨ax, cx, rfl, hxc⟩ := own_room2 hown1
  clear hbx hgr1
  refine hK.out _ _ ?_ ?_
  · (try dsimp only); exact ⟨A1, A2, A3⟩
  clear hHeld hK K
  intro hHeld
  try simp only [Act.put, List.setIfInBounds_toArray, List.set_cons_zero, List.set_cons_succ]
  refine wpAnyH_take (i := 5) (oi := ⟨_, _, _, _, _, _⟩) (v := ?_) rfl (by kernel_rfl) (by kernel_rfl) (by kernel_rfl) (fun _ _ _ h => h) (Or.inl ⟨by rfl, ?_⟩) hHeld ?_
  rotate_left
  · (intro w hSw; (try dsimp only at hSw); go_simp; try (with_reducible rfl))
  try simp only [Act.put, List.setIfInBounds_toArray, List.set_cons_zero, List.set_cons_succ]
  refine wpAnyH_ready (rs := [6]) (by kernel_rfl) (by simp) ?_
  refine (AllReadyH.cons (o := ⟨_, _, _, _, _, _⟩) rfl (fun K hK => ?_) AllReadyH.nil)
  go_simp
  refine hK.out _ _ ?_ ?_
  · (try dsimp only); exact ⟨by simp [go_sem, A1], by simp [go_sem, A2], by simp [go_sem, A3]⟩
  clear hHeld hK K
  intro hHeld
  try simp only [Act.put, List.setIfInBounds_toArray, List.set_cons_zero, List.set_cons_succ]
  refine wpAnyH_done (by kernel_rfl) ?_ _
  have t1 : Touch (w.heap.size + 1) 0 2 w1 ((w1.setCell ⟨w.heap.size + 1, 0, none⟩ (.int .i64 wd)).setCell ⟨w.heap.size + 1, 1, none⟩ (.slice ax cs.length cx)) := ((Touch.refl _ _ _ _).setCell (by omega) (by omega) _).setCell (by omega) (by omega) _
  obtain ⟨s0, s1⟩ := res2 (w := w1) (r := w.heap.size + 1) (.int .i64 wd) (.slice ax cs.length cx) R10 R11
  generalize hw2 : ((w1.setCell ⟨w.heap.size + 1, 0, none⟩ (.int .i64 wd)).setCell ⟨w.heap.size + 1, 1, none⟩ (.slice ax cs.length cx)) = w2 at *
  clear hw2 hHeld
  have hlo := hown1.lt
  have hown1' := own_touch hown1 t1 (fun k hk => by have := (hlo k hk).1; omega)
  replace A1 := t1.cellAt A1 (by omega)
  replace A2 := t1.cellAt A2 (by omega)
  replace A3 := t1.cellAt A3 (by omega)
  replace R20 := t1.cellAt R20 (by omega)
  replace R21 := t1.cellAt R21 (by omega)
  replace Z10 := t1.frozenAt (by omega) Z10
  replace Z11 := t1.frozenAt (by omega) Z11
  replace Z20 := t1.frozenAt (by omega) Z20
  replace Z21 := t1.frozenAt (by omega) Z21
  have hs2 : w1.heap.size ≤ w2.heap.size := t1.size
  have hb2 : Below w.heap.size w w2 := hb1.trans (t1.below (by omega) (by omega))
  have hup : ∀ k, (Value.slice ax cs.length cx).ownBlock = some k → k < w2.heap.size := fun k hk => by have := (hlo k hk).2; omega
  have HU := hide hup
  have HO := hide hown1'
  clear hown1 hown1' hlo t1 hb1 R10 R11 hup
  go_wp2_with fail
  refine wp_region_held_drew (S := (fun w' => w'.cell? ⟨w.heap.size, 1, none⟩ = some (.int .i64 wd) ∧ w'.cell? ⟨w.heap.size, 2, none⟩ = some (.slice a1 cs.length c1) ∧ w'.cell? ⟨w.heap.size, 3, none⟩ = some (.slice a2 bs.length c2))) (by kernel_rfl) ?_ (fun hHeld => ?_)
  · (try dsimp only); exact ⟨A1, A2, A3⟩
  refine wpAnyH_take (i := 0) (oi := ⟨_, _, _, _, _, _⟩) (v := ?_) rfl (by kernel_rfl) (by kernel_rfl) (by kernel_rfl) (fun _ _ _ h => h) (Or.inl ⟨by rfl, ?_⟩) hHeld ?_
  rotate_left
  · (intro w hSw; (try dsimp only at hSw); go_simp; try (with_reducible rfl))
  try simp only [Act.put, List.setIfInBounds_toArray, List.set_cons_zero, List.set_cons_succ]
  refine wpAnyH_take (i := 1) (oi := ⟨_, _, _, _, _, _⟩) (v := ?_) rfl (by kernel_rfl) (by kernel_rfl) (by kernel_rfl) (fun _ _ _ h => h) (Or.inl ⟨by rfl, ?_⟩) hHeld ?_
  rotate_left
  · (intro w hSw; (try dsimp only at hSw); go_simp; try (with_reducible rfl))
  try simp only [Act.put, List.setIfInBounds_toArray, List.set_cons_zero, List.set_cons_succ]
  refine wpAnyH_take (i := 2) (oi := ⟨_, _, _, _, _, _⟩) (v := ?_) rfl (by kernel_rfl) (by kernel_rfl) (by kernel_rfl) (fun _ _ _ h => h) (Or.inl ⟨by rfl, ?_⟩) hHeld ?_
  rotate_left
  · (intro w hSw; (try dsimp only at hSw); go_simp; try (with_reducible rfl))
  try simp only [Act.put, List.setIfInBounds_toArray, List.set_cons_zero, List.set_cons_succ]
  refine wpAnyH_take (i := 3) (oi := ⟨_, _, _, _, _, _⟩) (v := ?_) rfl (by kernel_rfl) (by kernel_rfl) (by kernel_rfl) (fun _ _ _ h => h) (Or.inl ⟨by rfl, ?_⟩) hHeld ?_
  rotate_left
  · (intro w hSw; (try dsimp only at hSw); go_simp; try (with_reducible rfl))
  try simp only [Act.put, List.setIfInBounds_toArray, List.set_cons_zero, List.set_cons_succ]
  refine wpAnyH_ready (rs := [4]) (by kernel_rfl) (by simp) ?_
  refine (AllReadyH.cons (o := ⟨_, _, _, _, _, _⟩) rfl (fun K hK => ?_) AllReadyH.nil)
  refine step_append_pread rfl (.const (.slice none 0 0)) (.tmp 13) 33 rfl w2.heap.size 193 i0 (.agg #[.int .i64 0, .int .i64 0]) 16 Tryz.underlying33 hi hz0 hz1 hz2 rfl _ 0 [] rfl (World.ownsRow_nil _ _ _ _) a2 bs bs.length c2 rfl rfl (h2.below (below_drewN hb2 1)) (by unfold maxLen; omega) (by omega) (Nat.le_refl _) ?_
  intro y w3 hown3 hgr3
  have hbx : Below w2.heap.size w2.drew w3 := (Below.refl _ _).grown hgr3 (Nat.le_refl _) (fun q hq => by cases hq)
  have hby : Below w2.heap.size w2 w3 := (below_drewN (Below.refl _ _) 1).trans hbx
  replace A1 := cellb hby A1
  replace A2 := cellb hby A2
  replace A3 := cellb hby A3
  replace R20 := cellb hby R20
  replace R21 := cellb hby R21
  replace s0 := cellb hby s0
  replace s1 := cellb hby s1
  replace Z10 : w3.frozen? ⟨w.heap.size + 1, 0, none⟩ = false := by rw [hby.frozen (p := ⟨w.heap.size + 1, 0, none⟩) (by simp; omega)]; exact Z10
  replace Z11 : w3.frozen? ⟨w.heap.size + 1, 1, none⟩ = false := by rw [hby.frozen (p := ⟨w.heap.size + 1, 1, none⟩) (by simp; omega)]; exact Z11
  replace Z20 : w3.frozen? ⟨w.heap.size + 2, 0, none⟩ = false := by rw [hby.frozen (p := ⟨w.heap.size + 2, 0, none⟩) (by simp; omega)]; exact Z20
  replace Z21 : w3.frozen? ⟨w.heap.size + 2, 1, none⟩ = false := by rw [hby.frozen (p := ⟨w.heap.size + 2, 1, none⟩) (by simp; omega)]; exact Z21
  have hs3 : w2.heap.size ≤ w3.heap.size := hby.size
  have hb3 : Below w.heap.size w w3 := hb2.trans (hby.mono (by omega))
  have HO2 := hide (own_below HO.out hby)
  rw [List.nil_append, Nat.zero_add] at hown3
  obtain ⟨ay, cy, rfl, hyc⟩ := own_room2 hown3
  clear hbx hby hgr3
  refine hK.out _ _ ?_ ?_
  · (try dsimp only); exact ⟨A1, A2, A3⟩
  clear hHeld hK K
  intro hHeld
  try simp only [Act.put, List.setIfInBounds_toArray, List.set_cons_zero, List.set_cons_succ]
  refine wpAnyH_take (i := 5) (oi := ⟨_, _, _, _, _, _⟩) (v := ?_) rfl (by kernel_rfl) (by kernel_rfl) (by kernel_rfl) (fun _ _ _ h => h) (Or.inl ⟨by rfl, ?_⟩) hHeld ?_
  rotate_left
  · (intro w hSw; (try dsimp only at hSw); go_simp; try (with_reducible rfl))
  try simp only [Act.put, List.setIfInBounds_toArray, List.set_cons_zero, List.set_cons_succ]
  refine wpAnyH_ready (rs := [6]) (by kernel_rfl) (by simp) ?_
  refine (AllReadyH.cons (o := ⟨_, _, _, _, _, _⟩) rfl (fun K hK => ?_) AllReadyH.nil)
  go_simp
  refine hK.out _ _ ?_ ?_
  · (try dsimp only); exact ⟨by simp [go_sem, A1], by simp [go_sem, A2], by simp [go_sem, A3]⟩
  clear hHeld hK K
  intro hHeld
  try simp only [Act.put, List.setIfInBounds_toArray, List.set_cons_zero, List.set_cons_succ]
  refine wpAnyH_done (by kernel_rfl) ?_ _
  have t1 : Touch (w.heap.size + 2) 0 2 w3 ((w3.setCell ⟨w.heap.size + 2, 0, none⟩ (.int .i64 wd)).setCell ⟨w.heap.size + 2, 1, none⟩ (.slice ay bs.length cy)) := ((Touch.refl _ _ _ _).setCell (by omega) (by omega) _).setCell (by omega) (by omega) _
  obtain ⟨s2, s3⟩ := res2 (w := w3) (r := w.heap.size + 2) (.int .i64 wd) (.slice ay bs.length cy) R20 R21
  generalize hw4 : ((w3.setCell ⟨w.heap.size + 2, 0, none⟩ (.int .i64 wd)).setCell ⟨w.heap.size + 2, 1, none⟩ (.slice ay bs.length cy)) = w4 at *
  clear hw4 hHeld
  have hlo := hown3.lt
  have HO4 := hide (own_touch hown3 t1 (fun k hk => by have := (hlo k hk).1; omega))
  have hlo2 := HO.out.lt
  have HO5 := hide (own_touch HO2.out t1 (fun k hk => by have := (hlo2 k hk).1; omega))
  replace s0 := t1.cellAt s0 (by omega)
  replace s1 := t1.cellAt s1 (by omega)
  replace Z10 := t1.frozenAt (by omega) Z10
  replace Z11 := t1.frozenAt (by omega) Z11
  replace Z20 := t1.frozenAt (by omega) Z20
  replace Z21 := t1.frozenAt (by omega) Z21
  have hs4 : w3.heap.size ≤ w4.heap.size := t1.size
  have hb4 : Below w.heap.size w w4 := hb3.trans (t1.below (by omega) (by omega))
  clear hown3 HO HO2 hlo hlo2 t1 hb3 R20 R21 A1 A2 A3
  go_wp2_with fail
  go_region_held3 (fun w' => w'.cell? ⟨w.heap.size + 1, 0, none⟩ = some (.int .i64 wd) ∧ w'.cell? ⟨w.heap.size + 1, 1, none⟩ = some (.slice ax cs.length cx) ∧ w'.cell? ⟨w.heap.size + 2, 0, none⟩ = some (.int .i64 wd) ∧ w'.cell? ⟨w.heap.size + 2, 1, none⟩ = some (.slice ay bs.length cy))
    (first
      | exact ⟨s0, s1, s2, s3⟩
      | exact ⟨by simp [go_sem, s0, s1, s2, s3], by simp [go_sem, s0, s1, s2, s3], by simp [go_sem, s0, s1, s2, s3], by simp [go_sem, s0, s1, s2, s3]⟩)
    (fail)
  go_wp2
  refine bodyPost_ret (v := .tuple #[.agg #[.int .i64 wd, .slice ax cs.length cx], .agg #[.int .i64 wd, .slice ay bs.length cy]]) (by simp only [results, Tryz.results195]; simp [go_sem, s0, s1, s2, s3]) rfl ?_
  have t5 : Touch (w.heap.size + 1) 0 2 w4.drew ((w4.drew.setCell ⟨w.heap.size + 1, 0, none⟩ (.int .i64 wd)).setCell ⟨w.heap.size + 1, 1, none⟩ (.slice ax cs.length cx)) := ((Touch.refl _ _ _ _).setCell (by omega) (by omega) _).setCell (by omega) (by omega) _
  have t6 : Touch (w.heap.size + 2) 0 2 ((w4.drew.setCell ⟨w.heap.size + 1, 0, none⟩ (.int .i64 wd)).setCell ⟨w.heap.size + 1, 1, none⟩ (.slice ax cs.length cx)) ((((w4.drew.setCell ⟨w.heap.size + 1, 0, none⟩ (.int .i64 wd)).setCell ⟨w.heap.size + 1, 1, none⟩ (.slice ax cs.length cx)).setCell ⟨w.heap.size + 2, 0, none⟩ (.int .i64 wd)).setCell ⟨w.heap.size + 2, 1, none⟩ (.slice ay bs.length cy)) := ((Touch.refl _ _ _ _).setCell (by omega) (by omega) _).setCell (by omega) (by omega) _
  have o4 : w4.drew.ownsRow _ _ _ _ _ _ := HO4.out
  have o5 : w4.drew.ownsRow _ _ _ _ _ _ := HO5.out
  have l4 := o4.lt
  have l5 := o5.lt
  refine ⟨_, _, w2.heap.size, rfl, by omega, ?_, (own_touch (own_touch o5 t5 (fun k hk => by have := (l5 k hk).1; omega)) t6 (fun k hk => by have := (l5 k hk).1; omega)).mono (by omega), HU.out, own_touch (own_touch o4 t5 (fun k hk => by have := (l4 k hk).1; omega)) t6 (fun k hk => by have := (l4 k hk).1; omega), ?_⟩
  · exact Nat.le_trans (show w2.heap.size ≤ w4.heap.size by omega) (Nat.le_trans (show w4.heap.size ≤ _ from t5.size) t6.size)
  · exact hb4.trans ((below_drewN (Below.refl _ _) 1).trans ((t5.below (by omega) (by show w.heap.size ≤ w4.heap.size; omega)).trans (t6.below (by omega) (by have := t5.size; have e : w4.drew.heap.size = w4.heap.size := rfl; omega))))

set_option maxHeartbeats 1000000 in
theorem gridOf_calls (wd wd2 : Int) (h1 : 1 ≤ wd) (h2 : wd ≤ 1000) (a1 a2 : Option Addr) (n m c1 c2 : Nat) (hn : n ≤ 1048576) (w : World) :
    Calls Tryz.prog 196 #[.agg #[.int .i64 wd, .slice a1 n c1], .agg #[.int .i64 wd2, .slice a2 m c2]] w fun e w' => e = .returned (.agg #[.int .i64 0, .int .i64 ((n : Int) / wd), .int .i64 wd, .slice a1 n c1, .slice a2 m c2]) ∧ Below w.heap.size w w' := by
  go_enter Tryz.func196, Tryz.ntmps196
  go_wp2_with fail
  have B0 : (((w.alloc (.cells #[.int .i64 wd, .slice a1 n c1] 217)).alloc (.cells #[.int .i64 wd2, .slice a2 m c2] 217)).alloc (.cells #[.int .i64 0, .int .i64 0, .int .i64 0, .slice none 0 0, .slice none 0 0] 185)).cell? ⟨w.heap.size, 0, none⟩ = some (.int .i64 wd) := by simp [go_sem]
  have B1 : (((w.alloc (.cells #[.int .i64 wd, .slice a1 n c1] 217)).alloc (.cells #[.int .i64 wd2, .slice a2 m c2] 217)).alloc (.cells #[.int .i64 0, .int .i64 0, .int .i64 0, .slice none 0 0, .slice none 0 0] 185)).cell? ⟨w.heap.size, 1, none⟩ = some (.slice a1 n c1) := by simp [go_sem]
  have B2 : (((w.alloc (.cells #[.int .i64 wd, .slice a1 n c1] 217)).alloc (.cells #[.int .i64 wd2, .slice a2 m c2] 217)).alloc (.cells #[.int .i64 0, .int .i64 0, .int .i64 0, .slice none 0 0, .slice none 0 0] 185)).cell? ⟨w.heap.size + 1, 1, none⟩ = some (.slice a2 m c2) := by simp [go_sem]
  have R0 : (((w.alloc (.cells #[.int .i64 wd, .slice a1 n c1] 217)).alloc (.cells #[.int .i64 wd2, .slice a2 m c2] 217)).alloc (.cells #[.int .i64 0, .int .i64 0, .int .i64 0, .slice none 0 0, .slice none 0 0] 185)).cell? ⟨w.heap.size + 2, 0, none⟩ = some (.int .i64 0) := by simp [go_sem]
  have R1 : (((w.alloc (.cells #[.int .i64 wd, .slice a1 n c1] 217)).alloc (.cells #[.int .i64 wd2, .slice a2 m c2] 217)).alloc (.cells #[.int .i64 0, .int .i64 0, .int .i64 0, .slice none 0 0, .slice none 0 0] 185)).cell? ⟨w.heap.size + 2, 1, none⟩ = some (.int .i64 0) := by simp [go_sem]
  have R2 : (((w.alloc (.cells #[.int .i64 wd, .slice a1 n c1] 217)).alloc (.cells #[.int .i64 wd2, .slice a2 m c2] 217)).alloc (.cells #[.int .i64 0, .int .i64 0, .int .i64 0, .slice none 0 0, .slice none 0 0] 185)).cell? ⟨w.heap.size + 2, 2, none⟩ = some (.int .i64 0) := by simp [go_sem]
  have R3 : (((w.alloc (.cells #[.int .i64 wd, .slice a1 n c1] 217)).alloc (.cells #[.int .i64 wd2, .slice a2 m c2] 217)).alloc (.cells #[.int .i64 0, .int .i64 0, .int .i64 0, .slice none 0 0, .slice none 0 0] 185)).cell? ⟨w.heap.size + 2, 3, none⟩ = some (.slice none 0 0) := by simp [go_sem]
  have R4 : (((w.alloc (.cells #[.int .i64 wd, .slice a1 n c1] 217)).alloc (.cells #[.int .i64 wd2, .slice a2 m c2] 217)).alloc (.cells #[.int .i64 0, .int .i64 0, .int .i64 0, .slice none 0 0, .slice none 0 0] 185)).cell? ⟨w.heap.size + 2, 4, none⟩ = some (.slice none 0 0) := by simp [go_sem]
  have HZ : Hid (∀ o, (((w.alloc (.cells #[.int .i64 wd, .slice a1 n c1] 217)).alloc (.cells #[.int .i64 wd2, .slice a2 m c2] 217)).alloc (.cells #[.int .i64 0, .int .i64 0, .int .i64 0, .slice none 0 0, .slice none 0 0] 185)).frozen? ⟨w.heap.size + 2, o, none⟩ = false) := fun o => by simp [go_sem]
  have hb0 : Below w.heap.size w (((w.alloc (.cells #[.int .i64 wd, .slice a1 n c1] 217)).alloc (.cells #[.int .i64 wd2, .slice a2 m c2] 217)).alloc (.cells #[.int .i64 0, .int .i64 0, .int .i64 0, .slice none 0 0, .slice none 0 0] 185)) := (by repeat' (first | with_reducible exact Below.refl _ _ | with_reducible assumption | with_reducible refine Below.drew ?_ | with_reducible refine Below.alloc ?_ ?_ _ | with_reducible refine Below.setCell ?_ ?_ _ | (simp; done) | (simp; omega) | omega))
  have hs0 : (((w.alloc (.cells #[.int .i64 wd, .slice a1 n c1] 217)).alloc (.cells #[.int .i64 wd2, .slice a2 m c2] 217)).alloc (.cells #[.int .i64 0, .int .i64 0, .int .i64 0, .slice none 0 0, .slice none 0 0] 185)).heap.size = w.heap.size + 3 := by simp
  generalize (((w.alloc (.cells #[.int .i64 wd, .slice a1 n c1] 217)).alloc (.cells #[.int .i64 wd2, .slice a2 m c2] 217)).alloc (.cells #[.int .i64 0, .int .i64 0, .int .i64 0, .slice none 0 0, .slice none 0 0] 185)) = w0 at *
  refine wp_region_held_drew (S := (fun w' => w'.cell? ⟨w.heap.size, 0, none⟩ = some (.int .i64 wd) ∧ w'.cell? ⟨w.heap.size, 1, none⟩ = some (.slice a1 n c1) ∧ w'.cell? ⟨w.heap.size + 1, 1, none⟩ = some (.slice a2 m c2))) (by kernel_rfl) ?_ (fun hHeld => ?_)
  · (try dsimp only); exact ⟨B0, B1, B2⟩
  refine wpAnyH_take (i := 0) (oi := ⟨_, _, _, _, _, _⟩) (v := ?_) rfl (by kernel_rfl) (by kernel_rfl) (by kernel_rfl) (fun _ _ _ h => h) (Or.inl ⟨by rfl, ?_⟩) hHeld ?_
  rotate_left
  · (intro w hSw; (try dsimp only at hSw); go_simp; try (with_reducible rfl))
  try simp only [Act.put, List.setIfInBounds_toArray, List.set_cons_zero, List.set_cons_succ]
  refine wpAnyH_take (i := 2) (oi := ⟨_, _, _, _, _, _⟩) (v := ?_) rfl (by kernel_rfl) (by kernel_rfl) (by kernel_rfl) (fun _ _ _ h => h) (Or.inl ⟨by rfl, ?_⟩) hHeld ?_
  rotate_left
  · (intro w hSw; (try dsimp only at hSw); go_simp; try (with_reducible rfl))
  try simp only [Act.put, List.setIfInBounds_toArray, List.set_cons_zero, List.set_cons_succ]
  refine wpAnyH_take (i := 3) (oi := ⟨_, _, _, _, _, _⟩) (v := ?_) rfl (by kernel_rfl) (by kernel_rfl) (by kernel_rfl) (fun _ _ _ h => h) (Or.inl ⟨by rfl, ?_⟩) hHeld ?_
  rotate_left
  · (intro w hSw; (try dsimp only at hSw); go_simp; try (with_reducible rfl))
  try simp only [Act.put, List.setIfInBounds_toArray, List.set_cons_zero, List.set_cons_succ]
  refine wpAnyH_take (i := 4) (oi := ⟨_, _, _, _, _, _⟩) (v := ?_) rfl (by kernel_rfl) (by kernel_rfl) (by kernel_rfl) (fun _ _ _ h => h) (Or.inl ⟨by rfl, ?_⟩) hHeld ?_
  rotate_left
  · (intro w hSw; (try dsimp only at hSw); go_simp; try (with_reducible rfl))
  try simp only [Act.put, List.setIfInBounds_toArray, List.set_cons_zero, List.set_cons_succ]
  refine wpAnyH_take (i := 5) (oi := ⟨_, _, _, _, _, _⟩) (v := ?_) rfl (by kernel_rfl) (by kernel_rfl) (by kernel_rfl) (fun _ _ _ h => h) (Or.inl ⟨by rfl, ?_⟩) hHeld ?_
  rotate_left
  · (intro w hSw; (try dsimp only at hSw); go_simp; try (with_reducible rfl))
  try simp only [Act.put, List.setIfInBounds_toArray, List.set_cons_zero, List.set_cons_succ]
  refine wpAnyH_take (i := 6) (oi := ⟨_, _, _, _, _, _⟩) (v := ?_) rfl (by kernel_rfl) (by kernel_rfl) (by kernel_rfl) (fun _ _ _ h => h) (Or.inl ⟨by rfl, ?_⟩) hHeld ?_
  rotate_left
  · (intro w hSw; (try dsimp only at hSw); go_simp; try (with_reducible rfl))
  try simp only [Act.put, List.setIfInBounds_toArray, List.set_cons_zero, List.set_cons_succ]
  refine wpAnyH_take (i := 7) (oi := ⟨_, _, _, _, _, _⟩) (v := ?_) rfl (by kernel_rfl) (by kernel_rfl) (by kernel_rfl) (fun _ _ _ h => h) (Or.inl ⟨by rfl, ?_⟩) hHeld ?_
  rotate_left
  · (intro w hSw; (try dsimp only at hSw); go_simp; try (with_reducible rfl))
  try simp only [Act.put, List.setIfInBounds_toArray, List.set_cons_zero, List.set_cons_succ]
  refine wpAnyH_ready (rs := [1]) (by kernel_rfl) (by simp) ?_
  refine (AllReadyH.cons (o := ⟨_, _, _, _, _, _⟩) rfl (fun K hK => ?_) AllReadyH.nil)
  go_simp
  go_at_call 199
  refine (height_calls wd h1 h2 a1 n c1 hn _).mono ?_
  rintro e w1 ⟨rfl, hb1⟩
  replace hb1 : Below w0.heap.size w0 w1 := (below_drewN (Below.refl _ _) 1).trans hb1
  replace B0 := cellb hb1 B0
  replace B1 := cellb hb1 B1
  replace B2 := cellb hb1 B2
  replace R0 := cellb hb1 R0
  replace R1 := cellb hb1 R1
  replace R2 := cellb hb1 R2
  replace R3 := cellb hb1 R3
  replace R4 := cellb hb1 R4
  have Z0 : w1.frozen? ⟨w.heap.size + 2, 0, none⟩ = false := by rw [hb1.frozen (p := ⟨w.heap.size + 2, 0, none⟩) (by show w.heap.size + 2 < w0.heap.size; omega)]; exact HZ.out 0
  have Z1 : w1.frozen? ⟨w.heap.size + 2, 1, none⟩ = false := by rw [hb1.frozen (p := ⟨w.heap.size + 2, 1, none⟩) (by show w.heap.size + 2 < w0.heap.size; omega)]; exact HZ.out 1
  have Z2 : w1.frozen? ⟨w.heap.size + 2, 2, none⟩ = false := by rw [hb1.frozen (p := ⟨w.heap.size + 2, 2, none⟩) (by show w.heap.size + 2 < w0.heap.size; omega)]; exact HZ.out 2
  have Z3 : w1.frozen? ⟨w.heap.size + 2, 3, none⟩ = false := by rw [hb1.frozen (p := ⟨w.heap.size + 2, 3, none⟩) (by show w.heap.size + 2 < w0.heap.size; omega)]; exact HZ.out 3
  have Z4 : w1.frozen? ⟨w.heap.size + 2, 4, none⟩ = false := by rw [hb1.frozen (p := ⟨w.heap.size + 2, 4, none⟩) (by show w.heap.size + 2 < w0.heap.size; omega)]; exact HZ.out 4
  try go_wp2_with fail
  refine hK.out _ _ ?_ ?_
  · (try dsimp only); exact ⟨B0, B1, B2⟩
  clear hHeld hK K
  intro hHeld
  try simp only [Act.put, List.setIfInBounds_toArray, List.set_cons_zero, List.set_cons_succ]
  refine wpAnyH_take (i := 8) (oi := ⟨_, _, _, _, _, _⟩) (v := ?_) rfl (by kernel_rfl) (by kernel_rfl) (by kernel_rfl) (fun _ _ _ h => h) (Or.inl ⟨by rfl, ?_⟩) hHeld ?_
  rotate_left
  · (intro w hSw; (try dsimp only at hSw); go_simp; try (with_reducible rfl))
  try simp only [Act.put, List.setIfInBounds_toArray, List.set_cons_zero, List.set_cons_succ]
  refine wpAnyH_take (i := 9) (oi := ⟨_, _, _, _, _, _⟩) (v := ?_) rfl (by kernel_rfl) (by kernel_rfl) (by kernel_rfl) (fun _ _ _ h => h) (Or.inl ⟨by rfl, ?_⟩) hHeld ?_
  rotate_left
  · (intro w hSw; (try dsimp only at hSw); go_simp; try (with_reducible rfl))
  try simp only [Act.put, List.setIfInBounds_toArray, List.set_cons_zero, List.set_cons_succ]
  refine wpAnyH_ready (rs := [10]) (by kernel_rfl) (by simp) ?_
  refine (AllReadyH.cons (o := ⟨_, _, _, _, _, _⟩) rfl (fun K hK => ?_) AllReadyH.nil)
  go_simp
  refine hK.out _ _ ?_ ?_
  · (try dsimp only); exact ⟨by simp [go_sem, B0], by simp [go_sem, B1], by simp [go_sem, B2]⟩
  clear hHeld hK K
  intro hHeld
  try simp only [Act.put, List.setIfInBounds_toArray, List.set_cons_zero, List.set_cons_succ]
  refine wpAnyH_done (by kernel_rfl) ?_ _
  have hr := res5 (w := w1) (r := w.heap.size + 2) (.int .i64 0) (.int .i64 ((n : Int) / wd)) (.int .i64 wd) (.slice a1 n c1) (.slice a2 m c2) R0 R1 R2 R3 R4
  go_wp2
  exact bodyPost_ret (v :=   .agg #[.int .i64 0, .int .i64 ((n : Int) / wd), .int .i64 wd, .slice a1 n c1, .slice a2 m c2]) (by simp only [results, Tryz.results196]; simp [go_sem, hr.1, hr.2.1, hr.2.2.1, hr.2.2.2.1, hr.2.2.2.2]) rfl ⟨rfl, (hb0.trans (hb1.mono (by omega))).trans (show Below w.heap.size w1 _ from (by repeat' (first | with_reducible exact Below.refl _ _ | with_reducible assumption | with_reducible refine Below.drew ?_ | with_reducible refine Below.alloc ?_ ?_ _ | with_reducible refine Below.setCell ?_ ?_ _ | (simp; done) | (simp; omega) | omega)))⟩

set_option maxHeartbeats 400000 in
theorem l3Attr_calls (a : Int) (w : World) :
    Calls Tryz.prog 142 #[.int .i64 a] w fun e w' => e = .returned (.bool (atB a)) ∧ w' = w := by
  go_enter Tryz.func142, Tryz.ntmps142
  go_wp2_with (go_at_call 143; refine (l1In_calls a 0 31 _).mono ?_; rintro e w' ⟨rfl, hw⟩; rw [hw]; clear hw w')
  go_ret
  refine ⟨ret_bool ?_, rfl⟩
  simp [atB]

set_option maxHeartbeats 1000000 in
theorem l3Copy_calls (r wd : Int) (cs bs : List (Int × Int)) (v1 v2 : Value) (w : World) (hn1 : cs.length ≤ 1048576) (hn2 : bs.length ≤ 1048576) (h1 : PRead w v1 cs) (h2 : PRead w v2 bs) :
    Calls Tryz.prog 88 #[.agg #[.int .i64 r, .int .i64 wd, v1, v2]] w fun e w' => ∃ x y m, e = .returned (.agg #[.int .i64 r, .int .i64 wd, x, y]) ∧ w.heap.size ≤ m ∧ m ≤ w'.heap.size ∧ w'.ownsRow w.heap.size 193 2 x cs.length (pvs cs) ∧ (∀ k, x.ownBlock = some k → k < m) ∧ w'.ownsRow m 193 2 y bs.length (pvs bs) ∧ Below w.heap.size w w' := by
  obtain ⟨i0, hi, hz0, hz1, hz2⟩ := info_parts info_cell
  have h1' := h1
  obtain ⟨a1, c1, rfl, hx1⟩ := h1'
  clear hx1
  have h2' := h2
  obtain ⟨a2, c2, rfl, hx2⟩ := h2'
  clear hx2
  have hb0 : Below w.heap.size w ((w.alloc (.cells #[.int .i64 r, .int .i64 wd, .slice a1 cs.length c1, .slice a2 bs.length c2] 35)).alloc (.cells #[.int .i64 0, .int .i64 0, .slice none 0 0, .slice none 0 0] 35)) := (by repeat' (first | with_reducible exact Below.refl _ _ | with_reducible assumption | with_reducible refine Below.drew ?_ | with_reducible refine Below.alloc ?_ ?_ _ | with_reducible refine Below.setCell ?_ ?_ _ | (simp; done) | (simp; omega) | omega))
  have hs0 : ((w.alloc (.cells #[.int .i64 r, .int .i64 wd, .slice a1 cs.length c1, .slice a2 bs.length c2] 35)).alloc (.cells #[.int .i64 0, .int .i64 0, .slice none 0 0, .slice none 0 0] 35)).heap.size = w.heap.size + 2 := by simp
  have A0 : ((w.alloc (.cells #[.int .i64 r, .int .i64 wd, .slice a1 cs.length c1, .slice a2 bs.length c2] 35)).alloc (.cells #[.int .i64 0, .int .i64 0, .slice none 0 0, .slice none 0 0] 35)).cell? ⟨w.heap.size, 0, none⟩ = some (.int .i64 r) := by simp [go_sem]
  have A1 : ((w.alloc (.cells #[.int .i64 r, .int .i64 wd, .slice a1 cs.length c1, .slice a2 bs.length c2] 35)).alloc (.cells #[.int .i64 0, .int .i64 0, .slice none 0 0, .slice none 0 0] 35)).cell? ⟨w.heap.size, 1, none⟩ = some (.int .i64 wd) := by simp [go_sem]
  have A2 : ((w.alloc (.cells #[.int .i64 r, .int .i64 wd, .slice a1 cs.length c1, .slice a2 bs.length c2] 35)).alloc (.cells #[.int .i64 0, .int .i64 0, .slice none 0 0, .slice none 0 0] 35)).cell? ⟨w.heap.size, 2, none⟩ = some (.slice a1 cs.length c1) := by simp [go_sem]
  have A3 : ((w.alloc (.cells #[.int .i64 r, .int .i64 wd, .slice a1 cs.length c1, .slice a2 bs.length c2] 35)).alloc (.cells #[.int .i64 0, .int .i64 0, .slice none 0 0, .slice none 0 0] 35)).cell? ⟨w.heap.size, 3, none⟩ = some (.slice a2 bs.length c2) := by simp [go_sem]
  have R0 : ((w.alloc (.cells #[.int .i64 r, .int .i64 wd, .slice a1 cs.length c1, .slice a2 bs.length c2] 35)).alloc (.cells #[.int .i64 0, .int .i64 0, .slice none 0 0, .slice none 0 0] 35)).cell? ⟨w.heap.size + 1, 0, none⟩ = some (.int .i64 0) := by simp [go_sem]
  have R1 : ((w.alloc (.cells #[.int .i64 r, .int .i64 wd, .slice a1 cs.length c1, .slice a2 bs.length c2] 35)).alloc (.cells #[.int .i64 0, .int .i64 0, .slice none 0 0, .slice none 0 0] 35)).cell? ⟨w.heap.size + 1, 1, none⟩ = some (.int .i64 0) := by simp [go_sem]
  have R2 : ((w.alloc (.cells #[.int .i64 r, .int .i64 wd, .slice a1 cs.length c1, .slice a2 bs.length c2] 35)).alloc (.cells #[.int .i64 0, .int .i64 0, .slice none 0 0, .slice none 0 0] 35)).cell? ⟨w.heap.size + 1, 2, none⟩ = some (.slice none 0 0) := by simp [go_sem]
  have R3 : ((w.alloc (.cells #[.int .i64 r, .int .i64 wd, .slice a1 cs.length c1, .slice a2 bs.length c2] 35)).alloc (.cells #[.int .i64 0, .int .i64 0, .slice none 0 0, .slice none 0 0] 35)).cell? ⟨w.heap.size + 1, 3, none⟩ = some (.slice none 0 0) := by simp [go_sem]
  have FZ : Hid (∀ b o, w.heap.size ≤ b → b < w.heap.size + 2 → ((w.alloc (.cells #[.int .i64 r, .int .i64 wd, .slice a1 cs.length c1, .slice a2 bs.length c2] 35)).alloc (.cells #[.int .i64 0, .int .i64 0, .slice none 0 0, .slice none 0 0] 35)).frozen? ⟨b, o, none⟩ = false) := fun b o h1 h2 => by
    obtain rfl | rfl : b = w.heap.size ∨ b = w.heap.size + 1 := by omega
    all_goals simp [go_sem]
  have HL1 : (((w.alloc (.cells #[.int .i64 r, .int .i64 wd, .slice a1 cs.length c1, .slice a2 bs.length c2] 35)).alloc (.cells #[.int .i64 0, .int .i64 0, .slice none 0 0, .slice none 0 0] 35)).alloc (.cells #[] 193)).ownsRow (w.heap.size + 2) 193 2 (.slice (some ⟨w.heap.size + 2, 0, none⟩) 0 0) 0 (pvs []) := by have h := World.ownsRow_lit (base := w.heap.size + 2) (e := 193) (size := 2) ((w.alloc (.cells #[.int .i64 r, .int .i64 wd, .slice a1 cs.length c1, .slice a2 bs.length c2] 35)).alloc (.cells #[.int .i64 0, .int .i64 0, .slice none 0 0, .slice none 0 0] 35)) #[] 0 (by simp) (by simp) rfl; rw [hs0] at h; exact h
  have HP1 : PRead (((w.alloc (.cells #[.int .i64 r, .int .i64 wd, .slice a1 cs.length c1, .slice a2 bs.length c2] 35)).alloc (.cells #[.int .i64 0, .int .i64 0, .slice none 0 0, .slice none 0 0] 35)).alloc (.cells #[] 193)) (.slice a1 cs.length c1) cs := (h1.below hb0).below ((Below.refl _ _).alloc (Nat.le_refl _) _)
  go_enter Tryz.func88, Tryz.ntmps88
  go_wp2_with (at_builtin; refine wpList_append_pread _ rfl (.tmp 3) (.tmp 5) 33 rfl (w.heap.size + 2) 193 i0 (.agg #[.int .i64 0, .int .i64 0]) 16 Tryz.underlying33 hi hz0 hz1 hz2 rfl _ 0 [] rfl HL1 a1 cs cs.length c1 rfl rfl HP1 (by unfold maxLen; omega) (by omega) (by simp) ?_)
  intro x w1 hown1 hgr1
  generalize hw0 : ((w.alloc (.cells #[.int .i64 r, .int .i64 wd, .slice a1 cs.length c1, .slice a2 bs.length c2] 35)).alloc (.cells #[.int .i64 0, .int .i64 0, .slice none 0 0, .slice none 0 0] 35)) = w0 at *
  clear hw0 HP1 HL1
  have hbx : Below w0.heap.size w0 w1 := ((Below.refl _ _).alloc (Nat.le_refl _) _).grown hgr1 (by simp) (fun q hq => by simp [Value.ownBlock] at hq; omega)
  try simp only [List.nil_append, Nat.zero_add] at hown1
  obtain ⟨ax, cx, rfl, hxc⟩ := own_room2 hown1
  have hs1 : w0.heap.size ≤ w1.heap.size := hbx.size
  have t1 : Touch w.heap.size 2 3 w1 (w1.setCell ⟨w.heap.size, 2, none⟩ (.slice ax cs.length cx)) := (Touch.refl _ _ _ _).setCell (by omega) (by omega) _
  have K1 : w1.cell? ⟨w.heap.size, 2, none⟩ = some (.slice a1 cs.length c1) := cellb hbx A2
  have K3 : w1.cell? ⟨w.heap.size, 3, none⟩ = some (.slice a2 bs.length c2) := cellb hbx A3
  have Y1 : w1.frozen? ⟨w.heap.size, 2, none⟩ = false := by rw [hbx.frozen (p := ⟨w.heap.size, 2, none⟩) (by simp; omega)]; exact FZ.out _ _ (Nat.le_refl _) (by omega)
  have A21 : (w1.setCell ⟨w.heap.size, 2, none⟩ (.slice ax cs.length cx)).cell? ⟨w.heap.size, 2, none⟩ = some (.slice ax cs.length cx) := World.cell?_setCell_same _ _ _ K1
  have hs2 : (w1.setCell ⟨w.heap.size, 2, none⟩ (.slice ax cs.length cx)).heap.size = w1.heap.size := by simp [World.setCell]
  have hb2 : Below w.heap.size w (w1.setCell ⟨w.heap.size, 2, none⟩ (.slice ax cs.length cx)) := hb0.trans ((hbx.mono (by omega)).trans (t1.below (Nat.le_refl _) (by omega)))
  have HL2 : ((w1.setCell ⟨w.heap.size, 2, none⟩ (.slice ax cs.length cx)).alloc (.cells #[] 193)).ownsRow w1.heap.size 193 2 (.slice (some ⟨w1.heap.size, 0, none⟩) 0 0) 0 (pvs []) := by have h := World.ownsRow_lit (base := w1.heap.size) (e := 193) (size := 2) (w1.setCell ⟨w.heap.size, 2, none⟩ (.slice ax cs.length cx)) #[] 0 (by simp [World.setCell]) (by simp) rfl; rw [hs2] at h; exact h
  have HP2 : PRead ((w1.setCell ⟨w.heap.size, 2, none⟩ (.slice ax cs.length cx)).alloc (.cells #[] 193)) (.slice a2 bs.length c2) bs := (h2.below hb2).below ((Below.refl _ _).alloc (Nat.le_refl _) _)
  have A31 : (w1.setCell ⟨w.heap.size, 2, none⟩ (.slice ax cs.length cx)).cell? ⟨w.heap.size, 3, none⟩ = some (.slice a2 bs.length c2) := t1.cellAt K3 (by omega)
  have hlt1 : w.heap.size < w1.heap.size := by omega
  have A32 : ((w1.setCell ⟨w.heap.size, 2, none⟩ (.slice ax cs.length cx)).alloc (.cells #[] 193)).cell? ⟨w.heap.size, 3, none⟩ = some (.slice a2 bs.length c2) := cellb ((Below.refl _ _).alloc (Nat.le_refl _) _) A31
  have OX := hide hown1
  have HX := hide hbx
  have T1 := hide t1
  clear hown1 hgr1 hbx t1 h1 h2 hb0
  go_wp2_with (at_builtin; refine wpList_append_pread _ rfl (.tmp 8) (.tmp 10) 33 rfl w1.heap.size 193 i0 (.agg #[.int .i64 0, .int .i64 0]) 16 Tryz.underlying33 hi hz0 hz1 hz2 rfl _ 0 [] rfl HL2 a2 bs bs.length c2 rfl rfl HP2 (by unfold maxLen; omega) (by omega) (by simp) ?_)
  intro y w3 hown3 hgr3
  generalize hw2 : w1.setCell ⟨w.heap.size, 2, none⟩ (.slice ax cs.length cx) = w2 at *
  clear hw2 HP2 HL2
  have hby : Below w2.heap.size w2 w3 := ((Below.refl _ _).alloc (Nat.le_refl _) _).grown hgr3 (by simp) (fun q hq => by simp [Value.ownBlock] at hq; omega)
  try simp only [List.nil_append, Nat.zero_add] at hown3
  obtain ⟨ay, cy, rfl, hyc⟩ := own_room2 hown3
  have hs3 : w2.heap.size ≤ w3.heap.size := hby.size
  have hbx := HX.out
  have t1 := T1.out
  have hown1 := OX.out
  have t3 : Touch w.heap.size 3 4 w3 (w3.setCell ⟨w.heap.size, 3, none⟩ (.slice ay bs.length cy)) := (Touch.refl _ _ _ _).setCell (by omega) (by omega) _
  have K4 : w3.cell? ⟨w.heap.size, 3, none⟩ = some (.slice a2 bs.length c2) := cellb hby A31
  have E3 : (w3.setCell ⟨w.heap.size, 3, none⟩ (.slice ay bs.length cy)).cell? ⟨w.heap.size, 3, none⟩ = some (.slice ay bs.length cy) := World.cell?_setCell_same _ _ _ K4
  have Y3 : w3.frozen? ⟨w.heap.size, 3, none⟩ = false := by rw [hby.frozen (p := ⟨w.heap.size, 3, none⟩) (by simp; omega)]; refine t1.frozenAt (by omega) ?_; rw [hbx.frozen (p := ⟨w.heap.size, 3, none⟩) (by simp; omega)]; exact FZ.out _ _ (Nat.le_refl _) (by omega)
  have cc : ∀ {b o u}, w0.cell? ⟨b, o, none⟩ = some u → (b ≠ w.heap.size ∨ o < 2 ∨ 4 ≤ o) → (w3.setCell ⟨w.heap.size, 3, none⟩ (.slice ay bs.length cy)).cell? ⟨b, o, none⟩ = some u := fun h ho => t3.cellAt (cellb hby (t1.cellAt (cellb hbx h) (by omega))) (by omega)
  have zz : ∀ b o, w.heap.size ≤ b → b < w.heap.size + 2 → (w3.setCell ⟨w.heap.size, 3, none⟩ (.slice ay bs.length cy)).frozen? ⟨b, o, none⟩ = false := fun b o h1 h2 => t3.frozenAt (by omega) (by rw [hby.frozen (p := ⟨b, o, none⟩) (by simp; omega)]; refine t1.frozenAt (by omega) ?_; rw [hbx.frozen (p := ⟨b, o, none⟩) (by simp; omega)]; exact FZ.out _ _ h1 h2)
  have E0 := cc A0 (by omega)
  have E1 := cc A1 (by omega)
  have E2 : (w3.setCell ⟨w.heap.size, 3, none⟩ (.slice ay bs.length cy)).cell? ⟨w.heap.size, 2, none⟩ = some (.slice ax cs.length cx) := t3.cellAt (cellb hby A21) (by omega)
  have Q0 := cc R0 (by omega)
  have Q1 := cc R1 (by omega)
  have Q2 := cc R2 (by omega)
  have Q3 := cc R3 (by omega)
  have X0 := zz (w.heap.size + 1) 0 (by omega) (by omega)
  have X1 := zz (w.heap.size + 1) 1 (by omega) (by omega)
  have X2 := zz (w.heap.size + 1) 2 (by omega) (by omega)
  have X3 := zz (w.heap.size + 1) 3 (by omega) (by omega)
  have l1 := hown1.lt
  have l3 := hown3.lt
  have o1 := hide (own_touch (own_below (own_touch hown1 t1 (fun k hk => by have := (l1 k hk).1; omega)) hby) t3 (fun k hk => by have := (l1 k hk).1; omega))
  have o3 := hide (own_touch hown3 t3 (fun k hk => by have := (l3 k hk).1; omega))
  have L1 := hide l1
  have L3 := hide l3
  have hb3 : Below w.heap.size w (w3.setCell ⟨w.heap.size, 3, none⟩ (.slice ay bs.length cy)) := hb2.trans ((hby.mono (by omega)).trans (t3.below (Nat.le_refl _) (by omega)))
  have hs4 : (w3.setCell ⟨w.heap.size, 3, none⟩ (.slice ay bs.length cy)).heap.size = w3.heap.size := by simp [World.setCell]
  clear cc zz hgr3 hown1 hown3 t1 t3 hbx hby l1 l3 FZ A0 A1 A2 A3 A21 A31 K1 K3 R0 R1 R2 R3 Y1 HX T1 OX hb2
  go_wp2_with fail
  generalize hw4 : w3.setCell ⟨w.heap.size, 3, none⟩ (.slice ay bs.length cy) = w4 at *
  have hr := res4 (w := w4) (r := w.heap.size + 1) (.int .i64 r) (.int .i64 wd) (.slice ax cs.length cx) (.slice ay bs.length cy) Q0 Q1 Q2 Q3
  have t5 : Touch (w.heap.size + 1) 0 4 w4 ((((w4.setCell ⟨w.heap.size + 1, 0, none⟩ (.int .i64 r)).setCell ⟨w.heap.size + 1, 1, none⟩ (.int .i64 wd)).setCell ⟨w.heap.size + 1, 2, none⟩ (.slice ax cs.length cx)).setCell ⟨w.heap.size + 1, 3, none⟩ (.slice ay bs.length cy)) := ((((Touch.refl _ _ _ _).setCell (by omega) (by omega) _).setCell (by omega) (by omega) _).setCell (by omega) (by omega) _).setCell (by omega) (by omega) _
  refine bodyPost_ret (v := .agg #[.int .i64 r, .int .i64 wd, .slice ax cs.length cx, .slice ay bs.length cy]) (by simp only [results, Tryz.results88]; simp [go_sem, hr.1, hr.2.1, hr.2.2.1, hr.2.2.2]) rfl ⟨_, _, w1.heap.size, rfl, by omega, ?_, (own_touch o1.out t5 (fun k hk => by have := (L1.out k hk).1; omega)).mono (by omega), fun k hk => (L1.out k hk).2, own_touch o3.out t5 (fun k hk => by have := (L3.out k hk).1; omega), hb3.trans (t5.below (by omega) (by omega))⟩
  have := t5.size
  omega

end Go.Proofs.YtdekegjplegkeaaGreat
