/-
  What ResizeGrid answers, of the model: l3Fit, l3Resize.
-/
import Derived.Test.YtbndncfkkhjkoabResizeTop
import Derived.Test.YtbndncfkkhjkoabScrollSpec
import Derived.Test.YtbndncfkkhjkoabUntil
import Derived.Test.YtbndncfkkhjkoabCapped
namespace Go.Proofs.Ytbndncfkkhjkoab
set_option maxRecDepth 20000
open Go.ChangeShapes Go.WideShapes Go.ChangeAt Go.RowKit
set_option linter.unusedVariables false
set_option linter.unusedSimpArgs false
set_option maxRecDepth 20000

theorem fitF_step2 {m m' k : Nat} {f : Nat → Int × Int} {bl : Int × Int} (h : 0 < m') (i : Nat) : (if k * m' ≤ i ∧ i < k * m' + m' then (if i - k * m' < min m m' then f (k * m + (i - k * m')) else bl) else fitF m m' k f bl i) = fitF m m' (k + 1) f bl i := by
  rw [← fitF_step h]
  by_cases e : k * m' ≤ i ∧ i < k * m' + m'
  · rw [if_pos e]
    by_cases e2 : i - k * m' < min m m'
    · rw [if_pos e2, if_pos (by omega)]
    · rw [if_neg e2, if_neg (by omega)]
      unfold fitF
      rw [if_neg (by omega)]
  · rw [if_neg e, if_neg (by omega)]
theorem fitF_more {m m' K k : Nat} {f : Nat → Int × Int} {bl : Int × Int} (h : 0 < m') (hk : k < K) : mkL (k * m') (fitF m m' K f bl) ++ mkL m' (fun x => if x < min m m' then f (k * m + x) else bl) = mkL ((k + 1) * m') (fitF m m' K f bl) := by
  rw [Nat.add_mul, Nat.one_mul, mkL_add]
  congr 1
  refine mkL_congr (fun x hx => ?_)
  unfold fitF
  have h2 : (k + 1) * m' ≤ K * m' := Nat.mul_le_mul_right m' (by omega)
  rw [Nat.add_mul, Nat.one_mul] at h2
  have hd : (k * m' + x) / m' = k := Nat.div_eq_of_lt_le (by omega) (by rw [Nat.add_mul, Nat.one_mul]; omega)
  have hm := Nat.div_add_mod (k * m' + x) m'
  rw [hd, Nat.mul_comm] at hm
  have hx2 : (k * m' + x) % m' = x := by omega
  rw [hd, hx2]
  by_cases e : x < m
  · rw [if_pos (by omega), if_pos ⟨by omega, e⟩]
  · rw [if_neg (by omega), if_neg (by omega)]
set_option maxHeartbeats 2000000 in
theorem l3RowOf_off (pb bx off n cx k m u : Nat) (y wd : Int) (f : Nat → Int × Int) (w : World) (c1 : w.cell? ⟨pb, 1, none⟩ = some (.int .i64 wd)) (c2 : w.cell? ⟨pb, 2, none⟩ = some (.slice (some ⟨bx, off, none⟩) n cx)) (hr : RowR w bx off n f) (hc : n ≤ cx)
    (hk : y * wd = (k : Int)) (hm : wd = (m : Int)) (hu : u = k + m) (hun : u ≤ n) (hn : n ≤ 1048576) (hm0 : 0 < m) (y0 : 0 ≤ y) (y1 : y ≤ 1000) :
    Calls Try.prog 72 #[.pointer (some ⟨pb, 0, none⟩), .int .i64 y] w fun e w' => ∃ v, e = .returned v ∧ w'.ownsRow w.heap.size 38 2 v m (pvs (mkL m (fun i => f (k + i)))) ∧ Below w.heap.size w w' := by
  obtain ⟨i0, hi, hz0, hz1, hz2⟩ := info_parts info_cell
  have e1 : IntKind.i64.wrap (y * wd) = (k : Int) := by rw [hk]; exact wrap_small (by omega) (by omega)
  have e2 : IntKind.i64.wrap ((y + 1) * wd) = (u : Int) := by rw [Int.add_mul, hk, hm]; rw [show (k : Int) + 1 * (m : Int) = (u : Int) by omega]; exact wrap_small (by omega) (by omega)
  have e3 : IntKind.i64.wrap (y + 1) = y + 1 := wrap_small (by omega) (by omega)
  have e4 : u ≤ cx := by omega
  have e5 : (k : Int) ≤ (u : Int) := by omega
  have e6 : (u : Int) ≤ (cx : Int) := by omega
  have e7 : ¬ cx = k := by omega
  have e8 : ¬ k = cx := by omega
  have e9 : k ≤ u := by omega
  have HK := hide hk
  have HM := hide hm
  have HU := hide hu
  clear hk hm
  have hpr : PRead (w.drew.alloc (.cells #[] 38)) (.slice (some ⟨bx, off + k * 2, none⟩) (u - k) (cx - k)) (mkL (u - k) (fun i => f (k + i))) := by
    have h := (hr.sub k (u - k) (by omega)).below (B := w.heap.size) (w' := w.drew.alloc (.cells #[] 38)) (by repeat' (first | with_reducible exact Below.refl _ _ | with_reducible assumption | with_reducible refine Below.drew ?_ | with_reducible refine Below.alloc ?_ ?_ _ | with_reducible refine Below.setCell ?_ ?_ _ | (simp; done) | (simp; omega) | omega)) (hr.lt (by omega))
    exact pread_of_row h
  clear hu hr
  go_enter Try.func72, Try.ntmps72
  go_wp2_with fail
  have hlit : (w.drew.alloc (.cells #[] 38)).ownsRow w.heap.size 38 2 (.slice (some ⟨w.heap.size, 0, none⟩) 0 0) 0 (pvs []) := World.ownsRow_lit (base := w.heap.size) (e := 38) (size := 2) w.drew #[] 0 (Nat.le_refl _) (by simp) rfl
  have hba : Below w.heap.size w (w.alloc (.cells #[] 38)) := (by repeat' (first | with_reducible exact Below.refl _ _ | with_reducible assumption | with_reducible refine Below.drew ?_ | with_reducible refine Below.alloc ?_ ?_ _ | with_reducible refine Below.setCell ?_ ?_ _ | (simp; done) | (simp; omega) | omega))
  have K1 := cellb hba c1
  have K2 := cellb hba c2
  refine wp_region_held_drew (S := (fun w' => w'.cell? ⟨pb, 1, none⟩ = some (.int .i64 wd) ∧ w'.cell? ⟨pb, 2, none⟩ = some (.slice (some ⟨bx, off, none⟩) n cx))) (by kernel_rfl) ?_ (fun hHeld => ?_)
  · (try dsimp only); exact ⟨c1, c2⟩
  refine wpAnyH_take (i := 1) (oi := ⟨_, _, _, _, _, _⟩) (v := ?_) rfl (by kernel_rfl) (by kernel_rfl) (by kernel_rfl) (fun _ _ _ h => h) (Or.inl ⟨by rfl, ?_⟩) hHeld ?_
  rotate_left
  · (intro w hSw; (try dsimp only at hSw); go_simp; try (with_reducible rfl))
  try simp only [Act.put, List.setIfInBounds_toArray, List.set_cons_zero, List.set_cons_succ]
  refine wpAnyH_take (i := 2) (oi := ⟨_, _, _, _, _, _⟩) (v := ?_) rfl (by kernel_rfl) (by kernel_rfl) (by kernel_rfl) (fun _ _ _ h => h) (Or.inl ⟨by rfl, ?_⟩) hHeld ?_
  rotate_left
  · (intro w hSw; (try dsimp only at hSw); go_simp; try (with_reducible rfl))
  try simp only [Act.put, List.setIfInBounds_toArray, List.set_cons_zero, List.set_cons_succ]
  refine wpAnyH_take (i := 3) (oi := ⟨_, _, _, _, _, _⟩) (v := ?_) rfl (by kernel_rfl) (by kernel_rfl) (by kernel_rfl) (fun _ _ _ h => h) (Or.inl ⟨by rfl, ?_⟩) hHeld ?_
  rotate_left
  · (intro w hSw; (try dsimp only at hSw); go_simp; try (with_reducible rfl))
  try simp only [Act.put, List.setIfInBounds_toArray, List.set_cons_zero, List.set_cons_succ]
  refine wpAnyH_take (i := 4) (oi := ⟨_, _, _, _, _, _⟩) (v := ?_) rfl (by kernel_rfl) (by kernel_rfl) (by kernel_rfl) (fun _ _ _ h => h) (Or.inl ⟨by rfl, ?_⟩) hHeld ?_
  rotate_left
  · (intro w hSw; (try dsimp only at hSw); go_simp; try (with_reducible rfl))
  try simp only [Act.put, List.setIfInBounds_toArray, List.set_cons_zero, List.set_cons_succ]
  refine wpAnyH_take (i := 5) (oi := ⟨_, _, _, _, _, _⟩) (v := ?_) rfl (by kernel_rfl) (by kernel_rfl) (by kernel_rfl) (fun _ _ _ h => h) (Or.inl ⟨by rfl, ?_⟩) hHeld ?_
  rotate_left
  · (intro w hSw; (try dsimp only at hSw); go_simp; try (with_reducible rfl))
  try simp only [Act.put, List.setIfInBounds_toArray, List.set_cons_zero, List.set_cons_succ]
  refine wpAnyH_take (i := 6) (oi := ⟨_, _, _, _, _, _⟩) (v := ?_) rfl (by kernel_rfl) (by kernel_rfl) (by kernel_rfl) (fun _ _ _ h => h) (Or.inl ⟨by rfl, ?_⟩) hHeld ?_
  rotate_left
  · (intro w hSw; (try dsimp only at hSw); go_simp; try (with_reducible rfl))
  try simp only [Act.put, List.setIfInBounds_toArray, List.set_cons_zero, List.set_cons_succ]
  refine wpAnyH_take (i := 7) (oi := ⟨_, _, _, _, _, _⟩) (v := ?_) rfl (by kernel_rfl) (by kernel_rfl) (by kernel_rfl) (fun _ _ _ h => h) (Or.inl ⟨by rfl, ?_⟩) hHeld ?_
  rotate_left
  · (intro w hSw; (try dsimp only at hSw); go_simp; try (with_reducible rfl))
  try simp only [Act.put, List.setIfInBounds_toArray, List.set_cons_zero, List.set_cons_succ]
  refine wpAnyH_take (i := 8) (oi := ⟨_, _, _, _, _, _⟩) (v := ?_) rfl (by kernel_rfl) (by kernel_rfl) (by kernel_rfl) (fun _ _ _ h => h) (Or.inl ⟨by rfl, ?_⟩) hHeld ?_
  rotate_left
  · (intro w hSw; (try dsimp only at hSw); go_simp; try (with_reducible rfl))
  try simp only [Act.put, List.setIfInBounds_toArray, List.set_cons_zero, List.set_cons_succ]
  refine wpAnyH_take (i := 9) (oi := ⟨_, _, _, _, _, _⟩) (v := ?_) rfl (by kernel_rfl) (by kernel_rfl) (by kernel_rfl) (fun _ _ _ h => h) (Or.inl ⟨by rfl, ?_⟩) hHeld ?_
  rotate_left
  · (intro w hSw; (try dsimp only at hSw); go_simp; try (with_reducible rfl))
  try simp only [Act.put, List.setIfInBounds_toArray, List.set_cons_zero, List.set_cons_succ]
  refine wpAnyH_take (i := 10) (oi := ⟨_, _, _, _, _, _⟩) (v := ?_) rfl (by kernel_rfl) (by kernel_rfl) (by kernel_rfl) (fun _ _ _ h => h) (Or.inl ⟨by rfl, ?_⟩) hHeld ?_
  rotate_left
  · (intro w hSw; (try dsimp only at hSw); go_simp; try (with_reducible rfl))
  try simp only [Act.put, List.setIfInBounds_toArray, List.set_cons_zero, List.set_cons_succ]
  refine wpAnyH_take (i := 11) (oi := ⟨_, _, _, _, _, _⟩) (v := ?_) rfl (by kernel_rfl) (by kernel_rfl) (by kernel_rfl) (fun _ _ _ h => h) (Or.inl ⟨by rfl, ?_⟩) hHeld ?_
  rotate_left
  · (intro w hSw; (try dsimp only at hSw); go_simp; try (with_reducible rfl))
  try simp only [Act.put, List.setIfInBounds_toArray, List.set_cons_zero, List.set_cons_succ]
  refine wpAnyH_take (i := 12) (oi := ⟨_, _, _, _, _, _⟩) (v := ?_) rfl (by kernel_rfl) (by kernel_rfl) (by kernel_rfl) (fun _ _ _ h => h) (Or.inl ⟨by rfl, ?_⟩) hHeld ?_
  rotate_left
  · (intro w hSw; (try dsimp only at hSw); go_simp; try (with_reducible rfl))
  try simp only [Act.put, List.setIfInBounds_toArray, List.set_cons_zero, List.set_cons_succ]
  refine wpAnyH_take (i := 13) (oi := ⟨_, _, _, _, _, _⟩) (v := ?_) rfl (by kernel_rfl) (by kernel_rfl) (by kernel_rfl) (fun _ _ _ h => h) (Or.inl ⟨by rfl, ?_⟩) hHeld ?_
  rotate_left
  · (intro w hSw; (try dsimp only at hSw); go_simp; try (with_reducible rfl))
  try simp only [Act.put, List.setIfInBounds_toArray, List.set_cons_zero, List.set_cons_succ]
  refine wpAnyH_take (i := 14) (oi := ⟨_, _, _, _, _, _⟩) (v := ?_) rfl (by kernel_rfl) (by kernel_rfl) (by kernel_rfl) (fun _ _ _ h => h) (Or.inl ⟨by rfl, ?_⟩) hHeld ?_
  rotate_left
  · (intro w hSw; (try dsimp only at hSw); go_simp; try (with_reducible rfl))
  try simp only [Act.put, List.setIfInBounds_toArray, List.set_cons_zero, List.set_cons_succ]
  refine wpAnyH_take (i := 15) (oi := ⟨_, _, _, _, _, _⟩) (v := ?_) rfl (by kernel_rfl) (by kernel_rfl) (by kernel_rfl) (fun _ _ _ h => h) (Or.inl ⟨by rfl, ?_⟩) hHeld ?_
  rotate_left
  · (intro w hSw; (try dsimp only at hSw); go_simp; try (with_reducible rfl))
  try simp only [Act.put, List.setIfInBounds_toArray, List.set_cons_zero, List.set_cons_succ]
  refine wpAnyH_take (i := 16) (oi := ⟨_, _, _, _, _, _⟩) (v := ?_) rfl (by kernel_rfl) (by kernel_rfl) (by kernel_rfl) (fun _ _ _ h => h) (Or.inl ⟨by rfl, ?_⟩) hHeld ?_
  rotate_left
  · (intro w hSw; (try dsimp only at hSw); go_simp; try (with_reducible rfl))
  try simp only [Act.put, List.setIfInBounds_toArray, List.set_cons_zero, List.set_cons_succ]
  refine wpAnyH_take (i := 17) (oi := ⟨_, _, _, _, _, _⟩) (v := ?_) rfl (by kernel_rfl) (by kernel_rfl) (by kernel_rfl) (fun _ _ _ h => h) (Or.inl ⟨by rfl, ?_⟩) hHeld ?_
  rotate_left
  · (intro w hSw; (try dsimp only at hSw); go_simp; try (with_reducible rfl))
  try simp only [Act.put, List.setIfInBounds_toArray, List.set_cons_zero, List.set_cons_succ]
  refine wpAnyH_take (i := 18) (oi := ⟨_, _, _, _, _, _⟩) (v := ?_) rfl (by kernel_rfl) (by kernel_rfl) (by kernel_rfl) (fun _ _ _ h => h) (Or.inl ⟨by rfl, ?_⟩) hHeld ?_
  rotate_left
  · (intro w hSw; (try dsimp only at hSw); go_simp; try (with_reducible rfl))
  try simp only [Act.put, List.setIfInBounds_toArray, List.set_cons_zero, List.set_cons_succ]
  refine wpAnyH_ready (rs := [0]) (by kernel_rfl) (by simp) ?_
  refine (AllReadyH.cons (o := ⟨_, _, _, _, _, _⟩) rfl (fun K hK => ?_) AllReadyH.nil)
  go_simp
  refine hK.out _ _ ?_ ?_
  · (try dsimp only); exact ⟨K1, K2⟩
  clear hHeld hK K
  intro hHeld
  try simp only [Act.put, List.setIfInBounds_toArray, List.set_cons_zero, List.set_cons_succ]
  refine wpAnyH_ready (rs := [19]) (by kernel_rfl) (by simp) ?_
  refine (AllReadyH.cons (o := ⟨_, _, _, _, _, _⟩) rfl (fun K hK => ?_) AllReadyH.nil)
  refine step_append_pread rfl (.tmp 5) (.tmp 23) 24 rfl w.heap.size 38 i0 (.agg #[.int .i64 0, .int .i64 0]) 16 Try.underlying24 hi hz0 hz1 hz2 rfl _ 0 [] rfl hlit (some ⟨bx, off + k * 2, none⟩) (mkL (u - k) (fun i => f (k + i))) (u - k) (cx - k) rfl (by rw [mkL_length]) hpr (by unfold maxLen; omega) (by omega) (by show w.heap.size ≤ (w.drew.alloc _).heap.size; simp) ?_
  intro v w1 hown1 hgr1
  have hb1 : Below w.heap.size w w1 := (((below_drewN (Below.refl _ _) 1).alloc (Nat.le_refl _) _) : Below w.heap.size w (w.drew.alloc (.cells #[] 38))).grown hgr1 (by show w.heap.size ≤ (w.drew.alloc _).heap.size; simp) (fun q hq => (hlit.lt q hq).1)
  replace K1 := cellb hb1 c1
  replace K2 := cellb hb1 c2
  try simp only [List.nil_append, Nat.zero_add] at hown1
  obtain ⟨av, cv, rfl, hvc⟩ := own_room2 hown1
  have HO := hide hown1
  clear hown1 hgr1
  refine hK.out _ _ ?_ ?_
  · (try dsimp only); exact ⟨K1, K2⟩
  clear hHeld hK K
  intro hHeld
  try simp only [Act.put, List.setIfInBounds_toArray, List.set_cons_zero, List.set_cons_succ]
  refine wpAnyH_take (i := 20) (oi := ⟨_, _, _, _, _, _⟩) (v := ?_) rfl (by kernel_rfl) (by kernel_rfl) (by kernel_rfl) (fun _ _ _ h => h) (Or.inl ⟨by rfl, ?_⟩) hHeld ?_
  rotate_left
  · (intro w hSw; (try dsimp only at hSw); go_simp; try (with_reducible rfl))
  try simp only [Act.put, List.setIfInBounds_toArray, List.set_cons_zero, List.set_cons_succ]
  refine wpAnyH_done (by kernel_rfl) ?_ _
  go_wp2
  go_ret
  have hm' : u - k = m := by have := HU.out; omega
  refine ⟨.slice av (u - k) cv, rfl, ?_, hb1⟩
  have h := HO.out
  rw [hm'] at h ⊢
  exact h
set_option maxHeartbeats 2000000 in
theorem l3Fit_calls (b off m cap W' : Nat) (g : Nat → Int × Int) (w : World) (hg : RowR w b off m g) (h2 : 2 ≤ W') (h12 : W' ≤ 12) (hm : 0 < m) :
    Calls Try.prog 71 #[.slice (some ⟨b, off, none⟩) m cap, .int .i64 (W' : Int)] w fun e w' => ∃ bn cn, e = .returned (.slice (some ⟨bn, 0, none⟩) W' cn) ∧ W' ≤ cn ∧ w.heap.size ≤ bn ∧ bn < w'.heap.size ∧ Row w' bn 0 W' (fun x => if x < min m W' then g x else (32, 0)) ∧ Below w.heap.size w w' := by
  have hbl := hg.lt hm
  have HG := hide hg
  clear hg
  go_enter Try.func71, Try.ntmps71
  go_wp2_with fail
  refine (l3Blanks_calls W' 0 (by omega) w).mono ?_
  rintro e w1 ⟨v, rfl, ov, hb1⟩
  obtain ⟨bn, cn, rfl, hcn, _, u1, u2, hrv⟩ := own_row ov (by omega)
  have hs1 : w.heap.size ≤ w1.heap.size := hb1.size
  obtain ⟨w2, hrun, hr2, ht2⟩ := run_copy2 (P := Try.prog) w1 24 24 3 38 Try.underlying24 cell_size2 (some ⟨bn, 0, none⟩) (some ⟨b, off, none⟩) W' cn m cap (min m W') rfl bn 0 (fun _ => (32, 0)) (hrv.congr (fun i hi => rep_get _ _ _ hi)) (fun _ => rfl) b off g (fun i hi => (HG.out.below hb1 hbl) i (by omega)) (fun _ => rfl)
  have R2 := hide hr2
  have T2 := hide ht2
  have B1 := hide hb1
  clear hr2 ht2 hb1 hrv ov
  go_wp2
  go_ret
  exact ⟨bn, cn, rfl, hcn, u1, by have := T2.out.size; omega, R2.out, B1.out.trans (T2.out.below u1 hs1)⟩
theorem Touch.later {b p q : Nat} {a w w' : World} (h : Touch b p q a w) (hb : Below a.heap.size w w') (hl : b < a.heap.size) : Touch b p q a w' :=
  ⟨hb.os.trans h.os, hb.tape.trans h.tape, hb.output.trans h.output, Nat.le_trans h.size hb.size, fun k hk hn => (hb.block k hk).trans (h.block k hk hn), fun o ho => (hb.cell (p := ⟨b, o, none⟩) hl).trans (h.cell o ho), fun o => (hb.frozen (p := ⟨b, o, none⟩) hl).trans (h.frozen o)⟩

set_option maxHeartbeats 1000000 in
theorem l3Resize_calls (R W R' W' Hb N' M' : Nat) (r wd : Int) (cs bs : List (Int × Int)) (v1 v2 : Value) (w : World) (h1 : PRead w v1 cs) (h2 : PRead w v2 bs) (k1 : Capped v1) (k2 : Capped v2) (eR : r = (R : Int)) (eW : wd = (W : Int)) (p1 : 1 ≤ R) (p2 : R ≤ 6) (p3 : 2 ≤ W) (p4 : W ≤ 12) (p5 : 1 ≤ R') (p6 : R' ≤ 6) (p7 : 2 ≤ W') (p8 : W' ≤ 12) (p9 : Hb ≤ 5) (p10 : N' ≤ 72) (p11 : M' ≤ 60) (p12 : 0 < N')
    (n9 : cs.length ≤ 72) (n10 : bs.length ≤ 60) (e1 : cs.length = R * W) (e2 : bs.length = Hb * W) (e4 : N' = R' * W') (e5 : M' = Hb * W') :
    Calls Try.prog 40 #[.agg #[.int .i64 r, .int .i64 wd, v1, v2], .int .i64 (R' : Int), .int .i64 (W' : Int)] w fun e w' => ∃ v5 v6, e = .returned (.agg #[.int .i64 (R' : Int), .int .i64 (W' : Int), v5, v6]) ∧ GOwn w.heap.size w'.heap.size w' v5 v6 (mkL N' (fitF W W' (min R' R) (fun i => cs.getD i (0, 0)) (32, 0))) (mkL M' (fitF W W' Hb (fun i => bs.getD i (0, 0)) (32, 0))) ∧ Below w.heap.size w w' := by
  obtain ⟨i0, hi, hz0, hz1, hz2⟩ := info_parts info_cell
  have h1' := h1
  obtain ⟨a1, c1, rfl, hx1⟩ := h1'
  have h2' := h2
  obtain ⟨a2, c2, rfl, hx2⟩ := h2'
  have hcl : 0 < cs.length := by rw [e1]; exact Nat.mul_pos (by omega) (by omega)
  obtain ⟨bx, off, rfl, hx⟩ : ∃ bx off, a1 = some ⟨bx, off, none⟩ ∧ RowR w bx off cs.length (fun i => cs.getD i (0, 0)) := by
    rcases hx1 with hx1 | ⟨bx, off, hx1, hx⟩
    · rw [hx1] at hcl; simp at hcl
    · exact ⟨bx, off, hx1, hx⟩
  obtain ⟨by', off2, hy, hya⟩ : ∃ by' off2, RowR w by' off2 bs.length (fun i => bs.getD i (0, 0)) ∧ (0 < bs.length → a2 = some ⟨by', off2, none⟩) := by
    rcases hx2 with hx2 | ⟨by', off2, hx2, hx⟩
    · exact ⟨0, 0, fun i hi => by rw [hx2] at hi; simp at hi, fun h => by rw [hx2] at h; simp at h⟩
    · exact ⟨by', off2, hx, fun _ => hx2⟩
  have hbx := hx.lt hcl
  have hc1 : cs.length ≤ c1 := k1 _ _ _ rfl
  have hc2 : bs.length ≤ c2 := k2 _ _ _ rfl
  clear k1 k2
  have hyl : 0 < bs.length → by' < w.heap.size := fun h => hy.lt h
  have HX := hide hx
  have HY := hide hy
  have HYA := hide hya
  have HYL := hide hyl
  have E1 := hide e1
  have E2 := hide e2
  have E4 := hide e4
  have E5 := hide e5
  have hmul : (R' : Int) * (W' : Int) = (N' : Int) := by rw [e4, Int.natCast_mul]
  have HMU := hide hmul
  have hmn : min (R' : Int) (R : Int) = ((min R' R : Nat) : Int) := by omega
  have HMN := hide hmn
  subst eR
  subst eW
  clear hx hx1 hx2 hy hya hyl e1 e2 e4 e5 hmul hmn h1 h2
  have hb0 : Below w.heap.size w ((w.alloc (.cells #[.int .i64 (R : Int), .int .i64 (W : Int), .slice (some ⟨bx, off, none⟩) cs.length c1, .slice a2 bs.length c2] 26)).alloc (.cells #[.int .i64 0, .int .i64 0, .slice none 0 0, .slice none 0 0] 26)) := (by repeat' (first | with_reducible exact Below.refl _ _ | with_reducible assumption | with_reducible refine Below.drew ?_ | with_reducible refine Below.alloc ?_ ?_ _ | with_reducible refine Below.setCell ?_ ?_ _ | (simp; done) | (simp; omega) | omega))
  go_enter Try.func40, Try.ntmps40
  go_wp2_with fail
  refine (l3New_calls (R' : Int) (W' : Int) N' HMU.out p12 (by omega) _).mono ?_
  rintro e w1 ⟨bo, co, rfl, hco, o1, o2, hro, hb1⟩
  have A0 : w1.cell? ⟨w.heap.size, 0, none⟩ = some (.int .i64 (R : Int)) := cellb hb1 (by simp [go_sem])
  have A1 : w1.cell? ⟨w.heap.size, 1, none⟩ = some (.int .i64 (W : Int)) := cellb hb1 (by simp [go_sem])
  have A2 : w1.cell? ⟨w.heap.size, 2, none⟩ = some (.slice (some ⟨bx, off, none⟩) cs.length c1) := cellb hb1 (by simp [go_sem])
  have A3 : w1.cell? ⟨w.heap.size, 3, none⟩ = some (.slice a2 bs.length c2) := cellb hb1 (by simp [go_sem])
  have R0 : w1.cell? ⟨w.heap.size + 1, 0, none⟩ = some (.int .i64 0) := cellb hb1 (by simp [go_sem])
  have Z0 : w1.frozen? ⟨w.heap.size + 1, 0, none⟩ = false := by rw [hb1.frozen (p := ⟨w.heap.size + 1, 0, none⟩) (by simp)]; simp [go_sem]
  have R1 : w1.cell? ⟨w.heap.size + 1, 1, none⟩ = some (.int .i64 0) := cellb hb1 (by simp [go_sem])
  have Z1 : w1.frozen? ⟨w.heap.size + 1, 1, none⟩ = false := by rw [hb1.frozen (p := ⟨w.heap.size + 1, 1, none⟩) (by simp)]; simp [go_sem]
  have R2 : w1.cell? ⟨w.heap.size + 1, 2, none⟩ = some (.slice none 0 0) := cellb hb1 (by simp [go_sem])
  have Z2 : w1.frozen? ⟨w.heap.size + 1, 2, none⟩ = false := by rw [hb1.frozen (p := ⟨w.heap.size + 1, 2, none⟩) (by simp)]; simp [go_sem]
  have R3 : w1.cell? ⟨w.heap.size + 1, 3, none⟩ = some (.slice none 0 0) := cellb hb1 (by simp [go_sem])
  have Z3 : w1.frozen? ⟨w.heap.size + 1, 3, none⟩ = false := by rw [hb1.frozen (p := ⟨w.heap.size + 1, 3, none⟩) (by simp)]; simp [go_sem]
  have hs1 : w.heap.size + 2 ≤ w1.heap.size := by have := hb1.size; simp at this; omega
  have o1' : w.heap.size + 2 ≤ bo := by simpa using o1
  have b1 : Below w.heap.size w w1 := hb0.trans (hb1.mono (by simp; omega))
  have HRO := hide hro
  clear hb1 hb0 hro o1
  have hb3 : Below w1.heap.size w1 (w1.alloc (.cells #[.int .i64 (R' : Int), .int .i64 (W' : Int), .slice (some ⟨bo, 0, none⟩) N' co, .slice none 0 0] 26)) := (by repeat' (first | with_reducible exact Below.refl _ _ | with_reducible assumption | with_reducible refine Below.drew ?_ | with_reducible refine Below.alloc ?_ ?_ _ | with_reducible refine Below.setCell ?_ ?_ _ | (simp; done) | (simp; omega) | omega))
  have O0 : (w1.alloc (.cells #[.int .i64 (R' : Int), .int .i64 (W' : Int), .slice (some ⟨bo, 0, none⟩) N' co, .slice none 0 0] 26)).cell? ⟨w1.heap.size, 0, none⟩ = some (.int .i64 (R' : Int)) := by simp [go_sem]
  have O1 : (w1.alloc (.cells #[.int .i64 (R' : Int), .int .i64 (W' : Int), .slice (some ⟨bo, 0, none⟩) N' co, .slice none 0 0] 26)).cell? ⟨w1.heap.size, 1, none⟩ = some (.int .i64 (W' : Int)) := by simp [go_sem]
  have O2 : (w1.alloc (.cells #[.int .i64 (R' : Int), .int .i64 (W' : Int), .slice (some ⟨bo, 0, none⟩) N' co, .slice none 0 0] 26)).cell? ⟨w1.heap.size, 2, none⟩ = some (.slice (some ⟨bo, 0, none⟩) N' co) := by simp [go_sem]
  have O3 : (w1.alloc (.cells #[.int .i64 (R' : Int), .int .i64 (W' : Int), .slice (some ⟨bo, 0, none⟩) N' co, .slice none 0 0] 26)).cell? ⟨w1.heap.size, 3, none⟩ = some (.slice none 0 0) := by simp [go_sem]
  have ZO : (w1.alloc (.cells #[.int .i64 (R' : Int), .int .i64 (W' : Int), .slice (some ⟨bo, 0, none⟩) N' co, .slice none 0 0] 26)).frozen? ⟨w1.heap.size, 3, none⟩ = false := by simp [go_sem]
  have hs3 : (w1.alloc (.cells #[.int .i64 (R' : Int), .int .i64 (W' : Int), .slice (some ⟨bo, 0, none⟩) N' co, .slice none 0 0] 26)).heap.size = w1.heap.size + 1 := by simp
  go_wp2
  generalize (w1.alloc (.cells #[.int .i64 (R' : Int), .int .i64 (W' : Int), .slice (some ⟨bo, 0, none⟩) N' co, .slice none 0 0] 26)) = w3 at *
  replace A0 := cellb hb3 A0
  replace A1 := cellb hb3 A1
  replace A2 := cellb hb3 A2
  replace A3 := cellb hb3 A3
  replace R0 := cellb hb3 R0
  replace R1 := cellb hb3 R1
  replace R2 := cellb hb3 R2
  replace R3 := cellb hb3 R3
  replace Z0 : w3.frozen? ⟨w.heap.size + 1, 0, none⟩ = false := by rw [hb3.frozen (p := ⟨w.heap.size + 1, 0, none⟩) (by simp; omega)]; exact Z0
  replace Z1 : w3.frozen? ⟨w.heap.size + 1, 1, none⟩ = false := by rw [hb3.frozen (p := ⟨w.heap.size + 1, 1, none⟩) (by simp; omega)]; exact Z1
  replace Z2 : w3.frozen? ⟨w.heap.size + 1, 2, none⟩ = false := by rw [hb3.frozen (p := ⟨w.heap.size + 1, 2, none⟩) (by simp; omega)]; exact Z2
  replace Z3 : w3.frozen? ⟨w.heap.size + 1, 3, none⟩ = false := by rw [hb3.frozen (p := ⟨w.heap.size + 1, 3, none⟩) (by simp; omega)]; exact Z3
  have b3 := b1.trans (hb3.mono b1.size)
  replace HRO := hide (HRO.out.below hb3 o2)
  clear hb3 b1
  have obn : w1.heap.size ≠ bo := by omega
  go_loopw [8] (fun i wr => ∃ k : Nat, k ≤ min R' R ∧ i = .int .i64 k ∧ Hid (Touch bo 0 (N' * 2) w3 wr) ∧ Hid (Row wr bo 0 N' (fitF W W' k (fun i => cs.getD i (0, 0)) (32, 0)))) (fun i _ => R' - (intOf i).toNat)
  case atStart => exact ⟨0, Nat.zero_le _, rfl, hide (Touch.refl _ _ _ _), hide (HRO.out.congr (fun i _ => fitF_zero W W' _ (32, 0) i))⟩
  case round =>
    obtain ⟨k, hk, rfl, ht, hrow⟩ := hrel
    have B0 := ht.out.cellAt A0 (by omega)
    have B1 := ht.out.cellAt A1 (by omega)
    have B2 := ht.out.cellAt A2 (by omega)
    have P1 := ht.out.cellAt O1 (by omega)
    have P2 := ht.out.cellAt O2 (by omega)
    have hsr : w3.heap.size ≤ wr.heap.size := ht.out.size
    go_wp2_with fail
    refine (l1Min_calls _ _ wr).mono ?_
    rintro e w' ⟨rfl, hw⟩
    rw [hw, HMN.out]
    clear hw w'
    by_cases hlt : k < min R' R
    · have hltI : (k : Int) < ((min R' R : Nat) : Int) := by omega
      have hKW : k * W' + W' ≤ N' := by
        have h := Nat.mul_le_mul_right W' (show k + 1 ≤ R' by omega)
        rw [Nat.add_mul, Nat.one_mul, ← E4.out] at h
        exact h
      have hKm : k * W + W ≤ cs.length := by
        have h := Nat.mul_le_mul_right W (show k + 1 ≤ R by omega)
        rw [Nat.add_mul, Nat.one_mul, ← E1.out] at h
        exact h
      have XR := hide ((HX.out.below b3 (by omega)).touch ht.out (.inl (by omega)))
      go_wp2_with fail
      refine (l3RowOf_off w.heap.size bx off cs.length c1 (k * W) W (k * W + W) (k : Int) (W : Int) _ wr B1 B2 XR.out hc1 (by rw [Int.natCast_mul]) rfl rfl hKm (by omega) (by omega) (by omega) (by omega)).mono ?_
      rintro e w4 ⟨v, rfl, ov, hb4⟩
      obtain ⟨br, cr, rfl, hcr, _, u1, u2, hrv⟩ := own_row ov (by omega)
      have rv := hide (hrv.congr (fun i hi => mkL_get _ _ _ hi))
      have hs4 : wr.heap.size ≤ w4.heap.size := hb4.size
      have T4 := hide (ht.out.trans (Touch.of_below hb4 (Nat.le_refl _) (by omega)))
      have R4 := hide (hrow.out.below hb4 (by omega))
      clear hrv ov hb4 ht hrow XR B0 B1 B2 P1 P2
      go_wp2_with fail
      refine (l3Fit_calls br 0 W cr W' _ w4 rv.out.read p7 p8 (by omega)).mono ?_
      rintro e w5 ⟨bn, cn, rfl, hcn, v1, v2, hrn, hb5⟩
      have hs5 : w4.heap.size ≤ w5.heap.size := hb5.size
      have T5 := hide (T4.out.trans (Touch.of_below hb5 (Nat.le_refl _) (by omega)))
      have R5 := hide (R4.out.below hb5 (by omega))
      have RN := hide hrn
      clear hrn hb5 T4 R4 rv
      have P1 := T5.out.cellAt O1 (by omega)
      have P2 := T5.out.cellAt O2 (by omega)
      go_wp2_with fail
      refine (l3Row_calls w1.heap.size bo N' co (k * W') W' (k * W' + W') bn W' cn W' (k : Int) (W' : Int) _ _ w5 P1 P2 R5.out hco obn RN.out.read (by rw [Int.natCast_mul]) rfl rfl hKW (by omega) (by omega) (by omega) (by omega) (by omega)).mono ?_
      rintro e w6 ⟨⟨u6, rfl⟩, hr6, ht6⟩
      have R6 := hide (hr6.congr (fun i _ => fitF_step2 (show 0 < W' by omega) i))
      have T6 := hide (T5.out.trans ht6)
      clear hr6 ht6 T5 R5 RN P1 P2
      go_wp2
      go_roundw
      case rel => exact ⟨k + 1, by omega, by go_num, T6, R6⟩
      case measure => simp [intOf]; omega
    · obtain rfl : k = min R' R := by omega
      have hge : ¬ (((min R' R : Nat) : Int) < ((min R' R : Nat) : Int)) := by omega
      obtain ⟨wo, hwo⟩ : ∃ wo, wo = wr := ⟨_, rfl⟩
      subst hwo
      replace A0 := ht.out.cellAt A0 (by omega)
      replace A1 := ht.out.cellAt A1 (by omega)
      replace A2 := ht.out.cellAt A2 (by omega)
      replace A3 := ht.out.cellAt A3 (by omega)
      replace R0 := ht.out.cellAt R0 (by omega)
      replace R1 := ht.out.cellAt R1 (by omega)
      replace R2 := ht.out.cellAt R2 (by omega)
      replace R3 := ht.out.cellAt R3 (by omega)
      replace O0 := ht.out.cellAt O0 (by omega)
      replace O1 := ht.out.cellAt O1 (by omega)
      replace O2 := ht.out.cellAt O2 (by omega)
      replace O3 := ht.out.cellAt O3 (by omega)
      replace Z0 := ht.out.frozenAt (by omega) Z0
      replace Z1 := ht.out.frozenAt (by omega) Z1
      replace Z2 := ht.out.frozenAt (by omega) Z2
      replace Z3 := ht.out.frozenAt (by omega) Z3
      replace ZO := ht.out.frozenAt (by omega) ZO
      have br' : Below w.heap.size w wo := b3.trans (ht.out.below (by omega) (by omega))
      clear B0 B1 B2 P1 P2 ht HRO b3
      go_wp2
      go_loopw [9] (fun i wr => ∃ (k : Nat) (v : Value), k ≤ Hb ∧ i = .int .i64 ((k * W : Nat) : Int) ∧ Hid (Touch w1.heap.size 3 4 wo wr) ∧ wr.cell? ⟨w1.heap.size, 3, none⟩ = some v ∧ Hid (wr.ownsRow wo.heap.size 38 2 v (k * W') (pvs (mkL (k * W') (fitF W W' Hb (fun i => bs.getD i (0, 0)) (32, 0)))))) (fun i _ => bs.length - (intOf i).toNat)
      case atStart => exact ⟨0, .slice none 0 0, Nat.zero_le _, by rw [Nat.zero_mul]; rfl, hide (Touch.refl _ _ _ _), O3, hide (by rw [Nat.zero_mul]; exact World.ownsRow_nil _ _ _ _)⟩
      case round =>
        obtain ⟨k, v, hk, rfl, ht, C3, hown⟩ := hrel
        have B1 := ht.out.cellAt A1 (by omega)
        have B3 := ht.out.cellAt A3 (by omega)
        have hsq : wo.heap.size ≤ wr.heap.size := ht.out.size
        by_cases hlt : k < Hb
        · obtain ⟨av, cv, rfl, hcv⟩ := own_room2 hown.out
          have hKm : k * W + W ≤ bs.length := by
            have h := Nat.mul_le_mul_right W (show k + 1 ≤ Hb by omega)
            rw [Nat.add_mul, Nat.one_mul, ← E2.out] at h
            exact h
          have hKW : k * W' + W' ≤ M' := by
            have h := Nat.mul_le_mul_right W' (show k + 1 ≤ Hb by omega)
            rw [Nat.add_mul, Nat.one_mul, ← E5.out] at h
            exact h
          obtain rfl := HYA.out (by omega)
          have hyb := HYL.out (by omega)
          obtain ⟨q, hq⟩ : ∃ q, q = k * W := ⟨_, rfl⟩
          have hqs : (k + 1) * W = q + W := by rw [hq, Nat.add_mul, Nat.one_mul]
          rw [← hq] at hKm ⊢
          have hqI : (q : Int) < (bs.length : Int) := by omega
          obtain ⟨u, hu⟩ : ∃ u, u = q + W := ⟨_, rfl⟩
          have z1 : IntKind.i64.wrap ((q : Int) + (W : Int)) = (u : Int) := by rw [wrap_small (by omega) (by omega)]; omega
          have z2 : (q : Int) ≤ (u : Int) := by omega
          have z3 : (u : Int) ≤ (c2 : Int) := by omega
          have z4 : ¬ c2 = q := by omega
          have z5 : ¬ q = c2 := by omega
          have z6 : u - q = W := by omega
          have z7 : q ≤ u := by omega
          have z8 : u ≤ c2 := by omega
          have HU := hide hu
          clear hu
          have HQ := hide hq
          have HQS := hide hqs
          clear hq hqs
          have YR := hide (((HY.out.below br' hyb).touch ht.out (.inl (by omega))).sub q W hKm)
          have ZB := ht.out.frozenAt (by omega) ZO
          go_wp2_with fail
          refine till_region [14] (S := (fun w' => w'.cell? ⟨w1.heap.size, 3, none⟩ = some (.slice av (k * W') cv) ∧ w'.cell? ⟨w.heap.size, 3, none⟩ = some (.slice (some ⟨by', off2, none⟩) bs.length c2) ∧ w'.cell? ⟨w.heap.size, 1, none⟩ = some (.int .i64 (W : Int)))) (by kernel_rfl) ?_ (fun hHeld => ?_)
          · (try dsimp only); exact ⟨C3, B3, B1⟩
          refine till_take (i := 0) (oi := ⟨_, _, _, _, _, _⟩) (v := ?_) rfl (by kernel_rfl) (by kernel_rfl) (by kernel_rfl) (by kernel_rfl) (fun _ _ _ h => h) (Or.inl ⟨by rfl, ?_⟩) hHeld ?_
          rotate_left
          · (intro w hSw; (try dsimp only at hSw); go_simp; try (with_reducible rfl))
          try simp only [Act.put, List.setIfInBounds_toArray, List.set_cons_zero, List.set_cons_succ]
          refine till_take (i := 1) (oi := ⟨_, _, _, _, _, _⟩) (v := ?_) rfl (by kernel_rfl) (by kernel_rfl) (by kernel_rfl) (by kernel_rfl) (fun _ _ _ h => h) (Or.inl ⟨by rfl, ?_⟩) hHeld ?_
          rotate_left
          · (intro w hSw; (try dsimp only at hSw); go_simp; try (with_reducible rfl))
          try simp only [Act.put, List.setIfInBounds_toArray, List.set_cons_zero, List.set_cons_succ]
          refine till_take (i := 2) (oi := ⟨_, _, _, _, _, _⟩) (v := ?_) rfl (by kernel_rfl) (by kernel_rfl) (by kernel_rfl) (by kernel_rfl) (fun _ _ _ h => h) (Or.inl ⟨by rfl, ?_⟩) hHeld ?_
          rotate_left
          · (intro w hSw; (try dsimp only at hSw); go_simp; try (with_reducible rfl))
          try simp only [Act.put, List.setIfInBounds_toArray, List.set_cons_zero, List.set_cons_succ]
          refine till_take (i := 3) (oi := ⟨_, _, _, _, _, _⟩) (v := ?_) rfl (by kernel_rfl) (by kernel_rfl) (by kernel_rfl) (by kernel_rfl) (fun _ _ _ h => h) (Or.inl ⟨by rfl, ?_⟩) hHeld ?_
          rotate_left
          · (intro w hSw; (try dsimp only at hSw); go_simp; try (with_reducible rfl))
          try simp only [Act.put, List.setIfInBounds_toArray, List.set_cons_zero, List.set_cons_succ]
          refine till_take (i := 4) (oi := ⟨_, _, _, _, _, _⟩) (v := ?_) rfl (by kernel_rfl) (by kernel_rfl) (by kernel_rfl) (by kernel_rfl) (fun _ _ _ h => h) (Or.inl ⟨by rfl, ?_⟩) hHeld ?_
          rotate_left
          · (intro w hSw; (try dsimp only at hSw); go_simp; try (with_reducible rfl))
          try simp only [Act.put, List.setIfInBounds_toArray, List.set_cons_zero, List.set_cons_succ]
          refine till_take (i := 5) (oi := ⟨_, _, _, _, _, _⟩) (v := ?_) rfl (by kernel_rfl) (by kernel_rfl) (by kernel_rfl) (by kernel_rfl) (fun _ _ _ h => h) (Or.inl ⟨by rfl, ?_⟩) hHeld ?_
          rotate_left
          · (intro w hSw; (try dsimp only at hSw); go_simp; try (with_reducible rfl))
          try simp only [Act.put, List.setIfInBounds_toArray, List.set_cons_zero, List.set_cons_succ]
          refine till_take (i := 6) (oi := ⟨_, _, _, _, _, _⟩) (v := ?_) rfl (by kernel_rfl) (by kernel_rfl) (by kernel_rfl) (by kernel_rfl) (fun _ _ _ h => h) (Or.inl ⟨by rfl, ?_⟩) hHeld ?_
          rotate_left
          · (intro w hSw; (try dsimp only at hSw); go_simp; try (with_reducible rfl))
          try simp only [Act.put, List.setIfInBounds_toArray, List.set_cons_zero, List.set_cons_succ]
          refine till_take (i := 7) (oi := ⟨_, _, _, _, _, _⟩) (v := ?_) rfl (by kernel_rfl) (by kernel_rfl) (by kernel_rfl) (by kernel_rfl) (fun _ _ _ h => h) (Or.inl ⟨by rfl, ?_⟩) hHeld ?_
          rotate_left
          · (intro w hSw; (try dsimp only at hSw); go_simp; try (with_reducible rfl))
          try simp only [Act.put, List.setIfInBounds_toArray, List.set_cons_zero, List.set_cons_succ]
          refine till_take (i := 8) (oi := ⟨_, _, _, _, _, _⟩) (v := ?_) rfl (by kernel_rfl) (by kernel_rfl) (by kernel_rfl) (by kernel_rfl) (fun _ _ _ h => h) (Or.inl ⟨by rfl, ?_⟩) hHeld ?_
          rotate_left
          · (intro w hSw; (try dsimp only at hSw); go_simp; try (with_reducible rfl))
          try simp only [Act.put, List.setIfInBounds_toArray, List.set_cons_zero, List.set_cons_succ]
          refine till_take (i := 9) (oi := ⟨_, _, _, _, _, _⟩) (v := ?_) rfl (by kernel_rfl) (by kernel_rfl) (by kernel_rfl) (by kernel_rfl) (fun _ _ _ h => h) (Or.inl ⟨by rfl, ?_⟩) hHeld ?_
          rotate_left
          · (intro w hSw; (try dsimp only at hSw); go_simp; try (with_reducible rfl))
          try simp only [Act.put, List.setIfInBounds_toArray, List.set_cons_zero, List.set_cons_succ]
          refine till_take (i := 10) (oi := ⟨_, _, _, _, _, _⟩) (v := ?_) rfl (by kernel_rfl) (by kernel_rfl) (by kernel_rfl) (by kernel_rfl) (fun _ _ _ h => h) (Or.inl ⟨by rfl, ?_⟩) hHeld ?_
          rotate_left
          · (intro w hSw; (try dsimp only at hSw); go_simp; try (with_reducible rfl))
          try simp only [Act.put, List.setIfInBounds_toArray, List.set_cons_zero, List.set_cons_succ]
          refine till_ready (rs := [11]) (by kernel_rfl) (by simp) ?_
          refine (EachTill.cons (o := ⟨_, _, _, _, _, _⟩) rfl (fun K hK => ?_) EachTill.nil)
          go_simp
          go_at_call 71
          (try rw [z6])
          refine (l3Fit_calls by' (off2 + q * 2) W _ W' (fun i => bs.getD (q + i) (0, 0)) wr.drew (show RowR wr.drew _ _ _ _ from YR.out) p7 p8 (by omega)).mono ?_
          rintro e w5 ⟨bn, cn, rfl, hcn, v1, v2, hrn, hb5⟩
          replace hb5 : Below wr.heap.size wr w5 := (below_drewN (Below.refl _ _) 1).trans hb5
          replace v1 : wr.heap.size ≤ bn := v1
          have hs5 : wr.heap.size ≤ w5.heap.size := hb5.size
          have K3 := cellb hb5 C3
          have K4 := cellb hb5 B3
          have K5 := cellb hb5 B1
          have K6 : w5.frozen? ⟨w1.heap.size, 3, none⟩ = false := by rw [hb5.frozen (p := ⟨w1.heap.size, 3, none⟩) (by simp; omega)]; exact ZB
          have T5 := hide (ht.out.later (hb5.mono hsq) (by omega))
          have O5 := hide (own_below hown.out hb5)
          have RN := hide hrn
          clear hrn hb5 ht hown YR
          try go_wp2_with fail
          refine hK.out _ _ ?_ ?_
          · (try dsimp only); exact ⟨K3, K4, K5⟩
          clear hHeld hK K
          intro hHeld
          try simp only [Act.put, List.setIfInBounds_toArray, List.set_cons_zero, List.set_cons_succ]
          refine till_ready (rs := [12]) (by kernel_rfl) (by simp) ?_
          refine (EachTill.cons (o := ⟨_, _, _, _, _, _⟩) rfl (fun K hK => ?_) EachTill.nil)
          refine step_append_pread rfl (.tmp 37) (.tmp 47) 24 rfl wo.heap.size 38 i0 (.agg #[.int .i64 0, .int .i64 0]) 16 Try.underlying24 hi hz0 hz1 hz2 rfl _ (k * W') _ rfl O5.out (some ⟨bn, 0, none⟩) (mkL W' (fun x => if x < min W W' then bs.getD (q + x) (0, 0) else (32, 0))) W' cn rfl (by rw [mkL_length]) (pread_of_row RN.out.read) (by unfold maxLen; omega) (by omega) (by omega) ?_
          intro v6 w6 o6 g6
          have hb6 : Below wo.heap.size w5 w6 := (Below.refl _ _).grown g6 (by omega) (fun j hj => (O5.out.lt j hj).1)
          have hs6 : w5.heap.size ≤ w6.heap.size := hb6.size
          replace K3 := cellk hb6 (by omega) K3
          replace K4 := cellk hb6 (by omega) K4
          replace K5 := cellk hb6 (by omega) K5
          replace K6 : w6.frozen? ⟨w1.heap.size, 3, none⟩ = false := by rw [hb6.frozen (p := ⟨w1.heap.size, 3, none⟩) (by simp; omega)]; exact K6
          have T6 := hide (T5.out.later hb6 (by omega))
          have O6 := hide o6
          obtain ⟨a6, c6, rfl, hc6⟩ := own_room2 o6
          clear o6 g6 hb6 T5 O5 RN
          refine hK.out _ _ ?_ ?_
          · (try dsimp only); exact ⟨K3, K4, K5⟩
          clear hHeld hK K
          intro hHeld
          try simp only [Act.put, List.setIfInBounds_toArray, List.set_cons_zero, List.set_cons_succ]
          refine till_take (i := 13) (oi := ⟨_, _, _, _, _, _⟩) (v := ?_) rfl (by kernel_rfl) (by kernel_rfl) (by kernel_rfl) (by kernel_rfl) (fun _ _ _ h => h) (Or.inl ⟨by rfl, ?_⟩) hHeld ?_
          rotate_left
          · (intro w hSw; (try dsimp only at hSw); go_simp; try (with_reducible rfl))
          try simp only [Act.put, List.setIfInBounds_toArray, List.set_cons_zero, List.set_cons_succ]
          refine till_ready (rs := [14]) (by kernel_rfl) (by simp) ?_
          refine (EachTill.last (o := ⟨_, _, _, _, _, _⟩) rfl rfl (fun K hK => ?_) EachTill.nil)
          go_simp
          have T9 := hide (T6.out.setCell (o := 3) (by omega) (by omega) (.slice a6 (k * W' + W') c6))
          have C9 := World.cell?_setCell_same w6 ⟨w1.heap.size, 3, none⟩ (.slice a6 (k * W' + W') c6) K3
          have O9 : Hid ((w6.setCell ⟨w1.heap.size, 3, none⟩ (.slice a6 (k * W' + W') c6)).ownsRow wo.heap.size 38 2 (.slice a6 (k * W' + W') c6) ((k + 1) * W') (pvs (mkL ((k + 1) * W') (fitF W W' Hb (fun i => bs.getD i (0, 0)) (32, 0))))) := hide (by
            have h := own_setCell (b := w1.heap.size) (o := 3) (u := .slice a6 (k * W' + W') c6) O6.out (fun e => by have := (O6.out.lt _ e.symm).1; omega)
            rw [HQ.out, fitF_more (by omega) hlt] at h
            rw [show (k + 1) * W' = k * W' + W' by rw [Nat.add_mul, Nat.one_mul]] at h ⊢
            exact h)
          generalize (w6.setCell ⟨w1.heap.size, 3, none⟩ (.slice a6 (k * W' + W') c6)) = w9 at *
          have B9 := T9.out.cellAt A1 (by omega)
          clear T6 O6 K3 K4 K5 K6
          refine hK.out _ _ ?_ ?_
          · (try dsimp only); skip
          clear hHeld hK K
          intro hHeld
          try simp only [Act.put, List.setIfInBounds_toArray, List.set_cons_zero, List.set_cons_succ]
          refine till_done (by kernel_rfl) ?_ _
          clear hHeld
          have hend : (u : Int) = (((k + 1) * W : Nat) : Int) := by rw [HQS.out, HU.out]
          have HEND := hide hend
          clear hend
          go_wp2
          go_roundw
          case rel => exact ⟨k + 1, _, by omega, by first | (rw [HEND.out]; done) | (rw [HEND.out]) | (rw [← HEND.out]; go_num), T9, C9, O9⟩
          case measure => simp [intOf]; omega
        · obtain rfl : k = Hb := by omega
          have hle : bs.length = k * W := E2.out
          obtain ⟨q, hq⟩ : ∃ q, q = k * W := ⟨_, rfl⟩
          rw [← hq]
          have hge : ¬ ((q : Int) < (bs.length : Int)) := by omega
          clear hle hq
          obtain ⟨av, cv, rfl, hcv⟩ := own_room2 hown.out
          replace R0 := ht.out.cellAt R0 (by omega)
          replace R1 := ht.out.cellAt R1 (by omega)
          replace R2 := ht.out.cellAt R2 (by omega)
          replace R3 := ht.out.cellAt R3 (by omega)
          replace O0 := ht.out.cellAt O0 (by omega)
          replace O1 := ht.out.cellAt O1 (by omega)
          replace O2 := ht.out.cellAt O2 (by omega)
          replace Z0 := ht.out.frozenAt (by omega) Z0
          replace Z1 := ht.out.frozenAt (by omega) Z1
          replace Z2 := ht.out.frozenAt (by omega) Z2
          replace Z3 := ht.out.frozenAt (by omega) Z3
          have bq : Below w.heap.size w wr := br'.trans (ht.out.below (by omega) (by omega))
          have RQ := hide (hrow.out.touch ht.out (by omega))
          have TQ := hide ht.out
          clear ht O3 B1
          have hr := res4 (w := wr) (r := w.heap.size + 1) (.int .i64 (R' : Int)) (.int .i64 (W' : Int)) (.slice (some ⟨bo, 0, none⟩) N' co) (.slice av (k * W') cv) R0 R1 R2 R3
          go_wp2
          refine bodyPost_ret (v := .agg #[.int .i64 (R' : Int), .int .i64 (W' : Int), .slice (some ⟨bo, 0, none⟩) N' co, .slice av (k * W') cv]) (by simp only [results, Try.results40]; simp [go_sem, hr.1, hr.2.1, hr.2.2.1, hr.2.2.2]) rfl ⟨_, _, rfl, ?_, bq.trans (show Below w.heap.size wr _ from (by repeat' (first | with_reducible exact Below.refl _ _ | with_reducible assumption | with_reducible refine Below.drew ?_ | with_reducible refine Below.alloc ?_ ?_ _ | with_reducible refine Below.setCell ?_ ?_ _ | (simp; done) | (simp; omega) | omega)))⟩
          rw [E5.out]
          refine (gown_of (w := wr) (base := w.heap.size + 2) (m := wo.heap.size) RQ.out (by omega) (by omega) (by rw [mkL_length]; exact hown.out) (by omega) (by omega) (by simp [World.setCell]) (fun j _ => ?_) (by omega)).mono (by omega) (Nat.le_refl _)
          by_cases hj : j < w.heap.size + 2
          · exact .inr hj
          · left
            simp only [World.setCell, Array.getElem?_modify]
            repeat rw [if_neg (by omega)]
end Go.Proofs.Ytbndncfkkhjkoab
