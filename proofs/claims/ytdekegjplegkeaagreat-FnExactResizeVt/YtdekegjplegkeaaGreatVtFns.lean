/-
  The laws' functions on terminals: toVt, szVt, eqVt.
-/
import Derived.Test.YtdekegjplegkeaaGreatVtMem
import Derived.Test.YtdekegjplegkeaaGreatParFns
import Derived.Test.YtdekegjplegkeaaGreatFaults
namespace Go.Proofs.YtdekegjplegkeaaGreat
set_option maxRecDepth 20000
open Go.ChangeShapes Go.WideShapes Go.ChangeAt Go.RowKit
set_option linter.unusedVariables false
set_option linter.unusedSimpArgs false
set_option maxRecDepth 20000

set_option maxHeartbeats 1000000 in
theorem szVt_calls (t : VtS) (u v1 v2 v3 v4 : Value) (L : Int) (hL : 0 ≤ L) (hL2 : L ≤ 1048576) (w : World) (h : VRead w t u v1 v2 v3 v4) (hm0 : t.ns.length ≤ maxLen) (hm1 : t.s.cs.length ≤ maxLen) (hm2 : t.s.bs.length ≤ maxLen) (hm3 : t.s.tabs.length ≤ maxLen) (hm4 : t.s.sets.length ≤ maxLen) :
    Calls Tryz.prog 26 #[.agg (vtA t u v1 v2 v3 v4), .int .i64 L] w fun e w' => e = .returned (.int .i64 (if (t.ns.length : Int) + t.s.cs.length + t.s.bs.length + t.s.tabs.length + t.s.sets.length ≤ L then L - t.ns.length - t.s.cs.length - t.s.bs.length - t.s.tabs.length - t.s.sets.length else -1)) ∧ Below w.heap.size w w' := by
  have h' := h
  obtain ⟨a0, c0, rfl, _⟩ := h'.p
  clear h'
  have bel0 : Below w.heap.size w (w.alloc (.cells (vtA t (.slice a0 t.ns.length c0) v1 v2 v3 v4) 64)) := (Below.refl _ w).alloc (Nat.le_refl _) _
  have B0 := Blk.new w (vtA t (.slice a0 t.ns.length c0) v1 v2 v3 v4) 64
  go_enter Tryz.func26, Tryz.ntmps26
  go_wp2_with (first | fail | (refine wpList_load_at rfl 62 _ rfl (w.heap.size) 3 rfl _ (parA t (.slice a0 t.ns.length c0)) B0 (vtA_par t (.slice a0 t.ns.length c0) v1 v2 v3 v4) _ Tryz.underlying62 rfl (by kernel_rfl) ?_; (try simp only [Act.put, List.setIfInBounds_toArray, List.set_cons_zero, List.set_cons_succ])))
  go_at_call 63
  refine (szParser_calls t.md t.st t.pv t.ns.length a0 c0 L hL hL2 _ hm0).mono ?_
  rintro e w1 ⟨rfl, hb1⟩
  have B1 := B0.belowb hb1
  have bel1 : Below w.heap.size w w1 := bel0.trans (hb1.mono bel0.size)
  clear hb1 bel0 B0
  by_cases h1 : (t.ns.length : Int) ≤ L
  · rw [if_pos h1]
    have hge : ¬ ((L - (t.ns.length : Int)) < 0) := by omega
    go_wp2_with (first | fail | (refine wpList_load_at rfl 28 _ rfl (w.heap.size) 7 rfl _ (scrA t.s v1 v2 v3 v4) B1 (vtA_scr t (.slice a0 t.ns.length c0) v1 v2 v3 v4) _ Tryz.underlying28 rfl (by kernel_rfl) ?_; (try simp only [Act.put, List.setIfInBounds_toArray, List.set_cons_zero, List.set_cons_succ])))
    go_at_call 7
    refine (szScreen_calls t.s v1 v2 v3 v4 (L - t.ns.length) (by omega) (by omega) _ (h.s.below bel1) hm1 hm2 hm3 hm4).mono ?_
    rintro e w2 ⟨rfl, hb2⟩
    have bel2 : Below w.heap.size w w2 := bel1.trans (hb2.mono bel1.size)
    by_cases h2 : (t.s.cs.length : Int) + t.s.bs.length + t.s.tabs.length + t.s.sets.length ≤ L - t.ns.length
    · rw [if_pos h2]
      have hge2 : ¬ ((L - (t.ns.length : Int) - t.s.cs.length - t.s.bs.length - t.s.tabs.length - t.s.sets.length) < 0) := by omega
      go_wp2
      go_ret
      exact ⟨by first | rfl | (rw [if_pos (show (t.ns.length : Int) + t.s.cs.length + t.s.bs.length + t.s.tabs.length + t.s.sets.length ≤ L by omega)]; rfl), bel2⟩
    · rw [if_neg h2]
      go_wp2
      go_ret
      exact ⟨by first | rfl | (rw [if_neg (show ¬ (t.ns.length : Int) + t.s.cs.length + t.s.bs.length + t.s.tabs.length + t.s.sets.length ≤ L by omega)]; rfl), bel2⟩
  · rw [if_neg h1]
    go_wp2
    go_ret
    exact ⟨by first | rfl | (rw [if_neg (show ¬ (t.ns.length : Int) + t.s.cs.length + t.s.bs.length + t.s.tabs.length + t.s.sets.length ≤ L by omega)]; rfl), bel1⟩
theorem scr_one' {w : World} {v1 v2 v3 v4 : Value} {s : Scr} (h : SRead w s v1 v2 v3 v4) : (Value.agg (scrA s v1 v2 v3 v4)).cells.toList.all (·.oneCell') = true := by
  obtain ⟨a1, c1, a2, c2, a3, c3, a4, c4, rfl, rfl, rfl, rfl⟩ := h.forms
  rfl
set_option maxHeartbeats 4000000 in
theorem toVt_calls (t : VtS) (u v1 v2 v3 v4 : Value) (w : World) (hn0 : t.ns.length ≤ 1048576) (hn1 : t.s.cs.length ≤ 1048576) (hn2 : t.s.bs.length ≤ 1048576) (hn3 : t.s.tabs.length ≤ 1048576) (hn4 : t.s.sets.length ≤ 1048576) (h : VRead w t u v1 v2 v3 v4) :
    Calls Tryz.prog 28 #[.agg (vtA t u v1 v2 v3 v4)] w fun e w' => ∃ x y1 y2 y3 y4, e = .returned (.agg (vtA t x y1 y2 y3 y4)) ∧ VOwn w.heap.size w'.heap.size w' x y1 y2 y3 y4 t ∧ Below w.heap.size w w' := by
  have bel0 : Below w.heap.size w (((w.alloc (.cells (vtA t u v1 v2 v3 v4) 64)).alloc (.cells (vtA vt0 (.slice none 0 0) (.slice none 0 0) (.slice none 0 0) (.slice none 0 0) (.slice none 0 0)) 70)).alloc (.cells (vtA vt0 (.slice none 0 0) (.slice none 0 0) (.slice none 0 0) (.slice none 0 0) (.slice none 0 0)) 70)) := (by repeat' (first | with_reducible exact Below.refl _ _ | with_reducible assumption | with_reducible refine Below.drew ?_ | with_reducible refine Below.alloc ?_ ?_ _ | with_reducible refine Below.setCell ?_ ?_ _ | (simp; done) | (simp; omega) | omega))
  have B0 := ((Blk.new w (vtA t u v1 v2 v3 v4) 64).alloc (.cells (vtA vt0 (.slice none 0 0) (.slice none 0 0) (.slice none 0 0) (.slice none 0 0) (.slice none 0 0)) 70)).alloc (.cells (vtA vt0 (.slice none 0 0) (.slice none 0 0) (.slice none 0 0) (.slice none 0 0) (.slice none 0 0)) 70)
  have R0 := (Blk.new_at (w := w.alloc (.cells (vtA t u v1 v2 v3 v4) 64)) (b := w.heap.size + 1) (by simp) (vtA vt0 (.slice none 0 0) (.slice none 0 0) (.slice none 0 0) (.slice none 0 0) (.slice none 0 0)) 70).alloc (.cells (vtA vt0 (.slice none 0 0) (.slice none 0 0) (.slice none 0 0) (.slice none 0 0) (.slice none 0 0)) 70)
  have V0 := Blk.new_at (w := (w.alloc (.cells (vtA t u v1 v2 v3 v4) 64)).alloc (.cells (vtA vt0 (.slice none 0 0) (.slice none 0 0) (.slice none 0 0) (.slice none 0 0) (.slice none 0 0)) 70)) (b := w.heap.size + 1 + 1) (by simp) (vtA vt0 (.slice none 0 0) (.slice none 0 0) (.slice none 0 0) (.slice none 0 0) (.slice none 0 0)) 70
  go_enter Tryz.func28, Tryz.ntmps28
  go_wp2_with (first | fail | (refine wpList_load_at rfl 60 _ rfl (w.heap.size) 0 rfl _ (decA t) B0 (vtA_dec t u v1 v2 v3 v4) _ Tryz.underlying60 rfl (by kernel_rfl) ?_; (try simp only [Act.put, List.setIfInBounds_toArray, List.set_cons_zero, List.set_cons_succ])))
  go_at_call 67
  refine (toDecoder_calls t.l t.lo t.v _).mono ?_
  rintro e w1 ⟨rfl, hb⟩
  replace B0 := B0.belowb hb
  replace R0 := R0.belowb hb
  replace V0 := V0.belowb hb
  have bel1 : Below w.heap.size w w1 := bel0.trans (hb.mono bel0.size)
  have z1 : w.heap.size + 3 ≤ w1.heap.size := by have := hb.size; simp at this; omega
  clear hb bel0
  go_wp2_with (first | fail | (refine wpList_store_blk rfl _ _ _ rfl (w.heap.size + 1 + 1) 0 (vtA vt0 (.slice none 0 0) (.slice none 0 0) (.slice none 0 0) (.slice none 0 0) (.slice none 0 0)) (vtA { vt0 with l := t.l, lo := t.lo, v := t.v } (.slice none 0 0) (.slice none 0 0) (.slice none 0 0) (.slice none 0 0) (.slice none 0 0)) (.agg (decA t)) rfl rfl V0 rfl (by kernel_rfl) rfl rfl ?_; (try simp only [Act.put, List.setIfInBounds_toArray, List.set_cons_zero, List.set_cons_succ]); clear V0; intro w2 V0 hu; replace B0 := B0.upd hu (by omega); replace R0 := R0.upd hu (by omega); have bel2 : Below w.heap.size w w2 := bel1.trans (hu.below (by omega)); have z2 : w2.heap.size = w1.heap.size := hu.size; clear hu bel1) | (refine wpList_load_at rfl 62 _ rfl (w.heap.size) 3 rfl _ (parA t u) B0 (vtA_par t u v1 v2 v3 v4) _ Tryz.underlying62 rfl (by kernel_rfl) ?_; (try simp only [Act.put, List.setIfInBounds_toArray, List.set_cons_zero, List.set_cons_succ])))
  go_at_call 68
  refine (toParser_calls t.md t.st t.pv t.ns u _ hn0 (h.p.below bel2)).mono ?_
  rintro e w3 ⟨x, rfl, hx, hb⟩
  replace B0 := B0.belowb hb
  replace R0 := R0.belowb hb
  replace V0 := V0.belowb hb
  have bel3 : Below w.heap.size w w3 := bel2.trans (hb.mono bel2.size)
  have z3 : w2.heap.size ≤ w3.heap.size := hb.size
  have hxr := hx.read
  obtain ⟨a0, c0, rfl, _⟩ := hxr
  clear hb bel2
  go_wp2_with (first | fail | (refine wpList_store_blk rfl _ _ _ rfl (w.heap.size + 1 + 1) 3 (vtA { vt0 with l := t.l, lo := t.lo, v := t.v } (.slice none 0 0) (.slice none 0 0) (.slice none 0 0) (.slice none 0 0) (.slice none 0 0)) (vtA { t with s := scr0 } (.slice a0 t.ns.length c0) (.slice none 0 0) (.slice none 0 0) (.slice none 0 0) (.slice none 0 0)) (.agg (parA t (.slice a0 t.ns.length c0))) rfl rfl V0 rfl (by kernel_rfl) rfl rfl ?_; (try simp only [Act.put, List.setIfInBounds_toArray, List.set_cons_zero, List.set_cons_succ]); clear V0; intro w4 V0 hu; replace B0 := B0.upd hu (by omega); replace R0 := R0.upd hu (by omega); replace hx := hx.of_blocks (w' := w4) (fun q q1 q2 => hu.block q (by omega)); have bel4 : Below w.heap.size w w4 := bel3.trans (hu.below (by omega)); have z4 : w4.heap.size = w3.heap.size := hu.size; clear hu bel3) | (refine wpList_load_at rfl 28 _ rfl (w.heap.size) 7 rfl _ (scrA t.s v1 v2 v3 v4) B0 (vtA_scr t u v1 v2 v3 v4) _ Tryz.underlying28 rfl (by kernel_rfl) ?_; (try simp only [Act.put, List.setIfInBounds_toArray, List.set_cons_zero, List.set_cons_succ])))
  go_at_call 10
  refine (toScreen_calls t.s v1 v2 v3 v4 _ hn1 hn2 hn3 hn4 (h.s.below bel4)).mono ?_
  rintro e w5 ⟨y1, y2, y3, y4, rfl, hy, hb⟩
  replace B0 := B0.belowb hb
  replace R0 := R0.belowb hb
  replace V0 := V0.belowb hb
  replace hx := hx.below hb (by omega)
  have bel5 : Below w.heap.size w w5 := bel4.trans (hb.mono bel4.size)
  have z5 : w4.heap.size ≤ w5.heap.size := hb.size
  clear hb bel4
  go_wp2_with (first | fail | (refine wpList_store_blk rfl _ _ _ rfl (w.heap.size + 1 + 1) 7 (vtA { t with s := scr0 } (.slice a0 t.ns.length c0) (.slice none 0 0) (.slice none 0 0) (.slice none 0 0) (.slice none 0 0)) (vtA t (.slice a0 t.ns.length c0) y1 y2 y3 y4) (.agg (scrA t.s y1 y2 y3 y4)) rfl rfl V0 rfl (by kernel_rfl) (scr_one' hy.read) rfl ?_; (try simp only [Act.put, List.setIfInBounds_toArray, List.set_cons_zero, List.set_cons_succ]); clear V0; intro w6 V0 hu; replace R0 := R0.upd hu (by omega); replace hx := hx.of_blocks (w' := w6) (fun q q1 q2 => hu.block q (by omega)); replace hy := hy.of_blocks (w' := w6) (fun q q1 q2 => hu.block q (by omega)); have bel6 : Below w.heap.size w w6 := bel5.trans (hu.below (by omega)); have z6 : w6.heap.size = w5.heap.size := hu.size; have VR : VRead w6 t (.slice a0 t.ns.length c0) y1 y2 y3 y4 := ⟨hx.read, hy.read⟩; clear hu bel5) | (refine wpList_load_at rfl 70 _ rfl (w.heap.size + 1 + 1) 0 rfl _ (vtA t (.slice a0 t.ns.length c0) y1 y2 y3 y4) V0 rfl _ Tryz.underlying70 rfl (by kernel_rfl) ?_; (try simp only [Act.put, List.setIfInBounds_toArray, List.set_cons_zero, List.set_cons_succ])) | (refine wpList_store_blk rfl _ _ _ rfl (w.heap.size + 1) 0 (vtA vt0 (.slice none 0 0) (.slice none 0 0) (.slice none 0 0) (.slice none 0 0) (.slice none 0 0)) (vtA t (.slice a0 t.ns.length c0) y1 y2 y3 y4) (.agg (vtA t (.slice a0 t.ns.length c0) y1 y2 y3 y4)) rfl rfl R0 rfl (by kernel_rfl) (vt_one VR) rfl ?_; (try simp only [Act.put, List.setIfInBounds_toArray, List.set_cons_zero, List.set_cons_succ]); clear R0; intro w7 R0 hu; replace hx := hx.of_blocks (w' := w7) (fun q q1 q2 => hu.block q (by omega)); replace hy := hy.of_blocks (w' := w7) (fun q q1 q2 => hu.block q (by omega)); have bel7 : Below w.heap.size w w7 := bel6.trans (hu.below (by omega)); have z7 : w7.heap.size = w6.heap.size := hu.size; clear hu bel6))
  refine bodyPost_ret (results_blk R0 _ _ rfl rfl Tryz.underlying70 rfl (by kernel_rfl)) rfl ⟨_, _, _, _, _, rfl, ⟨w2.heap.size, w3.heap.size, w4.heap.size, w5.heap.size, by omega, by omega, by omega, by omega, by omega, hx, hy⟩, bel7⟩
set_option maxHeartbeats 400000 in
theorem vtDecEq_calls (l lo v : Int) (w : World) : Calls Tryz.prog 74 #[.agg #[.int .i64 l, .int .i64 lo, .int .i64 v], .agg #[.int .i64 l, .int .i64 lo, .int .i64 v]] w fun e w' => e = .returned (.bool true) ∧ Below w.heap.size w w' := by
  have hne : ∀ y : Int, (y != y) = false := fun y => by simp
  go_enter Tryz.func74, Tryz.ntmps74
  go_wp2
  go_ret
  exact ⟨rfl, (by repeat' (first | with_reducible exact Below.refl _ _ | with_reducible assumption | with_reducible refine Below.drew ?_ | with_reducible refine Below.alloc ?_ ?_ _ | with_reducible refine Below.setCell ?_ ?_ _ | (simp; done) | (simp; omega) | omega))⟩
set_option maxHeartbeats 2000000 in
theorem eqVt_calls (t : VtS) (u v1 v2 v3 v4 x y1 y2 y3 y4 : Value) (w : World) (hn0 : t.ns.length ≤ 1048576) (hn1 : t.s.cs.length ≤ 1048576) (hn2 : t.s.bs.length ≤ 1048576) (hn3 : t.s.tabs.length ≤ 1048576) (hn4 : t.s.sets.length ≤ 1048576) (h : VRead w t u v1 v2 v3 v4) (k : VRead w t x y1 y2 y3 y4) :
    Calls Tryz.prog 32 #[.agg (vtA t u v1 v2 v3 v4), .agg (vtA t x y1 y2 y3 y4)] w fun e w' => e = .returned (.bool true) ∧ Below w.heap.size w w' := by
  have bel0 : Below w.heap.size w ((w.alloc (.cells (vtA t u v1 v2 v3 v4) 70)).alloc (.cells (vtA t x y1 y2 y3 y4) 70)) := (by repeat' (first | with_reducible exact Below.refl _ _ | with_reducible assumption | with_reducible refine Below.drew ?_ | with_reducible refine Below.alloc ?_ ?_ _ | with_reducible refine Below.setCell ?_ ?_ _ | (simp; done) | (simp; omega) | omega))
  have A0 := (Blk.new w (vtA t u v1 v2 v3 v4) 70).alloc (.cells (vtA t x y1 y2 y3 y4) 70)
  have B0 := Blk.new_at (w := w.alloc (.cells (vtA t u v1 v2 v3 v4) 70)) (b := w.heap.size + 1) (by simp) (vtA t x y1 y2 y3 y4) 70
  go_enter Tryz.func32, Tryz.ntmps32
  go_wp2_with (first | fail | (refine wpList_load_at rfl 67 _ rfl (w.heap.size) 0 rfl _ (decA t) A0 (vtA_dec t u v1 v2 v3 v4) _ Tryz.underlying67 rfl (by kernel_rfl) ?_; (try simp only [Act.put, List.setIfInBounds_toArray, List.set_cons_zero, List.set_cons_succ])) | (refine wpList_load_at rfl 67 _ rfl (w.heap.size + 1) 0 rfl _ (decA t) B0 (vtA_dec t x y1 y2 y3 y4) _ Tryz.underlying67 rfl (by kernel_rfl) ?_; (try simp only [Act.put, List.setIfInBounds_toArray, List.set_cons_zero, List.set_cons_succ])))
  go_at_call 74
  refine (vtDecEq_calls t.l t.lo t.v _).mono ?_
  rintro e w1 ⟨rfl, hb⟩
  replace A0 := A0.belowb hb
  replace B0 := B0.belowb hb
  have bel1 : Below w.heap.size w w1 := bel0.trans (hb.mono bel0.size)
  clear hb bel0
  go_wp2_with (first | fail | (refine wpList_load_at rfl 68 _ rfl (w.heap.size) 3 rfl _ (parA t u) A0 (vtA_par t u v1 v2 v3 v4) _ Tryz.underlying68 rfl (by kernel_rfl) ?_; (try simp only [Act.put, List.setIfInBounds_toArray, List.set_cons_zero, List.set_cons_succ])) | (refine wpList_load_at rfl 68 _ rfl (w.heap.size + 1) 3 rfl _ (parA t x) B0 (vtA_par t x y1 y2 y3 y4) _ Tryz.underlying68 rfl (by kernel_rfl) ?_; (try simp only [Act.put, List.setIfInBounds_toArray, List.set_cons_zero, List.set_cons_succ])))
  go_at_call 75
  refine (eqParser_calls t.md t.st t.pv t.ns u x _ (by omega) (h.p.below bel1) (k.p.below bel1)).mono ?_
  rintro e w2 ⟨rfl, hb⟩
  replace A0 := A0.belowb hb
  replace B0 := B0.belowb hb
  have bel2 : Below w.heap.size w w2 := bel1.trans (hb.mono bel1.size)
  clear hb bel1
  go_wp2_with (first | fail | (refine wpList_load_at rfl 37 _ rfl (w.heap.size) 7 rfl _ (scrA t.s v1 v2 v3 v4) A0 (vtA_scr t u v1 v2 v3 v4) _ Tryz.underlying37 rfl (by kernel_rfl) ?_; (try simp only [Act.put, List.setIfInBounds_toArray, List.set_cons_zero, List.set_cons_succ])) | (refine wpList_load_at rfl 37 _ rfl (w.heap.size + 1) 7 rfl _ (scrA t.s y1 y2 y3 y4) B0 (vtA_scr t x y1 y2 y3 y4) _ Tryz.underlying37 rfl (by kernel_rfl) ?_; (try simp only [Act.put, List.setIfInBounds_toArray, List.set_cons_zero, List.set_cons_succ])))
  go_at_call 14
  refine (eqScreen_calls t.s _ _ _ _ _ _ _ _ _ hn1 hn2 hn3 hn4 (h.s.below bel2) (k.s.below bel2)).mono ?_
  rintro e w3 ⟨rfl, hb⟩
  go_wp2
  go_ret
  exact ⟨rfl, bel2.trans (hb.mono bel2.size)⟩
end Go.Proofs.YtdekegjplegkeaaGreat
