/-
  Results of terminals: equal, marked, held.
-/
import Derived.Test.YtdekegjplegkeaaGreatVtFns
import Derived.Test.YtdekegjplegkeaaGreatScrMark
namespace Go.Proofs.YtdekegjplegkeaaGreat
set_option maxRecDepth 20000
open Go.ChangeShapes Go.WideShapes Go.ChangeAt Go.RowKit
set_option linter.unusedVariables false
set_option linter.unusedSimpArgs false
set_option maxRecDepth 20000

def resVA (c : Int) (t : VtS) (u v1 v2 v3 v4 : Value) : Array Value := #[.int .i64 c, .int .i64 t.l, .int .i64 t.lo, .int .i64 t.v, .int .i64 t.md, .int .i64 t.st, .bool t.pv, u, .int .i64 t.s.r, .int .i64 t.s.wd, v1, v2, .int .i64 t.s.y, .int .i64 t.s.x, .bool t.s.wrap, .int .i64 t.s.attr, .int .i64 t.s.top, .int .i64 t.s.bot, .bool t.s.org, .bool t.s.auto, .bool t.s.ins, v3, .int .i64 t.s.ky, .int .i64 t.s.kx, .int .i64 t.s.ka, v4, .int .i64 t.s.sh, .int .i64 t.s.bells]
theorem resVA_0 (c : Int) (t : VtS) (u v1 v2 v3 v4 : Value) : (resVA c t u v1 v2 v3 v4)[0]? = some (.int .i64 c) := rfl
theorem resVA_vt (c : Int) (t : VtS) (u v1 v2 v3 v4 : Value) : ((resVA c t u v1 v2 v3 v4).toList.drop 1).take (vtA t u v1 v2 v3 v4).size = (vtA t u v1 v2 v3 v4).toList := rfl
theorem resV_one {w : World} {t : VtS} {c : Int} {u v1 v2 v3 v4 : Value} (h : VRead w t u v1 v2 v3 v4) : (Value.agg (resVA c t u v1 v2 v3 v4)).cells.toList.all (·.oneCell') = true := by
  obtain ⟨a0, c0, a1, c1, a2, c2, a3, c3, a4, c4, rfl, rfl, rfl, rfl, rfl⟩ := h.forms
  rfl
def mkVt (k : Int) (t : VtS) : VtS := { t with ns := marks k t.ns.length, s := mkScr (k + t.ns.length) t.s }
def cntV (t : VtS) : Int := t.ns.length + cntS t.s
theorem mkVt_cells (k : Int) (t : VtS) (u v1 v2 v3 v4 : Value) : vtA (mkVt k t) u v1 v2 v3 v4 = vtA t u v1 v2 v3 v4 := rfl
theorem mkVt_res (c k : Int) (t : VtS) (u v1 v2 v3 v4 : Value) : resVA c (mkVt k t) u v1 v2 v3 v4 = resVA c t u v1 v2 v3 v4 := rfl
set_option maxHeartbeats 2000000 in
theorem eqVtResult_calls (c : Int) (t : VtS) (u v1 v2 v3 v4 x y1 y2 y3 y4 : Value) (w : World) (hn0 : t.ns.length ≤ 1048576) (hn1 : t.s.cs.length ≤ 1048576) (hn2 : t.s.bs.length ≤ 1048576) (hn3 : t.s.tabs.length ≤ 1048576) (hn4 : t.s.sets.length ≤ 1048576) (h : VRead w t u v1 v2 v3 v4) (h' : VRead w t x y1 y2 y3 y4) :
    Calls Tryz.prog 31 #[.agg (resVA c t u v1 v2 v3 v4), .agg (resVA c t x y1 y2 y3 y4)] w fun e w' => e = .returned (.bool true) ∧ Below w.heap.size w w' := by
  have e0 := resVA_0 c t u v1 v2 v3 v4
  have e1 := resVA_0 c t x y1 y2 y3 y4
  have hne : ∀ x : Int, (x != x) = false := fun x => by simp
  have bel0 : Below w.heap.size w ((w.alloc (.cells (resVA c t u v1 v2 v3 v4) 72)).alloc (.cells (resVA c t x y1 y2 y3 y4) 72)) := (by repeat' (first | with_reducible exact Below.refl _ _ | with_reducible assumption | with_reducible refine Below.drew ?_ | with_reducible refine Below.alloc ?_ ?_ _ | with_reducible refine Below.setCell ?_ ?_ _ | (simp; done) | (simp; omega) | omega))
  have hA := (Blk.new w (resVA c t u v1 v2 v3 v4) 72).alloc (.cells (resVA c t x y1 y2 y3 y4) 72)
  have hB := Blk.new_at (w := w.alloc (.cells (resVA c t u v1 v2 v3 v4) 72)) (b := w.heap.size + 1) (by simp) (resVA c t x y1 y2 y3 y4) 72
  go_enter Tryz.func31, Tryz.ntmps31
  go_wp2_with (first | (refine wpList_load_at rfl 70 _ rfl (w.heap.size) 1 rfl _ (vtA t u v1 v2 v3 v4) hA (resVA_vt c t u v1 v2 v3 v4) _ Tryz.underlying70 rfl (by kernel_rfl) ?_; (try simp only [Act.put, List.setIfInBounds_toArray, List.set_cons_zero, List.set_cons_succ])) | (refine wpList_load_at rfl 70 _ rfl (w.heap.size + 1) 1 rfl _ (vtA t x y1 y2 y3 y4) hB (resVA_vt c t x y1 y2 y3 y4) _ Tryz.underlying70 rfl (by kernel_rfl) ?_; (try simp only [Act.put, List.setIfInBounds_toArray, List.set_cons_zero, List.set_cons_succ])))
  go_at_call 32
  refine (eqVt_calls t _ _ _ _ _ _ _ _ _ _ _ hn0 hn1 hn2 hn3 hn4 (h.below bel0) (h'.below bel0)).mono ?_
  rintro e w1 ⟨rfl, hb⟩
  go_wp2
  go_ret
  exact ⟨rfl, bel0.trans (hb.mono bel0.size)⟩
set_option maxHeartbeats 2000000 in
theorem markVt_calls (t : VtS) (k0 : Int) (lo hi : Nat) (u v1 v2 v3 v4 : Value) (w : World) (hn0 : t.ns.length ≤ 1048576) (hn1 : t.s.cs.length ≤ 1048576) (hn2 : t.s.bs.length ≤ 1048576) (hn3 : t.s.tabs.length ≤ 1048576) (hn4 : t.s.sets.length ≤ 1048576) (hns : t.ns.length ≤ 1048576) (hk : 0 ≤ k0) (hk0 : k0 ≤ 100) (hh : hi ≤ w.heap.size) (h : VOwn lo hi w u v1 v2 v3 v4 t) :
    Calls Tryz.prog 34 #[.agg (vtA t u v1 v2 v3 v4), .int .i64 k0] w fun e w' => e = .returned (.int .i64 (k0 + cntV t)) ∧ VOwn lo hi w' u v1 v2 v3 v4 (mkVt k0 t) ∧ Within lo hi w w' := by
  have hb0 : Below w.heap.size w (w.alloc (.cells (vtA t u v1 v2 v3 v4) 70)) := (Below.refl _ w).alloc (Nat.le_refl _) _
  have hA := Blk.new w (vtA t u v1 v2 v3 v4) 70
  have z0 : (w.alloc (.cells (vtA t u v1 v2 v3 v4) 70)).heap.size = w.heap.size + 1 := by simp
  obtain ⟨l1, h1, l2, h2, a1, a2, a3, a4, a5, hp, hs⟩ := h.ex
  go_enter Tryz.func34, Tryz.ntmps34
  go_wp2_with (first | fail | (refine wpList_load_at rfl 68 _ rfl (w.heap.size) 3 rfl _ (parA t u) hA (vtA_par t u v1 v2 v3 v4) _ Tryz.underlying68 rfl (by kernel_rfl) ?_; (try simp only [Act.put, List.setIfInBounds_toArray, List.set_cons_zero, List.set_cons_succ])))
  go_at_call 76
  refine (markParser_calls t.md t.st t.pv t.ns k0 l1 h1 _ _ (by omega) hk (by omega) (by omega) (hp.below hb0 (by omega))).mono ?_
  rintro e w1 ⟨rfl, hm, hw⟩
  have hz := hw.size
  replace hA := hA.within hw (by omega)
  have hs1 := (hs.below hb0 (by omega)).within hw (by omega) (by omega)
  have w01 : Within lo hi w w1 := (Within.of_below hb0 (by omega)).trans (within_mono hw a1 a2)
  clear hb0 hw hp hs
  go_wp2_with (first | fail | (refine wpList_load_at rfl 37 _ rfl (w.heap.size) 7 rfl _ (scrA t.s v1 v2 v3 v4) hA (vtA_scr t u v1 v2 v3 v4) _ Tryz.underlying37 rfl (by kernel_rfl) ?_; (try simp only [Act.put, List.setIfInBounds_toArray, List.set_cons_zero, List.set_cons_succ])))
  go_at_call 16
  refine (markScreen_calls t.s (k0 + t.ns.length) l2 h2 _ _ _ _ _ hn1 hn2 hn3 hn4 (by omega) (by omega) (by omega) hs1).mono ?_
  rintro e w2 ⟨rfl, hs2, hw2⟩
  have hm2 := hm.within hw2 (by omega) (by omega)
  go_wp2
  go_ret
  exact ⟨scr_ret (by unfold cntV; omega), ⟨l1, h1, l2, h2, a1, a2, a3, a4, a5, hm2, hs2⟩, w01.trans (within_mono hw2 a3 a4)⟩
set_option maxHeartbeats 2000000 in
theorem heldVt_calls (t : VtS) (k0 : Int) (u v1 v2 v3 v4 : Value) (w : World) (hn0 : t.ns.length ≤ 1048576) (hn1 : t.s.cs.length ≤ 1048576) (hn2 : t.s.bs.length ≤ 1048576) (hn3 : t.s.tabs.length ≤ 1048576) (hn4 : t.s.sets.length ≤ 1048576) (hns : t.ns.length ≤ 1048576) (hk : 0 ≤ k0) (hk0 : k0 ≤ 100) (h : VRead w (mkVt k0 t) u v1 v2 v3 v4) :
    Calls Tryz.prog 77 #[.agg (vtA t u v1 v2 v3 v4), .int .i64 k0] w fun e w' => e = .returned (.int .i64 (k0 + cntV t)) ∧ Below w.heap.size w w' := by
  have hb0 : Below w.heap.size w (w.alloc (.cells (vtA t u v1 v2 v3 v4) 70)) := (Below.refl _ w).alloc (Nat.le_refl _) _
  have hA := Blk.new w (vtA t u v1 v2 v3 v4) 70
  have hge : ¬ (k0 + (t.ns.length : Int) < 0) := by omega
  have hge2 : ¬ (k0 + (t.ns.length : Int) + cntS t.s < 0) := by unfold cntS; omega
  have hP := h.p
  have hS := h.s
  have hl : (marks k0 t.ns.length).length = t.ns.length := marks_length _ _
  go_enter Tryz.func77, Tryz.ntmps77
  go_wp2_with (first | fail | (refine wpList_load_at rfl 68 _ rfl (w.heap.size) 3 rfl _ (parA t u) hA (vtA_par t u v1 v2 v3 v4) _ Tryz.underlying68 rfl (by kernel_rfl) ?_; (try simp only [Act.put, List.setIfInBounds_toArray, List.set_cons_zero, List.set_cons_succ])))
  go_at_call 130
  refine (heldParser_calls t.md t.st t.pv (marks k0 t.ns.length) k0 _ _ (by rw [hl]; omega) hk (by omega) (hP.below hb0) (marks_at _ _)).mono ?_
  rintro e w1 ⟨rfl, hb⟩
  rw [hl]
  replace hA := hA.belowb hb
  have bel1 := hb0.trans (hb.mono hb0.size)
  clear hb hb0
  go_wp2_with (first | fail | (refine wpList_load_at rfl 37 _ rfl (w.heap.size) 7 rfl _ (scrA t.s v1 v2 v3 v4) hA (vtA_scr t u v1 v2 v3 v4) _ Tryz.underlying37 rfl (by kernel_rfl) ?_; (try simp only [Act.put, List.setIfInBounds_toArray, List.set_cons_zero, List.set_cons_succ])))
  go_at_call 57
  refine (heldScreen_calls t.s (k0 + t.ns.length) _ _ _ _ _ hn1 hn2 hn3 hn4 (by omega) (by omega) (hS.below bel1)).mono ?_
  rintro e w2 ⟨rfl, hb⟩
  go_wp2
  go_ret
  exact ⟨scr_ret (by unfold cntV; omega), bel1.trans (hb.mono bel1.size)⟩
set_option maxHeartbeats 2000000 in
theorem markVtResult_calls (c : Int) (t : VtS) (k0 : Int) (lo hi : Nat) (u v1 v2 v3 v4 : Value) (w : World) (hn0 : t.ns.length ≤ 1048576) (hn1 : t.s.cs.length ≤ 1048576) (hn2 : t.s.bs.length ≤ 1048576) (hn3 : t.s.tabs.length ≤ 1048576) (hn4 : t.s.sets.length ≤ 1048576) (hns : t.ns.length ≤ 1048576) (hk : 0 ≤ k0) (hk0 : k0 ≤ 100) (hh : hi ≤ w.heap.size) (h : VOwn lo hi w u v1 v2 v3 v4 t) :
    Calls Tryz.prog 36 #[.agg (resVA c t u v1 v2 v3 v4), .int .i64 k0] w fun e w' => e = .returned (.int .i64 (k0 + cntV t)) ∧ VOwn lo hi w' u v1 v2 v3 v4 (mkVt k0 t) ∧ Within lo hi w w' := by
  have hb0 : Below w.heap.size w (w.alloc (.cells (resVA c t u v1 v2 v3 v4) 72)) := (Below.refl _ w).alloc (Nat.le_refl _) _
  have hA := Blk.new w (resVA c t u v1 v2 v3 v4) 72
  go_enter Tryz.func36, Tryz.ntmps36
  go_wp2_with (first | (refine wpList_load_at rfl 70 _ rfl (w.heap.size) 1 rfl _ (vtA t u v1 v2 v3 v4) hA (resVA_vt c t u v1 v2 v3 v4) _ Tryz.underlying70 rfl (by kernel_rfl) ?_; (try simp only [Act.put, List.setIfInBounds_toArray, List.set_cons_zero, List.set_cons_succ])))
  go_at_call 34
  refine (markVt_calls t k0 lo hi _ _ _ _ _ _ hn0 hn1 hn2 hn3 hn4 hns hk hk0 (Nat.le_trans hh hb0.size) (h.below hb0 hh)).mono ?_
  rintro e w1 ⟨rfl, hm, hw⟩
  go_wp2
  go_ret
  exact ⟨rfl, hm, (Within.of_below hb0 (Nat.le_refl _)).trans hw⟩
set_option maxHeartbeats 2000000 in
theorem heldVtResult_calls (c : Int) (t : VtS) (k0 : Int) (u v1 v2 v3 v4 : Value) (w : World) (hn0 : t.ns.length ≤ 1048576) (hn1 : t.s.cs.length ≤ 1048576) (hn2 : t.s.bs.length ≤ 1048576) (hn3 : t.s.tabs.length ≤ 1048576) (hn4 : t.s.sets.length ≤ 1048576) (hns : t.ns.length ≤ 1048576) (hk : 0 ≤ k0) (hk0 : k0 ≤ 100) (h : VRead w (mkVt k0 t) u v1 v2 v3 v4) :
    Calls Tryz.prog 37 #[.agg (resVA c t u v1 v2 v3 v4), .int .i64 k0] w fun e w' => e = .returned (.int .i64 (k0 + cntV t)) ∧ Below w.heap.size w w' := by
  have hb0 : Below w.heap.size w (w.alloc (.cells (resVA c t u v1 v2 v3 v4) 72)) := (Below.refl _ w).alloc (Nat.le_refl _) _
  have hA := Blk.new w (resVA c t u v1 v2 v3 v4) 72
  have hge : ¬ (k0 + cntV t < 0) := by unfold cntV cntS; omega
  go_enter Tryz.func37, Tryz.ntmps37
  go_wp2_with (first | (refine wpList_load_at rfl 70 _ rfl (w.heap.size) 1 rfl _ (vtA t u v1 v2 v3 v4) hA (resVA_vt c t u v1 v2 v3 v4) _ Tryz.underlying70 rfl (by kernel_rfl) ?_; (try simp only [Act.put, List.setIfInBounds_toArray, List.set_cons_zero, List.set_cons_succ])))
  go_at_call 77
  refine (heldVt_calls t k0 _ _ _ _ _ _ hn0 hn1 hn2 hn3 hn4 hns hk hk0 (h.below hb0)).mono ?_
  rintro e w1 ⟨rfl, hb⟩
  go_wp2
  go_ret
  exact ⟨rfl, hb0.trans (hb.mono hb0.size)⟩
end Go.Proofs.YtdekegjplegkeaaGreat
