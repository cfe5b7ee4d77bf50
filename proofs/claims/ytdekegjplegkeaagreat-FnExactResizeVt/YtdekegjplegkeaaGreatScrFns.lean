/-
  The laws' functions on screens: szScreen, toScreen, eqScreen.
-/
import Derived.Test.YtdekegjplegkeaaGreatScrMem
import Derived.Test.YtdekegjplegkeaaGreatGridFns
import Derived.Test.YtdekegjplegkeaaGreatBoolFns
import Derived.Test.YtdekegjplegkeaaGreatRowFns
namespace Go.Proofs.YtdekegjplegkeaaGreat
set_option maxRecDepth 20000
open Go.ChangeShapes Go.WideShapes Go.ChangeAt Go.RowKit
set_option linter.unusedVariables false
set_option linter.unusedSimpArgs false
set_option maxRecDepth 20000

def scr0 : Scr := ⟨0, 0, [], [], 0, 0, false, 0, 0, 0, false, false, false, [], 0, 0, 0, [], 0, 0⟩

set_option maxHeartbeats 1000000 in
theorem szScreen_calls (s : Scr) (v1 v2 v3 v4 : Value) (L : Int) (hL : 0 ≤ L) (hL2 : L ≤ 1048576) (w : World) (h : SRead w s v1 v2 v3 v4) (hn : s.cs.length ≤ maxLen) (hm : s.bs.length ≤ maxLen) (ht : s.tabs.length ≤ maxLen) (hs : s.sets.length ≤ maxLen) :
    Calls Tryz.prog 7 #[.agg (scrA s v1 v2 v3 v4), .int .i64 L] w fun e w' => e = .returned (.int .i64 (if (s.cs.length : Int) + s.bs.length + s.tabs.length + s.sets.length ≤ L then L - s.cs.length - s.bs.length - s.tabs.length - s.sets.length else -1)) ∧ Below w.heap.size w w' := by
  have e0 := scrA_0 s v1 v2 v3 v4
  have e1 := scrA_1 s v1 v2 v3 v4
  have e2 := scrA_2 s v1 v2 v3 v4
  have e3 := scrA_3 s v1 v2 v3 v4
  have e13 := scrA_13 s v1 v2 v3 v4
  have e17 := scrA_17 s v1 v2 v3 v4
  obtain ⟨a1, c1, a2, c2, a3, c3, a4, c4, rfl, rfl, rfl, rfl⟩ := h.forms
  clear h
  have bel0 : Below w.heap.size w (w.alloc (.cells (scrA s (.slice a1 s.cs.length c1) (.slice a2 s.bs.length c2) (.slice a3 s.tabs.length c3) (.slice a4 s.sets.length c4)) 28)) := (Below.refl _ w).alloc (Nat.le_refl _) _
  have B0 := Blk.new w (scrA s (.slice a1 s.cs.length c1) (.slice a2 s.bs.length c2) (.slice a3 s.tabs.length c3) (.slice a4 s.sets.length c4)) 28
  go_enter Tryz.func7, Tryz.ntmps7
  go_wp2_with fail
  refine (szGrid_calls s.r s.wd s.cs.length s.bs.length a1 a2 c1 c2 L hL hL2 _ hn hm).mono ?_
  rintro e w1 ⟨rfl, hb1⟩
  have B1 := B0.belowb hb1
  have bel1 : Below w.heap.size w w1 := bel0.trans (hb1.mono bel0.size)
  have hc1 := B1.cells
  clear hb1 bel0 B0
  by_cases h1 : (s.cs.length : Int) + s.bs.length ≤ L
  · rw [if_pos h1]
    have hge : ¬ ((L - (s.cs.length : Int) - s.bs.length) < 0) := by omega
    go_wp2_with fail
    refine (szBools_calls s.tabs.length (L - s.cs.length - s.bs.length) (by omega) (by omega) a3 c3 _ ht).mono ?_
    rintro e w' ⟨rfl, hw⟩
    rw [hw]
    clear hw w'
    by_cases h2 : (s.tabs.length : Int) ≤ L - s.cs.length - s.bs.length
    · rw [if_pos h2]
      have hge2 : ¬ ((L - (s.cs.length : Int) - s.bs.length - s.tabs.length) < 0) := by omega
      go_wp2_with fail
      refine (szSets_calls s.sets.length (L - s.cs.length - s.bs.length - s.tabs.length) (by omega) (by omega) a4 c4 _ hs).mono ?_
      rintro e w' ⟨rfl, hw⟩
      rw [hw]
      clear hw w'
      by_cases h3 : (s.sets.length : Int) ≤ L - s.cs.length - s.bs.length - s.tabs.length
      · rw [if_pos h3]
        have hge3 : ¬ ((L - (s.cs.length : Int) - s.bs.length - s.tabs.length - s.sets.length) < 0) := by omega
        go_wp2
        go_ret
        exact ⟨by first | rfl | (rw [if_pos (show (s.cs.length : Int) + s.bs.length + s.tabs.length + s.sets.length ≤ L by omega)]; rfl), bel1⟩
      · rw [if_neg h3]
        go_wp2
        go_ret
        exact ⟨by first | rfl | (rw [if_neg (show ¬ (s.cs.length : Int) + s.bs.length + s.tabs.length + s.sets.length ≤ L by omega)]; rfl), bel1⟩
    · rw [if_neg h2]
      go_wp2
      go_ret
      exact ⟨by first | rfl | (rw [if_neg (show ¬ (s.cs.length : Int) + s.bs.length + s.tabs.length + s.sets.length ≤ L by omega)]; rfl), bel1⟩
  · rw [if_neg h1]
    go_wp2
    go_ret
    exact ⟨by first | rfl | (rw [if_neg (show ¬ (s.cs.length : Int) + s.bs.length + s.tabs.length + s.sets.length ≤ L by omega)]; rfl), bel1⟩

set_option maxHeartbeats 4000000 in
theorem toScreen_calls (s : Scr) (v1 v2 v3 v4 : Value) (w : World) (hn1 : s.cs.length ≤ 1048576) (hn2 : s.bs.length ≤ 1048576) (hn3 : s.tabs.length ≤ 1048576) (hn4 : s.sets.length ≤ 1048576) (h : SRead w s v1 v2 v3 v4) :
    Calls Tryz.prog 10 #[.agg (scrA s v1 v2 v3 v4)] w fun e w' => ∃ u1 u2 u3 u4, e = .returned (.agg (scrA s u1 u2 u3 u4)) ∧ SOwn w.heap.size w'.heap.size w' u1 u2 u3 u4 s ∧ Below w.heap.size w w' := by
  have e0 := scrA_0 s v1 v2 v3 v4
  have e1 := scrA_1 s v1 v2 v3 v4
  have e2 := scrA_2 s v1 v2 v3 v4
  have e3 := scrA_3 s v1 v2 v3 v4
  have e4 := scrA_4 s v1 v2 v3 v4
  have e5 := scrA_5 s v1 v2 v3 v4
  have e6 := scrA_6 s v1 v2 v3 v4
  have e7 := scrA_7 s v1 v2 v3 v4
  have e8 := scrA_8 s v1 v2 v3 v4
  have e9 := scrA_9 s v1 v2 v3 v4
  have e10 := scrA_10 s v1 v2 v3 v4
  have e11 := scrA_11 s v1 v2 v3 v4
  have e12 := scrA_12 s v1 v2 v3 v4
  have e13 := scrA_13 s v1 v2 v3 v4
  have e14 := scrA_14 s v1 v2 v3 v4
  have e15 := scrA_15 s v1 v2 v3 v4
  have e16 := scrA_16 s v1 v2 v3 v4
  have e17 := scrA_17 s v1 v2 v3 v4
  have e18 := scrA_18 s v1 v2 v3 v4
  have e19 := scrA_19 s v1 v2 v3 v4
  have bel0 : Below w.heap.size w (((w.alloc (.cells (scrA s v1 v2 v3 v4) 28)).alloc (.cells #[.int .i64 0, .int .i64 0, .slice none 0 0, .slice none 0 0, .int .i64 0, .int .i64 0, .bool false, .int .i64 0, .int .i64 0, .int .i64 0, .bool false, .bool false, .bool false, .slice none 0 0, .int .i64 0, .int .i64 0, .int .i64 0, .slice none 0 0, .int .i64 0, .int .i64 0] 37)).alloc (.cells #[.int .i64 0, .int .i64 0, .slice none 0 0, .slice none 0 0, .int .i64 0, .int .i64 0, .bool false, .int .i64 0, .int .i64 0, .int .i64 0, .bool false, .bool false, .bool false, .slice none 0 0, .int .i64 0, .int .i64 0, .int .i64 0, .slice none 0 0, .int .i64 0, .int .i64 0] 37)) := (by repeat' (first | with_reducible exact Below.refl _ _ | with_reducible assumption | with_reducible refine Below.drew ?_ | with_reducible refine Below.alloc ?_ ?_ _ | with_reducible refine Below.setCell ?_ ?_ _ | (simp; done) | (simp; omega) | omega))
  have hA : Blk (((w.alloc (.cells (scrA s v1 v2 v3 v4) 28)).alloc (.cells #[.int .i64 0, .int .i64 0, .slice none 0 0, .slice none 0 0, .int .i64 0, .int .i64 0, .bool false, .int .i64 0, .int .i64 0, .int .i64 0, .bool false, .bool false, .bool false, .slice none 0 0, .int .i64 0, .int .i64 0, .int .i64 0, .slice none 0 0, .int .i64 0, .int .i64 0] 37)).alloc (.cells #[.int .i64 0, .int .i64 0, .slice none 0 0, .slice none 0 0, .int .i64 0, .int .i64 0, .bool false, .int .i64 0, .int .i64 0, .int .i64 0, .bool false, .bool false, .bool false, .slice none 0 0, .int .i64 0, .int .i64 0, .int .i64 0, .slice none 0 0, .int .i64 0, .int .i64 0] 37)) w.heap.size (scrA s v1 v2 v3 v4) := ((Blk.new w _ _).alloc _).alloc _
  have hR : Blk (((w.alloc (.cells (scrA s v1 v2 v3 v4) 28)).alloc (.cells #[.int .i64 0, .int .i64 0, .slice none 0 0, .slice none 0 0, .int .i64 0, .int .i64 0, .bool false, .int .i64 0, .int .i64 0, .int .i64 0, .bool false, .bool false, .bool false, .slice none 0 0, .int .i64 0, .int .i64 0, .int .i64 0, .slice none 0 0, .int .i64 0, .int .i64 0] 37)).alloc (.cells #[.int .i64 0, .int .i64 0, .slice none 0 0, .slice none 0 0, .int .i64 0, .int .i64 0, .bool false, .int .i64 0, .int .i64 0, .int .i64 0, .bool false, .bool false, .bool false, .slice none 0 0, .int .i64 0, .int .i64 0, .int .i64 0, .slice none 0 0, .int .i64 0, .int .i64 0] 37)) (w.heap.size + 1) (scrA scr0 (.slice none 0 0) (.slice none 0 0) (.slice none 0 0) (.slice none 0 0)) := Blk.alloc (Blk.new_at (by simp) _ _) _
  have hO : Blk (((w.alloc (.cells (scrA s v1 v2 v3 v4) 28)).alloc (.cells #[.int .i64 0, .int .i64 0, .slice none 0 0, .slice none 0 0, .int .i64 0, .int .i64 0, .bool false, .int .i64 0, .int .i64 0, .int .i64 0, .bool false, .bool false, .bool false, .slice none 0 0, .int .i64 0, .int .i64 0, .int .i64 0, .slice none 0 0, .int .i64 0, .int .i64 0] 37)).alloc (.cells #[.int .i64 0, .int .i64 0, .slice none 0 0, .slice none 0 0, .int .i64 0, .int .i64 0, .bool false, .int .i64 0, .int .i64 0, .int .i64 0, .bool false, .bool false, .bool false, .slice none 0 0, .int .i64 0, .int .i64 0, .int .i64 0, .slice none 0 0, .int .i64 0, .int .i64 0] 37)) (w.heap.size + 2) (scrA scr0 (.slice none 0 0) (.slice none 0 0) (.slice none 0 0) (.slice none 0 0)) := Blk.new_at (by simp) _ _
  have hs0 : (((w.alloc (.cells (scrA s v1 v2 v3 v4) 28)).alloc (.cells #[.int .i64 0, .int .i64 0, .slice none 0 0, .slice none 0 0, .int .i64 0, .int .i64 0, .bool false, .int .i64 0, .int .i64 0, .int .i64 0, .bool false, .bool false, .bool false, .slice none 0 0, .int .i64 0, .int .i64 0, .int .i64 0, .slice none 0 0, .int .i64 0, .int .i64 0] 37)).alloc (.cells #[.int .i64 0, .int .i64 0, .slice none 0 0, .slice none 0 0, .int .i64 0, .int .i64 0, .bool false, .int .i64 0, .int .i64 0, .int .i64 0, .bool false, .bool false, .bool false, .slice none 0 0, .int .i64 0, .int .i64 0, .int .i64 0, .slice none 0 0, .int .i64 0, .int .i64 0] 37)).heap.size = w.heap.size + 3 := by simp
  have cA := hA.cells
  go_enter Tryz.func10, Tryz.ntmps10
  go_wp2_with fail
  generalize (((w.alloc (.cells (scrA s v1 v2 v3 v4) 28)).alloc (.cells #[.int .i64 0, .int .i64 0, .slice none 0 0, .slice none 0 0, .int .i64 0, .int .i64 0, .bool false, .int .i64 0, .int .i64 0, .int .i64 0, .bool false, .bool false, .bool false, .slice none 0 0, .int .i64 0, .int .i64 0, .int .i64 0, .slice none 0 0, .int .i64 0, .int .i64 0] 37)).alloc (.cells #[.int .i64 0, .int .i64 0, .slice none 0 0, .slice none 0 0, .int .i64 0, .int .i64 0, .bool false, .int .i64 0, .int .i64 0, .int .i64 0, .bool false, .bool false, .bool false, .slice none 0 0, .int .i64 0, .int .i64 0, .int .i64 0, .slice none 0 0, .int .i64 0, .int .i64 0] 37)) = w1 at *
  refine (toGrid_calls s.r s.wd s.cs s.bs _ _ _ hn1 hn2 (h.g1.below bel0) (h.g2.below bel0)).mono ?_
  rintro e w2 ⟨y1, y2, rfl, hG, hb⟩
  obtain ⟨x1, k1, x2, k2, rfl, rfl⟩ := hG.forms
  replace hA := hA.belowb hb
  replace cA := hA.cells
  replace hR := hR.belowb hb
  replace hO := hO.belowb hb
  have bel := bel0.trans (hb.mono bel0.size)
  have hs2 : w1.heap.size ≤ w2.heap.size := hb.size
  clear hb bel0
  have hU := Upd.refl (w.heap.size + 2) w2
  go_wp2_with (first
    | (refine wpList_store_blk rfl _ _ _ rfl (w.heap.size + 2) 0 (scrA scr0 (.slice none 0 0) (.slice none 0 0) (.slice none 0 0) (.slice none 0 0)) (scrA ({ scr0 with r := s.r, wd := s.wd } : Scr) (.slice x1 s.cs.length k1) (.slice x2 s.bs.length k2) (.slice none 0 0) (.slice none 0 0)) (.agg #[.int .i64 s.r, .int .i64 s.wd, .slice x1 s.cs.length k1, .slice x2 s.bs.length k2]) rfl rfl hO rfl (by kernel_rfl) rfl rfl ?_; (try simp only [Act.put, List.setIfInBounds_toArray, List.set_cons_zero, List.set_cons_succ]); clear hO; intro w9 hO hu; replace hU := hU.trans hu; replace hA := hA.upd hu (by omega); replace cA := hA.cells; replace hR := hR.upd hu (by omega); clear hu)
    | (refine wpList_store_blk rfl _ _ _ rfl (w.heap.size + 2) 4 (scrA ({ scr0 with r := s.r, wd := s.wd } : Scr) (.slice x1 s.cs.length k1) (.slice x2 s.bs.length k2) (.slice none 0 0) (.slice none 0 0)) (scrA ({ scr0 with r := s.r, wd := s.wd, y := s.y } : Scr) (.slice x1 s.cs.length k1) (.slice x2 s.bs.length k2) (.slice none 0 0) (.slice none 0 0)) (.int .i64 s.y) rfl rfl hO rfl (by kernel_rfl) rfl rfl ?_; (try simp only [Act.put, List.setIfInBounds_toArray, List.set_cons_zero, List.set_cons_succ]); clear hO; intro w9 hO hu; replace hU := hU.trans hu; replace hA := hA.upd hu (by omega); replace cA := hA.cells; replace hR := hR.upd hu (by omega); clear hu)
    | (refine wpList_store_blk rfl _ _ _ rfl (w.heap.size + 2) 5 (scrA ({ scr0 with r := s.r, wd := s.wd, y := s.y } : Scr) (.slice x1 s.cs.length k1) (.slice x2 s.bs.length k2) (.slice none 0 0) (.slice none 0 0)) (scrA ({ scr0 with r := s.r, wd := s.wd, y := s.y, x := s.x } : Scr) (.slice x1 s.cs.length k1) (.slice x2 s.bs.length k2) (.slice none 0 0) (.slice none 0 0)) (.int .i64 s.x) rfl rfl hO rfl (by kernel_rfl) rfl rfl ?_; (try simp only [Act.put, List.setIfInBounds_toArray, List.set_cons_zero, List.set_cons_succ]); clear hO; intro w9 hO hu; replace hU := hU.trans hu; replace hA := hA.upd hu (by omega); replace cA := hA.cells; replace hR := hR.upd hu (by omega); clear hu)
    | (refine wpList_store_blk rfl _ _ _ rfl (w.heap.size + 2) 6 (scrA ({ scr0 with r := s.r, wd := s.wd, y := s.y, x := s.x } : Scr) (.slice x1 s.cs.length k1) (.slice x2 s.bs.length k2) (.slice none 0 0) (.slice none 0 0)) (scrA ({ scr0 with r := s.r, wd := s.wd, y := s.y, x := s.x, wrap := s.wrap } : Scr) (.slice x1 s.cs.length k1) (.slice x2 s.bs.length k2) (.slice none 0 0) (.slice none 0 0)) (.bool s.wrap) rfl rfl hO rfl (by kernel_rfl) rfl rfl ?_; (try simp only [Act.put, List.setIfInBounds_toArray, List.set_cons_zero, List.set_cons_succ]); clear hO; intro w9 hO hu; replace hU := hU.trans hu; replace hA := hA.upd hu (by omega); replace cA := hA.cells; replace hR := hR.upd hu (by omega); clear hu)
    | (refine wpList_store_blk rfl _ _ _ rfl (w.heap.size + 2) 7 (scrA ({ scr0 with r := s.r, wd := s.wd, y := s.y, x := s.x, wrap := s.wrap } : Scr) (.slice x1 s.cs.length k1) (.slice x2 s.bs.length k2) (.slice none 0 0) (.slice none 0 0)) (scrA ({ scr0 with r := s.r, wd := s.wd, y := s.y, x := s.x, wrap := s.wrap, attr := s.attr } : Scr) (.slice x1 s.cs.length k1) (.slice x2 s.bs.length k2) (.slice none 0 0) (.slice none 0 0)) (.int .i64 s.attr) rfl rfl hO rfl (by kernel_rfl) rfl rfl ?_; (try simp only [Act.put, List.setIfInBounds_toArray, List.set_cons_zero, List.set_cons_succ]); clear hO; intro w9 hO hu; replace hU := hU.trans hu; replace hA := hA.upd hu (by omega); replace cA := hA.cells; replace hR := hR.upd hu (by omega); clear hu)
    | (refine wpList_store_blk rfl _ _ _ rfl (w.heap.size + 2) 8 (scrA ({ scr0 with r := s.r, wd := s.wd, y := s.y, x := s.x, wrap := s.wrap, attr := s.attr } : Scr) (.slice x1 s.cs.length k1) (.slice x2 s.bs.length k2) (.slice none 0 0) (.slice none 0 0)) (scrA ({ scr0 with r := s.r, wd := s.wd, y := s.y, x := s.x, wrap := s.wrap, attr := s.attr, top := s.top } : Scr) (.slice x1 s.cs.length k1) (.slice x2 s.bs.length k2) (.slice none 0 0) (.slice none 0 0)) (.int .i64 s.top) rfl rfl hO rfl (by kernel_rfl) rfl rfl ?_; (try simp only [Act.put, List.setIfInBounds_toArray, List.set_cons_zero, List.set_cons_succ]); clear hO; intro w9 hO hu; replace hU := hU.trans hu; replace hA := hA.upd hu (by omega); replace cA := hA.cells; replace hR := hR.upd hu (by omega); clear hu)
    | (refine wpList_store_blk rfl _ _ _ rfl (w.heap.size + 2) 9 (scrA ({ scr0 with r := s.r, wd := s.wd, y := s.y, x := s.x, wrap := s.wrap, attr := s.attr, top := s.top } : Scr) (.slice x1 s.cs.length k1) (.slice x2 s.bs.length k2) (.slice none 0 0) (.slice none 0 0)) (scrA ({ scr0 with r := s.r, wd := s.wd, y := s.y, x := s.x, wrap := s.wrap, attr := s.attr, top := s.top, bot := s.bot } : Scr) (.slice x1 s.cs.length k1) (.slice x2 s.bs.length k2) (.slice none 0 0) (.slice none 0 0)) (.int .i64 s.bot) rfl rfl hO rfl (by kernel_rfl) rfl rfl ?_; (try simp only [Act.put, List.setIfInBounds_toArray, List.set_cons_zero, List.set_cons_succ]); clear hO; intro w9 hO hu; replace hU := hU.trans hu; replace hA := hA.upd hu (by omega); replace cA := hA.cells; replace hR := hR.upd hu (by omega); clear hu)
    | (refine wpList_store_blk rfl _ _ _ rfl (w.heap.size + 2) 10 (scrA ({ scr0 with r := s.r, wd := s.wd, y := s.y, x := s.x, wrap := s.wrap, attr := s.attr, top := s.top, bot := s.bot } : Scr) (.slice x1 s.cs.length k1) (.slice x2 s.bs.length k2) (.slice none 0 0) (.slice none 0 0)) (scrA ({ scr0 with r := s.r, wd := s.wd, y := s.y, x := s.x, wrap := s.wrap, attr := s.attr, top := s.top, bot := s.bot, org := s.org } : Scr) (.slice x1 s.cs.length k1) (.slice x2 s.bs.length k2) (.slice none 0 0) (.slice none 0 0)) (.bool s.org) rfl rfl hO rfl (by kernel_rfl) rfl rfl ?_; (try simp only [Act.put, List.setIfInBounds_toArray, List.set_cons_zero, List.set_cons_succ]); clear hO; intro w9 hO hu; replace hU := hU.trans hu; replace hA := hA.upd hu (by omega); replace cA := hA.cells; replace hR := hR.upd hu (by omega); clear hu)
    | (refine wpList_store_blk rfl _ _ _ rfl (w.heap.size + 2) 11 (scrA ({ scr0 with r := s.r, wd := s.wd, y := s.y, x := s.x, wrap := s.wrap, attr := s.attr, top := s.top, bot := s.bot, org := s.org } : Scr) (.slice x1 s.cs.length k1) (.slice x2 s.bs.length k2) (.slice none 0 0) (.slice none 0 0)) (scrA ({ scr0 with r := s.r, wd := s.wd, y := s.y, x := s.x, wrap := s.wrap, attr := s.attr, top := s.top, bot := s.bot, org := s.org, auto := s.auto } : Scr) (.slice x1 s.cs.length k1) (.slice x2 s.bs.length k2) (.slice none 0 0) (.slice none 0 0)) (.bool s.auto) rfl rfl hO rfl (by kernel_rfl) rfl rfl ?_; (try simp only [Act.put, List.setIfInBounds_toArray, List.set_cons_zero, List.set_cons_succ]); clear hO; intro w9 hO hu; replace hU := hU.trans hu; replace hA := hA.upd hu (by omega); replace cA := hA.cells; replace hR := hR.upd hu (by omega); clear hu)
    | (refine wpList_store_blk rfl _ _ _ rfl (w.heap.size + 2) 12 (scrA ({ scr0 with r := s.r, wd := s.wd, y := s.y, x := s.x, wrap := s.wrap, attr := s.attr, top := s.top, bot := s.bot, org := s.org, auto := s.auto } : Scr) (.slice x1 s.cs.length k1) (.slice x2 s.bs.length k2) (.slice none 0 0) (.slice none 0 0)) (scrA ({ scr0 with r := s.r, wd := s.wd, y := s.y, x := s.x, wrap := s.wrap, attr := s.attr, top := s.top, bot := s.bot, org := s.org, auto := s.auto, ins := s.ins } : Scr) (.slice x1 s.cs.length k1) (.slice x2 s.bs.length k2) (.slice none 0 0) (.slice none 0 0)) (.bool s.ins) rfl rfl hO rfl (by kernel_rfl) rfl rfl ?_; (try simp only [Act.put, List.setIfInBounds_toArray, List.set_cons_zero, List.set_cons_succ]); clear hO; intro w9 hO hu; replace hU := hU.trans hu; replace hA := hA.upd hu (by omega); replace cA := hA.cells; replace hR := hR.upd hu (by omega); clear hu))
  refine (toBools_calls s.tabs _ _ hn3 (h.g3.below (bel.trans (hU.below (Nat.le_add_right _ _))))).mono ?_
  rintro e w3 ⟨y3, rfl, hT, hb⟩
  obtain ⟨x3, k3, hy3, hT'⟩ := hT
  subst hy3
  replace hA := hA.belowb hb
  replace cA := hA.cells
  replace hR := hR.belowb hb
  replace hO := hO.belowb hb
  have bel3 := (bel.trans (hU.below (Nat.le_add_right _ _))).trans (hb.mono (by have := hU.size; omega))
  have hs3 : w2.heap.size ≤ w3.heap.size := by have := hU.size; have := hb.size; omega
  replace hG : GOwn w1.heap.size w2.heap.size w3 _ _ s.cs s.bs := (hG.of_blocks (fun k k1 k2 => (hb.block k (by have := hU.size; omega)).trans (hU.block k (by omega))))
  have hT : BoolsAt w2.heap.size w3.heap.size w3 (.slice x3 s.tabs.length k3) s.tabs := BoolsAt.mono ⟨x3, k3, rfl, hT'⟩ (by have := hU.size; omega) (Nat.le_refl _)
  clear hb hU hT'
  have hU := Upd.refl (w.heap.size + 2) w3
  go_wp2_with (first
    | (refine wpList_store_blk rfl _ _ _ rfl (w.heap.size + 2) 13 (scrA ({ scr0 with r := s.r, wd := s.wd, y := s.y, x := s.x, wrap := s.wrap, attr := s.attr, top := s.top, bot := s.bot, org := s.org, auto := s.auto, ins := s.ins } : Scr) (.slice x1 s.cs.length k1) (.slice x2 s.bs.length k2) (.slice none 0 0) (.slice none 0 0)) (scrA ({ scr0 with r := s.r, wd := s.wd, y := s.y, x := s.x, wrap := s.wrap, attr := s.attr, top := s.top, bot := s.bot, org := s.org, auto := s.auto, ins := s.ins } : Scr) (.slice x1 s.cs.length k1) (.slice x2 s.bs.length k2) (.slice x3 s.tabs.length k3) (.slice none 0 0)) (.slice x3 s.tabs.length k3) rfl rfl hO rfl (by kernel_rfl) rfl rfl ?_; (try simp only [Act.put, List.setIfInBounds_toArray, List.set_cons_zero, List.set_cons_succ]); clear hO; intro w9 hO hu; replace hU := hU.trans hu; replace hA := hA.upd hu (by omega); replace cA := hA.cells; replace hR := hR.upd hu (by omega); clear hu)
    | (refine wpList_store_blk rfl _ _ _ rfl (w.heap.size + 2) 14 (scrA ({ scr0 with r := s.r, wd := s.wd, y := s.y, x := s.x, wrap := s.wrap, attr := s.attr, top := s.top, bot := s.bot, org := s.org, auto := s.auto, ins := s.ins } : Scr) (.slice x1 s.cs.length k1) (.slice x2 s.bs.length k2) (.slice x3 s.tabs.length k3) (.slice none 0 0)) (scrA ({ scr0 with r := s.r, wd := s.wd, y := s.y, x := s.x, wrap := s.wrap, attr := s.attr, top := s.top, bot := s.bot, org := s.org, auto := s.auto, ins := s.ins, ky := s.ky } : Scr) (.slice x1 s.cs.length k1) (.slice x2 s.bs.length k2) (.slice x3 s.tabs.length k3) (.slice none 0 0)) (.int .i64 s.ky) rfl rfl hO rfl (by kernel_rfl) rfl rfl ?_; (try simp only [Act.put, List.setIfInBounds_toArray, List.set_cons_zero, List.set_cons_succ]); clear hO; intro w9 hO hu; replace hU := hU.trans hu; replace hA := hA.upd hu (by omega); replace cA := hA.cells; replace hR := hR.upd hu (by omega); clear hu)
    | (refine wpList_store_blk rfl _ _ _ rfl (w.heap.size + 2) 15 (scrA ({ scr0 with r := s.r, wd := s.wd, y := s.y, x := s.x, wrap := s.wrap, attr := s.attr, top := s.top, bot := s.bot, org := s.org, auto := s.auto, ins := s.ins, ky := s.ky } : Scr) (.slice x1 s.cs.length k1) (.slice x2 s.bs.length k2) (.slice x3 s.tabs.length k3) (.slice none 0 0)) (scrA ({ scr0 with r := s.r, wd := s.wd, y := s.y, x := s.x, wrap := s.wrap, attr := s.attr, top := s.top, bot := s.bot, org := s.org, auto := s.auto, ins := s.ins, ky := s.ky, kx := s.kx } : Scr) (.slice x1 s.cs.length k1) (.slice x2 s.bs.length k2) (.slice x3 s.tabs.length k3) (.slice none 0 0)) (.int .i64 s.kx) rfl rfl hO rfl (by kernel_rfl) rfl rfl ?_; (try simp only [Act.put, List.setIfInBounds_toArray, List.set_cons_zero, List.set_cons_succ]); clear hO; intro w9 hO hu; replace hU := hU.trans hu; replace hA := hA.upd hu (by omega); replace cA := hA.cells; replace hR := hR.upd hu (by omega); clear hu)
    | (refine wpList_store_blk rfl _ _ _ rfl (w.heap.size + 2) 16 (scrA ({ scr0 with r := s.r, wd := s.wd, y := s.y, x := s.x, wrap := s.wrap, attr := s.attr, top := s.top, bot := s.bot, org := s.org, auto := s.auto, ins := s.ins, ky := s.ky, kx := s.kx } : Scr) (.slice x1 s.cs.length k1) (.slice x2 s.bs.length k2) (.slice x3 s.tabs.length k3) (.slice none 0 0)) (scrA ({ scr0 with r := s.r, wd := s.wd, y := s.y, x := s.x, wrap := s.wrap, attr := s.attr, top := s.top, bot := s.bot, org := s.org, auto := s.auto, ins := s.ins, ky := s.ky, kx := s.kx, ka := s.ka } : Scr) (.slice x1 s.cs.length k1) (.slice x2 s.bs.length k2) (.slice x3 s.tabs.length k3) (.slice none 0 0)) (.int .i64 s.ka) rfl rfl hO rfl (by kernel_rfl) rfl rfl ?_; (try simp only [Act.put, List.setIfInBounds_toArray, List.set_cons_zero, List.set_cons_succ]); clear hO; intro w9 hO hu; replace hU := hU.trans hu; replace hA := hA.upd hu (by omega); replace cA := hA.cells; replace hR := hR.upd hu (by omega); clear hu))
  refine (toInts_calls s.sets _ _ hn4 (h.g4.below (bel3.trans (hU.below (Nat.le_add_right _ _))))).mono ?_
  rintro e w4 ⟨y4, rfl, hI, hb⟩
  obtain ⟨x4, k4, hy4, hI'⟩ := hI
  subst hy4
  replace hA := hA.belowb hb
  replace cA := hA.cells
  replace hR := hR.belowb hb
  replace hO := hO.belowb hb
  have bel4 := (bel3.trans (hU.below (Nat.le_add_right _ _))).trans (hb.mono (by have := hU.size; omega))
  have hs4 : w3.heap.size ≤ w4.heap.size := by have := hU.size; have := hb.size; omega
  replace hG : GOwn w1.heap.size w2.heap.size w4 _ _ s.cs s.bs := (hG.of_blocks (fun k k1 k2 => (hb.block k (by have := hU.size; omega)).trans (hU.block k (by omega))))
  replace hT : BoolsAt w2.heap.size w3.heap.size w4 _ s.tabs := (hT.of_blocks (fun k k1 k2 => (hb.block k (by have := hU.size; omega)).trans (hU.block k (by omega))))
  have hI : IntsAt .i64 w3.heap.size w4.heap.size w4 (.slice x4 s.sets.length k4) s.sets := IntsAt.mono ⟨x4, k4, rfl, hI'⟩ (by have := hU.size; omega) (Nat.le_refl _)
  clear hb hU hI'
  have hU := Upd.refl (w.heap.size + 2) w4
  have hV := Upd.refl (w.heap.size + 1) w4
  clear hV
  go_wp2_with (first
    | (refine wpList_store_blk rfl _ _ _ rfl (w.heap.size + 2) 17 (scrA ({ scr0 with r := s.r, wd := s.wd, y := s.y, x := s.x, wrap := s.wrap, attr := s.attr, top := s.top, bot := s.bot, org := s.org, auto := s.auto, ins := s.ins, ky := s.ky, kx := s.kx, ka := s.ka } : Scr) (.slice x1 s.cs.length k1) (.slice x2 s.bs.length k2) (.slice x3 s.tabs.length k3) (.slice none 0 0)) (scrA ({ scr0 with r := s.r, wd := s.wd, y := s.y, x := s.x, wrap := s.wrap, attr := s.attr, top := s.top, bot := s.bot, org := s.org, auto := s.auto, ins := s.ins, ky := s.ky, kx := s.kx, ka := s.ka } : Scr) (.slice x1 s.cs.length k1) (.slice x2 s.bs.length k2) (.slice x3 s.tabs.length k3) (.slice x4 s.sets.length k4)) (.slice x4 s.sets.length k4) rfl rfl hO rfl (by kernel_rfl) rfl rfl ?_; (try simp only [Act.put, List.setIfInBounds_toArray, List.set_cons_zero, List.set_cons_succ]); clear hO; intro w9 hO hu; replace hU := hU.trans hu; replace hA := hA.upd hu (by omega); replace cA := hA.cells; replace hR := hR.upd hu (by omega); clear hu)
    | (refine wpList_store_blk rfl _ _ _ rfl (w.heap.size + 2) 18 (scrA ({ scr0 with r := s.r, wd := s.wd, y := s.y, x := s.x, wrap := s.wrap, attr := s.attr, top := s.top, bot := s.bot, org := s.org, auto := s.auto, ins := s.ins, ky := s.ky, kx := s.kx, ka := s.ka } : Scr) (.slice x1 s.cs.length k1) (.slice x2 s.bs.length k2) (.slice x3 s.tabs.length k3) (.slice x4 s.sets.length k4)) (scrA ({ scr0 with r := s.r, wd := s.wd, y := s.y, x := s.x, wrap := s.wrap, attr := s.attr, top := s.top, bot := s.bot, org := s.org, auto := s.auto, ins := s.ins, ky := s.ky, kx := s.kx, ka := s.ka, sh := s.sh } : Scr) (.slice x1 s.cs.length k1) (.slice x2 s.bs.length k2) (.slice x3 s.tabs.length k3) (.slice x4 s.sets.length k4)) (.int .i64 s.sh) rfl rfl hO rfl (by kernel_rfl) rfl rfl ?_; (try simp only [Act.put, List.setIfInBounds_toArray, List.set_cons_zero, List.set_cons_succ]); clear hO; intro w9 hO hu; replace hU := hU.trans hu; replace hA := hA.upd hu (by omega); replace cA := hA.cells; replace hR := hR.upd hu (by omega); clear hu)
    | (refine wpList_store_blk rfl _ _ _ rfl (w.heap.size + 2) 19 (scrA ({ scr0 with r := s.r, wd := s.wd, y := s.y, x := s.x, wrap := s.wrap, attr := s.attr, top := s.top, bot := s.bot, org := s.org, auto := s.auto, ins := s.ins, ky := s.ky, kx := s.kx, ka := s.ka, sh := s.sh } : Scr) (.slice x1 s.cs.length k1) (.slice x2 s.bs.length k2) (.slice x3 s.tabs.length k3) (.slice x4 s.sets.length k4)) (scrA ({ scr0 with r := s.r, wd := s.wd, y := s.y, x := s.x, wrap := s.wrap, attr := s.attr, top := s.top, bot := s.bot, org := s.org, auto := s.auto, ins := s.ins, ky := s.ky, kx := s.kx, ka := s.ka, sh := s.sh, bells := s.bells } : Scr) (.slice x1 s.cs.length k1) (.slice x2 s.bs.length k2) (.slice x3 s.tabs.length k3) (.slice x4 s.sets.length k4)) (.int .i64 s.bells) rfl rfl hO rfl (by kernel_rfl) rfl rfl ?_; (try simp only [Act.put, List.setIfInBounds_toArray, List.set_cons_zero, List.set_cons_succ]); clear hO; intro w9 hO hu; replace hU := hU.trans hu; replace hA := hA.upd hu (by omega); replace cA := hA.cells; replace hR := hR.upd hu (by omega); clear hu)
    | (refine wpList_load_at rfl 37 _ rfl (w.heap.size + 2) 0 rfl (scrA ({ scr0 with r := s.r, wd := s.wd, y := s.y, x := s.x, wrap := s.wrap, attr := s.attr, top := s.top, bot := s.bot, org := s.org, auto := s.auto, ins := s.ins, ky := s.ky, kx := s.kx, ka := s.ka, sh := s.sh, bells := s.bells } : Scr) (.slice x1 s.cs.length k1) (.slice x2 s.bs.length k2) (.slice x3 s.tabs.length k3) (.slice x4 s.sets.length k4)) (scrA s (.slice x1 s.cs.length k1) (.slice x2 s.bs.length k2) (.slice x3 s.tabs.length k3) (.slice x4 s.sets.length k4)) hO rfl _ Tryz.underlying37 rfl (by kernel_rfl) ?_; simp only [Act.put, List.setIfInBounds_toArray, List.set_cons_zero, List.set_cons_succ])
    | (refine wpList_store_blk rfl _ _ _ rfl (w.heap.size + 1) 0 (scrA scr0 (.slice none 0 0) (.slice none 0 0) (.slice none 0 0) (.slice none 0 0)) (scrA s (.slice x1 s.cs.length k1) (.slice x2 s.bs.length k2) (.slice x3 s.tabs.length k3) (.slice x4 s.sets.length k4)) (.agg (scrA s (.slice x1 s.cs.length k1) (.slice x2 s.bs.length k2) (.slice x3 s.tabs.length k3) (.slice x4 s.sets.length k4))) rfl rfl hR rfl (by kernel_rfl) rfl rfl ?_; (try simp only [Act.put, List.setIfInBounds_toArray, List.set_cons_zero, List.set_cons_succ]); clear hR hO hA cA; intro w9 hR hV))
  refine bodyPost_ret (results_blk hR _ _ rfl rfl Tryz.underlying37 rfl (by kernel_rfl)) rfl ⟨_, _, _, _, rfl, ?_, ?_⟩
  · have hblk : ∀ k, k ≠ w.heap.size + 2 → k ≠ w.heap.size + 1 → w9.heap[k]? = w4.heap[k]? := fun k n1 n2 => (hV.block k n2).trans (hU.block k n1)
    have hz : w9.heap.size = w4.heap.size := hV.size.trans hU.size
    refine ⟨w1.heap.size, w2.heap.size, w2.heap.size, w3.heap.size, w3.heap.size, w4.heap.size, by omega, by omega, by omega, by omega, by omega, by omega, by omega, by omega, by omega, ?_, ?_, ?_⟩
    · exact hG.of_blocks (fun k k1 k2 => hblk k (by omega) (by omega))
    · exact hT.of_blocks (fun k k1 k2 => hblk k (by omega) (by omega))
    · exact hI.of_blocks (fun k k1 k2 => hblk k (by omega) (by omega))
  · exact (bel4.trans (hU.below (Nat.le_add_right _ _))).trans (hV.below (Nat.le_add_right _ _))

set_option maxHeartbeats 2000000 in
theorem eqScreen_calls (s : Scr) (u1 u2 u3 u4 v1 v2 v3 v4 : Value) (w : World) (hn1 : s.cs.length ≤ 1048576) (hn2 : s.bs.length ≤ 1048576) (hn3 : s.tabs.length ≤ 1048576) (hn4 : s.sets.length ≤ 1048576) (h : SRead w s u1 u2 u3 u4) (h' : SRead w s v1 v2 v3 v4) :
    Calls Tryz.prog 14 #[.agg (scrA s u1 u2 u3 u4), .agg (scrA s v1 v2 v3 v4)] w fun e w' => e = .returned (.bool true) ∧ Below w.heap.size w w' := by
  have e0 := scrA_0 s u1 u2 u3 u4
  have f0 := scrA_0 s v1 v2 v3 v4
  have e1 := scrA_1 s u1 u2 u3 u4
  have f1 := scrA_1 s v1 v2 v3 v4
  have e2 := scrA_2 s u1 u2 u3 u4
  have f2 := scrA_2 s v1 v2 v3 v4
  have e3 := scrA_3 s u1 u2 u3 u4
  have f3 := scrA_3 s v1 v2 v3 v4
  have e4 := scrA_4 s u1 u2 u3 u4
  have f4 := scrA_4 s v1 v2 v3 v4
  have e5 := scrA_5 s u1 u2 u3 u4
  have f5 := scrA_5 s v1 v2 v3 v4
  have e6 := scrA_6 s u1 u2 u3 u4
  have f6 := scrA_6 s v1 v2 v3 v4
  have e7 := scrA_7 s u1 u2 u3 u4
  have f7 := scrA_7 s v1 v2 v3 v4
  have e8 := scrA_8 s u1 u2 u3 u4
  have f8 := scrA_8 s v1 v2 v3 v4
  have e9 := scrA_9 s u1 u2 u3 u4
  have f9 := scrA_9 s v1 v2 v3 v4
  have e10 := scrA_10 s u1 u2 u3 u4
  have f10 := scrA_10 s v1 v2 v3 v4
  have e11 := scrA_11 s u1 u2 u3 u4
  have f11 := scrA_11 s v1 v2 v3 v4
  have e12 := scrA_12 s u1 u2 u3 u4
  have f12 := scrA_12 s v1 v2 v3 v4
  have e13 := scrA_13 s u1 u2 u3 u4
  have f13 := scrA_13 s v1 v2 v3 v4
  have e14 := scrA_14 s u1 u2 u3 u4
  have f14 := scrA_14 s v1 v2 v3 v4
  have e15 := scrA_15 s u1 u2 u3 u4
  have f15 := scrA_15 s v1 v2 v3 v4
  have e16 := scrA_16 s u1 u2 u3 u4
  have f16 := scrA_16 s v1 v2 v3 v4
  have e17 := scrA_17 s u1 u2 u3 u4
  have f17 := scrA_17 s v1 v2 v3 v4
  have e18 := scrA_18 s u1 u2 u3 u4
  have f18 := scrA_18 s v1 v2 v3 v4
  have e19 := scrA_19 s u1 u2 u3 u4
  have f19 := scrA_19 s v1 v2 v3 v4
  have hne : ∀ x : Int, (x != x) = false := fun x => by simp
  have hnb : ∀ x : Bool, (x != x) = false := fun x => by simp
  have bel0 : Below w.heap.size w ((w.alloc (.cells (scrA s u1 u2 u3 u4) 37)).alloc (.cells (scrA s v1 v2 v3 v4) 37)) := (by repeat' (first | with_reducible exact Below.refl _ _ | with_reducible assumption | with_reducible refine Below.drew ?_ | with_reducible refine Below.alloc ?_ ?_ _ | with_reducible refine Below.setCell ?_ ?_ _ | (simp; done) | (simp; omega) | omega))
  have hA := (Blk.new w (scrA s u1 u2 u3 u4) 37).alloc (.cells (scrA s v1 v2 v3 v4) 37)
  have hB := Blk.new_at (w := w.alloc (.cells (scrA s u1 u2 u3 u4) 37)) (b := w.heap.size + 1) (by simp) (scrA s v1 v2 v3 v4) 37
  go_enter Tryz.func14, Tryz.ntmps14
  go_wp2_with fail
  refine (eqGrid_calls s.r s.wd s.cs s.bs _ _ _ _ _ (by omega) (by omega) (h.g1.below bel0) (h.g2.below bel0) (h'.g1.below bel0) (h'.g2.below bel0)).mono ?_
  rintro e w1 ⟨rfl, hb⟩
  replace hA := hA.belowb hb
  replace hB := hB.belowb hb
  have bel1 := bel0.trans (hb.mono bel0.size)
  clear hb
  have cA := hA.cells
  have cB := hB.cells
  go_wp2_with fail
  refine (eqBools_below s.tabs _ _ _ (by omega) (h.g3.below bel1) (h'.g3.below bel1)).mono ?_
  rintro e w2 ⟨rfl, hb⟩
  replace hA := hA.belowb hb
  replace hB := hB.belowb hb
  have bel2 := bel1.trans (hb.mono bel1.size)
  clear hb
  clear cA cB
  have cA := hA.cells
  have cB := hB.cells
  go_wp2_with fail
  refine (eqInts_below s.sets _ _ _ (by omega) (h.g4.below bel2) (h'.g4.below bel2)).mono ?_
  rintro e w3 ⟨rfl, hb⟩
  replace hA := hA.belowb hb
  replace hB := hB.belowb hb
  have bel3 := bel2.trans (hb.mono bel2.size)
  clear hb
  clear cA cB
  have cA := hA.cells
  have cB := hB.cells
  go_wp2
  go_ret
  exact ⟨rfl, bel3⟩

end Go.Proofs.YtdekegjplegkeaaGreat
