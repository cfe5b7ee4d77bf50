/-
  What impl.ScreenFault answers.
-/
import Derived.Test.YtknkbihjboadjaaDoorScrFaults
namespace Go.Proofs.YtknkbihjboadjaaDoor
set_option maxRecDepth 20000
open Go.ChangeShapes Go.WideShapes Go.ChangeAt Go.RowKit
set_option linter.unusedVariables false
set_option linter.unusedSimpArgs false
set_option maxRecDepth 20000

set_option maxHeartbeats 4000000 in
theorem implScreenFault_calls (s : Scr) (v1 v2 v3 v4 : Value) (w : World) (hn1 : s.cs.length ≤ 1048576) (hn2 : s.bs.length ≤ 1048576) (hn3 : s.tabs.length ≤ 1048576) (hn4 : s.sets.length ≤ 1048576) (h : SRead w s v1 v2 v3 v4) :
    Calls Tryd.prog 27 #[.agg (scrA s v1 v2 v3 v4)] w fun e w' => e = .returned (.int .i64 (scrCode s)) ∧ Below w.heap.size w w' := by
  have e0 := scrA_0 s v1 v2 v3 v4
  have e1 := scrA_1 s v1 v2 v3 v4
  have e2 := scrA_2 s v1 v2 v3 v4
  have e3 := scrA_3 s v1 v2 v3 v4
  have e4 := scrA_4 s v1 v2 v3 v4
  have e5 := scrA_5 s v1 v2 v3 v4
  have e7 := scrA_7 s v1 v2 v3 v4
  have e13 := scrA_13 s v1 v2 v3 v4
  have e17 := scrA_17 s v1 v2 v3 v4
  have e18 := scrA_18 s v1 v2 v3 v4
  have e19 := scrA_19 s v1 v2 v3 v4
  obtain ⟨a1, c1, a2, c2, a3, c3, a4, c4, rfl, rfl, rfl, rfl⟩ := h.forms
  go_enter Tryd.func27, Tryd.ntmps27
  have bel0 : Below w.heap.size w (w.alloc (.cells (scrA s (.slice a1 s.cs.length c1) (.slice a2 s.bs.length c2) (.slice a3 s.tabs.length c3) (.slice a4 s.sets.length c4)) 38)) := (Below.refl _ w).alloc (Nat.le_refl _) _
  have B0 := Blk.new w (scrA s (.slice a1 s.cs.length c1) (.slice a2 s.bs.length c2) (.slice a3 s.tabs.length c3) (.slice a4 s.sets.length c4)) 38
  go_wp2_with (first | (refine wpList_load_at rfl 38 _ rfl w.heap.size 0 rfl _ (scrA s (.slice a1 s.cs.length c1) (.slice a2 s.bs.length c2) (.slice a3 s.tabs.length c3) (.slice a4 s.sets.length c4)) B0 rfl _ Tryd.underlying38 rfl (by kernel_rfl) ?_; simp only [Act.put, List.setIfInBounds_toArray, List.set_cons_zero, List.set_cons_succ]))
  go_at_call 59
  refine (implGridFault_calls s.r s.wd s.cs s.bs _ _ _ hn1 hn2 (h.g1.below bel0) (h.g2.below bel0)).mono ?_
  rintro e w1 ⟨rfl, hb1⟩
  have B1 := B0.belowb hb1
  have bel1 : Below w.heap.size w w1 := bel0.trans (hb1.mono bel0.size)
  have hc1 := B1.cells
  clear hb1 bel0 B0
  by_cases hg : gridCode s.r s.wd s.cs s.bs = 0
  · skip
    obtain ⟨s1, s2, s3, s4, _, _⟩ := size_mul (gfine_of_code hg).size
    have HG := hide hg
    rw [hg]
    clear hg
    go_wp2_with (first | (refine wpList_load_at rfl 38 _ rfl w.heap.size 0 rfl _ (scrA s (.slice a1 s.cs.length c1) (.slice a2 s.bs.length c2) (.slice a3 s.tabs.length c3) (.slice a4 s.sets.length c4)) B1 rfl _ Tryd.underlying38 rfl (by kernel_rfl) ?_; simp only [Act.put, List.setIfInBounds_toArray, List.set_cons_zero, List.set_cons_succ]))
    go_at_call 60
    refine (isPlace_calls s.r s.wd s.y s.x a1 a2 _ _ c1 c2 s1 s2 s3 s4 _).mono ?_
    rintro e w2 ⟨rfl, hb2⟩
    have B2 := B1.belowb hb2
    have bel2 : Below w.heap.size w w2 := bel1.trans (hb2.mono bel1.size)
    have hc2 := B2.cells
    clear hb2 bel1 B1 hc1
    cases p1 : placeB s.r s.wd s.y s.x
    · go_wp2
      go_ret
      exact ⟨by rw [scr_range HG.out (by simp [rangeB, p1])]; rfl, bel2⟩
    · skip
      go_wp2_with (first | (refine wpList_load_at rfl 38 _ rfl w.heap.size 0 rfl _ (scrA s (.slice a1 s.cs.length c1) (.slice a2 s.bs.length c2) (.slice a3 s.tabs.length c3) (.slice a4 s.sets.length c4)) B2 rfl _ Tryd.underlying38 rfl (by kernel_rfl) ?_; simp only [Act.put, List.setIfInBounds_toArray, List.set_cons_zero, List.set_cons_succ]))
      go_at_call 46
      refine (isAttr_calls s.attr _).mono ?_
      rintro e w' ⟨rfl, hw⟩
      rw [hw]
      clear hw w'
      cases p2 : atB s.attr
      · go_wp2
        go_ret
        exact ⟨by rw [scr_range HG.out (by simp [rangeB, p2])]; rfl, bel2⟩
      · skip
        go_wp2_with (first | (refine wpList_load_at rfl 38 _ rfl w.heap.size 0 rfl _ (scrA s (.slice a1 s.cs.length c1) (.slice a2 s.bs.length c2) (.slice a3 s.tabs.length c3) (.slice a4 s.sets.length c4)) B2 rfl _ Tryd.underlying38 rfl (by kernel_rfl) ?_; simp only [Act.put, List.setIfInBounds_toArray, List.set_cons_zero, List.set_cons_succ]))
        go_at_call 61
        refine (isKept_calls s _ _ _ _ _).mono ?_
        rintro e w3 ⟨rfl, hb3⟩
        have B3 := B2.belowb hb3
        have bel3 : Below w.heap.size w w3 := bel2.trans (hb3.mono bel2.size)
        have hc3 := B3.cells
        clear hb3 bel2 B2 hc2
        cases p3 : keptB s
        · go_wp2
          go_ret
          exact ⟨by rw [scr_range HG.out (by simp [rangeB, p3])]; rfl, bel3⟩
        · skip
          go_wp2_with (first | (refine wpList_load_at rfl 38 _ rfl w.heap.size 0 rfl _ (scrA s (.slice a1 s.cs.length c1) (.slice a2 s.bs.length c2) (.slice a3 s.tabs.length c3) (.slice a4 s.sets.length c4)) B3 rfl _ Tryd.underlying38 rfl (by kernel_rfl) ?_; simp only [Act.put, List.setIfInBounds_toArray, List.set_cons_zero, List.set_cons_succ]))
          go_at_call 62
          refine (areTables_calls s.sets _ _ hn4 (h.g4.below bel3)).mono ?_
          rintro e w' ⟨rfl, hw⟩
          rw [hw]
          clear hw w'
          cases p4 : setsB s.sets
          · go_wp2
            go_ret
            exact ⟨by rw [scr_range HG.out (by simp [rangeB, p4])]; rfl, bel3⟩
          · skip
            go_wp2_with (first | (refine wpList_load_at rfl 38 _ rfl w.heap.size 0 rfl _ (scrA s (.slice a1 s.cs.length c1) (.slice a2 s.bs.length c2) (.slice a3 s.tabs.length c3) (.slice a4 s.sets.length c4)) B3 rfl _ Tryd.underlying38 rfl (by kernel_rfl) ?_; simp only [Act.put, List.setIfInBounds_toArray, List.set_cons_zero, List.set_cons_succ]))
            go_at_call 50
            refine (isFromTo_calls s.sh 0 1 _).mono ?_
            rintro e w' ⟨rfl, hw⟩
            rw [hw]
            clear hw w'
            rw [show decide (0 ≤ s.sh ∧ s.sh ≤ 1) = shiftB s from rfl]
            cases p5 : shiftB s
            · go_wp2
              go_ret
              exact ⟨by rw [scr_range HG.out (by simp [rangeB, p5])]; rfl, bel3⟩
            · skip
              go_wp2_with (first | (refine wpList_load_at rfl 38 _ rfl w.heap.size 0 rfl _ (scrA s (.slice a1 s.cs.length c1) (.slice a2 s.bs.length c2) (.slice a3 s.tabs.length c3) (.slice a4 s.sets.length c4)) B3 rfl _ Tryd.underlying38 rfl (by kernel_rfl) ?_; simp only [Act.put, List.setIfInBounds_toArray, List.set_cons_zero, List.set_cons_succ]))
              go_at_call 50
              refine (isFromTo_calls s.bells 0 999 _).mono ?_
              rintro e w' ⟨rfl, hw⟩
              rw [hw]
              clear hw w'
              rw [show decide (0 ≤ s.bells ∧ s.bells ≤ 999) = bellsB s from rfl]
              cases p6 : bellsB s
              · go_wp2
                go_ret
                exact ⟨by rw [scr_range HG.out (by simp [rangeB, p6])]; rfl, bel3⟩
              · skip
                have HR : Hid (rangeB s = true) := hide (by simp [rangeB, p1, p2, p3, p4, p5, p6])
                clear p1 p2 p3 p4 p5 p6
                go_wp2_with (first | (refine wpList_load_at rfl 38 _ rfl w.heap.size 0 rfl _ (scrA s (.slice a1 s.cs.length c1) (.slice a2 s.bs.length c2) (.slice a3 s.tabs.length c3) (.slice a4 s.sets.length c4)) B3 rfl _ Tryd.underlying38 rfl (by kernel_rfl) ?_; simp only [Act.put, List.setIfInBounds_toArray, List.set_cons_zero, List.set_cons_succ]))
                go_at_call 63
                refine (isRegion_calls s _ _ _ _ s1 s2 _).mono ?_
                rintro e w4 ⟨rfl, hb4⟩
                have B4 := B3.belowb hb4
                have bel4 : Below w.heap.size w w4 := bel3.trans (hb4.mono bel3.size)
                have hc4 := B4.cells
                clear hb4 bel3 B3 hc3
                cases p1 : regionB s.top s.bot s.r
                · go_wp2
                  go_ret
                  exact ⟨by rw [scr_form HG.out HR.out (by simp [sformB, p1])]; rfl, bel4⟩
                · skip
                  by_cases ht : (s.tabs.length : Int) = s.wd
                  · skip
                    have hne : ((s.tabs.length : Int) != s.wd) = false := by simp [ht]
                    have p2 : Hid (tabsB s = true) := hide (by simp [tabsB, ht])
                    clear ht
                    go_wp2_with (first | (refine wpList_load_at rfl 38 _ rfl w.heap.size 0 rfl _ (scrA s (.slice a1 s.cs.length c1) (.slice a2 s.bs.length c2) (.slice a3 s.tabs.length c3) (.slice a4 s.sets.length c4)) B4 rfl _ Tryd.underlying38 rfl (by kernel_rfl) ?_; simp only [Act.put, List.setIfInBounds_toArray, List.set_cons_zero, List.set_cons_succ]))
                    go_at_call 64
                    refine (isWrapAsTold_calls s _ _ _ _ s3 s4 _).mono ?_
                    rintro e w5 ⟨rfl, hb5⟩
                    have B5 := B4.belowb hb5
                    have bel5 : Below w.heap.size w w5 := bel4.trans (hb5.mono bel4.size)
                    have hc5 := B5.cells
                    clear hb5 bel4 B4 hc4
                    cases p3 : wrapB s
                    · go_wp2
                      go_ret
                      exact ⟨by rw [scr_form HG.out HR.out (by simp [sformB, p3])]; rfl, bel5⟩
                    · skip
                      go_wp2_with (first | (refine wpList_load_at rfl 38 _ rfl w.heap.size 0 rfl _ (scrA s (.slice a1 s.cs.length c1) (.slice a2 s.bs.length c2) (.slice a3 s.tabs.length c3) (.slice a4 s.sets.length c4)) B5 rfl _ Tryd.underlying38 rfl (by kernel_rfl) ?_; simp only [Act.put, List.setIfInBounds_toArray, List.set_cons_zero, List.set_cons_succ]))
                      go_at_call 65
                      refine (isOriginAsTold_calls s _ _ _ _ _).mono ?_
                      rintro e w6 ⟨rfl, hb6⟩
                      have B6 := B5.belowb hb6
                      have bel6 : Below w.heap.size w w6 := bel5.trans (hb6.mono bel5.size)
                      have hc6 := B6.cells
                      clear hb6 bel5 B5 hc5
                      cases p4 : orgB s
                      · go_wp2
                        go_ret
                        exact ⟨by rw [scr_form HG.out HR.out (by simp [sformB, p4])]; rfl, bel6⟩
                      · skip
                        go_wp2
                        go_ret
                        exact ⟨by rw [scr_ok HG.out HR.out (by simp [sformB, p1, p2.out, p3, p4])]; rfl, bel6⟩
                  · have hne : ((s.tabs.length : Int) != s.wd) = true := by simpa using ht
                    have p2 : Hid (tabsB s = false) := hide (by simp [tabsB, ht])
                    clear ht
                    go_wp2
                    go_ret
                    exact ⟨by rw [scr_form HG.out HR.out (by simp [sformB, p2.out])]; rfl, bel4⟩
  · have hne : (gridCode s.r s.wd s.cs s.bs != 0) = true := by simpa using hg
    have HC := hide (scr_grid hg)
    clear hg
    generalize gridCode s.r s.wd s.cs s.bs = code at *
    go_wp2
    go_ret
    exact ⟨by rw [HC.out]; rfl, bel1⟩
end Go.Proofs.YtknkbihjboadjaaDoor
