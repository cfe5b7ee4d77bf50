/-
  What the model's ScreenFault answers: l5Form, l5Fault, ScreenFault.
-/
import Derived.Test.YtknkbihjboadjaaDoorScrFault3
namespace Go.Proofs.YtknkbihjboadjaaDoor
set_option maxRecDepth 20000
open Go.ChangeShapes Go.WideShapes Go.ChangeAt Go.RowKit
set_option linter.unusedVariables false
set_option linter.unusedSimpArgs false
set_option maxRecDepth 20000

set_option maxHeartbeats 8000000 in
theorem l5Form_calls (s : Scr) (v1 v2 v3 v4 : Value) (b : Nat) (s1 : 1 ≤ s.r) (s2 : s.r ≤ 6) (s3 : 2 ≤ s.wd) (s4 : s.wd ≤ 12) (w : World) (hn3 : s.tabs.length ≤ 1048576) (hB : Blk w b (scrA s v1 v2 v3 v4)) (h3 : BRead w v3 s.tabs) :
    Calls Tryd.prog 54 #[.pointer (some ⟨b, 0, none⟩)] w fun e w' => e = .returned (.bool (sformB s)) ∧ ∃ n, w' = w.drewN n := by
  have g0 := hB.at 0 (scrA_0 s v1 v2 v3 v4)
  have g1 := hB.at 1 (scrA_1 s v1 v2 v3 v4)
  have g4 := hB.at 4 (scrA_4 s v1 v2 v3 v4)
  have g5 := hB.at 5 (scrA_5 s v1 v2 v3 v4)
  have g6 := hB.at 6 (scrA_6 s v1 v2 v3 v4)
  have g8 := hB.at 8 (scrA_8 s v1 v2 v3 v4)
  have g9 := hB.at 9 (scrA_9 s v1 v2 v3 v4)
  have g10 := hB.at 10 (scrA_10 s v1 v2 v3 v4)
  have g11 := hB.at 11 (scrA_11 s v1 v2 v3 v4)
  have g13 := hB.at 13 (scrA_13 s v1 v2 v3 v4)
  clear hB
  obtain ⟨a3, c3, rfl, _⟩ := h3
  have hw : IntKind.i64.wrap (s.wd - 1) = s.wd - 1 := wrap_small (by omega) (by omega)
  unfold sformB
  cases p1 : regionB s.top s.bot s.r
  · go_enter Tryd.func54, Tryd.ntmps54
    go_wp2_with fail
    go_quiet ((go_at_call 81; exact Calls.quiet_of_same (l5Region_calls s.top s.bot s.r s1 s2 _)))
    go_wp2
    go_ret
    exact ⟨rfl, _, rfl⟩
  · by_cases ht : (s.tabs.length : Int) = s.wd
    · have hne : ((s.tabs.length : Int) != s.wd) = false := by simp [ht]
      have p2 : Hid (tabsB s = true) := hide (by simp [tabsB, ht])
      clear ht
      go_enter Tryd.func54, Tryd.ntmps54
      go_wp2_with fail
      go_quiet ((go_at_call 81; exact Calls.quiet_of_same (l5Region_calls s.top s.bot s.r s1 s2 _)))
      go_wp2_with fail
      generalize hW : s.wrap = wr at *
      generalize hU : s.auto = au at *
      have HW := hide hW
      have HU := hide hU
      clear hW hU
      by_cases hx : s.x = s.wd - 1
      · have hxn : (s.x != s.wd - 1) = false := by simp [hx]
        have HX := hide hx
        clear hx
        cases wr <;> cases au
        case true.false =>
          go_quiet (fail)
          go_wp2
          go_ret
          exact ⟨ret_bool (by rw [p2.out]; simp [wrapB, orgB, HW.out, HU.out, HX.out]), _, by simp [World.drewN_drewN]; rfl⟩
        all_goals
          go_quiet (fail)
          go_wp2_with fail
          generalize hO : s.org = og at *
          have HO := hide hO
          clear hO
          cases og
          · go_quiet (fail)
            go_wp2
            go_ret
            exact ⟨ret_bool (by rw [p2.out]; simp [wrapB, orgB, HW.out, HU.out, HX.out, HO.out]), _, by simp [World.drewN_drewN]; rfl⟩
          · go_quiet ((go_at_call 48; refine (l1In_calls s.y s.top s.bot _).mono ?_; rintro e w' ⟨rfl, rfl⟩; exact ⟨rfl, _, by first | rfl | (simp only [World.drewN_drewN]; rfl)⟩))
            go_wp2
            go_ret
            exact ⟨ret_bool (by rw [p2.out]; simp [wrapB, orgB, HW.out, HU.out, HX.out, HO.out]), _, by simp [World.drewN_drewN]; rfl⟩
      · have hxn : (s.x != s.wd - 1) = true := by simpa using hx
        have HX := hide hx
        clear hx
        cases wr <;> cases au
        case true.false =>
          go_quiet (fail)
          go_wp2
          go_ret
          exact ⟨ret_bool (by rw [p2.out]; simp [wrapB, orgB, HW.out, HU.out, HX.out]), _, by simp [World.drewN_drewN]; rfl⟩
        case true.true =>
          go_quiet (fail)
          go_wp2
          go_ret
          exact ⟨ret_bool (by rw [p2.out]; simp [wrapB, orgB, HW.out, HU.out, HX.out]), _, by simp [World.drewN_drewN]; rfl⟩
        all_goals
          go_quiet (fail)
          go_wp2_with fail
          generalize hO : s.org = og at *
          have HO := hide hO
          clear hO
          cases og
          · go_quiet (fail)
            go_wp2
            go_ret
            exact ⟨ret_bool (by rw [p2.out]; simp [wrapB, orgB, HW.out, HU.out, HX.out, HO.out]), _, by simp [World.drewN_drewN]; rfl⟩
          · go_quiet ((go_at_call 48; refine (l1In_calls s.y s.top s.bot _).mono ?_; rintro e w' ⟨rfl, rfl⟩; exact ⟨rfl, _, by first | rfl | (simp only [World.drewN_drewN]; rfl)⟩))
            go_wp2
            go_ret
            exact ⟨ret_bool (by rw [p2.out]; simp [wrapB, orgB, HW.out, HU.out, HX.out, HO.out]), _, by simp [World.drewN_drewN]; rfl⟩
    · have hne : ((s.tabs.length : Int) != s.wd) = true := by simpa using ht
      have p2 : Hid (tabsB s = false) := hide (by simp [tabsB, ht])
      clear ht
      go_enter Tryd.func54, Tryd.ntmps54
      go_wp2_with fail
      go_quiet ((go_at_call 81; exact Calls.quiet_of_same (l5Region_calls s.top s.bot s.r s1 s2 _)))
      go_wp2
      go_ret
      exact ⟨ret_bool (by rw [p2.out]; rfl), _, rfl⟩

set_option maxHeartbeats 2000000 in
theorem l5Fault_calls (s : Scr) (v1 v2 v3 v4 : Value) (b : Nat) (w : World) (hn1 : s.cs.length ≤ 1048576) (hn2 : s.bs.length ≤ 1048576) (hn3 : s.tabs.length ≤ 1048576) (hn4 : s.sets.length ≤ 1048576) (hB : Blk w b (scrA s v1 v2 v3 v4)) (h : SRead w s v1 v2 v3 v4) :
    Calls Tryd.prog 22 #[.pointer (some ⟨b, 0, none⟩)] w fun e w' => e = .returned (.int .i64 (scrCode s)) ∧ Below w.heap.size w w' := by
  go_enter Tryd.func22, Tryd.ntmps22
  go_wp2_with fail
  refine (l3Fault_calls s.r s.wd s.cs s.bs v1 v2 b _ hn1 hn2 h.g1 h.g2 (hB.at 0 rfl) (hB.at 1 rfl) (hB.at 2 rfl) (hB.at 3 rfl)).mono ?_
  rintro e w1 ⟨rfl, hb1⟩
  have hB1 := hB.belowb hb1
  by_cases hg : gridCode s.r s.wd s.cs s.bs = 0
  · obtain ⟨s1, s2, s3, s4, _, _⟩ := size_mul (gfine_of_code hg).size
    have HG := hide hg
    rw [hg]
    clear hg
    go_wp2_with fail
    refine (l5Ranges_calls s v1 v2 v3 v4 b s1 s2 s3 s4 _ hn4 hB1 (h.g4.below hb1)).mono ?_
    rintro e w2 ⟨rfl, n2, hw2⟩
    have hb2 : Below w1.heap.size w1 w2 := by rw [hw2]; exact below_drewN (Below.refl _ _) n2
    have hB2 := hB1.belowb hb2
    have bel2 : Below w.heap.size w w2 := hb1.trans (hb2.mono hb1.size)
    clear hw2
    cases p1 : rangeB s
    · go_wp2
      go_ret
      exact ⟨by rw [scr_range HG.out p1]; rfl, bel2⟩
    · go_wp2_with fail
      refine (l5Form_calls s v1 v2 v3 v4 b s1 s2 s3 s4 _ hn3 hB2 (h.g3.below bel2)).mono ?_
      rintro e w3 ⟨rfl, n3, hw3⟩
      have hb3 : Below w2.heap.size w2 w3 := by rw [hw3]; exact below_drewN (Below.refl _ _) n3
      have bel3 : Below w.heap.size w w3 := bel2.trans (hb3.mono bel2.size)
      clear hw3
      cases p2 : sformB s
      · go_wp2
        go_ret
        exact ⟨by rw [scr_form HG.out p1 p2]; rfl, bel3⟩
      · go_wp2
        go_ret
        exact ⟨by rw [scr_ok HG.out p1 p2]; rfl, bel3⟩
  · have hne : (gridCode s.r s.wd s.cs s.bs != 0) = true := by simpa using hg
    have HC := hide (scr_grid hg)
    clear hg
    generalize gridCode s.r s.wd s.cs s.bs = code at *
    go_wp2
    go_ret
    exact ⟨by rw [HC.out]; rfl, hb1⟩

end Go.Proofs.YtknkbihjboadjaaDoor
