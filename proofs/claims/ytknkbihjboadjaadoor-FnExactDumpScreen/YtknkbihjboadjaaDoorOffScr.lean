/-
  The model's ScreenFault of a screen that is a part of a block: l5Ranges, l5Form, l5Fault.
-/
import Derived.Test.YtknkbihjboadjaaDoorOffFns
namespace Go.Proofs.YtknkbihjboadjaaDoor
set_option maxRecDepth 20000
open Go.ChangeShapes Go.WideShapes Go.ChangeAt Go.RowKit
set_option linter.unusedVariables false
set_option linter.unusedSimpArgs false
set_option maxRecDepth 20000

set_option maxHeartbeats 16000000 in
theorem l5Ranges_o (s : Scr) (v1 v2 v3 v4 : Value) (b ob : Nat) (s1 : 1 ≤ s.r) (s2 : s.r ≤ 6) (s3 : 2 ≤ s.wd) (s4 : s.wd ≤ 12) (w : World) (hn4 : s.sets.length ≤ 1048576) (hB : Seg w b ob (scrA s v1 v2 v3 v4)) (h4 : ReadAt .i64 w v4 s.sets) :
    Calls Tryd.prog 53 #[.pointer (some ⟨b, ob, none⟩)] w fun e w' => e = .returned (.bool (rangeB s)) ∧ ∃ n, w' = w.drewN n := by
  have g0 := hB.at0 (scrA_0 s v1 v2 v3 v4)
  have g1 := hB.at 1 (scrA_1 s v1 v2 v3 v4)
  have g2 := hB.at 4 (scrA_4 s v1 v2 v3 v4)
  have g3 := hB.at 5 (scrA_5 s v1 v2 v3 v4)
  have g4 := hB.at 7 (scrA_7 s v1 v2 v3 v4)
  have g5 := hB.at 14 (scrA_14 s v1 v2 v3 v4)
  have g6 := hB.at 15 (scrA_15 s v1 v2 v3 v4)
  have g7 := hB.at 16 (scrA_16 s v1 v2 v3 v4)
  have g8 := hB.at 17 (scrA_17 s v1 v2 v3 v4)
  have g9 := hB.at 18 (scrA_18 s v1 v2 v3 v4)
  have g10 := hB.at 19 (scrA_19 s v1 v2 v3 v4)
  obtain ⟨a4, c4, rfl, h4⟩ := h4
  unfold rangeB
  rw [keptB_eq]
  generalize hp0 : placeB s.r s.wd s.y s.x = b0
  replace hp0 := hide hp0
  generalize hp1 : atB s.attr = b1
  replace hp1 := hide hp1
  generalize hp2 : kyB s = b2
  replace hp2 := hide hp2
  generalize hp3 : kxB s = b3
  replace hp3 := hide hp3
  generalize hp4 : atB s.ka = b4
  replace hp4 := hide hp4
  go_enter Tryd.func53, Tryd.ntmps53
  go_wp2_with fail
  refine wp_region_quiet_lit (by kernel_rfl) (by kernel_rfl) ?_
  repeat (go_big_quiet_step (first
    | (go_at_call 79; exact Calls.quiet_of_same (scrPlace_o s b ob _ hp0.out s1 s2 s3 s4 _ ((hB.drewN _).at0 rfl) ((hB.drewN _).at 1 rfl)))))
  cases b0
  · as_aux_lemma =>
      simp only [Bool.not_false, Bool.not_true]
      repeat (go_big_quiet_step (first
        | (go_at_call 79; exact Calls.quiet_of_same (scrPlace_o s b ob _ hp0.out s1 s2 s3 s4 _ ((hB.drewN _).at0 rfl) ((hB.drewN _).at 1 rfl)))))
      refine wpQuiet_nil ?_
      intro _ hw'
      obtain ⟨nq, hw''⟩ := hw'
      subst hw''
      go_wp2
      go_ret
      exact ⟨ret_bool (by simp), _, rfl⟩
  · as_aux_lemma =>
      simp only [Bool.not_false, Bool.not_true]
      repeat (go_big_quiet_step (first
        | (go_at_call 79; exact Calls.quiet_of_same (scrPlace_o s b ob _ hp0.out s1 s2 s3 s4 _ ((hB.drewN _).at0 rfl) ((hB.drewN _).at 1 rfl)))
        | (go_at_call_of 44 (Value.int IntKind.i64 s.attr); exact Calls.quiet_of_same (scrAttr_named s.attr _ hp1.out _))))
      cases b1
      · as_aux_lemma =>
          simp only [Bool.not_false, Bool.not_true]
          repeat (go_big_quiet_step (first
            | (go_at_call 79; exact Calls.quiet_of_same (scrPlace_o s b ob _ hp0.out s1 s2 s3 s4 _ ((hB.drewN _).at0 rfl) ((hB.drewN _).at 1 rfl)))
            | (go_at_call_of 44 (Value.int IntKind.i64 s.attr); exact Calls.quiet_of_same (scrAttr_named s.attr _ hp1.out _))))
          refine wpQuiet_nil ?_
          intro _ hw'
          obtain ⟨nq, hw''⟩ := hw'
          subst hw''
          go_wp2
          go_ret
          exact ⟨ret_bool (by simp), _, rfl⟩
      · as_aux_lemma =>
          simp only [Bool.not_false, Bool.not_true]
          repeat (go_big_quiet_step (first
            | (go_at_call 79; exact Calls.quiet_of_same (scrPlace_o s b ob _ hp0.out s1 s2 s3 s4 _ ((hB.drewN _).at0 rfl) ((hB.drewN _).at 1 rfl)))
            | (go_at_call_of 44 (Value.int IntKind.i64 s.attr); exact Calls.quiet_of_same (scrAttr_named s.attr _ hp1.out _))
            | (go_at_call_of 48 (Value.int IntKind.i64 s.ky); exact Calls.quiet_of_same (l1In_named s.ky 0 5 _ hp2.out _))))
          cases b2
          · as_aux_lemma =>
              simp only [Bool.not_false, Bool.not_true]
              repeat (go_big_quiet_step (first
                | (go_at_call 79; exact Calls.quiet_of_same (scrPlace_o s b ob _ hp0.out s1 s2 s3 s4 _ ((hB.drewN _).at0 rfl) ((hB.drewN _).at 1 rfl)))
                | (go_at_call_of 44 (Value.int IntKind.i64 s.attr); exact Calls.quiet_of_same (scrAttr_named s.attr _ hp1.out _))
                | (go_at_call_of 48 (Value.int IntKind.i64 s.ky); exact Calls.quiet_of_same (l1In_named s.ky 0 5 _ hp2.out _))))
              refine wpQuiet_nil ?_
              intro _ hw'
              obtain ⟨nq, hw''⟩ := hw'
              subst hw''
              go_wp2
              go_ret
              exact ⟨ret_bool (by simp), _, rfl⟩
          · as_aux_lemma =>
              simp only [Bool.not_false, Bool.not_true]
              repeat (go_big_quiet_step (first
                | (go_at_call 79; exact Calls.quiet_of_same (scrPlace_o s b ob _ hp0.out s1 s2 s3 s4 _ ((hB.drewN _).at0 rfl) ((hB.drewN _).at 1 rfl)))
                | (go_at_call_of 44 (Value.int IntKind.i64 s.attr); exact Calls.quiet_of_same (scrAttr_named s.attr _ hp1.out _))
                | (go_at_call_of 48 (Value.int IntKind.i64 s.ky); exact Calls.quiet_of_same (l1In_named s.ky 0 5 _ hp2.out _))
                | (go_at_call_of 48 (Value.int IntKind.i64 s.kx); exact Calls.quiet_of_same (l1In_named s.kx 0 11 _ hp3.out _))))
              cases b3
              · as_aux_lemma =>
                  simp only [Bool.not_false, Bool.not_true]
                  repeat (go_big_quiet_step (first
                    | (go_at_call 79; exact Calls.quiet_of_same (scrPlace_o s b ob _ hp0.out s1 s2 s3 s4 _ ((hB.drewN _).at0 rfl) ((hB.drewN _).at 1 rfl)))
                    | (go_at_call_of 44 (Value.int IntKind.i64 s.attr); exact Calls.quiet_of_same (scrAttr_named s.attr _ hp1.out _))
                    | (go_at_call_of 48 (Value.int IntKind.i64 s.ky); exact Calls.quiet_of_same (l1In_named s.ky 0 5 _ hp2.out _))
                    | (go_at_call_of 48 (Value.int IntKind.i64 s.kx); exact Calls.quiet_of_same (l1In_named s.kx 0 11 _ hp3.out _))))
                  refine wpQuiet_nil ?_
                  intro _ hw'
                  obtain ⟨nq, hw''⟩ := hw'
                  subst hw''
                  go_wp2
                  go_ret
                  exact ⟨ret_bool (by simp), _, rfl⟩
              · as_aux_lemma =>
                  simp only [Bool.not_false, Bool.not_true]
                  repeat (go_big_quiet_step (first
                    | (go_at_call 79; exact Calls.quiet_of_same (scrPlace_o s b ob _ hp0.out s1 s2 s3 s4 _ ((hB.drewN _).at0 rfl) ((hB.drewN _).at 1 rfl)))
                    | (go_at_call_of 44 (Value.int IntKind.i64 s.attr); exact Calls.quiet_of_same (scrAttr_named s.attr _ hp1.out _))
                    | (go_at_call_of 48 (Value.int IntKind.i64 s.ky); exact Calls.quiet_of_same (l1In_named s.ky 0 5 _ hp2.out _))
                    | (go_at_call_of 48 (Value.int IntKind.i64 s.kx); exact Calls.quiet_of_same (l1In_named s.kx 0 11 _ hp3.out _))
                    | (go_at_call_of 44 (Value.int IntKind.i64 s.ka); exact Calls.quiet_of_same (scrAttr_named s.ka _ hp4.out _))))
                  cases b4
                  · as_aux_lemma =>
                      simp only [Bool.not_false, Bool.not_true]
                      repeat (go_big_quiet_step (first
                        | (go_at_call 79; exact Calls.quiet_of_same (scrPlace_o s b ob _ hp0.out s1 s2 s3 s4 _ ((hB.drewN _).at0 rfl) ((hB.drewN _).at 1 rfl)))
                        | (go_at_call_of 44 (Value.int IntKind.i64 s.attr); exact Calls.quiet_of_same (scrAttr_named s.attr _ hp1.out _))
                        | (go_at_call_of 48 (Value.int IntKind.i64 s.ky); exact Calls.quiet_of_same (l1In_named s.ky 0 5 _ hp2.out _))
                        | (go_at_call_of 48 (Value.int IntKind.i64 s.kx); exact Calls.quiet_of_same (l1In_named s.kx 0 11 _ hp3.out _))
                        | (go_at_call_of 44 (Value.int IntKind.i64 s.ka); exact Calls.quiet_of_same (scrAttr_named s.ka _ hp4.out _))))
                      refine wpQuiet_nil ?_
                      intro _ hw'
                      obtain ⟨nq, hw''⟩ := hw'
                      subst hw''
                      go_wp2
                      go_ret
                      exact ⟨ret_bool (by simp), _, rfl⟩
                  · as_aux_lemma =>
                      simp only [Bool.not_false, Bool.not_true]
                      skip
                      repeat (go_big_quiet_step (first
                        | (go_at_call 79; exact Calls.quiet_of_same (scrPlace_o s b ob _ hp0.out s1 s2 s3 s4 _ ((hB.drewN _).at0 rfl) ((hB.drewN _).at 1 rfl)))
                        | (go_at_call_of 44 (Value.int IntKind.i64 s.attr); exact Calls.quiet_of_same (scrAttr_named s.attr _ hp1.out _))
                        | (go_at_call_of 48 (Value.int IntKind.i64 s.ky); exact Calls.quiet_of_same (l1In_named s.ky 0 5 _ hp2.out _))
                        | (go_at_call_of 48 (Value.int IntKind.i64 s.kx); exact Calls.quiet_of_same (l1In_named s.kx 0 11 _ hp3.out _))
                        | (go_at_call_of 44 (Value.int IntKind.i64 s.ka); exact Calls.quiet_of_same (scrAttr_named s.ka _ hp4.out _))))
                      refine wpQuiet_nil ?_
                      intro _ hw'
                      obtain ⟨nq, hw''⟩ := hw'
                      subst hw''
                      try simp only [Bool.true_and]
                      by_cases hl : s.sets.length = 2
                      · skip
                        obtain ⟨x0, x1, hx⟩ : ∃ x0 x1, s.sets = [x0, x1] := by
                          match hs : s.sets, hl with
                          | [x0, x1], _ => exact ⟨x0, x1, rfl⟩
                        rcases h4 with h4 | ⟨b4, o4, rfl, h4⟩
                        · rw [h4] at hl; simp at hl
                        have q0 := h4 0 (by omega)
                        have q1 := h4 1 (by omega)
                        rw [hx] at q0 q1
                        simp only [List.getD_cons_zero, List.getD_cons_succ, Nat.add_zero] at q0 q1
                        rw [hl] at g8
                        have HS : Hid (setsB s.sets = (tblB x0 && tblB x1)) := hide (by rw [hx, setsB_two])
                        clear h4 hl hx
                        cases p5 : tblB x0
                        · go_wp2_with (first | (go_at_call 80; refine (l2Table_calls _ _).mono ?_; rintro e w' ⟨rfl, hw⟩; rw [hw]; clear hw w') | (go_at_call_of 48 (Value.int IntKind.i64 s.sh); refine (l1In_named s.sh 0 1 (shiftB s) rfl _).mono ?_; rintro e w' ⟨rfl, hw⟩; rw [hw]; clear hw w') | (go_at_call_of 48 (Value.int IntKind.i64 s.bells); refine (l1In_named s.bells 0 999 (bellsB s) rfl _).mono ?_; rintro e w' ⟨rfl, hw⟩; rw [hw]; clear hw w'))
                          go_ret
                          exact ⟨ret_bool (by rw [HS.out]; simp [*]), _, rfl⟩
                        · skip
                          cases p6 : tblB x1
                          · go_wp2_with (first | (go_at_call 80; refine (l2Table_calls _ _).mono ?_; rintro e w' ⟨rfl, hw⟩; rw [hw]; clear hw w') | (go_at_call_of 48 (Value.int IntKind.i64 s.sh); refine (l1In_named s.sh 0 1 (shiftB s) rfl _).mono ?_; rintro e w' ⟨rfl, hw⟩; rw [hw]; clear hw w') | (go_at_call_of 48 (Value.int IntKind.i64 s.bells); refine (l1In_named s.bells 0 999 (bellsB s) rfl _).mono ?_; rintro e w' ⟨rfl, hw⟩; rw [hw]; clear hw w'))
                            go_ret
                            exact ⟨ret_bool (by rw [HS.out]; simp [*]), _, rfl⟩
                          · skip
                            cases p7 : shiftB s
                            · go_wp2_with (first | (go_at_call 80; refine (l2Table_calls _ _).mono ?_; rintro e w' ⟨rfl, hw⟩; rw [hw]; clear hw w') | (go_at_call_of 48 (Value.int IntKind.i64 s.sh); refine (l1In_named s.sh 0 1 (shiftB s) rfl _).mono ?_; rintro e w' ⟨rfl, hw⟩; rw [hw]; clear hw w') | (go_at_call_of 48 (Value.int IntKind.i64 s.bells); refine (l1In_named s.bells 0 999 (bellsB s) rfl _).mono ?_; rintro e w' ⟨rfl, hw⟩; rw [hw]; clear hw w'))
                              go_ret
                              exact ⟨ret_bool (by rw [HS.out]; simp [*]), _, rfl⟩
                            · skip
                              cases p8 : bellsB s
                              · go_wp2_with (first | (go_at_call 80; refine (l2Table_calls _ _).mono ?_; rintro e w' ⟨rfl, hw⟩; rw [hw]; clear hw w') | (go_at_call_of 48 (Value.int IntKind.i64 s.sh); refine (l1In_named s.sh 0 1 (shiftB s) rfl _).mono ?_; rintro e w' ⟨rfl, hw⟩; rw [hw]; clear hw w') | (go_at_call_of 48 (Value.int IntKind.i64 s.bells); refine (l1In_named s.bells 0 999 (bellsB s) rfl _).mono ?_; rintro e w' ⟨rfl, hw⟩; rw [hw]; clear hw w'))
                                go_ret
                                exact ⟨ret_bool (by rw [HS.out]; simp [*]), _, rfl⟩
                              · skip
                                go_wp2_with (first | (go_at_call 80; refine (l2Table_calls _ _).mono ?_; rintro e w' ⟨rfl, hw⟩; rw [hw]; clear hw w') | (go_at_call_of 48 (Value.int IntKind.i64 s.sh); refine (l1In_named s.sh 0 1 (shiftB s) rfl _).mono ?_; rintro e w' ⟨rfl, hw⟩; rw [hw]; clear hw w') | (go_at_call_of 48 (Value.int IntKind.i64 s.bells); refine (l1In_named s.bells 0 999 (bellsB s) rfl _).mono ?_; rintro e w' ⟨rfl, hw⟩; rw [hw]; clear hw w'))
                                go_ret
                                exact ⟨ret_bool (by rw [HS.out]; simp [*]), _, rfl⟩
                      · have hne : ((s.sets.length : Int) != 2) = true := by simp; omega
                        have HS := hide (setsB_len hl)
                        clear hl h4 hB
                        go_wp2
                        go_ret
                        exact ⟨ret_bool (by rw [HS.out]; simp), _, rfl⟩

set_option maxHeartbeats 8000000 in
theorem l5Form_o (s : Scr) (v1 v2 v3 v4 : Value) (b ob : Nat) (s1 : 1 ≤ s.r) (s2 : s.r ≤ 6) (s3 : 2 ≤ s.wd) (s4 : s.wd ≤ 12) (w : World) (hn3 : s.tabs.length ≤ 1048576) (hB : Seg w b ob (scrA s v1 v2 v3 v4)) (h3 : BRead w v3 s.tabs) :
    Calls Tryd.prog 54 #[.pointer (some ⟨b, ob, none⟩)] w fun e w' => e = .returned (.bool (sformB s)) ∧ ∃ n, w' = w.drewN n := by
  have g0 := hB.at0 (scrA_0 s v1 v2 v3 v4)
  have g1 := hB.at 1 (scrA_1 s v1 v2 v3 v4)
  have g4 := hB.at 4 (scrA_4 s v1 v2 v3 v4)
  have g5 := hB.at 5 (scrA_5 s v1 v2 v3 v4)
  have g6 := hB.at 6 (scrA_6 s v1 v2 v3 v4)
  have g8 := hB.at 8 (scrA_8 s v1 v2 v3 v4)
  have g9 := hB.at 9 (scrA_9 s v1 v2 v3 v4)
  have g10 := hB.at 10 (scrA_10 s v1 v2 v3 v4)
  have g11 := hB.at 11 (scrA_11 s v1 v2 v3 v4)
  have g13 := hB.at 13 (scrA_13 s v1 v2 v3 v4)
  clear hB
  obtain ⟨a3, c3, rfl, _⟩ := h3
  have hw : IntKind.i64.wrap (s.wd - 1) = s.wd - 1 := wrap_small (by omega) (by omega)
  unfold sformB
  cases p1 : regionB s.top s.bot s.r
  · go_enter Tryd.func54, Tryd.ntmps54
    go_wp2_with fail
    go_quiet ((go_at_call 81; exact Calls.quiet_of_same (l5Region_calls s.top s.bot s.r s1 s2 _)))
    go_wp2
    go_ret
    exact ⟨rfl, _, rfl⟩
  · by_cases ht : (s.tabs.length : Int) = s.wd
    · have hne : ((s.tabs.length : Int) != s.wd) = false := by simp [ht]
      have p2 : Hid (tabsB s = true) := hide (by simp [tabsB, ht])
      clear ht
      go_enter Tryd.func54, Tryd.ntmps54
      go_wp2_with fail
      go_quiet ((go_at_call 81; exact Calls.quiet_of_same (l5Region_calls s.top s.bot s.r s1 s2 _)))
      go_wp2_with fail
      generalize hW : s.wrap = wr at *
      generalize hU : s.auto = au at *
      have HW := hide hW
      have HU := hide hU
      clear hW hU
      by_cases hx : s.x = s.wd - 1
      · have hxn : (s.x != s.wd - 1) = false := by simp [hx]
        have HX := hide hx
        clear hx
        cases wr <;> cases au
        case true.false =>
          go_quiet (fail)
          go_wp2
          go_ret
          exact ⟨ret_bool (by rw [p2.out]; simp [wrapB, orgB, HW.out, HU.out, HX.out]), _, by simp [World.drewN_drewN]; rfl⟩
        all_goals
          go_quiet (fail)
          go_wp2_with fail
          generalize hO : s.org = og at *
          have HO := hide hO
          clear hO
          cases og
          · go_quiet (fail)
            go_wp2
            go_ret
            exact ⟨ret_bool (by rw [p2.out]; simp [wrapB, orgB, HW.out, HU.out, HX.out, HO.out]), _, by simp [World.drewN_drewN]; rfl⟩
          · go_quiet ((go_at_call 48; refine (l1In_calls s.y s.top s.bot _).mono ?_; rintro e w' ⟨rfl, rfl⟩; exact ⟨rfl, _, by first | rfl | (simp only [World.drewN_drewN]; rfl)⟩))
            go_wp2
            go_ret
            exact ⟨ret_bool (by rw [p2.out]; simp [wrapB, orgB, HW.out, HU.out, HX.out, HO.out]), _, by simp [World.drewN_drewN]; rfl⟩
      · have hxn : (s.x != s.wd - 1) = true := by simpa using hx
        have HX := hide hx
        clear hx
        cases wr <;> cases au
        case true.false =>
          go_quiet (fail)
          go_wp2
          go_ret
          exact ⟨ret_bool (by rw [p2.out]; simp [wrapB, orgB, HW.out, HU.out, HX.out]), _, by simp [World.drewN_drewN]; rfl⟩
        case true.true =>
          go_quiet (fail)
          go_wp2
          go_ret
          exact ⟨ret_bool (by rw [p2.out]; simp [wrapB, orgB, HW.out, HU.out, HX.out]), _, by simp [World.drewN_drewN]; rfl⟩
        all_goals
          go_quiet (fail)
          go_wp2_with fail
          generalize hO : s.org = og at *
          have HO := hide hO
          clear hO
          cases og
          · go_quiet (fail)
            go_wp2
            go_ret
            exact ⟨ret_bool (by rw [p2.out]; simp [wrapB, orgB, HW.out, HU.out, HX.out, HO.out]), _, by simp [World.drewN_drewN]; rfl⟩
          · go_quiet ((go_at_call 48; refine (l1In_calls s.y s.top s.bot _).mono ?_; rintro e w' ⟨rfl, rfl⟩; exact ⟨rfl, _, by first | rfl | (simp only [World.drewN_drewN]; rfl)⟩))
            go_wp2
            go_ret
            exact ⟨ret_bool (by rw [p2.out]; simp [wrapB, orgB, HW.out, HU.out, HX.out, HO.out]), _, by simp [World.drewN_drewN]; rfl⟩
    · have hne : ((s.tabs.length : Int) != s.wd) = true := by simpa using ht
      have p2 : Hid (tabsB s = false) := hide (by simp [tabsB, ht])
      clear ht
      go_enter Tryd.func54, Tryd.ntmps54
      go_wp2_with fail
      go_quiet ((go_at_call 81; exact Calls.quiet_of_same (l5Region_calls s.top s.bot s.r s1 s2 _)))
      go_wp2
      go_ret
      exact ⟨ret_bool (by rw [p2.out]; rfl), _, rfl⟩

set_option maxHeartbeats 2000000 in
theorem l5Fault_o (s : Scr) (v1 v2 v3 v4 : Value) (b ob : Nat) (w : World) (hn1 : s.cs.length ≤ 1048576) (hn2 : s.bs.length ≤ 1048576) (hn3 : s.tabs.length ≤ 1048576) (hn4 : s.sets.length ≤ 1048576) (hB : Seg w b ob (scrA s v1 v2 v3 v4)) (h : SRead w s v1 v2 v3 v4) :
    Calls Tryd.prog 22 #[.pointer (some ⟨b, ob, none⟩)] w fun e w' => e = .returned (.int .i64 (scrCode s)) ∧ Below w.heap.size w w' := by
  go_enter Tryd.func22, Tryd.ntmps22
  go_wp2_with fail
  refine (l3Fault_o s.r s.wd s.cs s.bs v1 v2 b ob _ hn1 hn2 h.g1 h.g2 (hB.at0 rfl) (hB.at 1 rfl) (hB.at 2 rfl) (hB.at 3 rfl)).mono ?_
  rintro e w1 ⟨rfl, hb1⟩
  have hB1 := hB.belowb hb1
  by_cases hg : gridCode s.r s.wd s.cs s.bs = 0
  · obtain ⟨s1, s2, s3, s4, _, _⟩ := size_mul (gfine_of_code hg).size
    have HG := hide hg
    rw [hg]
    clear hg
    go_wp2_with fail
    refine (l5Ranges_o s v1 v2 v3 v4 b ob s1 s2 s3 s4 _ hn4 hB1 (h.g4.below hb1)).mono ?_
    rintro e w2 ⟨rfl, n2, hw2⟩
    have hb2 : Below w1.heap.size w1 w2 := by rw [hw2]; exact below_drewN (Below.refl _ _) n2
    have hB2 := hB1.belowb hb2
    have bel2 : Below w.heap.size w w2 := hb1.trans (hb2.mono hb1.size)
    clear hw2
    cases p1 : rangeB s
    · go_wp2
      go_ret
      exact ⟨by rw [scr_range HG.out p1]; rfl, bel2⟩
    · go_wp2_with fail
      refine (l5Form_o s v1 v2 v3 v4 b ob s1 s2 s3 s4 _ hn3 hB2 (h.g3.below bel2)).mono ?_
      rintro e w3 ⟨rfl, n3, hw3⟩
      have hb3 : Below w2.heap.size w2 w3 := by rw [hw3]; exact below_drewN (Below.refl _ _) n3
      have bel3 : Below w.heap.size w w3 := bel2.trans (hb3.mono bel2.size)
      clear hw3
      cases p2 : sformB s
      · go_wp2
        go_ret
        exact ⟨by rw [scr_form HG.out p1 p2]; rfl, bel3⟩
      · go_wp2
        go_ret
        exact ⟨by rw [scr_ok HG.out p1 p2]; rfl, bel3⟩
  · have hne : (gridCode s.r s.wd s.cs s.bs != 0) = true := by simpa using hg
    have HC := hide (scr_grid hg)
    clear hg
    generalize gridCode s.r s.wd s.cs s.bs = code at *
    go_wp2
    go_ret
    exact ⟨by rw [HC.out]; rfl, hb1⟩

end Go.Proofs.YtknkbihjboadjaaDoor
