/-
  What the model's ScreenFault answers: l2Table, l5Region, l5Ranges, l5Form, l5Fault, ScreenFault.
-/
import Derived.Test.YtknkbihjboadjaaDoorScrFaults
import Derived.Deep.QuietTactic
import Derived.BigQuiet
namespace Go.Proofs.YtknkbihjboadjaaDoor
set_option maxRecDepth 20000
open Go.ChangeShapes Go.WideShapes Go.ChangeAt Go.RowKit
set_option linter.unusedVariables false
set_option linter.unusedSimpArgs false
set_option maxRecDepth 20000

theorem l1In_named (n lo hi : Int) (B : Bool) (hB : decide (lo ≤ n ∧ n ≤ hi) = B) (w : World) : Calls Tryd.prog 48 #[.int .i64 n, .int .i64 lo, .int .i64 hi] w fun e w' => e = .returned (.bool B) ∧ w' = w := by
  subst hB; exact l1In_calls n lo hi w
set_option maxHeartbeats 400000 in
theorem scrAttr_calls (a : Int) (w : World) : Calls Tryd.prog 44 #[.int .i64 a] w fun e w' => e = .returned (.bool (atB a)) ∧ w' = w := by
  go_enter Tryd.func44, Tryd.ntmps44
  go_wp2_with (go_at_call 48; refine (l1In_named a 0 31 (atB a) rfl _).mono ?_; rintro e w' ⟨rfl, hw⟩; rw [hw]; clear hw w')
  go_ret
  exact ⟨rfl, rfl⟩
theorem scrAttr_named (a : Int) (B : Bool) (hB : atB a = B) (w : World) : Calls Tryd.prog 44 #[.int .i64 a] w fun e w' => e = .returned (.bool B) ∧ w' = w := by
  subst hB; exact scrAttr_calls a w
theorem scrPlace (s : Scr) (b : Nat) (B : Bool) (hB : placeB s.r s.wd s.y s.x = B) (s1 : 1 ≤ s.r) (s2 : s.r ≤ 6) (s3 : 2 ≤ s.wd) (s4 : s.wd ≤ 12) (w : World) (c0 : w.cell? ⟨b, 0, none⟩ = some (.int .i64 s.r)) (c1 : w.cell? ⟨b, 1, none⟩ = some (.int .i64 s.wd)) :
    Calls Tryd.prog 79 #[.pointer (some ⟨b, 0, none⟩), .int .i64 s.y, .int .i64 s.x] w fun e w' => e = .returned (.bool B) ∧ w' = w := by
  subst hB; exact l3Place_calls s.r s.wd s.y s.x b s1 s2 s3 s4 w c0 c1
set_option maxHeartbeats 400000 in
theorem l2Table_calls (a : Int) (w : World) : Calls Tryd.prog 80 #[.int .i64 a] w fun e w' => e = .returned (.bool (tblB a)) ∧ w' = w := by
  go_enter Tryd.func80, Tryd.ntmps80
  go_wp2_with (go_at_call 48; refine (l1In_named a 1 3 (tblB a) rfl _).mono ?_; rintro e w' ⟨rfl, hw⟩; rw [hw]; clear hw w')
  go_ret
  exact ⟨rfl, rfl⟩
theorem regionB_alt (top bot r : Int) : regionB top bot r = (decide (0 ≤ top) && (decide (bot < r) && (decide (top < bot) || (decide (top = 0) && decide (bot = r - 1))))) := by
  unfold regionB
  rw [Bool.eq_iff_iff]
  simp only [Bool.or_eq_true, Bool.and_eq_true, decide_eq_true_eq]
  omega
set_option maxHeartbeats 1000000 in
theorem l5Region_calls (top bot r : Int) (h1 : 1 ≤ r) (h2 : r ≤ 6) (w : World) : Calls Tryd.prog 81 #[.int .i64 top, .int .i64 bot, .int .i64 r] w fun e w' => e = .returned (.bool (regionB top bot r)) ∧ w' = w := by
  have hw : IntKind.i64.wrap (r - 1) = r - 1 := wrap_small (by omega) (by omega)
  rw [regionB_alt]
  cases k0 : decide (0 ≤ top) <;> cases k1 : decide (bot < r) <;> cases k2 : decide (top < bot) <;> cases k3 : decide (top = 0) <;> cases k4 : decide (bot = r - 1)
  all_goals simp only [decide_eq_true_eq, decide_eq_false_iff_not] at k0 k1 k2 k3 k4
  all_goals (try omega)
  all_goals
    go_enter Tryd.func81, Tryd.ntmps81
    go_wp2
    all_goals go_ret
    all_goals exact ⟨ret_bool (by simp [*]), rfl⟩

def kyB (s : Scr) : Bool := decide (0 ≤ s.ky ∧ s.ky ≤ 5)
def kxB (s : Scr) : Bool := decide (0 ≤ s.kx ∧ s.kx ≤ 11)
theorem keptB_eq (s : Scr) : keptB s = (kyB s && (kxB s && atB s.ka)) := rfl
theorem setsB_len {l : List Int} (h : ¬ l.length = 2) : setsB l = false := by simp [setsB, h]
theorem setsB_two (a b : Int) : setsB [a, b] = (tblB a && tblB b) := by simp [setsB, allT]
set_option maxHeartbeats 16000000 in
theorem l5Ranges_calls (s : Scr) (v1 v2 v3 v4 : Value) (b : Nat) (s1 : 1 ≤ s.r) (s2 : s.r ≤ 6) (s3 : 2 ≤ s.wd) (s4 : s.wd ≤ 12) (w : World) (hn4 : s.sets.length ≤ 1048576) (hB : Blk w b (scrA s v1 v2 v3 v4)) (h4 : ReadAt .i64 w v4 s.sets) :
    Calls Tryd.prog 53 #[.pointer (some ⟨b, 0, none⟩)] w fun e w' => e = .returned (.bool (rangeB s)) ∧ ∃ n, w' = w.drewN n := by
  have g0 := hB.at 0 (scrA_0 s v1 v2 v3 v4)
  have g1 := hB.at 1 (scrA_1 s v1 v2 v3 v4)
  have g2 := hB.at 4 (scrA_4 s v1 v2 v3 v4)
  have g3 := hB.at 5 (scrA_5 s v1 v2 v3 v4)
  have g4 := hB.at 7 (scrA_7 s v1 v2 v3 v4)
  have g5 := hB.at 14 (scrA_14 s v1 v2 v3 v4)
  have g6 := hB.at 15 (scrA_15 s v1 v2 v3 v4)
  have g7 := hB.at 16 (scrA_16 s v1 v2 v3 v4)
  have g8 := hB.at 17 (scrA_17 s v1 v2 v3 v4)
  have g9 := hB.at 18 (scrA_18 s v1 v2 v3 v4)
  have g10 := hB.at 19 (scrA_19 s v1 v2 v3 v4)
  obtain ⟨a4, c4, rfl, h4⟩ := h4
  unfold rangeB
  rw [keptB_eq]
  generalize hp0 : placeB s.r s.wd s.y s.x = b0
  replace hp0 := hide hp0
  generalize hp1 : atB s.attr = b1
  replace hp1 := hide hp1
  generalize hp2 : kyB s = b2
  replace hp2 := hide hp2
  generalize hp3 : kxB s = b3
  replace hp3 := hide hp3
  generalize hp4 : atB s.ka = b4
  replace hp4 := hide hp4
  go_enter Tryd.func53, Tryd.ntmps53
  go_wp2_with fail
  refine wp_region_quiet_lit (by kernel_rfl) (by kernel_rfl) ?_
  repeat (go_big_quiet_step (first
    | (go_at_call 79; exact Calls.quiet_of_same (scrPlace s b _ hp0.out s1 s2 s3 s4 _ ((hB.drewN _).at 0 rfl) ((hB.drewN _).at 1 rfl)))))
  cases b0
  · as_aux_lemma =>
      simp only [Bool.not_false, Bool.not_true]
      repeat (go_big_quiet_step (first
        | (go_at_call 79; exact Calls.quiet_of_same (scrPlace s b _ hp0.out s1 s2 s3 s4 _ ((hB.drewN _).at 0 rfl) ((hB.drewN _).at 1 rfl)))))
      refine wpQuiet_nil ?_
      intro _ hw'
      obtain ⟨nq, hw''⟩ := hw'
      subst hw''
      go_wp2
      go_ret
      exact ⟨ret_bool (by simp), _, rfl⟩
  · as_aux_lemma =>
      simp only [Bool.not_false, Bool.not_true]
      repeat (go_big_quiet_step (first
        | (go_at_call 79; exact Calls.quiet_of_same (scrPlace s b _ hp0.out s1 s2 s3 s4 _ ((hB.drewN _).at 0 rfl) ((hB.drewN _).at 1 rfl)))
        | (go_at_call_of 44 (Value.int IntKind.i64 s.attr); exact Calls.quiet_of_same (scrAttr_named s.attr _ hp1.out _))))
      cases b1
      · as_aux_lemma =>
          simp only [Bool.not_false, Bool.not_true]
          repeat (go_big_quiet_step (first
            | (go_at_call 79; exact Calls.quiet_of_same (scrPlace s b _ hp0.out s1 s2 s3 s4 _ ((hB.drewN _).at 0 rfl) ((hB.drewN _).at 1 rfl)))
            | (go_at_call_of 44 (Value.int IntKind.i64 s.attr); exact Calls.quiet_of_same (scrAttr_named s.attr _ hp1.out _))))
          refine wpQuiet_nil ?_
          intro _ hw'
          obtain ⟨nq, hw''⟩ := hw'
          subst hw''
          go_wp2
          go_ret
          exact ⟨ret_bool (by simp), _, rfl⟩
      · as_aux_lemma =>
          simp only [Bool.not_false, Bool.not_true]
          repeat (go_big_quiet_step (first
            | (go_at_call 79; exact Calls.quiet_of_same (scrPlace s b _ hp0.out s1 s2 s3 s4 _ ((hB.drewN _).at 0 rfl) ((hB.drewN _).at 1 rfl)))
            | (go_at_call_of 44 (Value.int IntKind.i64 s.attr); exact Calls.quiet_of_same (scrAttr_named s.attr _ hp1.out _))
            | (go_at_call_of 48 (Value.int IntKind.i64 s.ky); exact Calls.quiet_of_same (l1In_named s.ky 0 5 _ hp2.out _))))
          cases b2
          · as_aux_lemma =>
              simp only [Bool.not_false, Bool.not_true]
              repeat (go_big_quiet_step (first
                | (go_at_call 79; exact Calls.quiet_of_same (scrPlace s b _ hp0.out s1 s2 s3 s4 _ ((hB.drewN _).at 0 rfl) ((hB.drewN _).at 1 rfl)))
                | (go_at_call_of 44 (Value.int IntKind.i64 s.attr); exact Calls.quiet_of_same (scrAttr_named s.attr _ hp1.out _))
                | (go_at_call_of 48 (Value.int IntKind.i64 s.ky); exact Calls.quiet_of_same (l1In_named s.ky 0 5 _ hp2.out _))))
              refine wpQuiet_nil ?_
              intro _ hw'
              obtain ⟨nq, hw''⟩ := hw'
              subst hw''
              go_wp2
              go_ret
              exact ⟨ret_bool (by simp), _, rfl⟩
          · as_aux_lemma =>
              simp only [Bool.not_false, Bool.not_true]
              repeat (go_big_quiet_step (first
                | (go_at_call 79; exact Calls.quiet_of_same (scrPlace s b _ hp0.out s1 s2 s3 s4 _ ((hB.drewN _).at 0 rfl) ((hB.drewN _).at 1 rfl)))
                | (go_at_call_of 44 (Value.int IntKind.i64 s.attr); exact Calls.quiet_of_same (scrAttr_named s.attr _ hp1.out _))
                | (go_at_call_of 48 (Value.int IntKind.i64 s.ky); exact Calls.quiet_of_same (l1In_named s.ky 0 5 _ hp2.out _))
                | (go_at_call_of 48 (Value.int IntKind.i64 s.kx); exact Calls.quiet_of_same (l1In_named s.kx 0 11 _ hp3.out _))))
              cases b3
              · as_aux_lemma =>
                  simp only [Bool.not_false, Bool.not_true]
                  repeat (go_big_quiet_step (first
                    | (go_at_call 79; exact Calls.quiet_of_same (scrPlace s b _ hp0.out s1 s2 s3 s4 _ ((hB.drewN _).at 0 rfl) ((hB.drewN _).at 1 rfl)))
                    | (go_at_call_of 44 (Value.int IntKind.i64 s.attr); exact Calls.quiet_of_same (scrAttr_named s.attr _ hp1.out _))
                    | (go_at_call_of 48 (Value.int IntKind.i64 s.ky); exact Calls.quiet_of_same (l1In_named s.ky 0 5 _ hp2.out _))
                    | (go_at_call_of 48 (Value.int IntKind.i64 s.kx); exact Calls.quiet_of_same (l1In_named s.kx 0 11 _ hp3.out _))))
                  refine wpQuiet_nil ?_
                  intro _ hw'
                  obtain ⟨nq, hw''⟩ := hw'
                  subst hw''
                  go_wp2
                  go_ret
                  exact ⟨ret_bool (by simp), _, rfl⟩
              · as_aux_lemma =>
                  simp only [Bool.not_false, Bool.not_true]
                  repeat (go_big_quiet_step (first
                    | (go_at_call 79; exact Calls.quiet_of_same (scrPlace s b _ hp0.out s1 s2 s3 s4 _ ((hB.drewN _).at 0 rfl) ((hB.drewN _).at 1 rfl)))
                    | (go_at_call_of 44 (Value.int IntKind.i64 s.attr); exact Calls.quiet_of_same (scrAttr_named s.attr _ hp1.out _))
                    | (go_at_call_of 48 (Value.int IntKind.i64 s.ky); exact Calls.quiet_of_same (l1In_named s.ky 0 5 _ hp2.out _))
                    | (go_at_call_of 48 (Value.int IntKind.i64 s.kx); exact Calls.quiet_of_same (l1In_named s.kx 0 11 _ hp3.out _))
                    | (go_at_call_of 44 (Value.int IntKind.i64 s.ka); exact Calls.quiet_of_same (scrAttr_named s.ka _ hp4.out _))))
                  cases b4
                  · as_aux_lemma =>
                      simp only [Bool.not_false, Bool.not_true]
                      repeat (go_big_quiet_step (first
                        | (go_at_call 79; exact Calls.quiet_of_same (scrPlace s b _ hp0.out s1 s2 s3 s4 _ ((hB.drewN _).at 0 rfl) ((hB.drewN _).at 1 rfl)))
                        | (go_at_call_of 44 (Value.int IntKind.i64 s.attr); exact Calls.quiet_of_same (scrAttr_named s.attr _ hp1.out _))
                        | (go_at_call_of 48 (Value.int IntKind.i64 s.ky); exact Calls.quiet_of_same (l1In_named s.ky 0 5 _ hp2.out _))
                        | (go_at_call_of 48 (Value.int IntKind.i64 s.kx); exact Calls.quiet_of_same (l1In_named s.kx 0 11 _ hp3.out _))
                        | (go_at_call_of 44 (Value.int IntKind.i64 s.ka); exact Calls.quiet_of_same (scrAttr_named s.ka _ hp4.out _))))
                      refine wpQuiet_nil ?_
                      intro _ hw'
                      obtain ⟨nq, hw''⟩ := hw'
                      subst hw''
                      go_wp2
                      go_ret
                      exact ⟨ret_bool (by simp), _, rfl⟩
                  · as_aux_lemma =>
                      simp only [Bool.not_false, Bool.not_true]
                      skip
                      repeat (go_big_quiet_step (first
                        | (go_at_call 79; exact Calls.quiet_of_same (scrPlace s b _ hp0.out s1 s2 s3 s4 _ ((hB.drewN _).at 0 rfl) ((hB.drewN _).at 1 rfl)))
                        | (go_at_call_of 44 (Value.int IntKind.i64 s.attr); exact Calls.quiet_of_same (scrAttr_named s.attr _ hp1.out _))
                        | (go_at_call_of 48 (Value.int IntKind.i64 s.ky); exact Calls.quiet_of_same (l1In_named s.ky 0 5 _ hp2.out _))
                        | (go_at_call_of 48 (Value.int IntKind.i64 s.kx); exact Calls.quiet_of_same (l1In_named s.kx 0 11 _ hp3.out _))
                        | (go_at_call_of 44 (Value.int IntKind.i64 s.ka); exact Calls.quiet_of_same (scrAttr_named s.ka _ hp4.out _))))
                      refine wpQuiet_nil ?_
                      intro _ hw'
                      obtain ⟨nq, hw''⟩ := hw'
                      subst hw''
                      try simp only [Bool.true_and]
                      by_cases hl : s.sets.length = 2
                      · skip
                        obtain ⟨x0, x1, hx⟩ : ∃ x0 x1, s.sets = [x0, x1] := by
                          match hs : s.sets, hl with
                          | [x0, x1], _ => exact ⟨x0, x1, rfl⟩
                        rcases h4 with h4 | ⟨b4, o4, rfl, h4⟩
                        · rw [h4] at hl; simp at hl
                        have q0 := h4 0 (by omega)
                        have q1 := h4 1 (by omega)
                        rw [hx] at q0 q1
                        simp only [List.getD_cons_zero, List.getD_cons_succ, Nat.add_zero] at q0 q1
                        rw [hl] at g8
                        have HS : Hid (setsB s.sets = (tblB x0 && tblB x1)) := hide (by rw [hx, setsB_two])
                        clear h4 hl hx
                        cases p5 : tblB x0
                        · go_wp2_with (first | (go_at_call 80; refine (l2Table_calls _ _).mono ?_; rintro e w' ⟨rfl, hw⟩; rw [hw]; clear hw w') | (go_at_call_of 48 (Value.int IntKind.i64 s.sh); refine (l1In_named s.sh 0 1 (shiftB s) rfl _).mono ?_; rintro e w' ⟨rfl, hw⟩; rw [hw]; clear hw w') | (go_at_call_of 48 (Value.int IntKind.i64 s.bells); refine (l1In_named s.bells 0 999 (bellsB s) rfl _).mono ?_; rintro e w' ⟨rfl, hw⟩; rw [hw]; clear hw w'))
                          go_ret
                          exact ⟨ret_bool (by rw [HS.out]; simp [*]), _, rfl⟩
                        · skip
                          cases p6 : tblB x1
                          · go_wp2_with (first | (go_at_call 80; refine (l2Table_calls _ _).mono ?_; rintro e w' ⟨rfl, hw⟩; rw [hw]; clear hw w') | (go_at_call_of 48 (Value.int IntKind.i64 s.sh); refine (l1In_named s.sh 0 1 (shiftB s) rfl _).mono ?_; rintro e w' ⟨rfl, hw⟩; rw [hw]; clear hw w') | (go_at_call_of 48 (Value.int IntKind.i64 s.bells); refine (l1In_named s.bells 0 999 (bellsB s) rfl _).mono ?_; rintro e w' ⟨rfl, hw⟩; rw [hw]; clear hw w'))
                            go_ret
                            exact ⟨ret_bool (by rw [HS.out]; simp [*]), _, rfl⟩
                          · skip
                            cases p7 : shiftB s
                            · go_wp2_with (first | (go_at_call 80; refine (l2Table_calls _ _).mono ?_; rintro e w' ⟨rfl, hw⟩; rw [hw]; clear hw w') | (go_at_call_of 48 (Value.int IntKind.i64 s.sh); refine (l1In_named s.sh 0 1 (shiftB s) rfl _).mono ?_; rintro e w' ⟨rfl, hw⟩; rw [hw]; clear hw w') | (go_at_call_of 48 (Value.int IntKind.i64 s.bells); refine (l1In_named s.bells 0 999 (bellsB s) rfl _).mono ?_; rintro e w' ⟨rfl, hw⟩; rw [hw]; clear hw w'))
                              go_ret
                              exact ⟨ret_bool (by rw [HS.out]; simp [*]), _, rfl⟩
                            · skip
                              cases p8 : bellsB s
                              · go_wp2_with (first | (go_at_call 80; refine (l2Table_calls _ _).mono ?_; rintro e w' ⟨rfl, hw⟩; rw [hw]; clear hw w') | (go_at_call_of 48 (Value.int IntKind.i64 s.sh); refine (l1In_named s.sh 0 1 (shiftB s) rfl _).mono ?_; rintro e w' ⟨rfl, hw⟩; rw [hw]; clear hw w') | (go_at_call_of 48 (Value.int IntKind.i64 s.bells); refine (l1In_named s.bells 0 999 (bellsB s) rfl _).mono ?_; rintro e w' ⟨rfl, hw⟩; rw [hw]; clear hw w'))
                                go_ret
                                exact ⟨ret_bool (by rw [HS.out]; simp [*]), _, rfl⟩
                              · skip
                                go_wp2_with (first | (go_at_call 80; refine (l2Table_calls _ _).mono ?_; rintro e w' ⟨rfl, hw⟩; rw [hw]; clear hw w') | (go_at_call_of 48 (Value.int IntKind.i64 s.sh); refine (l1In_named s.sh 0 1 (shiftB s) rfl _).mono ?_; rintro e w' ⟨rfl, hw⟩; rw [hw]; clear hw w') | (go_at_call_of 48 (Value.int IntKind.i64 s.bells); refine (l1In_named s.bells 0 999 (bellsB s) rfl _).mono ?_; rintro e w' ⟨rfl, hw⟩; rw [hw]; clear hw w'))
                                go_ret
                                exact ⟨ret_bool (by rw [HS.out]; simp [*]), _, rfl⟩
                      · have hne : ((s.sets.length : Int) != 2) = true := by simp; omega
                        have HS := hide (setsB_len hl)
                        clear hl h4 hB
                        go_wp2
                        go_ret
                        exact ⟨ret_bool (by rw [HS.out]; simp), _, rfl⟩
end Go.Proofs.YtknkbihjboadjaaDoor
