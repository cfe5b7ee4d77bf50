/-
  What impl.SameShown answers.
-/
import Derived.Test.YtceoehiaeanfkaaScrMem
import Derived.Test.YtceoehiaeanfkaaSameGrid
import Derived.Test.YtceoehiaeanfkaaSameBool
import Derived.BigGuard
namespace Go.Proofs.Ytceoehiaeanfkaa
set_option maxRecDepth 20000
open Go.ChangeShapes Go.WideShapes Go.ChangeAt Go.RowKit
set_option linter.unusedVariables false
set_option linter.unusedSimpArgs false
set_option maxRecDepth 20000

def shownB (s t : Scr) : Bool := sameG s.r s.wd s.cs [] t.r t.wd t.cs [] && ((s.y == t.y) && ((s.x == t.x) && ((s.wrap == t.wrap) && ((s.attr == t.attr) && ((s.top == t.top) && ((s.bot == t.bot) && ((s.org == t.org) && ((s.auto == t.auto) && ((s.ins == t.ins) && (decide (s.tabs = t.tabs) && (decide (s.sets = t.sets) && (s.sh == t.sh))))))))))))
theorem drew_below {w w' : World} {n : Nat} (h : w' = w.drewN n) : Below w.heap.size w w' := by rw [h]; exact below_drewN (Below.refl _ _) n
set_option maxHeartbeats 8000000 in
theorem implSameShown_calls (s t : Scr) (v1 v2 v3 v4 u1 u2 u3 u4 : Value) (w : World) (n1 : s.cs.length ≤ 1048576) (n2 : s.tabs.length ≤ 1048576) (n3 : s.sets.length ≤ 1048576) (m1 : t.cs.length ≤ 1048576) (m2 : t.tabs.length ≤ 1048576) (m3 : t.sets.length ≤ 1048576) (h : SRead w s v1 v2 v3 v4) (k : SRead w t u1 u2 u3 u4) :
    Calls Try.prog 12 #[.agg (scrA s v1 v2 v3 v4), .agg (scrA t u1 u2 u3 u4)] w fun e w' => e = .returned (.bool (shownB s t)) ∧ Below w.heap.size w w' := by
  have h' := h
  have k' := k
  obtain ⟨a1, c1, a2, c2, a3, c3, a4, c4, rfl, rfl, rfl, rfl⟩ := h'.forms
  obtain ⟨p1, d1, p2, d2, p3, d3, p4, d4, rfl, rfl, rfl, rfl⟩ := k'.forms
  clear h' k'
  go_enter Try.func12, Try.ntmps12
  simp only [List.append_eq, List.cons_append, List.nil_append]
  go_wp2_with (first
    | (refine wpList_store_blk rfl _ _ _ rfl w.heap.size 3 (scrA s (.slice a1 s.cs.length c1) (.slice a2 s.bs.length c2) (.slice a3 s.tabs.length c3) (.slice a4 s.sets.length c4)) (scrA s (.slice a1 s.cs.length c1) (.slice none 0 0) (.slice a3 s.tabs.length c3) (.slice a4 s.sets.length c4)) (.slice none 0 0) rfl rfl ((Blk.new w _ _).alloc _) rfl (by kernel_rfl) rfl rfl ?_; (try simp only [Act.put, List.setIfInBounds_toArray, List.set_cons_zero, List.set_cons_succ]); intro w1 hA hu; have hB := ((Blk.new_at (w := w.alloc (.cells (scrA s (.slice a1 s.cs.length c1) (.slice a2 s.bs.length c2) (.slice a3 s.tabs.length c3) (.slice a4 s.sets.length c4)) 35)) (b := w.heap.size + 1) (by simp) (scrA t (.slice p1 t.cs.length d1) (.slice p2 t.bs.length d2) (.slice p3 t.tabs.length d3) (.slice p4 t.sets.length d4)) 35)).upd hu (by omega); have bel1 : Below w.heap.size w w1 := (show Below w.heap.size w _ from (by repeat' (first | with_reducible exact Below.refl _ _ | with_reducible assumption | with_reducible refine Below.drew ?_ | with_reducible refine Below.alloc ?_ ?_ _ | with_reducible refine Below.setCell ?_ ?_ _ | (simp; done) | (simp; omega) | omega))).trans (hu.below (Nat.le_refl _)); clear hu)
    | (refine wpList_store_blk rfl _ _ _ rfl (w.heap.size + 1) 3 _ (scrA t (.slice p1 t.cs.length d1) (.slice none 0 0) (.slice p3 t.tabs.length d3) (.slice p4 t.sets.length d4)) (.slice none 0 0) rfl rfl hB rfl (by kernel_rfl) rfl rfl ?_; (try simp only [Act.put, List.setIfInBounds_toArray, List.set_cons_zero, List.set_cons_succ]); clear hB; intro w2 hB hu; replace hA := hA.upd hu (by omega); have bel2 := bel1.trans (hu.below (by omega)); clear hu bel1; have cA := hA.cells; have cB := hB.cells;
       have e0 := scrA_0 s (.slice a1 s.cs.length c1) (.slice none 0 0) (.slice a3 s.tabs.length c3) (.slice a4 s.sets.length c4); have e1 := scrA_1 s (.slice a1 s.cs.length c1) (.slice none 0 0) (.slice a3 s.tabs.length c3) (.slice a4 s.sets.length c4); have e2 := scrA_2 s (.slice a1 s.cs.length c1) (.slice none 0 0) (.slice a3 s.tabs.length c3) (.slice a4 s.sets.length c4); have e3 := scrA_3 s (.slice a1 s.cs.length c1) (.slice none 0 0) (.slice a3 s.tabs.length c3) (.slice a4 s.sets.length c4);
       have f0 := scrA_0 t (.slice p1 t.cs.length d1) (.slice none 0 0) (.slice p3 t.tabs.length d3) (.slice p4 t.sets.length d4); have f1 := scrA_1 t (.slice p1 t.cs.length d1) (.slice none 0 0) (.slice p3 t.tabs.length d3) (.slice p4 t.sets.length d4); have f2 := scrA_2 t (.slice p1 t.cs.length d1) (.slice none 0 0) (.slice p3 t.tabs.length d3) (.slice p4 t.sets.length d4); have f3 := scrA_3 t (.slice p1 t.cs.length d1) (.slice none 0 0) (.slice p3 t.tabs.length d3) (.slice p4 t.sets.length d4)))
  go_at_call 42
  refine (implSameGrids_calls s.r s.wd s.cs [] t.r t.wd t.cs [] _ _ _ _ _ n1 (by simp) m1 (by simp) (h.g1.below bel2) (PRead.nil _ _ _) (k.g1.below bel2) (PRead.nil _ _ _)).mono ?_
  rintro e w3 ⟨rfl, hb⟩
  replace hA := hA.belowb hb
  replace hB := hB.belowb hb
  have bel3 := bel2.trans (hb.mono bel2.size)
  have r3 := h.g3.below bel3
  have r4 := h.g4.below bel3
  have q3 := k.g3.below bel3
  have q4 := k.g4.below bel3
  clear hb bel2 cA cB e0 e1 e2 e3 f0 f1 f2 f3
  have cA := hA.cells
  have cB := hB.cells
  have e4 := scrA_4 s (.slice a1 s.cs.length c1) (.slice none 0 0) (.slice a3 s.tabs.length c3) (.slice a4 s.sets.length c4)
  have f4 := scrA_4 t (.slice p1 t.cs.length d1) (.slice none 0 0) (.slice p3 t.tabs.length d3) (.slice p4 t.sets.length d4)
  have e5 := scrA_5 s (.slice a1 s.cs.length c1) (.slice none 0 0) (.slice a3 s.tabs.length c3) (.slice a4 s.sets.length c4)
  have f5 := scrA_5 t (.slice p1 t.cs.length d1) (.slice none 0 0) (.slice p3 t.tabs.length d3) (.slice p4 t.sets.length d4)
  have e6 := scrA_6 s (.slice a1 s.cs.length c1) (.slice none 0 0) (.slice a3 s.tabs.length c3) (.slice a4 s.sets.length c4)
  have f6 := scrA_6 t (.slice p1 t.cs.length d1) (.slice none 0 0) (.slice p3 t.tabs.length d3) (.slice p4 t.sets.length d4)
  have e7 := scrA_7 s (.slice a1 s.cs.length c1) (.slice none 0 0) (.slice a3 s.tabs.length c3) (.slice a4 s.sets.length c4)
  have f7 := scrA_7 t (.slice p1 t.cs.length d1) (.slice none 0 0) (.slice p3 t.tabs.length d3) (.slice p4 t.sets.length d4)
  have e8 := scrA_8 s (.slice a1 s.cs.length c1) (.slice none 0 0) (.slice a3 s.tabs.length c3) (.slice a4 s.sets.length c4)
  have f8 := scrA_8 t (.slice p1 t.cs.length d1) (.slice none 0 0) (.slice p3 t.tabs.length d3) (.slice p4 t.sets.length d4)
  have e9 := scrA_9 s (.slice a1 s.cs.length c1) (.slice none 0 0) (.slice a3 s.tabs.length c3) (.slice a4 s.sets.length c4)
  have f9 := scrA_9 t (.slice p1 t.cs.length d1) (.slice none 0 0) (.slice p3 t.tabs.length d3) (.slice p4 t.sets.length d4)
  have e10 := scrA_10 s (.slice a1 s.cs.length c1) (.slice none 0 0) (.slice a3 s.tabs.length c3) (.slice a4 s.sets.length c4)
  have f10 := scrA_10 t (.slice p1 t.cs.length d1) (.slice none 0 0) (.slice p3 t.tabs.length d3) (.slice p4 t.sets.length d4)
  have e11 := scrA_11 s (.slice a1 s.cs.length c1) (.slice none 0 0) (.slice a3 s.tabs.length c3) (.slice a4 s.sets.length c4)
  have f11 := scrA_11 t (.slice p1 t.cs.length d1) (.slice none 0 0) (.slice p3 t.tabs.length d3) (.slice p4 t.sets.length d4)
  have e12 := scrA_12 s (.slice a1 s.cs.length c1) (.slice none 0 0) (.slice a3 s.tabs.length c3) (.slice a4 s.sets.length c4)
  have f12 := scrA_12 t (.slice p1 t.cs.length d1) (.slice none 0 0) (.slice p3 t.tabs.length d3) (.slice p4 t.sets.length d4)
  have e13 := scrA_13 s (.slice a1 s.cs.length c1) (.slice none 0 0) (.slice a3 s.tabs.length c3) (.slice a4 s.sets.length c4)
  have f13 := scrA_13 t (.slice p1 t.cs.length d1) (.slice none 0 0) (.slice p3 t.tabs.length d3) (.slice p4 t.sets.length d4)
  have e17 := scrA_17 s (.slice a1 s.cs.length c1) (.slice none 0 0) (.slice a3 s.tabs.length c3) (.slice a4 s.sets.length c4)
  have f17 := scrA_17 t (.slice p1 t.cs.length d1) (.slice none 0 0) (.slice p3 t.tabs.length d3) (.slice p4 t.sets.length d4)
  have e18 := scrA_18 s (.slice a1 s.cs.length c1) (.slice none 0 0) (.slice a3 s.tabs.length c3) (.slice a4 s.sets.length c4)
  have f18 := scrA_18 t (.slice p1 t.cs.length d1) (.slice none 0 0) (.slice p3 t.tabs.length d3) (.slice p4 t.sets.length d4)
  clear hA hB h k
  cases hg : sameG s.r s.wd s.cs [] t.r t.wd t.cs []
  · go_wp2
    go_ret
    exact ⟨ret_bool (by simp [shownB, hg]), bel3⟩
  · skip
    have R3 := hide r3
    have R4 := hide r4
    have Q3 := hide q3
    have Q4 := hide q4
    have HG := hide hg
    clear r3 r4 q3 q4 hg
    cases q0 : (s.y == t.y)
    · as_aux_lemma =>
        go_wp2_with (first
          | (go_at_call 43; refine (slicesEqualT_calls s.tabs t.tabs _ _ _ (by omega) (by omega) R3.out Q3.out).mono ?_; rintro e w' ⟨rfl, n, hw⟩; rw [hw]; clear hw w'; try rw [q9])
          | (go_at_call 44; refine (slicesEqual_calls s.sets t.sets _ _ _ (by omega) (by omega) (R4.out.drewN _) (Q4.out.drewN _)).mono ?_; rintro e w' ⟨rfl, n', hw⟩; rw [hw]; clear hw w'; try rw [q10]))
        go_ret
        exact ⟨ret_bool (by simp [shownB, HG.out, q0]), bel3⟩
    · as_aux_lemma =>
        cases q1 : (s.x == t.x)
        · as_aux_lemma =>
            go_wp2_with (first
              | (go_at_call 43; refine (slicesEqualT_calls s.tabs t.tabs _ _ _ (by omega) (by omega) R3.out Q3.out).mono ?_; rintro e w' ⟨rfl, n, hw⟩; rw [hw]; clear hw w'; try rw [q9])
              | (go_at_call 44; refine (slicesEqual_calls s.sets t.sets _ _ _ (by omega) (by omega) (R4.out.drewN _) (Q4.out.drewN _)).mono ?_; rintro e w' ⟨rfl, n', hw⟩; rw [hw]; clear hw w'; try rw [q10]))
            go_ret
            exact ⟨ret_bool (by simp [shownB, HG.out, q0, q1]), bel3⟩
        · as_aux_lemma =>
            cases q2 : (s.wrap == t.wrap)
            · as_aux_lemma =>
                go_wp2_with (first
                  | (go_at_call 43; refine (slicesEqualT_calls s.tabs t.tabs _ _ _ (by omega) (by omega) R3.out Q3.out).mono ?_; rintro e w' ⟨rfl, n, hw⟩; rw [hw]; clear hw w'; try rw [q9])
                  | (go_at_call 44; refine (slicesEqual_calls s.sets t.sets _ _ _ (by omega) (by omega) (R4.out.drewN _) (Q4.out.drewN _)).mono ?_; rintro e w' ⟨rfl, n', hw⟩; rw [hw]; clear hw w'; try rw [q10]))
                go_ret
                exact ⟨ret_bool (by simp [shownB, HG.out, q0, q1, q2]), bel3⟩
            · as_aux_lemma =>
                cases q3 : (s.attr == t.attr)
                · as_aux_lemma =>
                    go_wp2_with (first
                      | (go_at_call 43; refine (slicesEqualT_calls s.tabs t.tabs _ _ _ (by omega) (by omega) R3.out Q3.out).mono ?_; rintro e w' ⟨rfl, n, hw⟩; rw [hw]; clear hw w'; try rw [q9])
                      | (go_at_call 44; refine (slicesEqual_calls s.sets t.sets _ _ _ (by omega) (by omega) (R4.out.drewN _) (Q4.out.drewN _)).mono ?_; rintro e w' ⟨rfl, n', hw⟩; rw [hw]; clear hw w'; try rw [q10]))
                    go_ret
                    exact ⟨ret_bool (by simp [shownB, HG.out, q0, q1, q2, q3]), bel3⟩
                · as_aux_lemma =>
                    cases q4 : (s.top == t.top)
                    · as_aux_lemma =>
                        go_wp2_with (first
                          | (go_at_call 43; refine (slicesEqualT_calls s.tabs t.tabs _ _ _ (by omega) (by omega) R3.out Q3.out).mono ?_; rintro e w' ⟨rfl, n, hw⟩; rw [hw]; clear hw w'; try rw [q9])
                          | (go_at_call 44; refine (slicesEqual_calls s.sets t.sets _ _ _ (by omega) (by omega) (R4.out.drewN _) (Q4.out.drewN _)).mono ?_; rintro e w' ⟨rfl, n', hw⟩; rw [hw]; clear hw w'; try rw [q10]))
                        go_ret
                        exact ⟨ret_bool (by simp [shownB, HG.out, q0, q1, q2, q3, q4]), bel3⟩
                    · as_aux_lemma =>
                        cases q5 : (s.bot == t.bot)
                        · as_aux_lemma =>
                            go_wp2_with (first
                              | (go_at_call 43; refine (slicesEqualT_calls s.tabs t.tabs _ _ _ (by omega) (by omega) R3.out Q3.out).mono ?_; rintro e w' ⟨rfl, n, hw⟩; rw [hw]; clear hw w'; try rw [q9])
                              | (go_at_call 44; refine (slicesEqual_calls s.sets t.sets _ _ _ (by omega) (by omega) (R4.out.drewN _) (Q4.out.drewN _)).mono ?_; rintro e w' ⟨rfl, n', hw⟩; rw [hw]; clear hw w'; try rw [q10]))
                            go_ret
                            exact ⟨ret_bool (by simp [shownB, HG.out, q0, q1, q2, q3, q4, q5]), bel3⟩
                        · as_aux_lemma =>
                            cases q6 : (s.org == t.org)
                            · as_aux_lemma =>
                                go_wp2_with (first
                                  | (go_at_call 43; refine (slicesEqualT_calls s.tabs t.tabs _ _ _ (by omega) (by omega) R3.out Q3.out).mono ?_; rintro e w' ⟨rfl, n, hw⟩; rw [hw]; clear hw w'; try rw [q9])
                                  | (go_at_call 44; refine (slicesEqual_calls s.sets t.sets _ _ _ (by omega) (by omega) (R4.out.drewN _) (Q4.out.drewN _)).mono ?_; rintro e w' ⟨rfl, n', hw⟩; rw [hw]; clear hw w'; try rw [q10]))
                                go_ret
                                exact ⟨ret_bool (by simp [shownB, HG.out, q0, q1, q2, q3, q4, q5, q6]), bel3⟩
                            · as_aux_lemma =>
                                cases q7 : (s.auto == t.auto)
                                · as_aux_lemma =>
                                    go_wp2_with (first
                                      | (go_at_call 43; refine (slicesEqualT_calls s.tabs t.tabs _ _ _ (by omega) (by omega) R3.out Q3.out).mono ?_; rintro e w' ⟨rfl, n, hw⟩; rw [hw]; clear hw w'; try rw [q9])
                                      | (go_at_call 44; refine (slicesEqual_calls s.sets t.sets _ _ _ (by omega) (by omega) (R4.out.drewN _) (Q4.out.drewN _)).mono ?_; rintro e w' ⟨rfl, n', hw⟩; rw [hw]; clear hw w'; try rw [q10]))
                                    go_ret
                                    exact ⟨ret_bool (by simp [shownB, HG.out, q0, q1, q2, q3, q4, q5, q6, q7]), bel3⟩
                                · as_aux_lemma =>
                                    cases q8 : (s.ins == t.ins)
                                    · as_aux_lemma =>
                                        go_wp2_with (first
                                          | (go_at_call 43; refine (slicesEqualT_calls s.tabs t.tabs _ _ _ (by omega) (by omega) R3.out Q3.out).mono ?_; rintro e w' ⟨rfl, n, hw⟩; rw [hw]; clear hw w'; try rw [q9])
                                          | (go_at_call 44; refine (slicesEqual_calls s.sets t.sets _ _ _ (by omega) (by omega) (R4.out.drewN _) (Q4.out.drewN _)).mono ?_; rintro e w' ⟨rfl, n', hw⟩; rw [hw]; clear hw w'; try rw [q10]))
                                        go_ret
                                        exact ⟨ret_bool (by simp [shownB, HG.out, q0, q1, q2, q3, q4, q5, q6, q7, q8]), bel3⟩
                                    · as_aux_lemma =>
                                        cases q9 : decide (s.tabs = t.tabs)
                                        · as_aux_lemma =>
                                            go_wp2_with (first
                                              | (go_at_call 43; refine (slicesEqualT_calls s.tabs t.tabs _ _ _ (by omega) (by omega) R3.out Q3.out).mono ?_; rintro e w' ⟨rfl, n, hw⟩; rw [hw]; clear hw w'; try rw [q9])
                                              | (go_at_call 44; refine (slicesEqual_calls s.sets t.sets _ _ _ (by omega) (by omega) (R4.out.drewN _) (Q4.out.drewN _)).mono ?_; rintro e w' ⟨rfl, n', hw⟩; rw [hw]; clear hw w'; try rw [q10]))
                                            go_ret
                                            exact ⟨ret_bool (by simp [shownB, HG.out, q0, q1, q2, q3, q4, q5, q6, q7, q8, q9]), (by first | exact below_drewN bel3 _ | exact below_drewN (below_drewN bel3 _) _)⟩
                                        · as_aux_lemma =>
                                            cases q10 : decide (s.sets = t.sets)
                                            · as_aux_lemma =>
                                                go_wp2_with (first
                                                  | (go_at_call 43; refine (slicesEqualT_calls s.tabs t.tabs _ _ _ (by omega) (by omega) R3.out Q3.out).mono ?_; rintro e w' ⟨rfl, n, hw⟩; rw [hw]; clear hw w'; try rw [q9])
                                                  | (go_at_call 44; refine (slicesEqual_calls s.sets t.sets _ _ _ (by omega) (by omega) (R4.out.drewN _) (Q4.out.drewN _)).mono ?_; rintro e w' ⟨rfl, n', hw⟩; rw [hw]; clear hw w'; try rw [q10]))
                                                go_ret
                                                exact ⟨ret_bool (by simp [shownB, HG.out, q0, q1, q2, q3, q4, q5, q6, q7, q8, q9, q10]), (by first | exact below_drewN bel3 _ | exact below_drewN (below_drewN bel3 _) _)⟩
                                            · as_aux_lemma =>
                                                cases q11 : (s.sh == t.sh)
                                                · as_aux_lemma =>
                                                    go_wp2_with (first
                                                      | (go_at_call 43; refine (slicesEqualT_calls s.tabs t.tabs _ _ _ (by omega) (by omega) R3.out Q3.out).mono ?_; rintro e w' ⟨rfl, n, hw⟩; rw [hw]; clear hw w'; try rw [q9])
                                                      | (go_at_call 44; refine (slicesEqual_calls s.sets t.sets _ _ _ (by omega) (by omega) (R4.out.drewN _) (Q4.out.drewN _)).mono ?_; rintro e w' ⟨rfl, n', hw⟩; rw [hw]; clear hw w'; try rw [q10]))
                                                    go_ret
                                                    exact ⟨ret_bool (by simp [shownB, HG.out, q0, q1, q2, q3, q4, q5, q6, q7, q8, q9, q10, q11]), (by first | exact below_drewN bel3 _ | exact below_drewN (below_drewN bel3 _) _)⟩
                                                · as_aux_lemma =>
                                                    go_wp2_with (first
                                                      | (go_at_call 43; refine (slicesEqualT_calls s.tabs t.tabs _ _ _ (by omega) (by omega) R3.out Q3.out).mono ?_; rintro e w' ⟨rfl, n, hw⟩; rw [hw]; clear hw w'; try rw [q9])
                                                      | (go_at_call 44; refine (slicesEqual_calls s.sets t.sets _ _ _ (by omega) (by omega) (R4.out.drewN _) (Q4.out.drewN _)).mono ?_; rintro e w' ⟨rfl, n', hw⟩; rw [hw]; clear hw w'; try rw [q10]))
                                                    go_ret
                                                    exact ⟨ret_bool (by simp [shownB, HG.out, q0, q1, q2, q3, q4, q5, q6, q7, q8, q9, q10, q11]), (by first | exact below_drewN bel3 _ | exact below_drewN (below_drewN bel3 _) _)⟩
end Go.Proofs.Ytceoehiaeanfkaa
