/-
  A bind put among rising ones, of both sides: spec.PutBind, impl.PutBind; laws on results with binds.
-/
import Derived.Test.YtcfechnkgefhcaaDoorPutSpec
import Derived.Test.YtcfechnkgefhcaaDoorInsFns
namespace Go.Proofs.YtcfechnkgefhcaaDoor
set_option maxRecDepth 20000
open Go.ChangeShapes Go.WideShapes Go.ChangeAt Go.RowKit
set_option linter.unusedVariables false
set_option linter.unusedSimpArgs false
set_option maxRecDepth 20000

theorem take_over {α : Type} (M Rr X : List α) (a : Nat) (h : a + X.length ≤ M.length) : ((M ++ Rr).take a ++ X ++ (M ++ Rr).drop (a + X.length)).take M.length = M.take a ++ X ++ M.drop (a + X.length) := by
  have e1 : (M ++ Rr).take a = M.take a := List.take_append_of_le_length (by omega)
  have e2 : (M ++ Rr).drop (a + X.length) = M.drop (a + X.length) ++ Rr := List.drop_append_of_le_length (by omega)
  have hl : (M.take a ++ X ++ M.drop (a + X.length)).length = M.length := by simp; omega
  rw [e1, e2, ← List.append_assoc]
  have e3 : (M.take a ++ X ++ M.drop (a + X.length) ++ Rr).take M.length = (M.take a ++ X ++ M.drop (a + X.length)).take M.length := List.take_append_of_le_length (by omega)
  rw [e3]
  exact List.take_of_length_le (by omega)
theorem bvs_set (bs : List Bd) (n : Nat) (q : Bd) (h : n < bs.length) : bvs (bs.set n q) = (bvs bs).take (n * 4) ++ bcs q ++ (bvs bs).drop (n * 4 + 4) := by
  rw [List.set_eq_take_append_cons_drop, if_pos h, bvs_append, bvs_cons, bvs_take, bvs_drop, show (n + 1) * 4 = n * 4 + 4 by omega, List.append_assoc]
theorem QAt.upd {lo hi g : Nat} {w w' : World} {v : Value} {xs : List Bd} (h : QAt lo hi w v xs) (hu : Upd g w w') (hg : g < lo) : QAt lo hi w' v xs := h.of_blocks fun i h1 h2 => hu.block i (by omega)
theorem putCd_bad {bs : List Bd} {q : Bd} (h : ¬ bindsCode bs = 0) : putCd bs q = bindsCode bs := by unfold putCd; rw [if_neg h]
theorem putCd_bind {bs : List Bd} {q : Bd} (h : bindsCode bs = 0) (h2 : ¬ bindCode q = 0) : putCd bs q = bindCode q := by unfold putCd; rw [if_pos h, if_neg h2]
theorem putCd_many {bs : List Bd} {q : Bd} (h : bindsCode bs = 0) (h2 : bindCode q = 0) (h3 : 24 < (putR bs q).length) : putCd bs q = 2 := by unfold putCd; rw [if_pos h, if_pos h2, if_pos h3]
theorem putCd_ok {bs : List Bd} {q : Bd} (h : bindsCode bs = 0) (h2 : bindCode q = 0) (h3 : ¬ 24 < (putR bs q).length) : putCd bs q = 0 := by unfold putCd; rw [if_pos h, if_pos h2, if_neg h3]
theorem putRs_nil {bs : List Bd} {q : Bd} (h : ¬ putCd bs q = 0) : putRs bs q = [] := by unfold putRs; rw [if_neg h]
theorem putRs_ok {bs : List Bd} {q : Bd} (h : putCd bs q = 0) : putRs bs q = putR bs q := by unfold putRs; rw [if_pos h]
set_option maxHeartbeats 8000000 in
theorem specPutBind_calls (bs : List Bd) (v : Value) (q : Bd) (w : World) (hn : bs.length ≤ 1048576) (h1 : QRead w v bs) :
    Calls Tryd.prog 12 #[v, .agg #[.int .i64 q.1, .int .i64 q.2.1, .int .i64 q.2.2.1, .int .i64 q.2.2.2]] w fun e w' => ∃ x, e = .returned (.agg #[.int .i64 (putCd bs q), x]) ∧ QAt w.heap.size w'.heap.size w' x (putRs bs q) ∧ Below w.heap.size w w' := by
  obtain ⟨q0, q1, q2, q3⟩ := q
  show Calls _ _ #[_, .agg #[.int .i64 q0, .int .i64 q1, .int .i64 q2, .int .i64 q3]] _ _
  have HB : Hid (bindCode (q0, q1, q2, q3) = bindCode (q0, q1, q2, q3)) := hide rfl
  generalize hcd : putCd bs (q0, q1, q2, q3) = cd
  generalize hrs : putRs bs (q0, q1, q2, q3) = rs
  have HCD := hide hcd
  have HRS := hide hrs
  clear hcd hrs
  have bel : Below w.heap.size w ((w.alloc (.cells #[.int .i64 q0, .int .i64 q1, .int .i64 q2, .int .i64 q3] 28)).alloc (.cells #[.int .i64 0, .slice none 0 0] 32)) := (by repeat' (first | with_reducible exact Below.refl _ _ | with_reducible assumption | with_reducible refine Below.drew ?_ | with_reducible refine Below.alloc ?_ ?_ _ | with_reducible refine Below.setCell ?_ ?_ _ | (simp; done) | (simp; omega) | omega))
  have T0 : Q4 ((w.alloc (.cells #[.int .i64 q0, .int .i64 q1, .int .i64 q2, .int .i64 q3] 28)).alloc (.cells #[.int .i64 0, .slice none 0 0] 32)) w.heap.size 0 (q0, q1, q2, q3) := ⟨by simp, by simp, by simp, by simp⟩
  have B : Blk ((w.alloc (.cells #[.int .i64 q0, .int .i64 q1, .int .i64 q2, .int .i64 q3] 28)).alloc (.cells #[.int .i64 0, .slice none 0 0] 32)) (w.heap.size + 1) #[.int .i64 0, .slice none 0 0] := Blk.new_at (by simp) _ _
  have HRD : Hid (∀ w', Below w.heap.size w w' → QRead w' v bs) := hide (fun w' hb => h1.below hb)
  clear h1
  obtain ⟨code, HC⟩ : ∃ c, Hid (bindsCode bs = c) := ⟨_, hide rfl⟩
  go_enter Tryd.func12, Tryd.ntmps12
  go_wp2_with fail
  generalize ((w.alloc (.cells #[.int .i64 q0, .int .i64 q1, .int .i64 q2, .int .i64 q3] 28)).alloc (.cells #[.int .i64 0, .slice none 0 0] 32)) = W at *
  refine (l8Fault_calls bs v _ hn (HRD.out _ bel)).mono ?_
  rintro e w2 ⟨rfl, qb⟩
  rw [HC.out]
  replace bel := bel.trans (qb.mono bel.size)
  replace T0 := T0.below qb
  replace B := B.belowb qb
  clear qb
  by_cases hz : code = 0
  · subst hz
    have g0 := T0.1
    have g1 := T0.2.1
    have g2 := T0.2.2.1
    have g3 := T0.2.2.2
    dsimp only at g0 g1 g2 g3
    simp only [Nat.zero_add] at g1 g2 g3
    cases hk : keyB q0 q1 with
    | false =>
      have hbc : bindCode (q0, q1, q2, q3) = 3 := bind_key (p := (q0, q1, q2, q3)) hk
      obtain rfl : cd = 3 := by rw [← HCD.out, putCd_bind HC.out (by rw [hbc]; omega), hbc]
      obtain rfl : rs = [] := by rw [← HRS.out, putRs_nil (by rw [HCD.out]; omega)]
      clear hbc
      go_wp2_with (first | (go_at_call 49; refine (l8Key_calls q0 q1 _).mono ?_; rintro e w' ⟨rfl, hw⟩; rw [hw, hk]; clear hw w') | (refine wpList_store_blk rfl _ _ _ rfl (w.heap.size + 1) 0 #[.int .i64 0, .slice none 0 0] #[.int .i64 3, .slice none 0 0] (.agg #[.int .i64 3, .slice none 0 0]) rfl rfl B rfl (by kernel_rfl) rfl rfl ?_; (try simp only [Act.put, List.setIfInBounds_toArray, List.set_cons_zero, List.set_cons_succ]); clear B; intro w9 B hu))
      exact bodyPost_ret (results_blk B _ _ rfl rfl Tryd.underlying32 rfl (by kernel_rfl)) rfl ⟨_, rfl, QAt.nil _ _ _ _ _, bel.trans (hu.below (by omega))⟩
    | true =>
      have hbc : bindCode (q0, q1, q2, q3) = symCode q2 q3 := bind_sym (p := (q0, q1, q2, q3)) hk
      generalize hsc : symCode q2 q3 = sc at hbc
      have HSC := hide hsc
      have HBC := hide hbc
      clear hsc hbc
      go_wp2_with fail
      refine (l8Key_calls q0 q1 _).mono ?_
      rintro e w' ⟨rfl, hw⟩
      rw [hw, hk]
      clear hw w'
      go_wp2_with fail
      refine (l8Sym_calls q2 q3 w.heap.size 2 _ g2 g3).mono ?_
      rintro e w' ⟨rfl, hw⟩
      rw [hw, HSC.out]
      clear hw w'
      by_cases hs : sc = 0
      · subst hs
        go_wp2_with fail
        refine (l8Put_calls bs v (q0, q1, q2, q3) _ (by have := (bfine_of_code HC.out).len; omega) (HRD.out _ bel)).mono ?_
        rintro e w3 ⟨x, rfl, hx, qb⟩
        replace hx := hx.mono (lo' := w.heap.size + 2) (by have := B.lt; omega) (Nat.le_refl _)
        replace bel := bel.trans (qb.mono bel.size)
        replace T0 := T0.below qb
        replace B := B.belowb qb
        clear qb g0 g1 g2 g3
        obtain ⟨ax, cx, rfl, hcx, hx'⟩ := hx
        have hx : QAt (w.heap.size + 2) w3.heap.size w3 (.slice ax (putR bs (q0, q1, q2, q3)).length cx) (putR bs (q0, q1, q2, q3)) := ⟨ax, cx, rfl, hcx, hx'⟩
        clear hx'
        by_cases hm : 24 < (putR bs (q0, q1, q2, q3)).length
        · obtain rfl : cd = 2 := by rw [← HCD.out, putCd_many HC.out HBC.out hm]
          obtain rfl : rs = [] := by rw [← HRS.out, putRs_nil (by rw [HCD.out]; omega)]
          generalize hL : (putR bs (q0, q1, q2, q3)).length = L at *
          have hgt : (L : Int) > 24 := by omega
          have hgt' : (24 : Int) < (L : Int) := by omega
          go_wp2_with (refine wpList_store_blk rfl _ _ _ rfl (w.heap.size + 1) 0 #[.int .i64 0, .slice none 0 0] #[.int .i64 2, .slice none 0 0] (.agg #[.int .i64 2, .slice none 0 0]) rfl rfl B rfl (by kernel_rfl) rfl rfl ?_; (try simp only [Act.put, List.setIfInBounds_toArray, List.set_cons_zero, List.set_cons_succ]); clear B; intro w9 B hu)
          exact bodyPost_ret (results_blk B _ _ rfl rfl Tryd.underlying32 rfl (by kernel_rfl)) rfl ⟨_, rfl, QAt.nil _ _ _ _ _, bel.trans (hu.below (by omega))⟩
        · obtain rfl : cd = 0 := by rw [← HCD.out, putCd_ok HC.out HBC.out hm]
          obtain rfl : rs = putR bs (q0, q1, q2, q3) := by rw [← HRS.out, putRs_ok HCD.out]
          have HX := hide hx
          clear hx
          generalize hL : (putR bs (q0, q1, q2, q3)).length = L at *
          have hgt : ¬ ((L : Int) > 24) := by omega
          have hgt' : ¬ ((24 : Int) < (L : Int)) := by omega
          go_wp2_with (refine wpList_store_blk rfl _ _ _ rfl (w.heap.size + 1) 0 #[.int .i64 0, .slice none 0 0] #[.int .i64 0, .slice ax L cx] (.agg #[.int .i64 0, .slice ax L cx]) rfl rfl B rfl (by kernel_rfl) rfl rfl ?_; (try simp only [Act.put, List.setIfInBounds_toArray, List.set_cons_zero, List.set_cons_succ]); clear B; intro w9 B hu)
          exact bodyPost_ret (results_blk B _ _ rfl rfl Tryd.underlying32 rfl (by kernel_rfl)) rfl ⟨_, rfl, (by rw [hu.size]; exact (HX.out.upd hu (by omega)).mono (by omega) (Nat.le_refl _)), bel.trans (hu.below (by omega))⟩
      · obtain rfl : cd = sc := by rw [← HCD.out, putCd_bind HC.out (by rw [HBC.out]; exact hs), HBC.out]
        obtain rfl : rs = [] := by rw [← HRS.out, putRs_nil (by rw [HCD.out]; exact hs)]
        have hne : (cd != 0) = true := by simpa using hs
        clear hs
        go_wp2_with (refine wpList_store_blk rfl _ _ _ rfl (w.heap.size + 1) 0 #[.int .i64 0, .slice none 0 0] #[.int .i64 cd, .slice none 0 0] (.agg #[.int .i64 cd, .slice none 0 0]) rfl rfl B rfl (by kernel_rfl) rfl rfl ?_; (try simp only [Act.put, List.setIfInBounds_toArray, List.set_cons_zero, List.set_cons_succ]); clear B; intro w9 B hu)
        exact bodyPost_ret (results_blk B _ _ rfl rfl Tryd.underlying32 rfl (by kernel_rfl)) rfl ⟨_, rfl, QAt.nil _ _ _ _ _, bel.trans (hu.below (by omega))⟩
  · obtain rfl : cd = code := by rw [← HCD.out, putCd_bad (by rw [HC.out]; exact hz), HC.out]
    obtain rfl : rs = [] := by rw [← HRS.out, putRs_nil (by rw [HCD.out]; exact hz)]
    have hne : (cd != 0) = true := by simpa using hz
    clear hz
    go_wp2_with (refine wpList_store_blk rfl _ _ _ rfl (w.heap.size + 1) 0 #[.int .i64 0, .slice none 0 0] #[.int .i64 cd, .slice none 0 0] (.agg #[.int .i64 cd, .slice none 0 0]) rfl rfl B rfl (by kernel_rfl) rfl rfl ?_; (try simp only [Act.put, List.setIfInBounds_toArray, List.set_cons_zero, List.set_cons_succ]); clear B; intro w9 B hu)
    exact bodyPost_ret (results_blk B _ _ rfl rfl Tryd.underlying32 rfl (by kernel_rfl)) rfl ⟨_, rfl, QAt.nil _ _ _ _ _, bel.trans (hu.below (by omega))⟩
set_option maxHeartbeats 8000000 in
theorem implPutBind_calls (bs : List Bd) (v : Value) (q : Bd) (w : World) (hn : bs.length ≤ 1048576) (h1 : QRead w v bs) (hT : FewAt w) :
    Calls Tryd.prog 11 #[v, .agg #[.int .i64 q.1, .int .i64 q.2.1, .int .i64 q.2.2.1, .int .i64 q.2.2.2]] w fun e w' => ∃ x, e = .returned (.agg #[.int .i64 (putCd bs q), x]) ∧ QAt w.heap.size w'.heap.size w' x (putRs bs q) ∧ Below w.heap.size w w' := by
  obtain ⟨q0, q1, q2, q3⟩ := q
  show Calls _ _ #[_, .agg #[.int .i64 q0, .int .i64 q1, .int .i64 q2, .int .i64 q3]] _ _
  have HB : Hid (bindCode (q0, q1, q2, q3) = bindCode (q0, q1, q2, q3)) := hide rfl
  generalize hcd : putCd bs (q0, q1, q2, q3) = cd
  generalize hrs : putRs bs (q0, q1, q2, q3) = rs
  have HCD := hide hcd
  have HRS := hide hrs
  clear hcd hrs
  have bel : Below w.heap.size w ((w.alloc (.cells #[.int .i64 q0, .int .i64 q1, .int .i64 q2, .int .i64 q3] 28)).alloc (.cells #[.int .i64 0, .slice none 0 0] 32)) := (by repeat' (first | with_reducible exact Below.refl _ _ | with_reducible assumption | with_reducible refine Below.drew ?_ | with_reducible refine Below.alloc ?_ ?_ _ | with_reducible refine Below.setCell ?_ ?_ _ | (simp; done) | (simp; omega) | omega))
  have T0 : Q4 ((w.alloc (.cells #[.int .i64 q0, .int .i64 q1, .int .i64 q2, .int .i64 q3] 28)).alloc (.cells #[.int .i64 0, .slice none 0 0] 32)) w.heap.size 0 (q0, q1, q2, q3) := ⟨by simp, by simp, by simp, by simp⟩
  have B : Blk ((w.alloc (.cells #[.int .i64 q0, .int .i64 q1, .int .i64 q2, .int .i64 q3] 28)).alloc (.cells #[.int .i64 0, .slice none 0 0] 32)) (w.heap.size + 1) #[.int .i64 0, .slice none 0 0] := Blk.new_at (by simp) _ _
  have HRD : Hid (∀ w', Below w.heap.size w w' → QRead w' v bs) := hide (fun w' hb => h1.below hb)
  have HT : Hid (∀ w', Below w.heap.size w w' → FewAt w') := hide (fun w' hb => hT.below hb)
  clear h1 hT
  obtain ⟨code, HC⟩ : ∃ c, Hid (bindsCode bs = c) := ⟨_, hide rfl⟩
  go_enter Tryd.func11, Tryd.ntmps11
  go_wp2_with fail
  generalize ((w.alloc (.cells #[.int .i64 q0, .int .i64 q1, .int .i64 q2, .int .i64 q3] 28)).alloc (.cells #[.int .i64 0, .slice none 0 0] 32)) = W at *
  refine (implBindsFault_calls bs v _ hn (HRD.out _ bel) (HT.out _ bel)).mono ?_
  rintro e w2 ⟨rfl, qb⟩
  rw [HC.out]
  replace bel := bel.trans (qb.mono bel.size)
  replace T0 := T0.below qb
  replace B := B.belowb qb
  clear qb
  by_cases hz : code = 0
  · subst hz
    have g0 := T0.1
    have g1 := T0.2.1
    have g2 := T0.2.2.1
    have g3 := T0.2.2.2
    dsimp only at g0 g1 g2 g3
    simp only [Nat.zero_add] at g1 g2 g3
    generalize hbc : bindCode (q0, q1, q2, q3) = bc at HB
    have HBC := hide hbc
    clear hbc
    have HF := hide (bfine_of_code HC.out)
    go_wp2_with fail
    refine (bindFault_calls q0 q1 q2 q3 _ (HT.out _ bel)).mono ?_
    rintro e w3 ⟨rfl, qb⟩
    rw [HBC.out]
    replace bel := bel.trans (qb.mono bel.size)
    replace T0 := T0.below qb
    replace B := B.belowb qb
    clear qb
    clear g0 g1 g2 g3
    by_cases hs : bc = 0
    · subst hs
      go_wp2_with fail
      refine (cloneB_calls bs v _ hn (HRD.out _ bel)).mono ?_
      rintro e w4 ⟨x, rfl, own, qb⟩
      have hgz : w.heap.size + 2 ≤ w3.heap.size := by have := B.lt; omega
      have hq4 : w3.heap.size ≤ w4.heap.size := qb.size
      replace bel := bel.trans (qb.mono bel.size)
      replace T0 := T0.below qb
      replace B := B.belowb qb
      clear qb
      have hlen24 := HF.out.len
      have hread := (own_binds own (Nat.le_refl _)).read
      obtain ⟨ax, cx, rfl, hcx⟩ := own_room4 own
      have OWN := hide own
      clear own
      have g0 := T0.1
      have g1 := T0.2.1
      have g2 := T0.2.2.1
      have g3 := T0.2.2.2
      dsimp only at g0 g1 g2 g3
      simp only [Nat.zero_add] at g1 g2 g3
      go_wp2_with fail
      refine (bsearch_calls bs _ (q0, q1, q2, q3) _ hn hread HF.out.sorted).mono ?_
      rintro e w5 ⟨⟨n, rfl, hcut⟩, qb⟩
      have HCUT := hide hcut
      clear hcut hread g0 g1 g2 g3
      replace OWN := hide (own_bel OWN.out qb)
      have hq5 : w4.heap.size ≤ w5.heap.size := qb.size
      replace bel := bel.trans (qb.mono bel.size)
      replace T0 := T0.below qb
      replace B := B.belowb qb
      clear qb
      have g0 := T0.1
      have g1 := T0.2.1
      have g2 := T0.2.2.1
      have g3 := T0.2.2.2
      dsimp only at g0 g1 g2 g3
      simp only [Nat.zero_add] at g1 g2 g3
      cases hh : hitB bs (q0, q1, q2, q3) n with
      | true =>
        obtain ⟨hnl, hput⟩ := putR_hit HF.out.sorted HCUT.out hh
        obtain rfl : cd = 0 := by rw [← HCD.out, putCd_ok HC.out HBC.out (by rw [hput, List.length_set]; omega)]
        obtain rfl : rs = bs.set n (q0, q1, q2, q3) := by rw [← HRS.out, putRs_ok HCD.out, hput]
        have hnI : (n : Int) < (bs.length : Int) := by omega
        rcases OWN.out.2 with ⟨_, h0⟩ | ⟨g, cap, cur, hv, hgb, hg, hnc, hcm, hcs, hcur⟩
        · omega
        · simp only [Value.slice.injEq] at hv
          obtain ⟨rfl, _, rfl⟩ := hv
          have G : Blk w5 g cur := ⟨_, hg⟩
          have hgw := G.lt
          have hcl : cur.toList = bvs bs ++ cur.toList.drop (bs.length * 4) := by rw [← hcur, List.take_append_drop]
          have hbl : (bvs bs).length = bs.length * 4 := bvs_length bs
          have HFIN : Hid ((cur.toList.take (n * 4) ++ bcs (q0, q1, q2, q3) ++ cur.toList.drop (n * 4 + 4)).take (bs.length * 4) = bvs (bs.set n (q0, q1, q2, q3))) := hide (by
            have h := take_over (bvs bs) (cur.toList.drop (bs.length * 4)) (bcs (q0, q1, q2, q3)) (n * 4) (by rw [hbl]; show n * 4 + 4 ≤ _; omega)
            rw [← hcl, hbl] at h
            rw [bvs_set _ _ _ hnl]
            exact h)
          have hlb : Nat.ble (n * 4 + 4) cur.size = true := Nat.ble_eq_true_of_le (by rw [hcs]; omega)
          have HLB := hide hlb
          clear hcl hbl hlb hg hcur
          go_wp2_with (first
            | (refine wpList_store_blk rfl _ _ _ rfl g (n * 4) cur (cur.toList.take (n * 4) ++ bcs (q0, q1, q2, q3) ++ cur.toList.drop (n * 4 + 4)).toArray (.agg #[.int .i64 q0, .int .i64 q1, .int .i64 q2, .int .i64 q3]) rfl rfl G HLB.out (by kernel_rfl) rfl rfl ?_; (try simp only [Act.put, List.setIfInBounds_toArray, List.set_cons_zero, List.set_cons_succ]); intro w6 G6 hu6; replace B := B.upd hu6 (by omega); replace bel := bel.trans (hu6.below (by omega)))
            | (refine wpList_store_blk rfl _ _ _ rfl (w.heap.size + 1) 0 #[.int .i64 0, .slice none 0 0] #[.int .i64 0, .slice (some ⟨g, 0, none⟩) bs.length cx] (.agg #[.int .i64 0, .slice (some ⟨g, 0, none⟩) bs.length cx]) rfl rfl B rfl (by kernel_rfl) rfl rfl ?_; (try simp only [Act.put, List.setIfInBounds_toArray, List.set_cons_zero, List.set_cons_succ]); clear B; intro w9 B hu))
          have hlt9 : g < w9.heap.size := by rw [hu.size, hu6.size]; exact hgw
          exact bodyPost_ret (results_blk B _ _ rfl rfl Tryd.underlying32 rfl (by kernel_rfl)) rfl ⟨_, rfl, (qat_of_blk (k := bs.length) (G6.upd hu (by omega)) (by simp) HFIN.out hnc (by omega) hlt9), bel.trans (hu.below (by omega))⟩
      | false =>
        have hput := putR_miss HF.out.sorted HCUT.out hh
        by_cases hm : bs.length = 24
        · have hpl : 24 < (putR bs (q0, q1, q2, q3)).length := by
            have := HCUT.out.1
            rw [hput]; simp; omega
          obtain rfl : cd = 2 := by rw [← HCD.out, putCd_many HC.out HBC.out hpl]
          obtain rfl : rs = [] := by rw [← HRS.out, putRs_nil (by rw [HCD.out]; omega)]
          have hmI : ((bs.length : Int) == 24) = true := by rw [hm]; rfl
          clear hput hpl
          go_wp2_with (refine wpList_store_blk rfl _ _ _ rfl (w.heap.size + 1) 0 #[.int .i64 0, .slice none 0 0] #[.int .i64 2, .slice none 0 0] (.agg #[.int .i64 2, .slice none 0 0]) rfl rfl B rfl (by kernel_rfl) rfl rfl ?_; (try simp only [Act.put, List.setIfInBounds_toArray, List.set_cons_zero, List.set_cons_succ]); clear B; intro w9 B hu)
          exact bodyPost_ret (results_blk B _ _ rfl rfl Tryd.underlying32 rfl (by kernel_rfl)) rfl ⟨_, rfl, QAt.nil _ _ _ _ _, bel.trans (hu.below (by omega))⟩
        · have hpl : ¬ 24 < (putR bs (q0, q1, q2, q3)).length := by
            have := HCUT.out.1
            rw [hput]; simp; omega
          obtain rfl : cd = 0 := by rw [← HCD.out, putCd_ok HC.out HBC.out hpl]
          obtain rfl : rs = bs.take n ++ (q0, q1, q2, q3) :: bs.drop n := by rw [← HRS.out, putRs_ok HCD.out, hput]
          have hmI : ((bs.length : Int) == 24) = false := by simp; omega
          clear hput hpl
          have qa : Below w5.heap.size w5 (w5.alloc (.cells #[.int .i64 q0, .int .i64 q1, .int .i64 q2, .int .i64 q3] 28)) := (by repeat' (first | with_reducible exact Below.refl _ _ | with_reducible assumption | with_reducible refine Below.drew ?_ | with_reducible refine Below.alloc ?_ ?_ _ | with_reducible refine Below.setCell ?_ ?_ _ | (simp; done) | (simp; omega) | omega))
          have OWN2 := hide (own_alloc OWN.out (.cells #[.int .i64 q0, .int .i64 q1, .int .i64 q2, .int .i64 q3] 28))
          have NB : Blk (w5.alloc (.cells #[.int .i64 q0, .int .i64 q1, .int .i64 q2, .int .i64 q3] 28)) w5.heap.size (bcs (q0, q1, q2, q3)).toArray := Blk.new_at rfl _ _
          have B2 := B.belowb qa
          have bel2 := bel.trans (qa.mono bel.size)
          have hvb : (Value.slice ax bs.length cx).ownBlock ≠ some w5.heap.size := fun h => by have := (OWN.out.lt _ h).2; omega
          have HVB := hide hvb
          have hs6 : w5.heap.size ≤ (w5.alloc (.cells #[.int .i64 q0, .int .i64 q1, .int .i64 q2, .int .i64 q3] 28)).heap.size := qa.size
          clear hvb B qa
          have hnn := HCUT.out.1
          go_wp2_with fail
          generalize (w5.alloc (.cells #[.int .i64 q0, .int .i64 q1, .int .i64 q2, .int .i64 q3] 28)) = w6 at *
          refine (insB_calls bs _ (q0, q1, q2, q3) n w5.heap.size w3.heap.size _ (by omega) hnn OWN2.out (by omega) NB HVB.out).mono ?_
          rintro e w7 ⟨y, rfl, hy, qb⟩
          have B := B2.below qb (by omega)
          have bel := bel2.trans (qb.mono (by omega))
          have hlt7 := hy
          obtain ⟨ay, cy, rfl, _⟩ := hlt7
          have HY := hide hy
          clear hy qb B2 bel2
          generalize hLL : (bs.take n ++ (q0, q1, q2, q3) :: bs.drop n) = LL at *
          go_wp2_with (refine wpList_store_blk rfl _ _ _ rfl (w.heap.size + 1) 0 #[.int .i64 0, .slice none 0 0] #[.int .i64 0, .slice ay LL.length cy] (.agg #[.int .i64 0, .slice ay LL.length cy]) rfl rfl B rfl (by kernel_rfl) rfl rfl ?_; (try simp only [Act.put, List.setIfInBounds_toArray, List.set_cons_zero, List.set_cons_succ]); clear B; intro w9 B hu)
          exact bodyPost_ret (results_blk B _ _ rfl rfl Tryd.underlying32 rfl (by kernel_rfl)) rfl ⟨_, rfl, (by rw [hu.size, hLL]; exact (HY.out.upd hu (by omega)).mono (by omega) (Nat.le_refl _)), bel.trans (hu.below (by omega))⟩
    · obtain rfl : cd = bc := by rw [← HCD.out, putCd_bind HC.out (by rw [HBC.out]; exact hs), HBC.out]
      obtain rfl : rs = [] := by rw [← HRS.out, putRs_nil (by rw [HCD.out]; exact hs)]
      have hne : (cd != 0) = true := by simpa using hs
      clear hs
      go_wp2_with (refine wpList_store_blk rfl _ _ _ rfl (w.heap.size + 1) 0 #[.int .i64 0, .slice none 0 0] #[.int .i64 cd, .slice none 0 0] (.agg #[.int .i64 cd, .slice none 0 0]) rfl rfl B rfl (by kernel_rfl) rfl rfl ?_; (try simp only [Act.put, List.setIfInBounds_toArray, List.set_cons_zero, List.set_cons_succ]); clear B; intro w9 B hu)
      exact bodyPost_ret (results_blk B _ _ rfl rfl Tryd.underlying32 rfl (by kernel_rfl)) rfl ⟨_, rfl, QAt.nil _ _ _ _ _, bel.trans (hu.below (by omega))⟩
  · obtain rfl : cd = code := by rw [← HCD.out, putCd_bad (by rw [HC.out]; exact hz), HC.out]
    obtain rfl : rs = [] := by rw [← HRS.out, putRs_nil (by rw [HCD.out]; exact hz)]
    have hne : (cd != 0) = true := by simpa using hz
    clear hz
    go_wp2_with (refine wpList_store_blk rfl _ _ _ rfl (w.heap.size + 1) 0 #[.int .i64 0, .slice none 0 0] #[.int .i64 cd, .slice none 0 0] (.agg #[.int .i64 cd, .slice none 0 0]) rfl rfl B rfl (by kernel_rfl) rfl rfl ?_; (try simp only [Act.put, List.setIfInBounds_toArray, List.set_cons_zero, List.set_cons_succ]); clear B; intro w9 B hu)
    exact bodyPost_ret (results_blk B _ _ rfl rfl Tryd.underlying32 rfl (by kernel_rfl)) rfl ⟨_, rfl, QAt.nil _ _ _ _ _, bel.trans (hu.below (by omega))⟩
set_option maxHeartbeats 400000 in
theorem eqBindsResult_calls (c : Int) (xs : List Bd) (v1 v2 : Value) (w : World) (hn : xs.length ≤ 100000000) (h1 : QRead w v1 xs) (h2 : QRead w v2 xs) :
    Calls Tryd.prog 33 #[.agg #[.int .i64 c, v1], .agg #[.int .i64 c, v2]] w fun e w' => e = .returned (.bool true) ∧ Below w.heap.size w w' := by
  obtain ⟨a1, c1, rfl, h1⟩ := h1
  obtain ⟨a2, c2, rfl, h2⟩ := h2
  have hne : (c != c) = false := by simp
  go_enter Tryd.func33, Tryd.ntmps33
  go_wp2_with fail
  have hb : Below w.heap.size w ((w.alloc (.cells #[.int .i64 c, .slice a1 xs.length c1] 32)).alloc (.cells #[.int .i64 c, .slice a2 xs.length c2] 32)) := (by repeat' (first | with_reducible exact Below.refl _ _ | with_reducible assumption | with_reducible refine Below.drew ?_ | with_reducible refine Below.alloc ?_ ?_ _ | with_reducible refine Below.setCell ?_ ?_ _ | (simp; done) | (simp; omega) | omega))
  refine (eqBindS_calls xs _ _ _ (by omega) (QRead.below ⟨a1, c1, rfl, h1⟩ hb) (QRead.below ⟨a2, c2, rfl, h2⟩ hb)).mono ?_
  rintro e w1 ⟨rfl, q⟩
  have hb2 := hb.trans (q.mono hb.size)
  clear q hb
  go_wp2
  go_ret
  exact ⟨rfl, hb2⟩
theorem QAt.allocq {lo hi : Nat} {w : World} {v : Value} {xs : List Bd} (h : QAt lo hi w v xs) (hh : hi ≤ w.heap.size) (o : Obj) : QAt lo hi (w.alloc o) v xs := h.below ((Below.refl _ _).alloc (Nat.le_refl _) o) hh
set_option maxHeartbeats 400000 in
theorem markBindsResult_calls (c : Int) (xs : List Bd) (k0 : Int) (lo hi : Nat) (v : Value) (w : World) (hn : xs.length ≤ 100000000) (hk : 0 ≤ k0) (hk0 : k0 ≤ 100000000) (hh : hi ≤ w.heap.size) (h1 : QAt lo hi w v xs) :
    Calls Tryd.prog 35 #[.agg #[.int .i64 c, v], .int .i64 k0] w fun e w' => e = .returned (.int .i64 (k0 + 4 * xs.length)) ∧ QAt lo hi w' v (marksB4 k0 xs.length) ∧ Within lo hi w w' := by
  have h1' := h1
  obtain ⟨a1, c1, rfl, _⟩ := h1'
  go_enter Tryd.func35, Tryd.ntmps35
  go_wp2_with fail
  refine (markBindS_calls xs k0 lo hi _ _ hn hk hk0 (h1.allocq hh _)).mono ?_
  rintro e w1 ⟨rfl, hm, hw⟩
  go_wp2
  go_ret
  exact ⟨rfl, hm, (Within.of_below ((Below.refl _ _).alloc (Nat.le_refl _) _) (Nat.le_refl _)).trans hw⟩
set_option maxHeartbeats 400000 in
theorem heldBindsResult_calls (c : Int) (xs : List Bd) (k0 : Int) (v : Value) (w : World) (hn : xs.length ≤ 100000000) (hk : 0 ≤ k0) (hk0 : k0 ≤ 100000000) (h1 : QRead w v xs) (hm : ∀ i, i < xs.length → xs.getD i b0 = ((k0 + 4 * i : Int), (k0 + 4 * i + 1 : Int), (k0 + 4 * i + 2 : Int), (k0 + 4 * i + 3 : Int))) :
    Calls Tryd.prog 36 #[.agg #[.int .i64 c, v], .int .i64 k0] w fun e w' => e = .returned (.int .i64 (k0 + 4 * xs.length)) ∧ Below w.heap.size w w' := by
  have h1' := h1
  obtain ⟨a1, c1, rfl, _⟩ := h1'
  have hb : Below w.heap.size w (w.alloc (.cells #[.int .i64 c, .slice a1 xs.length c1] 32)) := (by repeat' (first | with_reducible exact Below.refl _ _ | with_reducible assumption | with_reducible refine Below.drew ?_ | with_reducible refine Below.alloc ?_ ?_ _ | with_reducible refine Below.setCell ?_ ?_ _ | (simp; done) | (simp; omega) | omega))
  have HM := hide hm
  have hge : ¬ (k0 + 4 * (xs.length : Int) < 0) := by omega
  clear hm
  go_enter Tryd.func36, Tryd.ntmps36
  go_wp2_with fail
  refine (heldBindS_calls xs k0 _ _ hn hk hk0 (h1.below hb) HM.out).mono ?_
  rintro e w1 ⟨rfl, rfl⟩
  go_wp2
  go_ret
  exact ⟨rfl, hb⟩
end Go.Proofs.YtcfechnkgefhcaaDoor
