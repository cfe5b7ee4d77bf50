/-
  For every two terminals the law FnExactSameVts returns true: impl.SameVts answers at each two terminals what the model's SameVts answers, and turns no argument. No condition (the law itself passes terminals of together more than 1048576 numbers, cells, tab stops and tables by).
-/
import Derived.Test.YtceoehiaeanfkaaRows
import Derived.Test.YtceoehiaeanfkaaSameVt
import Derived.Test.YtceoehiaeanfkaaVtFns
import Derived.Test.YtceoehiaeanfkaaVtOpen
import Derived.Deep.RegionHeld
import Derived.ShutString
import Derived.ChangeOld
import Derived.Lib.SmallJoins
namespace Go.Proofs.Ytceoehiaeanfkaa
set_option maxRecDepth 20000
open Go.ChangeShapes Go.WideShapes Go.ChangeAt Go.RowKit Go.Joins
set_option linter.unusedVariables false
set_option linter.unusedSimpArgs false

set_option maxRecDepth 20000
theorem run_execLoad {P : Program} {ρ : Operand → Value} {op : Oper} {w : World} (ty : TypeId) (x : Operand) (ho : op.op = .load ty x) (g off : Nat) (hx : ρ x = .pointer (some ⟨g, off, none⟩)) (v : Value) (h : (loadVar ty ⟨g, off, none⟩).run P w = .ok v w) :
    (execOp ρ op).run P w = .ok (Next.value v) w := by
  unfold execOp
  simp only [ho, hx, Instr.loadAt, Instr.sureAddr, Sem.run_bind, Sem.run_pure, Result.andThen_ok, h]
set_option maxRecDepth 20000 in
set_option maxHeartbeats 8000000 in
theorem lawSV_walk (t : VtS) (u v1 v2 v3 v4 : Value) (s : VtS) (j j1 j2 j3 j4 : Value)  (w : World) (hrt : VRead w t u v1 v2 v3 v4) (hrs : VRead w s j j1 j2 j3 j4) (hmt1 : t.ns.length ≤ maxLen) (hmt2 : t.s.cs.length ≤ maxLen) (hmt3 : t.s.bs.length ≤ maxLen) (hmt4 : t.s.tabs.length ≤ maxLen) (hmt5 : t.s.sets.length ≤ maxLen) (hms1 : s.ns.length ≤ maxLen) (hms2 : s.s.cs.length ≤ maxLen) (hms3 : s.s.bs.length ≤ maxLen) (hms4 : s.s.tabs.length ≤ maxLen) (hms5 : s.s.sets.length ≤ maxLen) :
    Calls Try.prog 8 #[.agg (vtA t u v1 v2 v3 v4), .agg (vtA s j j1 j2 j3 j4)] w fun e w' => e = .returned (.bool true) ∧ Below w.heap.size w w' := by
  by_cases hsum0 : (t.ns.length : Int) + t.s.cs.length + t.s.bs.length + t.s.tabs.length + t.s.sets.length ≤ 1048576
  · skip
    by_cases hsum1 : (s.ns.length : Int) + s.s.cs.length + s.s.bs.length + s.s.tabs.length + s.s.sets.length ≤ 1048576 - t.ns.length - t.s.cs.length - t.s.bs.length - t.s.tabs.length - t.s.sets.length
    · skip
      have q0 : Below w.heap.size w ((w.alloc (.cells (vtA t u v1 v2 v3 v4) 55)).alloc (.cells (vtA s j j1 j2 j3 j4) 55)) := (by repeat' (first | with_reducible exact Below.refl _ _ | with_reducible assumption | with_reducible refine Below.drew ?_ | with_reducible refine Below.alloc ?_ ?_ _ | with_reducible refine Below.setCell ?_ ?_ _ | (simp; done) | (simp; omega) | omega))
      have hAt := (Blk.new w (vtA t u v1 v2 v3 v4) 55).alloc (.cells (vtA s j j1 j2 j3 j4) 55)
      have hAs := Blk.new_at (w := w.alloc (.cells (vtA t u v1 v2 v3 v4) 55)) (b := w.heap.size + 1) (by simp) (vtA s j j1 j2 j3 j4) 55
      go_enter Try.func8, Try.ntmps8
      go_wp2_with (first | fail | (refine wpList_load_at rfl 55 _ rfl (w.heap.size) 0 rfl _ (vtA t u v1 v2 v3 v4) hAt rfl _ Try.underlying55 rfl (by kernel_rfl) ?_; (try simp only [Act.put, List.setIfInBounds_toArray, List.set_cons_zero, List.set_cons_succ])) | (refine wpList_load_at rfl 55 _ rfl (w.heap.size + 1) 0 rfl _ (vtA s j j1 j2 j3 j4) hAs rfl _ Try.underlying55 rfl (by kernel_rfl) ?_; (try simp only [Act.put, List.setIfInBounds_toArray, List.set_cons_zero, List.set_cons_succ])))
      go_at_call 23
      refine (szVt_calls t u v1 v2 v3 v4 1048576 (by omega) (by omega) _ (hrt.below q0) hmt1 hmt2 hmt3 hmt4 hmt5).mono ?_
      rintro e w1 ⟨rfl, hb⟩
      replace hAt := hAt.belowb hb
      replace hAs := hAs.belowb hb
      have z0 : w.heap.size + 2 ≤ w1.heap.size := by have := hb.size; simp at this; omega
      have b1 : Below w.heap.size w w1 := q0.trans (hb.mono q0.size)
      clear hb q0
      replace hrt := hrt.below b1
      replace hrs := hrs.below b1
      rw [if_pos hsum0]
      have hge0 : ¬ ((1048576 - t.ns.length - t.s.cs.length - t.s.bs.length - t.s.tabs.length - t.s.sets.length) < 0) := by omega
      go_wp2_with (first | fail | (refine wpList_load_at rfl 55 _ rfl (w.heap.size) 0 rfl _ (vtA t u v1 v2 v3 v4) hAt rfl _ Try.underlying55 rfl (by kernel_rfl) ?_; (try simp only [Act.put, List.setIfInBounds_toArray, List.set_cons_zero, List.set_cons_succ])) | (refine wpList_load_at rfl 55 _ rfl (w.heap.size + 1) 0 rfl _ (vtA s j j1 j2 j3 j4) hAs rfl _ Try.underlying55 rfl (by kernel_rfl) ?_; (try simp only [Act.put, List.setIfInBounds_toArray, List.set_cons_zero, List.set_cons_succ])))
      go_at_call 23
      refine (szVt_calls s j j1 j2 j3 j4 (1048576 - t.ns.length - t.s.cs.length - t.s.bs.length - t.s.tabs.length - t.s.sets.length) (by omega) (by omega) _ hrs hms1 hms2 hms3 hms4 hms5).mono ?_
      rintro e w2 ⟨rfl, hb⟩
      have z2 : w1.heap.size ≤ w2.heap.size := hb.size
      replace hAt := hAt.belowb hb
      replace hAs := hAs.belowb hb
      replace hrt := hrt.below hb
      replace hrs := hrs.below hb
      have b2 : Below w.heap.size w w2 := b1.trans (hb.mono (by omega))
      clear hb b1
      rw [if_pos hsum1]
      have hge1 : ¬ ((1048576 - t.ns.length - t.s.cs.length - t.s.bs.length - t.s.tabs.length - t.s.sets.length - s.ns.length - s.s.cs.length - s.s.bs.length - s.s.tabs.length - s.s.sets.length) < 0) := by omega
      have hnt1 : t.ns.length ≤ 1048576 := by omega
      have hnt2 : t.s.cs.length ≤ 1048576 := by omega
      have hnt3 : t.s.bs.length ≤ 1048576 := by omega
      have hnt4 : t.s.tabs.length ≤ 1048576 := by omega
      have hnt5 : t.s.sets.length ≤ 1048576 := by omega
      have hns1 : s.ns.length ≤ 1048576 := by omega
      have hns2 : s.s.cs.length ≤ 1048576 := by omega
      have hns3 : s.s.bs.length ≤ 1048576 := by omega
      have hns4 : s.s.tabs.length ≤ 1048576 := by omega
      have hns5 : s.s.sets.length ≤ 1048576 := by omega
      go_wp2_with fail
      have hd : Below w2.heap.size w2 w2.drew := Below.drew (Below.refl _ _)
      have ra := hrt.below hd
      have rb := hrs.below hd
      refine wp_region_held_drew (S := (fun w' => Below w2.heap.size w2 w' ∧ Blk w' (w.heap.size) (vtA t u v1 v2 v3 v4) ∧ Blk w' (w.heap.size + 1) (vtA s j j1 j2 j3 j4))) (by kernel_rfl) ?_ (fun hHeld => ?_)
      · (try dsimp only); exact ⟨hd, hAt, hAs⟩
      refine wpAnyH_take (i := 0) (oi := ⟨_, _, _, _, _, _⟩) (v := .agg (vtA t u v1 v2 v3 v4)) rfl (by kernel_rfl) (by kernel_rfl) (by kernel_rfl) (fun _ _ _ h => h) (Or.inl ⟨by rfl, ?_⟩) hHeld ?_
      · intro w hSw
        (try dsimp only at hSw)
        have hx := run_loadVar_at (P := Try.prog) (o := 0) (ty := 55) (vs := (vtA t u v1 v2 v3 v4)) hSw.2.1 rfl Try.underlying55 rfl (by kernel_rfl)
        exact run_execLoad _ _ rfl _ _ rfl _ hx
      try simp only [Act.put, List.setIfInBounds_toArray, List.set_cons_zero, List.set_cons_succ]
      refine wpAnyH_take (i := 2) (oi := ⟨_, _, _, _, _, _⟩) (v := .agg (vtA s j j1 j2 j3 j4)) rfl (by kernel_rfl) (by kernel_rfl) (by kernel_rfl) (fun _ _ _ h => h) (Or.inl ⟨by rfl, ?_⟩) hHeld ?_
      · intro w hSw
        (try dsimp only at hSw)
        have hx := run_loadVar_at (P := Try.prog) (o := 0) (ty := 55) (vs := (vtA s j j1 j2 j3 j4)) hSw.2.2 rfl Try.underlying55 rfl (by kernel_rfl)
        exact run_execLoad _ _ rfl _ _ rfl _ hx
      try simp only [Act.put, List.setIfInBounds_toArray, List.set_cons_zero, List.set_cons_succ]
      refine wpAnyH_ready (rs := [1]) (by kernel_rfl) (by simp) ?_
      refine AllReadyH.cons (o := ⟨_, _, _, _, _, _⟩) rfl (fun K hK => ?_) AllReadyH.nil
      go_simp
      go_at_call 25
      refine (toVt_calls t u v1 v2 v3 v4 _ hnt1 hnt2 hnt3 hnt4 hnt5 ra).mono ?_
      rintro e y3_1 ⟨y1, y2, y3, y4, y5, rfl, hya, hb1⟩
      have r1 := hya.read
      replace rb := rb.below hb1
      clear hya
      try go_wp2_with fail
      refine hK.out _ _ ?_ ?_
      · (try dsimp only); exact ⟨hHeld.1.trans (hb1.mono hHeld.1.size), hHeld.2.1.belowb hb1, hHeld.2.2.belowb hb1⟩
      clear hHeld hK K
      intro hHeld
      try simp only [Act.put, List.setIfInBounds_toArray, List.set_cons_zero, List.set_cons_succ]
      refine wpAnyH_ready (rs := [3]) (by kernel_rfl) (by simp) ?_
      refine AllReadyH.cons (o := ⟨_, _, _, _, _, _⟩) rfl (fun K hK => ?_) AllReadyH.nil
      go_simp
      go_at_call 25
      refine (toVt_calls s j j1 j2 j3 j4 _ hns1 hns2 hns3 hns4 hns5 rb).mono ?_
      rintro e y3_2 ⟨k1, k2, k3, k4, k5, rfl, hyb, hb2⟩
      have r2 := hyb.read
      replace r1 := r1.below hb2
      clear hyb
      try go_wp2_with fail
      refine hK.out _ _ ?_ ?_
      · (try dsimp only); exact ⟨hHeld.1.trans (hb2.mono hHeld.1.size), hHeld.2.1.belowb hb2, hHeld.2.2.belowb hb2⟩
      clear hHeld hK K
      intro hHeld
      try simp only [Act.put, List.setIfInBounds_toArray, List.set_cons_zero, List.set_cons_succ]
      refine wpAnyH_ready (rs := [4]) (by kernel_rfl) (by simp) ?_
      refine AllReadyH.cons (o := ⟨_, _, _, _, _, _⟩) rfl (fun K hK => ?_) AllReadyH.nil
      go_simp
      go_at_call 33
      refine (specSameVts_calls t s _ _ _ _ _ _ _ _ _ _ _ hnt1 hnt2 hnt3 hnt4 hnt5 hns1 hns2 hns3 hns4 hns5 r1 r2).mono ?_
      rintro e w3 ⟨rfl, hb3⟩
      try go_wp2_with fail
      refine hK.out _ _ ?_ ?_
      · (try dsimp only); exact ⟨hHeld.1.trans (hb3.mono hHeld.1.size), hHeld.2.1.belowb hb3, hHeld.2.2.belowb hb3⟩
      clear hHeld hK K
      intro hHeld
      try simp only [Act.put, List.setIfInBounds_toArray, List.set_cons_zero, List.set_cons_succ]
      refine wpAnyH_take (i := 5) (oi := ⟨_, _, _, _, _, _⟩) (v := ?_) rfl (by kernel_rfl) (by kernel_rfl) (by kernel_rfl) (fun _ _ _ h => h) (Or.inl ⟨by rfl, ?_⟩) hHeld ?_
      rotate_left
      · (intro w hSw; (try dsimp only at hSw); go_simp; try (with_reducible rfl))
      try simp only [Act.put, List.setIfInBounds_toArray, List.set_cons_zero, List.set_cons_succ]
      refine wpAnyH_done (by kernel_rfl) ?_ _
      have hb := hHeld.1
      clear hHeld ra rb r1 r2 hb1 hb2 hb3 hd
      have z3 : w2.heap.size ≤ w3.heap.size := hb.size
      replace hAt := hAt.belowb hb
      replace hAs := hAs.belowb hb
      replace hrt := hrt.below hb
      replace hrs := hrs.below hb
      have b3 : Below w.heap.size w w3 := b2.trans (hb.mono (by omega))
      clear hb b2
      go_wp2_with (first | fail | (refine wpList_load_at rfl 55 _ rfl (w.heap.size) 0 rfl _ (vtA t u v1 v2 v3 v4) hAt rfl _ Try.underlying55 rfl (by kernel_rfl) ?_; (try simp only [Act.put, List.setIfInBounds_toArray, List.set_cons_zero, List.set_cons_succ])) | (refine wpList_load_at rfl 55 _ rfl (w.heap.size + 1) 0 rfl _ (vtA s j j1 j2 j3 j4) hAs rfl _ Try.underlying55 rfl (by kernel_rfl) ?_; (try simp only [Act.put, List.setIfInBounds_toArray, List.set_cons_zero, List.set_cons_succ])))
      go_at_call 25
      refine (toVt_calls t u v1 v2 v3 v4 _ hnt1 hnt2 hnt3 hnt4 hnt5 hrt).mono ?_
      rintro e w4 ⟨p1, p2, p3, p4, p5, rfl, hp, hb⟩
      have z4 : w3.heap.size ≤ w4.heap.size := hb.size
      replace hAt := hAt.belowb hb
      replace hAs := hAs.belowb hb
      replace hrt := hrt.below hb
      replace hrs := hrs.below hb
      have b4 : Below w.heap.size w w4 := b3.trans (hb.mono (by omega))
      clear hb b3
      go_wp2_with (first | fail | (refine wpList_load_at rfl 55 _ rfl (w.heap.size) 0 rfl _ (vtA t u v1 v2 v3 v4) hAt rfl _ Try.underlying55 rfl (by kernel_rfl) ?_; (try simp only [Act.put, List.setIfInBounds_toArray, List.set_cons_zero, List.set_cons_succ])) | (refine wpList_load_at rfl 55 _ rfl (w.heap.size + 1) 0 rfl _ (vtA s j j1 j2 j3 j4) hAs rfl _ Try.underlying55 rfl (by kernel_rfl) ?_; (try simp only [Act.put, List.setIfInBounds_toArray, List.set_cons_zero, List.set_cons_succ])) | (refine wpList_store_blk rfl _ _ _ rfl (w4.heap.size) 0 (vtA vt0 (.slice none 0 0) (.slice none 0 0) (.slice none 0 0) (.slice none 0 0) (.slice none 0 0)) (vtA t p1 p2 p3 p4 p5) (.agg (vtA t p1 p2 p3 p4 p5)) rfl rfl (Blk.new w4 _ _) rfl (by kernel_rfl) (vt_one hp.read) rfl ?_; (try simp only [Act.put, List.setIfInBounds_toArray, List.set_cons_zero, List.set_cons_succ]); intro w5 hX hu; have hb : Below w4.heap.size w4 w5 := ((Below.refl _ w4).alloc (Nat.le_refl _) _).trans (hu.below (Nat.le_refl _)); have z5 : w4.heap.size + 1 = w5.heap.size := (by have := hu.size; simp at this; omega); clear hu; replace hAt := hAt.belowb hb; replace hAs := hAs.belowb hb) | (refine wpList_load_at rfl 61 _ rfl (w4.heap.size) 0 rfl _ (vtA t p1 p2 p3 p4 p5) hX rfl _ Try.underlying61 rfl (by kernel_rfl) ?_; (try simp only [Act.put, List.setIfInBounds_toArray, List.set_cons_zero, List.set_cons_succ])))
      replace hrt := hrt.below hb
      replace hrs := hrs.below hb
      replace hp := hp.below hb (by omega)
      have b5 : Below w.heap.size w w5 := b4.trans (hb.mono (by omega))
      clear hb b4
      go_wp2_with (first | fail | (refine wpList_load_at rfl 55 _ rfl (w.heap.size) 0 rfl _ (vtA t u v1 v2 v3 v4) hAt rfl _ Try.underlying55 rfl (by kernel_rfl) ?_; (try simp only [Act.put, List.setIfInBounds_toArray, List.set_cons_zero, List.set_cons_succ])) | (refine wpList_load_at rfl 55 _ rfl (w.heap.size + 1) 0 rfl _ (vtA s j j1 j2 j3 j4) hAs rfl _ Try.underlying55 rfl (by kernel_rfl) ?_; (try simp only [Act.put, List.setIfInBounds_toArray, List.set_cons_zero, List.set_cons_succ])) | (refine wpList_load_at rfl 61 _ rfl (w4.heap.size) 0 rfl _ (vtA t p1 p2 p3 p4 p5) hX rfl _ Try.underlying61 rfl (by kernel_rfl) ?_; (try simp only [Act.put, List.setIfInBounds_toArray, List.set_cons_zero, List.set_cons_succ])))
      go_at_call 25
      refine (toVt_calls s j j1 j2 j3 j4 _ hns1 hns2 hns3 hns4 hns5 hrs).mono ?_
      rintro e w6 ⟨q1, q2, q3, q4, q5, rfl, hq, hb⟩
      have z6 : w5.heap.size ≤ w6.heap.size := hb.size
      replace hAt := hAt.belowb hb
      replace hAs := hAs.belowb hb
      replace hX := hX.belowb hb
      replace hrt := hrt.below hb
      replace hrs := hrs.below hb
      replace hp := hp.below hb (by omega)
      have b6 : Below w.heap.size w w6 := b5.trans (hb.mono (by omega))
      clear hb b5
      go_wp2_with (first | fail | (refine wpList_load_at rfl 55 _ rfl (w.heap.size) 0 rfl _ (vtA t u v1 v2 v3 v4) hAt rfl _ Try.underlying55 rfl (by kernel_rfl) ?_; (try simp only [Act.put, List.setIfInBounds_toArray, List.set_cons_zero, List.set_cons_succ])) | (refine wpList_load_at rfl 55 _ rfl (w.heap.size + 1) 0 rfl _ (vtA s j j1 j2 j3 j4) hAs rfl _ Try.underlying55 rfl (by kernel_rfl) ?_; (try simp only [Act.put, List.setIfInBounds_toArray, List.set_cons_zero, List.set_cons_succ])) | (refine wpList_load_at rfl 61 _ rfl (w4.heap.size) 0 rfl _ (vtA t p1 p2 p3 p4 p5) hX rfl _ Try.underlying61 rfl (by kernel_rfl) ?_; (try simp only [Act.put, List.setIfInBounds_toArray, List.set_cons_zero, List.set_cons_succ])) | (refine wpList_store_blk rfl _ _ _ rfl (w6.heap.size) 0 (vtA vt0 (.slice none 0 0) (.slice none 0 0) (.slice none 0 0) (.slice none 0 0) (.slice none 0 0)) (vtA s q1 q2 q3 q4 q5) (.agg (vtA s q1 q2 q3 q4 q5)) rfl rfl (Blk.new w6 _ _) rfl (by kernel_rfl) (vt_one hq.read) rfl ?_; (try simp only [Act.put, List.setIfInBounds_toArray, List.set_cons_zero, List.set_cons_succ]); intro w7 hY hu; have hb : Below w6.heap.size w6 w7 := ((Below.refl _ w6).alloc (Nat.le_refl _) _).trans (hu.below (Nat.le_refl _)); have z7 : w6.heap.size + 1 = w7.heap.size := (by have := hu.size; simp at this; omega); clear hu; replace hAt := hAt.belowb hb; replace hAs := hAs.belowb hb; replace hX := hX.belowb hb) | (refine wpList_load_at rfl 61 _ rfl (w6.heap.size) 0 rfl _ (vtA s q1 q2 q3 q4 q5) hY rfl _ Try.underlying61 rfl (by kernel_rfl) ?_; (try simp only [Act.put, List.setIfInBounds_toArray, List.set_cons_zero, List.set_cons_succ])))
      replace hrt := hrt.below hb
      replace hrs := hrs.below hb
      replace hp := hp.below hb (by omega)
      replace hq := hq.below hb (by omega)
      have b7 : Below w.heap.size w w7 := b6.trans (hb.mono (by omega))
      clear hb b6
      go_wp2_with (first | fail | (refine wpList_load_at rfl 55 _ rfl (w.heap.size) 0 rfl _ (vtA t u v1 v2 v3 v4) hAt rfl _ Try.underlying55 rfl (by kernel_rfl) ?_; (try simp only [Act.put, List.setIfInBounds_toArray, List.set_cons_zero, List.set_cons_succ])) | (refine wpList_load_at rfl 55 _ rfl (w.heap.size + 1) 0 rfl _ (vtA s j j1 j2 j3 j4) hAs rfl _ Try.underlying55 rfl (by kernel_rfl) ?_; (try simp only [Act.put, List.setIfInBounds_toArray, List.set_cons_zero, List.set_cons_succ])) | (refine wpList_load_at rfl 61 _ rfl (w4.heap.size) 0 rfl _ (vtA t p1 p2 p3 p4 p5) hX rfl _ Try.underlying61 rfl (by kernel_rfl) ?_; (try simp only [Act.put, List.setIfInBounds_toArray, List.set_cons_zero, List.set_cons_succ])) | (refine wpList_load_at rfl 61 _ rfl (w6.heap.size) 0 rfl _ (vtA s q1 q2 q3 q4 q5) hY rfl _ Try.underlying61 rfl (by kernel_rfl) ?_; (try simp only [Act.put, List.setIfInBounds_toArray, List.set_cons_zero, List.set_cons_succ])))
      go_at_call 34
      refine (implSameVts_calls t s _ _ _ _ _ _ _ _ _ _ _ hnt1 hnt2 hnt3 hnt4 hnt5 hns1 hns2 hns3 hns4 hns5 hp.read hq.read).mono ?_
      rintro e w8 ⟨rfl, hb⟩
      have z8 : w7.heap.size ≤ w8.heap.size := hb.size
      replace hAt := hAt.belowb hb
      replace hAs := hAs.belowb hb
      replace hX := hX.belowb hb
      replace hY := hY.belowb hb
      replace hrt := hrt.below hb
      replace hrs := hrs.below hb
      replace hp := hp.below hb (by omega)
      replace hq := hq.below hb (by omega)
      have b8 : Below w.heap.size w w8 := b7.trans (hb.mono (by omega))
      clear hb b7
      generalize sameVB t s = ans at *
      have hne : (ans != ans) = false := by simp
      go_wp2_with fail
      have hd : Below w8.heap.size w8 w8.drew := Below.drew (Below.refl _ _)
      have ra := hrt.below hd
      have rx := hp.read.below hd
      refine wp_region_held_drew (S := (fun w' => Below w8.heap.size w8 w' ∧ Blk w' (w.heap.size) (vtA t u v1 v2 v3 v4) ∧ Blk w' (w4.heap.size) (vtA t p1 p2 p3 p4 p5))) (by kernel_rfl) ?_ (fun hHeld => ?_)
      · (try dsimp only); exact ⟨hd, hAt, hX⟩
      refine wpAnyH_take (i := 0) (oi := ⟨_, _, _, _, _, _⟩) (v := .agg (vtA t p1 p2 p3 p4 p5)) rfl (by kernel_rfl) (by kernel_rfl) (by kernel_rfl) (fun _ _ _ h => h) (Or.inl ⟨by rfl, ?_⟩) hHeld ?_
      · intro w hSw
        (try dsimp only at hSw)
        have hx := run_loadVar_at (P := Try.prog) (o := 0) (ty := 61) (vs := (vtA t p1 p2 p3 p4 p5)) hSw.2.2 rfl Try.underlying61 rfl (by kernel_rfl)
        exact run_execLoad _ _ rfl _ _ rfl _ hx
      try simp only [Act.put, List.setIfInBounds_toArray, List.set_cons_zero, List.set_cons_succ]
      refine wpAnyH_take (i := 1) (oi := ⟨_, _, _, _, _, _⟩) (v := .agg (vtA t u v1 v2 v3 v4)) rfl (by kernel_rfl) (by kernel_rfl) (by kernel_rfl) (fun _ _ _ h => h) (Or.inl ⟨by rfl, ?_⟩) hHeld ?_
      · intro w hSw
        (try dsimp only at hSw)
        have hx := run_loadVar_at (P := Try.prog) (o := 0) (ty := 55) (vs := (vtA t u v1 v2 v3 v4)) hSw.2.1 rfl Try.underlying55 rfl (by kernel_rfl)
        exact run_execLoad _ _ rfl _ _ rfl _ hx
      try simp only [Act.put, List.setIfInBounds_toArray, List.set_cons_zero, List.set_cons_succ]
      refine wpAnyH_ready (rs := [2]) (by kernel_rfl) (by simp) ?_
      refine AllReadyH.cons (o := ⟨_, _, _, _, _, _⟩) rfl (fun K hK => ?_) AllReadyH.nil
      go_simp
      go_at_call 25
      refine (toVt_calls t u v1 v2 v3 v4 _ hnt1 hnt2 hnt3 hnt4 hnt5 ra).mono ?_
      rintro e y9_1 ⟨y1, y2, y3, y4, y5, rfl, hya, hb1⟩
      have r1 := hya.read
      replace rx := rx.below hb1
      clear hya
      try go_wp2_with fail
      refine hK.out _ _ ?_ ?_
      · (try dsimp only); exact ⟨hHeld.1.trans (hb1.mono hHeld.1.size), hHeld.2.1.belowb hb1, hHeld.2.2.belowb hb1⟩
      clear hHeld hK K
      intro hHeld
      try simp only [Act.put, List.setIfInBounds_toArray, List.set_cons_zero, List.set_cons_succ]
      refine wpAnyH_ready (rs := [3]) (by kernel_rfl) (by simp) ?_
      refine AllReadyH.cons (o := ⟨_, _, _, _, _, _⟩) rfl (fun K hK => ?_) AllReadyH.nil
      go_simp
      go_at_call 27
      refine (eqVt_calls t _ _ _ _ _ _ _ _ _ _ _ hnt1 hnt2 hnt3 hnt4 hnt5 rx r1).mono ?_
      rintro e w9 ⟨rfl, hb3⟩
      try go_wp2_with fail
      refine hK.out _ _ ?_ ?_
      · (try dsimp only); exact ⟨hHeld.1.trans (hb3.mono hHeld.1.size), hHeld.2.1.belowb hb3, hHeld.2.2.belowb hb3⟩
      clear hHeld hK K
      intro hHeld
      try simp only [Act.put, List.setIfInBounds_toArray, List.set_cons_zero, List.set_cons_succ]
      refine wpAnyH_take (i := 4) (oi := ⟨_, _, _, _, _, _⟩) (v := ?_) rfl (by kernel_rfl) (by kernel_rfl) (by kernel_rfl) (fun _ _ _ h => h) (Or.inl ⟨by rfl, ?_⟩) hHeld ?_
      rotate_left
      · (intro w hSw; (try dsimp only at hSw); go_simp; try (with_reducible rfl))
      try simp only [Act.put, List.setIfInBounds_toArray, List.set_cons_zero, List.set_cons_succ]
      refine wpAnyH_done (by kernel_rfl) ?_ _
      have hb := hHeld.1
      clear hHeld ra rx r1 hb1 hb3 hd
      have z9 : w8.heap.size ≤ w9.heap.size := hb.size
      replace hAt := hAt.belowb hb
      replace hAs := hAs.belowb hb
      replace hX := hX.belowb hb
      replace hY := hY.belowb hb
      replace hrt := hrt.below hb
      replace hrs := hrs.below hb
      replace hp := hp.below hb (by omega)
      replace hq := hq.below hb (by omega)
      have b9 : Below w.heap.size w w9 := b8.trans (hb.mono (by omega))
      clear hb b8
      go_wp2_with fail
      have hd : Below w9.heap.size w9 w9.drew := Below.drew (Below.refl _ _)
      have ra := hrs.below hd
      have rx := hq.read.below hd
      refine wp_region_held_drew (S := (fun w' => Below w9.heap.size w9 w' ∧ Blk w' (w.heap.size + 1) (vtA s j j1 j2 j3 j4) ∧ Blk w' (w6.heap.size) (vtA s q1 q2 q3 q4 q5))) (by kernel_rfl) ?_ (fun hHeld => ?_)
      · (try dsimp only); exact ⟨hd, hAs, hY⟩
      refine wpAnyH_take (i := 0) (oi := ⟨_, _, _, _, _, _⟩) (v := .agg (vtA s q1 q2 q3 q4 q5)) rfl (by kernel_rfl) (by kernel_rfl) (by kernel_rfl) (fun _ _ _ h => h) (Or.inl ⟨by rfl, ?_⟩) hHeld ?_
      · intro w hSw
        (try dsimp only at hSw)
        have hx := run_loadVar_at (P := Try.prog) (o := 0) (ty := 61) (vs := (vtA s q1 q2 q3 q4 q5)) hSw.2.2 rfl Try.underlying61 rfl (by kernel_rfl)
        exact run_execLoad _ _ rfl _ _ rfl _ hx
      try simp only [Act.put, List.setIfInBounds_toArray, List.set_cons_zero, List.set_cons_succ]
      refine wpAnyH_take (i := 1) (oi := ⟨_, _, _, _, _, _⟩) (v := .agg (vtA s j j1 j2 j3 j4)) rfl (by kernel_rfl) (by kernel_rfl) (by kernel_rfl) (fun _ _ _ h => h) (Or.inl ⟨by rfl, ?_⟩) hHeld ?_
      · intro w hSw
        (try dsimp only at hSw)
        have hx := run_loadVar_at (P := Try.prog) (o := 0) (ty := 55) (vs := (vtA s j j1 j2 j3 j4)) hSw.2.1 rfl Try.underlying55 rfl (by kernel_rfl)
        exact run_execLoad _ _ rfl _ _ rfl _ hx
      try simp only [Act.put, List.setIfInBounds_toArray, List.set_cons_zero, List.set_cons_succ]
      refine wpAnyH_ready (rs := [2]) (by kernel_rfl) (by simp) ?_
      refine AllReadyH.cons (o := ⟨_, _, _, _, _, _⟩) rfl (fun K hK => ?_) AllReadyH.nil
      go_simp
      go_at_call 25
      refine (toVt_calls s j j1 j2 j3 j4 _ hns1 hns2 hns3 hns4 hns5 ra).mono ?_
      rintro e y10_1 ⟨y1, y2, y3, y4, y5, rfl, hya, hb1⟩
      have r1 := hya.read
      replace rx := rx.below hb1
      clear hya
      try go_wp2_with fail
      refine hK.out _ _ ?_ ?_
      · (try dsimp only); exact ⟨hHeld.1.trans (hb1.mono hHeld.1.size), hHeld.2.1.belowb hb1, hHeld.2.2.belowb hb1⟩
      clear hHeld hK K
      intro hHeld
      try simp only [Act.put, List.setIfInBounds_toArray, List.set_cons_zero, List.set_cons_succ]
      refine wpAnyH_ready (rs := [3]) (by kernel_rfl) (by simp) ?_
      refine AllReadyH.cons (o := ⟨_, _, _, _, _, _⟩) rfl (fun K hK => ?_) AllReadyH.nil
      go_simp
      go_at_call 27
      refine (eqVt_calls s _ _ _ _ _ _ _ _ _ _ _ hns1 hns2 hns3 hns4 hns5 rx r1).mono ?_
      rintro e w10 ⟨rfl, hb3⟩
      try go_wp2_with fail
      refine hK.out _ _ ?_ ?_
      · (try dsimp only); exact ⟨hHeld.1.trans (hb3.mono hHeld.1.size), hHeld.2.1.belowb hb3, hHeld.2.2.belowb hb3⟩
      clear hHeld hK K
      intro hHeld
      try simp only [Act.put, List.setIfInBounds_toArray, List.set_cons_zero, List.set_cons_succ]
      refine wpAnyH_take (i := 4) (oi := ⟨_, _, _, _, _, _⟩) (v := ?_) rfl (by kernel_rfl) (by kernel_rfl) (by kernel_rfl) (fun _ _ _ h => h) (Or.inl ⟨by rfl, ?_⟩) hHeld ?_
      rotate_left
      · (intro w hSw; (try dsimp only at hSw); go_simp; try (with_reducible rfl))
      try simp only [Act.put, List.setIfInBounds_toArray, List.set_cons_zero, List.set_cons_succ]
      refine wpAnyH_done (by kernel_rfl) ?_ _
      have hb := hHeld.1
      clear hHeld ra rx r1 hb1 hb3 hd
      have z10 : w9.heap.size ≤ w10.heap.size := hb.size
      replace hAt := hAt.belowb hb
      replace hAs := hAs.belowb hb
      replace hX := hX.belowb hb
      replace hY := hY.belowb hb
      replace hrt := hrt.below hb
      replace hrs := hrs.below hb
      replace hp := hp.below hb (by omega)
      replace hq := hq.below hb (by omega)
      have b10 : Below w.heap.size w w10 := b9.trans (hb.mono (by omega))
      clear hb b9
      go_wp2
      go_ret
      exact ⟨rfl, b10⟩
    · have q0 : Below w.heap.size w ((w.alloc (.cells (vtA t u v1 v2 v3 v4) 55)).alloc (.cells (vtA s j j1 j2 j3 j4) 55)) := (by repeat' (first | with_reducible exact Below.refl _ _ | with_reducible assumption | with_reducible refine Below.drew ?_ | with_reducible refine Below.alloc ?_ ?_ _ | with_reducible refine Below.setCell ?_ ?_ _ | (simp; done) | (simp; omega) | omega))
      have hAt := (Blk.new w (vtA t u v1 v2 v3 v4) 55).alloc (.cells (vtA s j j1 j2 j3 j4) 55)
      have hAs := Blk.new_at (w := w.alloc (.cells (vtA t u v1 v2 v3 v4) 55)) (b := w.heap.size + 1) (by simp) (vtA s j j1 j2 j3 j4) 55
      go_enter Try.func8, Try.ntmps8
      go_wp2_with (first | fail | (refine wpList_load_at rfl 55 _ rfl (w.heap.size) 0 rfl _ (vtA t u v1 v2 v3 v4) hAt rfl _ Try.underlying55 rfl (by kernel_rfl) ?_; (try simp only [Act.put, List.setIfInBounds_toArray, List.set_cons_zero, List.set_cons_succ])) | (refine wpList_load_at rfl 55 _ rfl (w.heap.size + 1) 0 rfl _ (vtA s j j1 j2 j3 j4) hAs rfl _ Try.underlying55 rfl (by kernel_rfl) ?_; (try simp only [Act.put, List.setIfInBounds_toArray, List.set_cons_zero, List.set_cons_succ])))
      go_at_call 23
      refine (szVt_calls t u v1 v2 v3 v4 1048576 (by omega) (by omega) _ (hrt.below q0) hmt1 hmt2 hmt3 hmt4 hmt5).mono ?_
      rintro e w1 ⟨rfl, hb⟩
      replace hAt := hAt.belowb hb
      replace hAs := hAs.belowb hb
      have b1 : Below w.heap.size w w1 := q0.trans (hb.mono q0.size)
      clear hb q0
      rw [if_pos hsum0]
      have hge0 : ¬ ((1048576 - t.ns.length - t.s.cs.length - t.s.bs.length - t.s.tabs.length - t.s.sets.length) < 0) := by omega
      go_wp2_with (first | fail | (refine wpList_load_at rfl 55 _ rfl (w.heap.size) 0 rfl _ (vtA t u v1 v2 v3 v4) hAt rfl _ Try.underlying55 rfl (by kernel_rfl) ?_; (try simp only [Act.put, List.setIfInBounds_toArray, List.set_cons_zero, List.set_cons_succ])) | (refine wpList_load_at rfl 55 _ rfl (w.heap.size + 1) 0 rfl _ (vtA s j j1 j2 j3 j4) hAs rfl _ Try.underlying55 rfl (by kernel_rfl) ?_; (try simp only [Act.put, List.setIfInBounds_toArray, List.set_cons_zero, List.set_cons_succ])))
      go_at_call 23
      refine (szVt_calls s j j1 j2 j3 j4 (1048576 - t.ns.length - t.s.cs.length - t.s.bs.length - t.s.tabs.length - t.s.sets.length) (by omega) (by omega) _ (hrs.below b1) hms1 hms2 hms3 hms4 hms5).mono ?_
      rintro e w2 ⟨rfl, hb⟩
      have b2 : Below w.heap.size w w2 := b1.trans (hb.mono b1.size)
      rw [if_neg (by omega)]
      go_wp2
      go_ret
      exact ⟨rfl, b2⟩
  · have q0 : Below w.heap.size w ((w.alloc (.cells (vtA t u v1 v2 v3 v4) 55)).alloc (.cells (vtA s j j1 j2 j3 j4) 55)) := (by repeat' (first | with_reducible exact Below.refl _ _ | with_reducible assumption | with_reducible refine Below.drew ?_ | with_reducible refine Below.alloc ?_ ?_ _ | with_reducible refine Below.setCell ?_ ?_ _ | (simp; done) | (simp; omega) | omega))
    have hAt := (Blk.new w (vtA t u v1 v2 v3 v4) 55).alloc (.cells (vtA s j j1 j2 j3 j4) 55)
    have hAs := Blk.new_at (w := w.alloc (.cells (vtA t u v1 v2 v3 v4) 55)) (b := w.heap.size + 1) (by simp) (vtA s j j1 j2 j3 j4) 55
    go_enter Try.func8, Try.ntmps8
    go_wp2_with (first | fail | (refine wpList_load_at rfl 55 _ rfl (w.heap.size) 0 rfl _ (vtA t u v1 v2 v3 v4) hAt rfl _ Try.underlying55 rfl (by kernel_rfl) ?_; (try simp only [Act.put, List.setIfInBounds_toArray, List.set_cons_zero, List.set_cons_succ])) | (refine wpList_load_at rfl 55 _ rfl (w.heap.size + 1) 0 rfl _ (vtA s j j1 j2 j3 j4) hAs rfl _ Try.underlying55 rfl (by kernel_rfl) ?_; (try simp only [Act.put, List.setIfInBounds_toArray, List.set_cons_zero, List.set_cons_succ])))
    go_at_call 23
    refine (szVt_calls t u v1 v2 v3 v4 1048576 (by omega) (by omega) _ (hrt.below q0) hmt1 hmt2 hmt3 hmt4 hmt5).mono ?_
    rintro e w1 ⟨rfl, hb⟩
    replace hAt := hAt.belowb hb
    replace hAs := hAs.belowb hb
    have b1 : Below w.heap.size w w1 := q0.trans (hb.mono q0.size)
    clear hb q0
    rw [if_neg (by omega)]
    go_wp2
    go_ret
    exact ⟨rfl, b1⟩

theorem lawSV_laid : laidOutB Try.prog = true := by kernel_rfl
theorem lawSV_own : ownKnob Try.prog.godebug = none := by kernel_rfl
set_option maxRecDepth 100000 in
theorem lawSV_lifted (os : Os) (started : os.Started) (H : Type) (enc : TypeId × Value → H) :
    ReturnsInHanded {} Try.checked os 8 .any (Rows.fnExactSameVtsSpec.pre6 enc Try.prog Try.f8 Rows.fnExactSameVtsRow.domain false) (Rows.fnExactSameVtsSpec.post enc Try.prog Try.f8 false true false false) := by
  refine returnsInHanded_of_change (C := Try.checked) lawSV_own started (by kernel_rfl) Try.func8
    (ChangeSpec.witness6 (enc := enc) (C := Try.checked) false ⟨#[], #[.agg #[.int .i64 0, .int .i64 0, .int .i64 0, .int .i64 0, .int .i64 0, .bool false, .slice none 0 0, .int .i64 0, .int .i64 0, .slice none 0 0, .slice none 0 0, .int .i64 0, .int .i64 0, .bool false, .int .i64 0, .int .i64 0, .int .i64 0, .bool false, .bool false, .bool false, .slice none 0 0, .int .i64 0, .int .i64 0, .int .i64 0, .slice none 0 0, .int .i64 0, .int .i64 0], .agg #[.int .i64 0, .int .i64 0, .int .i64 0, .int .i64 0, .int .i64 0, .bool false, .slice none 0 0, .int .i64 0, .int .i64 0, .slice none 0 0, .slice none 0 0, .int .i64 0, .int .i64 0, .bool false, .int .i64 0, .int .i64 0, .int .i64 0, .bool false, .bool false, .bool false, .slice none 0 0, .int .i64 0, .int .i64 0, .int .i64 0, .slice none 0 0, .int .i64 0, .int .i64 0]], []⟩ 8 (by kernel_rfl) (by kernel_rfl) (by kernel_rfl) (by kernel_rfl)) ?_
  intro W base args ds gs before hval0 hW hcnd _
  have hval : ∀ (j : Nat) t v, Try.f8.params[j]? = some t → args[j]? = some v → Value.okWide Try.prog W .any base t v := hval0
  have hW' := hW
  obtain ⟨p, q, hA0, hV, rfl, hfz, hnd⟩ := hW
  have hA : DataW.TrodAll enc Try.prog W 0 (fun _ => true) true Try.f8.params.toList args.toList ds p := hA0
  rw [Try.params8] at hA hval
  obtain ⟨z0, z1, d0, d1, p0, p1, rfl, rfl, rfl, h0, h1⟩ := trodAll_two hA
  obtain ⟨rfl, rfl⟩ := trodVars_none hV
  have k0 := h0
  have lt0 : ∀ x ∈ p0, x.block < W.heap.size := by obtain ⟨m, hm⟩ := k0; exact DataW.trod_lt m _ _ _ hm
  have k1 := h1
  have lt1 : ∀ x ∈ p1, x.block < W.heap.size := by obtain ⟨m, hm⟩ := k1; exact DataW.trod_lt m _ _ _ hm
  obtain ⟨t, u, v1, v2, v3, v4, rfl, hrt, hmt1, hmt2, hmt3, hmt4, hmt5⟩ := open_vt (hval 0 55 z0 rfl rfl) h0
  obtain ⟨s, j, j1, j2, j3, j4, rfl, hrs, hms1, hms2, hms3, hms4, hms5⟩ := open_vt (hval 1 55 z1 rfl rfl) h1
  clear hA0 hval0

  refine (lawSV_walk t u v1 v2 v3 v4 s j j1 j2 j3 j4  W hrt hrs hmt1 hmt2 hmt3 hmt4 hmt5 hms1 hms2 hms3 hms4 hms5).mono fun e W' ⟨he, bel⟩ => ?_
  subst he
  exact ⟨_, rfl, _, _, _, [], _, [], hW', trodAll_mk1 (shut_bool Try.underlying4 _), trodAll_mk2 (Below.trod lawSV_laid (by kernel_rfl) (of_decide_eq_true (by kernel_rfl)) k0 bel lt0) (Below.trod lawSV_laid (by kernel_rfl) (of_decide_eq_true (by kernel_rfl)) k1 bel lt1), rfl, bel.frame _, fun h => by cases h⟩

theorem lawSV_over : Rows.fnExactSameVtsRow.holds Try.pinned (OpenSpec.ofChange Rows.fnExactSameVtsSpec) :=
  OpenClaim.holds_of_wide 8 Try.f8 rfl rfl rfl rfl rfl rfl rfl ⟨rfl, rfl, rfl, rfl, rfl⟩ rfl rfl rfl rfl rfl (by kernel_rfl) Try.func8 (by kernel_rfl)
    (of_decide_eq_true (by kernel_rfl)) (by unfold Func.isWrapper; first | (rw [if_pos (by decide +kernel)]; kernel_rfl) | (rw [if_neg (by decide +kernel)]; exact ⟨rfl, rfl⟩))
    (fun os started H enc _ => lawSV_lifted os started H enc)

theorem lawSV_proved : Rows.FnExactSameVtsSaid := lawSV_over
#print axioms lawSV_proved
end Go.Proofs.Ytceoehiaeanfkaa
