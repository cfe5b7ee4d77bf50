/-
  What VtText answers, of the program and of the model.
-/
import Derived.Test.YtknkbihjboadjaaVtTextF
import Derived.Test.YtknkbihjboadjaaRowText
namespace Go.Proofs.Ytknkbihjboadjaa
set_option maxRecDepth 20000
open Go.ChangeShapes Go.WideShapes Go.ChangeAt Go.RowKit
set_option linter.unusedVariables false
set_option linter.unusedSimpArgs false
set_option maxRecDepth 20000

set_option maxHeartbeats 4000000 in
theorem specVtText_calls (t : VtS) (u v1 v2 v3 v4 : Value) (w : World) (hn0 : t.ns.length ≤ 1048576) (hn1 : t.s.cs.length ≤ 1048576) (hn2 : t.s.bs.length ≤ 1048576) (hn3 : t.s.tabs.length ≤ 1048576) (hn4 : t.s.sets.length ≤ 1048576) (hcap : Capped v1) (h : VRead w t u v1 v2 v3 v4) :
    Calls Try.prog 19 #[.agg (vtA t u v1 v2 v3 v4)] w fun e w' => e = .returned (.agg #[.int .i64 (vtCode t), .string (vtText t)]) ∧ Below w.heap.size w w' := by
  have bel0 : Below w.heap.size w ((w.alloc (.cells (vtA t u v1 v2 v3 v4) 60)).alloc (.cells #[.int .i64 0, .string ⟨#[]⟩] 45)) := (by repeat' (first | with_reducible exact Below.refl _ _ | with_reducible assumption | with_reducible refine Below.drew ?_ | with_reducible refine Below.alloc ?_ ?_ _ | with_reducible refine Below.setCell ?_ ?_ _ | (simp; done) | (simp; omega) | omega))
  have hA := (Blk.new w (vtA t u v1 v2 v3 v4) 60).alloc (.cells #[.int .i64 0, .string ⟨#[]⟩] 45)
  have hR := Blk.new_at (w := w.alloc (.cells (vtA t u v1 v2 v3 v4) 60)) (b := w.heap.size + 1) (by simp) #[.int .i64 0, .string ⟨#[]⟩] 45
  by_cases hc : vtCode t = 0
  · have e0 : vtText t = strOfNums (rowsL t.s t.s.r.toNat) := by unfold vtText; rw [if_pos hc]
    rw [e0, hc]
    clear e0
    have hsc := vt_scr hc
    go_enter Try.func19, Try.ntmps19
    go_wp2_with fail
    go_at_call 57
    refine (l6Fault_o t u v1 v2 v3 v4 w.heap.size 0 _ hn0 hn1 hn2 hn3 hn4 hA.seg (h.below bel0)).mono ?_
    rintro e w1 ⟨rfl, hb⟩
    replace hA := hA.belowb hb
    replace hR := hR.belowb hb
    have bel1 := bel0.trans (hb.mono bel0.size)
    have z1 : w.heap.size + 2 ≤ w1.heap.size := by have := hb.size; simp at this; omega
    clear hb bel0
    rw [hc]
    go_wp2_with fail
    go_at_call 58
    refine (l6Text_o t u v1 v2 v3 v4 w.heap.size 0 _ hsc hA.seg hcap (h.s.g1.below bel1)).mono ?_
    rintro e w2 ⟨rfl, hb⟩
    replace hR := hR.belowb hb
    have bel2 := bel1.trans (hb.mono bel1.size)
    have z2 : w.heap.size + 2 ≤ w2.heap.size := by have := hb.size; omega
    clear hb
    go_wp2_with (first | (refine wpList_build_at rfl 45 _ rfl #[.int .i64 0, .string (strOfNums (rowsL t.s t.s.r.toNat))] (by first | rfl | kernel_rfl) ?_; (try simp only [Act.put, List.setIfInBounds_toArray, List.set_cons_zero, List.set_cons_succ])) | (refine wpList_store_blk rfl _ _ _ rfl (w.heap.size + 1) 0 #[.int .i64 0, .string ⟨#[]⟩] #[.int .i64 0, .string (strOfNums (rowsL t.s t.s.r.toNat))] (.agg #[.int .i64 0, .string (strOfNums (rowsL t.s t.s.r.toNat))]) rfl rfl hR rfl (by kernel_rfl) rfl rfl ?_; (try simp only [Act.put, List.setIfInBounds_toArray, List.set_cons_zero, List.set_cons_succ]); clear hR; intro w9 hR hu))
    exact bodyPost_ret (results_blk hR _ _ rfl rfl Try.underlying45 rfl (by kernel_rfl)) rfl ⟨rfl, bel2.trans (hu.below (by omega))⟩
  · have e0 : vtText t = ⟨#[]⟩ := by unfold vtText; rw [if_neg hc]
    rw [e0]
    obtain ⟨code, hcd⟩ : ∃ c, vtCode t = c := ⟨_, rfl⟩
    rw [hcd]
    have hne : (code != 0) = true := by rw [← hcd]; simpa using hc
    have HC := hide hcd
    clear hc hcd e0
    go_enter Try.func19, Try.ntmps19
    go_wp2_with fail
    go_at_call 57
    refine (l6Fault_o t u v1 v2 v3 v4 w.heap.size 0 _ hn0 hn1 hn2 hn3 hn4 hA.seg (h.below bel0)).mono ?_
    rintro e w1 ⟨rfl, hb⟩
    replace hA := hA.belowb hb
    replace hR := hR.belowb hb
    have bel1 := bel0.trans (hb.mono bel0.size)
    have z1 : w.heap.size + 2 ≤ w1.heap.size := by have := hb.size; simp at this; omega
    clear hb bel0
    rw [HC.out]
    go_wp2_with (first | (refine wpList_build_at rfl 45 _ rfl #[.int .i64 code, .string ⟨#[]⟩] (by first | rfl | kernel_rfl) ?_; (try simp only [Act.put, List.setIfInBounds_toArray, List.set_cons_zero, List.set_cons_succ])) | (refine wpList_store_blk rfl _ _ _ rfl (w.heap.size + 1) 0 #[.int .i64 0, .string ⟨#[]⟩] #[.int .i64 code, .string ⟨#[]⟩] (.agg #[.int .i64 code, .string ⟨#[]⟩]) rfl rfl hR rfl (by kernel_rfl) rfl rfl ?_; (try simp only [Act.put, List.setIfInBounds_toArray, List.set_cons_zero, List.set_cons_succ]); clear hR; intro w9 hR hu))
    exact bodyPost_ret (results_blk hR _ _ rfl rfl Try.underlying45 rfl (by kernel_rfl)) rfl ⟨rfl, bel1.trans (hu.below (by omega))⟩
theorem isB_below {B b : Nat} {bs : List Value} {w w' : World} (h : IsB B b bs w) (hb : Below w.heap.size w w') : IsB B b bs w' := by
  have key : ∀ p, Lib.BuilderAt 111 5 B b p bs w → Lib.BuilderAt 111 5 B b p bs w' := by
    rintro p ⟨hB, v, hbk, hown, hne⟩
    exact ⟨hB, v, (hb.block b (Array.getElem?_eq_some_iff.1 hbk).1).trans hbk, own_below hown hb, hne⟩
  rcases h with h | h
  · exact .inl (key _ h)
  · exact .inr (key _ h)
set_option maxHeartbeats 4000000 in
theorem implVtText_calls (t : VtS) (u v1 v2 v3 v4 : Value) (w : World) (hn0 : t.ns.length ≤ 1048576) (hn1 : t.s.cs.length ≤ 1048576) (hn2 : t.s.bs.length ≤ 1048576) (hn3 : t.s.tabs.length ≤ 1048576) (hn4 : t.s.sets.length ≤ 1048576) (h : VRead w t u v1 v2 v3 v4) :
    Calls Try.prog 21 #[.agg (vtA t u v1 v2 v3 v4)] w fun e w' => e = .returned (.agg #[.int .i64 (vtCode t), .string (vtText t)]) ∧ Below w.heap.size w w' := by
  have bel0 : Below w.heap.size w ((w.alloc (.cells (vtA t u v1 v2 v3 v4) 60)).alloc (.cells #[.int .i64 0, .string ⟨#[]⟩] 45)) := (by repeat' (first | with_reducible exact Below.refl _ _ | with_reducible assumption | with_reducible refine Below.drew ?_ | with_reducible refine Below.alloc ?_ ?_ _ | with_reducible refine Below.setCell ?_ ?_ _ | (simp; done) | (simp; omega) | omega))
  have hA := (Blk.new w (vtA t u v1 v2 v3 v4) 60).alloc (.cells #[.int .i64 0, .string ⟨#[]⟩] 45)
  have hR := Blk.new_at (w := w.alloc (.cells (vtA t u v1 v2 v3 v4) 60)) (b := w.heap.size + 1) (by simp) #[.int .i64 0, .string ⟨#[]⟩] 45
  by_cases hc : vtCode t = 0
  · have e0 : vtText t = strOfNums (rowsL t.s t.s.r.toNat) := by unfold vtText; rw [if_pos hc]
    rw [e0, hc]
    clear e0
    have hsc := vt_scr hc
    have hF := gfine_of_code (grid_of_scr hsc)
    obtain ⟨R, m, eR, eW, n1, n2, n3, n4, n5, n6, n7, n8, n9, n10⟩ := hF.nats
    have hRn : t.s.r.toNat = R := by omega
    rw [hRn]
    clear hRn n5 n6 n7 n8 n9 n10 hF
    go_enter Try.func21, Try.ntmps21
    go_wp2_with (first | fail | (refine wpList_load_at rfl 60 _ rfl (w.heap.size) 0 rfl _ (vtA t u v1 v2 v3 v4) hA rfl _ Try.underlying60 rfl (by kernel_rfl) ?_; (try simp only [Act.put, List.setIfInBounds_toArray, List.set_cons_zero, List.set_cons_succ])))
    go_at_call 61
    refine (implVtFault_calls t u v1 v2 v3 v4 _ hn0 hn1 hn2 hn3 hn4 (h.below bel0)).mono ?_
    rintro e w1 ⟨rfl, hb⟩
    replace hA := hA.belowb hb
    replace hR := hR.belowb hb
    have bel1 := bel0.trans (hb.mono bel0.size)
    have z1 : w.heap.size + 2 ≤ w1.heap.size := by have := hb.size; simp at this; omega
    clear hb bel0
    rw [hc]
    clear hc
    have c7 := hA.at 7 (vtA_7 t u v1 v2 v3 v4)
    rw [eR] at c7
    have hT1 : (w1.alloc (.cells #[.pointer none, .slice none 0 0] 111)).cell? ⟨w.heap.size, 7, none⟩ = some (.int .i64 (R : Int)) := by rw [← eR]; exact (hA.alloc (.cells #[.pointer none, .slice none 0 0] 111)).at 7 (vtA_7 t u v1 v2 v3 v4)
    have HB0 : Hid (IsB w1.heap.size w1.heap.size (Lib.byteCells []) (w1.alloc (.cells #[.pointer none, .slice none 0 0] 111))) := hide (.inl ⟨Nat.le_refl _, .slice none 0 0, heap_alloc_new w1 _, World.ownsRow_nil _ _ _ _, by simp [Value.ownBlock]⟩)
    have q1 : Below w1.heap.size w1 (w1.alloc (.cells #[.pointer none, .slice none 0 0] 111)) := (Below.refl _ w1).alloc (Nat.le_refl _) _
    have HE := hide eR
    have HS := hide hsc
    clear hsc eR
    go_wp2
    go_loopw [16] (fun i wr => ∃ k : Nat, k ≤ R ∧ i = .int .i64 k ∧ Hid (IsB w1.heap.size w1.heap.size (Lib.byteCells ((rowsL t.s k).map fun n => UInt8.ofNat n.toNat)) wr) ∧ Below w1.heap.size w1 wr ∧ w1.heap.size + 1 ≤ wr.heap.size) (fun i _ => R - (intOf i).toNat)
    case atStart => exact ⟨0, Nat.zero_le _, rfl, HB0, q1, by simp⟩
    case round =>
      obtain ⟨k, hk, rfl, hI, hb, hwz⟩ := hrel
      have hAr := hA.belowb hb
      have hsz := hb.size
      have hVr := (h.below bel1).below hb
      by_cases hlt : k < R
      · have hltI : (k : Int) < (R : Int) := by omega
        have hlen := rows_len t.s k
        have hl2 := flat_len (rowChars t.s (k : Int))
        rw [rowChars_length] at hl2
        have hq : k * (3 * t.s.wd.toNat + 1) ≤ 6 * 37 := Nat.mul_le_mul (by omega) (by omega)
        have hok : rowOk t.s (k : Int) = true := by unfold rowOk; have := HE.out; simp; omega
        have ec : rtCode t.s (k : Int) = 0 := by unfold rtCode; rw [if_pos HS.out, if_pos hok]
        have et : rtText t.s (k : Int) = strOfNums ((rowChars t.s (k : Int)).flatMap encL) := by unfold rtText; rw [if_pos HS.out, if_pos hok]
        have HRT := implRowText_calls t.s v1 v2 v3 v4 (k : Int) wr hn1 hn2 hn3 hn4 hVr.s
        rw [ec, et] at HRT
        obtain ⟨y, hy⟩ : ∃ y, strOfNums ((rowChars t.s (k : Int)).flatMap encL) = y := ⟨_, rfl⟩
        have hys : y.size ≤ 1000 := by rw [← hy, strOfNums_size]; omega
        have hbc : Lib.byteCells ((rowsL t.s k).map fun n => UInt8.ofNat n.toNat) ++ Lib.strCells y ++ [.int .u8 10] = Lib.byteCells ((rowsL t.s (k + 1)).map fun n => UInt8.ofNat n.toNat) := by rw [← hy, rowsL_succ]; simp [Lib.byteCells, Lib.strCells, strOfNums]
        have hbl : (Lib.byteCells ((rowsL t.s k).map fun n => UInt8.ofNat n.toNat)).length ≤ 1000 := by rw [Lib.byteCells_length, List.length_map]; omega
        rw [hy] at HRT
        have HBC := hide hbc
        have fld : ∀ w, (Instr.field 45 (.agg #[.int .i64 0, .string y]) 1).run Try.prog w = .ok (.string y) w := fun w => by kernel_rfl
        clear hbc hy ec et hok hlen hl2 hq
        generalize Lib.byteCells ((rowsL t.s k).map fun n => UInt8.ofNat n.toNat) = bs at *
        go_wp2_with (first | fail | (refine wpList_load_at rfl 34 _ rfl (w.heap.size) 7 rfl _ (scrA t.s v1 v2 v3 v4) hAr (vtA_scr t u v1 v2 v3 v4) _ Try.underlying34 rfl (by kernel_rfl) ?_; (try simp only [Act.put, List.setIfInBounds_toArray, List.set_cons_zero, List.set_cons_succ])))
        go_at_call 16
        refine HRT.mono ?_
        rintro e w3 ⟨rfl, hb3⟩
        have hI3 := isB_below hI.out hb3
        have z3 : w1.heap.size + 1 ≤ w3.heap.size := by have := hb3.size; omega
        have b3 := hb.trans (hb3.mono hsz)
        clear HRT hb3 hI
        go_wp2_with fail
        go_at_call 62
        refine (sb_writeString w1.heap.size w1.heap.size bs y _ hI3 (by omega) (by omega)).mono ?_
        rintro e w4 ⟨⟨_, rfl⟩, hI4, hb4⟩
        have z4 : w1.heap.size + 1 ≤ w4.heap.size := by have := hb4.size; omega
        have b4 := b3.trans hb4
        clear hI3 hb4
        go_wp2_with fail
        go_at_call 63
        refine (sb_writeByte w1.heap.size w1.heap.size _ 10 _ hI4 (by rw [List.length_append, Lib.strCells_length]; omega) (by omega)).mono ?_
        rintro e w5 ⟨⟨_, rfl⟩, hI5, hb5⟩
        have z5 : w1.heap.size + 1 ≤ w5.heap.size := by have := hb5.size; omega
        have b5 := b4.trans hb5
        rw [HBC.out] at hI5
        have HI5 := hide hI5
        clear hI4 hb5 hI5
        go_wp2
        go_roundw
        case rel => exact ⟨k + 1, by omega, by go_num, HI5, b5, z5⟩
        case measure => simp [intOf]; omega
      · obtain rfl : k = R := by omega
        have hRr := hR.belowb hb
        go_wp2_with fail
        go_at_call 64
        refine (sb_string w1.heap.size w1.heap.size ((rowsL t.s k).map fun n => UInt8.ofNat n.toNat) _ hI.out (by omega)).mono ?_
        rintro e w3 ⟨rfl, hb3⟩
        have hR3 := hRr.below hb3 (by omega)
        have z3 : w1.heap.size + 1 ≤ w3.heap.size := by have := hb3.size; omega
        have b3 := bel1.trans ((hb.trans hb3).mono (by omega))
        clear hI hb hb3 hRr
        go_wp2_with (first | (refine wpList_build_at rfl 45 _ rfl #[.int .i64 0, .string ⟨((rowsL t.s k).map fun n => UInt8.ofNat n.toNat).toArray⟩] (by first | rfl | kernel_rfl) ?_; (try simp only [Act.put, List.setIfInBounds_toArray, List.set_cons_zero, List.set_cons_succ])) | (refine wpList_store_blk rfl _ _ _ rfl (w.heap.size + 1) 0 #[.int .i64 0, .string ⟨#[]⟩] #[.int .i64 0, .string ⟨((rowsL t.s k).map fun n => UInt8.ofNat n.toNat).toArray⟩] (.agg #[.int .i64 0, .string ⟨((rowsL t.s k).map fun n => UInt8.ofNat n.toNat).toArray⟩]) rfl rfl hR3 rfl (by kernel_rfl) rfl rfl ?_; (try simp only [Act.put, List.setIfInBounds_toArray, List.set_cons_zero, List.set_cons_succ]); intro w9 hR9 hu))
        exact bodyPost_ret (results_blk hR9 _ _ rfl rfl Try.underlying45 rfl (by kernel_rfl)) rfl ⟨rfl, b3.trans (hu.below (by omega))⟩
  · have e0 : vtText t = ⟨#[]⟩ := by unfold vtText; rw [if_neg hc]
    rw [e0]
    obtain ⟨code, hcd⟩ : ∃ c, vtCode t = c := ⟨_, rfl⟩
    rw [hcd]
    have hne : (code != 0) = true := by rw [← hcd]; simpa using hc
    have HC := hide hcd
    clear hc hcd e0
    go_enter Try.func21, Try.ntmps21
    go_wp2_with (first | fail | (refine wpList_load_at rfl 60 _ rfl (w.heap.size) 0 rfl _ (vtA t u v1 v2 v3 v4) hA rfl _ Try.underlying60 rfl (by kernel_rfl) ?_; (try simp only [Act.put, List.setIfInBounds_toArray, List.set_cons_zero, List.set_cons_succ])))
    go_at_call 61
    refine (implVtFault_calls t u v1 v2 v3 v4 _ hn0 hn1 hn2 hn3 hn4 (h.below bel0)).mono ?_
    rintro e w1 ⟨rfl, hb⟩
    replace hA := hA.belowb hb
    replace hR := hR.belowb hb
    have bel1 := bel0.trans (hb.mono bel0.size)
    have z1 : w.heap.size + 2 ≤ w1.heap.size := by have := hb.size; simp at this; omega
    clear hb bel0
    rw [HC.out]
    go_wp2_with (first | (refine wpList_build_at rfl 45 _ rfl #[.int .i64 code, .string ⟨#[]⟩] (by first | rfl | kernel_rfl) ?_; (try simp only [Act.put, List.setIfInBounds_toArray, List.set_cons_zero, List.set_cons_succ])) | (refine wpList_store_blk rfl _ _ _ rfl (w.heap.size + 1) 0 #[.int .i64 0, .string ⟨#[]⟩] #[.int .i64 code, .string ⟨#[]⟩] (.agg #[.int .i64 code, .string ⟨#[]⟩]) rfl rfl hR rfl (by kernel_rfl) rfl rfl ?_; (try simp only [Act.put, List.setIfInBounds_toArray, List.set_cons_zero, List.set_cons_succ]); clear hR; intro w9 hR hu))
    exact bodyPost_ret (results_blk hR _ _ rfl rfl Try.underlying45 rfl (by kernel_rfl)) rfl ⟨rfl, bel1.trans (hu.below (by omega))⟩
end Go.Proofs.Ytknkbihjboadjaa
