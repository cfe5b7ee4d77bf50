/-
  ActionText of the model.
-/
import Derived.Test.YtbeidafmnbjibabDoorActText
namespace Go.Proofs.YtbeidafmnbjibabDoor
open Go.ChangeShapes Go.WideShapes Go.ChangeAt Go.RowKit
set_option linter.unusedVariables false
set_option linter.unusedSimpArgs false
set_option maxRecDepth 20000

set_option maxHeartbeats 4000000 in
theorem specActionText_calls (kd ch st : Int) (pv : Bool) (ns : List Int) (v : Value) (w : World) (hn : ns.length ≤ maxLen) (h1 : ReadAt .i64 w v ns) :
    Calls Tryd.prog 5 #[.agg #[.int .i64 kd, .int .i64 ch, .int .i64 st, .bool pv, v]] w fun e w' => e = .returned (.agg #[.int .i64 (actCode kd ch st pv ns), .string (actText kd ch st pv ns)]) ∧ Below w.heap.size w w' := by
  have h1' := h1
  obtain ⟨av, cv, rfl, _⟩ := h1'
  have bel0 : Below w.heap.size w ((w.alloc (.cells #[.int .i64 kd, .int .i64 ch, .int .i64 st, .bool pv, .slice av ns.length cv] 29)).alloc (.cells #[.int .i64 0, .string ⟨#[]⟩] 27)) := (by repeat' (first | with_reducible exact Below.refl _ _ | with_reducible assumption | with_reducible refine Below.drew ?_ | with_reducible refine Below.alloc ?_ ?_ _ | with_reducible refine Below.setCell ?_ ?_ _ | (simp; done) | (simp; omega) | omega))
  have hA := (Blk.new w #[.int .i64 kd, .int .i64 ch, .int .i64 st, .bool pv, .slice av ns.length cv] 29).alloc (.cells #[.int .i64 0, .string ⟨#[]⟩] 27)
  have hR := Blk.new_at (w := w.alloc (.cells #[.int .i64 kd, .int .i64 ch, .int .i64 st, .bool pv, .slice av ns.length cv] 29)) (b := w.heap.size + 1) (by simp) #[.int .i64 0, .string ⟨#[]⟩] 27
  unfold actText
  by_cases hc : actCode kd ch st pv ns = 0
  · rw [if_pos hc, hc]
    have hF := afine_of hc
    rcases hF.k with rfl | rfl | rfl | rfl | rfl | rfl
    · cases pv
      · have hns := (hF.z rfl).2
        have hfin : strOfNums (textTo 0 ch st false ns ns.length) = ⟨#[110, 111, 110, 101]⟩ := by rw [hns]; rfl
        rw [hfin]
        clear hns hfin
        go_enter Tryd.func5, Tryd.ntmps5
        go_wp2_with fail
        go_at_call 11
        refine (l4Action_calls 0 ch st false ns _ _ _ hn (h1.below bel0) (hA.at 0 rfl) (hA.at 1 rfl) (hA.at 2 rfl) (hA.at 3 rfl) (hA.at 4 rfl)).mono ?_
        rintro e w1 ⟨rfl, hw⟩
        rw [hw]
        clear hw w1
        rw [hc]
        have hA1 := hA.alloc (.cells #[.string ⟨#[110, 111, 110, 101]⟩, .string ⟨#[112, 114, 105, 110, 116]⟩, .string ⟨#[99, 111, 110, 116, 114, 111, 108]⟩, .string ⟨#[101, 115, 99, 97, 112, 101]⟩, .string ⟨#[112, 97, 114, 97, 109, 115]⟩, .string ⟨#[115, 101, 116]⟩] 9)
        have hR1 := hR.alloc (.cells #[.string ⟨#[110, 111, 110, 101]⟩, .string ⟨#[112, 114, 105, 110, 116]⟩, .string ⟨#[99, 111, 110, 116, 114, 111, 108]⟩, .string ⟨#[101, 115, 99, 97, 112, 101]⟩, .string ⟨#[112, 97, 114, 97, 109, 115]⟩, .string ⟨#[115, 101, 116]⟩] 9)
        have bel1 := bel0.alloc (by simp; omega) (.cells #[.string ⟨#[110, 111, 110, 101]⟩, .string ⟨#[112, 114, 105, 110, 116]⟩, .string ⟨#[99, 111, 110, 116, 114, 111, 108]⟩, .string ⟨#[101, 115, 99, 97, 112, 101]⟩, .string ⟨#[112, 97, 114, 97, 109, 115]⟩, .string ⟨#[115, 101, 116]⟩] 9)
        have a0 := hA1.at 0 rfl
        have b0 := hA.at 0 rfl
        go_wp2_with (first | fail | (refine wpList_build_at rfl 27 _ rfl #[.int .i64 0, .string ⟨#[110, 111, 110, 101]⟩] (by first | rfl | kernel_rfl) ?_; (try simp only [Act.put, List.setIfInBounds_toArray, List.set_cons_zero, List.set_cons_succ])) | (refine wpList_store_blk rfl _ _ _ rfl (w.heap.size + 1) 0 #[.int .i64 0, .string ⟨#[]⟩] #[.int .i64 0, .string ⟨#[110, 111, 110, 101]⟩] (.agg #[.int .i64 0, .string ⟨#[110, 111, 110, 101]⟩]) rfl rfl hR1 rfl (by kernel_rfl) rfl rfl ?_; (try simp only [Act.put, List.setIfInBounds_toArray, List.set_cons_zero, List.set_cons_succ]); intro w9 hR hu))
        exact bodyPost_ret (results_blk hR _ _ rfl rfl Tryd.underlying27 rfl (by kernel_rfl)) rfl ⟨rfl, bel1.trans (hu.below (by omega))⟩
      · exact absurd (hF.z rfl).1 (by simp)
    · cases pv
      · have hch : 0 ≤ ch ∧ ch ≤ 65535 := by have := hF.c; omega
        go_enter Tryd.func5, Tryd.ntmps5
        go_wp2_with fail
        go_at_call 11
        refine (l4Action_calls 1 ch st false ns _ _ _ hn (h1.below bel0) (hA.at 0 rfl) (hA.at 1 rfl) (hA.at 2 rfl) (hA.at 3 rfl) (hA.at 4 rfl)).mono ?_
        rintro e w1 ⟨rfl, hw⟩
        rw [hw]
        clear hw w1
        rw [hc]
        have hA1 := hA.alloc (.cells #[.string ⟨#[110, 111, 110, 101]⟩, .string ⟨#[112, 114, 105, 110, 116]⟩, .string ⟨#[99, 111, 110, 116, 114, 111, 108]⟩, .string ⟨#[101, 115, 99, 97, 112, 101]⟩, .string ⟨#[112, 97, 114, 97, 109, 115]⟩, .string ⟨#[115, 101, 116]⟩] 9)
        have hR1 := hR.alloc (.cells #[.string ⟨#[110, 111, 110, 101]⟩, .string ⟨#[112, 114, 105, 110, 116]⟩, .string ⟨#[99, 111, 110, 116, 114, 111, 108]⟩, .string ⟨#[101, 115, 99, 97, 112, 101]⟩, .string ⟨#[112, 97, 114, 97, 109, 115]⟩, .string ⟨#[115, 101, 116]⟩] 9)
        have bel1 := bel0.alloc (by simp; omega) (.cells #[.string ⟨#[110, 111, 110, 101]⟩, .string ⟨#[112, 114, 105, 110, 116]⟩, .string ⟨#[99, 111, 110, 116, 114, 111, 108]⟩, .string ⟨#[101, 115, 99, 97, 112, 101]⟩, .string ⟨#[112, 97, 114, 97, 109, 115]⟩, .string ⟨#[115, 101, 116]⟩] 9)
        have a0 := hA1.at 0 rfl
        have a1 := hA1.at 1 rfl
        have a2 := hA1.at 2 rfl
        have a3 := hA1.at 3 rfl
        have a4 := hA1.at 4 rfl
        have b0 := hA.at 0 rfl
        go_wp2_with fail
        go_at_call 12
        refine (l1Digits_calls _ ch _ hch.1 (by omega) (Nat.le_refl _)).mono ?_
        rintro e w2 ⟨rfl, hb⟩
        replace hA := hA1.belowb hb
        replace hR := hR1.belowb hb
        have bel2 := bel1.trans (hb.mono (by simp; omega))
        clear hb hA1 hR1 bel1 bel0 a0 a1 a2 a3 a4 b0
        have a0 := hA.at 0 rfl
        have a1 := hA.at 1 rfl
        have a2 := hA.at 2 rfl
        have a3 := hA.at 3 rfl
        have a4 := hA.at 4 rfl
        obtain ⟨da, hda⟩ : ∃ x, Hid (strOfNums (digL ch) = x) := ⟨_, hide rfl⟩
        rw [hda.out]
        have sa : da.size ≤ 6 := by rw [← hda.out, strOfNums_size]; exact dig_len (by omega)
        have t1 : ¬ 9223372036854775807 < 6 + da.size := lim (by omega)
        have HT0 : (⟨#[112, 114, 105, 110, 116]⟩ : ByteArray) ++ ⟨#[32]⟩ ++ da = strOfNums (textTo 1 ch st false ns 0) := by
          rw [← hda.out, show (⟨#[112, 114, 105, 110, 116]⟩ : ByteArray) = strOfNums [112, 114, 105, 110, 116] from rfl, show (⟨#[32]⟩ : ByteArray) = strOfNums [32] from rfl]
          simp only [str_app]
          try congr 1
          all_goals simp [textTo, wordsTo, words0, joinN, wordN, privL]
        have hlen := fun j hj => textTo_len hF j hj
        have hl6 := hF.l
        have hnn := hF.n
        have z0 : w.heap.size + 2 ≤ w2.heap.size := by have := hR.lt; have := bel2.size; omega
        clear hF hc
        go_wp2
        go_loopw [4, 5] (fun o i wr => ∃ j : Nat, j ≤ ns.length ∧ i = .int .i64 j ∧ o = .string (strOfNums (textTo 1 ch st false ns j)) ∧ Below w2.heap.size w2 wr) (fun _ i _ => ns.length - (intOf i).toNat)
        case atStart => exact ⟨0, Nat.zero_le _, rfl, by first | rfl | rw [HT0], Below.refl _ _⟩
        case round =>
          obtain ⟨j, hj, rfl, rfl, hb⟩ := hrel
          have hAr := hA.below hb hA.lt
          have hRr := hR.below hb hR.lt
          have c0 := hAr.at 0 rfl
          have c4 := hAr.at 4 rfl
          have belr := bel2.trans (hb.mono bel2.size)
          have hlj := hlen j hj
          obtain ⟨X, hX⟩ : ∃ X, Hid (textTo 1 ch st false ns j = X) := ⟨_, hide rfl⟩
          rw [hX.out] at hlj ⊢
          by_cases hlt : j < ns.length
          · have hltI : (j : Int) < (ns.length : Int) := by omega
            obtain ⟨b9, o9, e9, hcell⟩ := (h1.below belr).spot j hlt
            subst e9
            have hnj := hnn j hlt
            have hs := textTo_succ 1 ch st false ns j
            rw [hX.out] at hs
            obtain ⟨n0, hn0⟩ : ∃ z, ns.getD j 0 = z := ⟨_, rfl⟩
            rw [hn0] at hcell hnj hs
            have HS := hide hs
            obtain ⟨xs, hxs⟩ : ∃ z, Hid (strOfNums X = z) := ⟨_, hide rfl⟩
            have sx : xs.size = X.length := by rw [← hxs.out, strOfNums_size]
            rw [hxs.out]
            have u1 : ¬ 9223372036854775807 < xs.size + 1 := lim (by omega)
            clear hs hn0 hlen hnn
            go_wp2_with fail
            go_at_call 12
            refine (l1Digits_calls _ n0 _ hnj.1 (by omega) (Nat.le_refl _)).mono ?_
            rintro e w8 ⟨rfl, hb'⟩
            obtain ⟨dn, hdn⟩ : ∃ x, Hid (strOfNums (digL n0) = x) := ⟨_, hide rfl⟩
            rw [hdn.out]
            have sn : dn.size ≤ 6 := by rw [← hdn.out, strOfNums_size]; exact dig_len (by omega)
            have u2 : ¬ 9223372036854775807 < xs.size + 1 + dn.size := lim (by omega)
            have HX : xs ++ ⟨#[32]⟩ ++ dn = strOfNums (textTo 1 ch st false ns (j + 1)) := by
              rw [HS.out, ← hxs.out, ← hdn.out, show (⟨#[32]⟩ : ByteArray) = strOfNums [32] from rfl]
              simp only [str_app]
              congr 1
              simp
            have hb2 : Below w2.heap.size w2 w8 := hb.trans (hb'.mono hb.size)
            go_wp2
            go_roundw
            case rel => exact ⟨j + 1, by omega, by go_num, by first | rfl | rw [HX], hb2⟩
            case measure => simp [intOf]; omega
          · obtain rfl : j = ns.length := by omega
            obtain ⟨xs, hxs⟩ : ∃ z, Hid (strOfNums X = z) := ⟨_, hide rfl⟩
            rw [hxs.out]
            replace hR := hRr
            clear hRr
            have zr := hb.size
            go_wp2_with (first | fail | (refine wpList_build_at rfl 27 _ rfl #[.int .i64 0, .string xs] (by first | rfl | kernel_rfl) ?_; (try simp only [Act.put, List.setIfInBounds_toArray, List.set_cons_zero, List.set_cons_succ])) | (refine wpList_store_blk rfl _ _ _ rfl (w.heap.size + 1) 0 #[.int .i64 0, .string ⟨#[]⟩] #[.int .i64 0, .string xs] (.agg #[.int .i64 0, .string xs]) rfl rfl hR rfl (by kernel_rfl) rfl rfl ?_; (try simp only [Act.put, List.setIfInBounds_toArray, List.set_cons_zero, List.set_cons_succ]); clear hR; intro w9 hR hu))
            exact bodyPost_ret (results_blk hR _ _ rfl rfl Tryd.underlying27 rfl (by kernel_rfl)) rfl ⟨by rw [← hxs.out, ← hX.out], belr.trans (hu.below (by omega))⟩
      · have hch : 0 ≤ ch ∧ ch ≤ 65535 := by have := hF.c; omega
        go_enter Tryd.func5, Tryd.ntmps5
        go_wp2_with fail
        go_at_call 11
        refine (l4Action_calls 1 ch st true ns _ _ _ hn (h1.below bel0) (hA.at 0 rfl) (hA.at 1 rfl) (hA.at 2 rfl) (hA.at 3 rfl) (hA.at 4 rfl)).mono ?_
        rintro e w1 ⟨rfl, hw⟩
        rw [hw]
        clear hw w1
        rw [hc]
        have hA1 := hA.alloc (.cells #[.string ⟨#[110, 111, 110, 101]⟩, .string ⟨#[112, 114, 105, 110, 116]⟩, .string ⟨#[99, 111, 110, 116, 114, 111, 108]⟩, .string ⟨#[101, 115, 99, 97, 112, 101]⟩, .string ⟨#[112, 97, 114, 97, 109, 115]⟩, .string ⟨#[115, 101, 116]⟩] 9)
        have hR1 := hR.alloc (.cells #[.string ⟨#[110, 111, 110, 101]⟩, .string ⟨#[112, 114, 105, 110, 116]⟩, .string ⟨#[99, 111, 110, 116, 114, 111, 108]⟩, .string ⟨#[101, 115, 99, 97, 112, 101]⟩, .string ⟨#[112, 97, 114, 97, 109, 115]⟩, .string ⟨#[115, 101, 116]⟩] 9)
        have bel1 := bel0.alloc (by simp; omega) (.cells #[.string ⟨#[110, 111, 110, 101]⟩, .string ⟨#[112, 114, 105, 110, 116]⟩, .string ⟨#[99, 111, 110, 116, 114, 111, 108]⟩, .string ⟨#[101, 115, 99, 97, 112, 101]⟩, .string ⟨#[112, 97, 114, 97, 109, 115]⟩, .string ⟨#[115, 101, 116]⟩] 9)
        have a0 := hA1.at 0 rfl
        have a1 := hA1.at 1 rfl
        have a2 := hA1.at 2 rfl
        have a3 := hA1.at 3 rfl
        have a4 := hA1.at 4 rfl
        have b0 := hA.at 0 rfl
        go_wp2_with fail
        go_at_call 12
        refine (l1Digits_calls _ ch _ hch.1 (by omega) (Nat.le_refl _)).mono ?_
        rintro e w2 ⟨rfl, hb⟩
        replace hA := hA1.belowb hb
        replace hR := hR1.belowb hb
        have bel2 := bel1.trans (hb.mono (by simp; omega))
        clear hb hA1 hR1 bel1 bel0 a0 a1 a2 a3 a4 b0
        have a0 := hA.at 0 rfl
        have a1 := hA.at 1 rfl
        have a2 := hA.at 2 rfl
        have a3 := hA.at 3 rfl
        have a4 := hA.at 4 rfl
        obtain ⟨da, hda⟩ : ∃ x, Hid (strOfNums (digL ch) = x) := ⟨_, hide rfl⟩
        rw [hda.out]
        have sa : da.size ≤ 6 := by rw [← hda.out, strOfNums_size]; exact dig_len (by omega)
        have t1 : ¬ 9223372036854775807 < 6 + da.size := lim (by omega)
        have t5 : ¬ 9223372036854775807 < 6 + da.size + 8 := lim (by omega)
        have HT0 : (⟨#[112, 114, 105, 110, 116]⟩ : ByteArray) ++ ⟨#[32]⟩ ++ da ++ ⟨#[32, 112, 114, 105, 118, 97, 116, 101]⟩ = strOfNums (textTo 1 ch st true ns 0) := by
          rw [← hda.out, show (⟨#[112, 114, 105, 110, 116]⟩ : ByteArray) = strOfNums [112, 114, 105, 110, 116] from rfl, show (⟨#[32]⟩ : ByteArray) = strOfNums [32] from rfl, show (⟨#[32, 112, 114, 105, 118, 97, 116, 101]⟩ : ByteArray) = strOfNums [32, 112, 114, 105, 118, 97, 116, 101] from rfl]
          simp only [str_app]
          try congr 1
          all_goals simp [textTo, wordsTo, words0, joinN, wordN, privL]
        have hlen := fun j hj => textTo_len hF j hj
        have hl6 := hF.l
        have hnn := hF.n
        have z0 : w.heap.size + 2 ≤ w2.heap.size := by have := hR.lt; have := bel2.size; omega
        clear hF hc
        go_wp2
        go_loopw [4, 5] (fun o i wr => ∃ j : Nat, j ≤ ns.length ∧ i = .int .i64 j ∧ o = .string (strOfNums (textTo 1 ch st true ns j)) ∧ Below w2.heap.size w2 wr) (fun _ i _ => ns.length - (intOf i).toNat)
        case atStart => exact ⟨0, Nat.zero_le _, rfl, by first | rfl | rw [HT0], Below.refl _ _⟩
        case round =>
          obtain ⟨j, hj, rfl, rfl, hb⟩ := hrel
          have hAr := hA.below hb hA.lt
          have hRr := hR.below hb hR.lt
          have c0 := hAr.at 0 rfl
          have c4 := hAr.at 4 rfl
          have belr := bel2.trans (hb.mono bel2.size)
          have hlj := hlen j hj
          obtain ⟨X, hX⟩ : ∃ X, Hid (textTo 1 ch st true ns j = X) := ⟨_, hide rfl⟩
          rw [hX.out] at hlj ⊢
          by_cases hlt : j < ns.length
          · have hltI : (j : Int) < (ns.length : Int) := by omega
            obtain ⟨b9, o9, e9, hcell⟩ := (h1.below belr).spot j hlt
            subst e9
            have hnj := hnn j hlt
            have hs := textTo_succ 1 ch st true ns j
            rw [hX.out] at hs
            obtain ⟨n0, hn0⟩ : ∃ z, ns.getD j 0 = z := ⟨_, rfl⟩
            rw [hn0] at hcell hnj hs
            have HS := hide hs
            obtain ⟨xs, hxs⟩ : ∃ z, Hid (strOfNums X = z) := ⟨_, hide rfl⟩
            have sx : xs.size = X.length := by rw [← hxs.out, strOfNums_size]
            rw [hxs.out]
            have u1 : ¬ 9223372036854775807 < xs.size + 1 := lim (by omega)
            clear hs hn0 hlen hnn
            go_wp2_with fail
            go_at_call 12
            refine (l1Digits_calls _ n0 _ hnj.1 (by omega) (Nat.le_refl _)).mono ?_
            rintro e w8 ⟨rfl, hb'⟩
            obtain ⟨dn, hdn⟩ : ∃ x, Hid (strOfNums (digL n0) = x) := ⟨_, hide rfl⟩
            rw [hdn.out]
            have sn : dn.size ≤ 6 := by rw [← hdn.out, strOfNums_size]; exact dig_len (by omega)
            have u2 : ¬ 9223372036854775807 < xs.size + 1 + dn.size := lim (by omega)
            have HX : xs ++ ⟨#[32]⟩ ++ dn = strOfNums (textTo 1 ch st true ns (j + 1)) := by
              rw [HS.out, ← hxs.out, ← hdn.out, show (⟨#[32]⟩ : ByteArray) = strOfNums [32] from rfl]
              simp only [str_app]
              congr 1
              simp
            have hb2 : Below w2.heap.size w2 w8 := hb.trans (hb'.mono hb.size)
            go_wp2
            go_roundw
            case rel => exact ⟨j + 1, by omega, by go_num, by first | rfl | rw [HX], hb2⟩
            case measure => simp [intOf]; omega
          · obtain rfl : j = ns.length := by omega
            obtain ⟨xs, hxs⟩ : ∃ z, Hid (strOfNums X = z) := ⟨_, hide rfl⟩
            rw [hxs.out]
            replace hR := hRr
            clear hRr
            have zr := hb.size
            go_wp2_with (first | fail | (refine wpList_build_at rfl 27 _ rfl #[.int .i64 0, .string xs] (by first | rfl | kernel_rfl) ?_; (try simp only [Act.put, List.setIfInBounds_toArray, List.set_cons_zero, List.set_cons_succ])) | (refine wpList_store_blk rfl _ _ _ rfl (w.heap.size + 1) 0 #[.int .i64 0, .string ⟨#[]⟩] #[.int .i64 0, .string xs] (.agg #[.int .i64 0, .string xs]) rfl rfl hR rfl (by kernel_rfl) rfl rfl ?_; (try simp only [Act.put, List.setIfInBounds_toArray, List.set_cons_zero, List.set_cons_succ]); clear hR; intro w9 hR hu))
            exact bodyPost_ret (results_blk hR _ _ rfl rfl Tryd.underlying27 rfl (by kernel_rfl)) rfl ⟨by rw [← hxs.out, ← hX.out], belr.trans (hu.below (by omega))⟩
    · cases pv
      · have hch : 0 ≤ ch ∧ ch ≤ 65535 := by have := hF.c; omega
        go_enter Tryd.func5, Tryd.ntmps5
        go_wp2_with fail
        go_at_call 11
        refine (l4Action_calls 2 ch st false ns _ _ _ hn (h1.below bel0) (hA.at 0 rfl) (hA.at 1 rfl) (hA.at 2 rfl) (hA.at 3 rfl) (hA.at 4 rfl)).mono ?_
        rintro e w1 ⟨rfl, hw⟩
        rw [hw]
        clear hw w1
        rw [hc]
        have hA1 := hA.alloc (.cells #[.string ⟨#[110, 111, 110, 101]⟩, .string ⟨#[112, 114, 105, 110, 116]⟩, .string ⟨#[99, 111, 110, 116, 114, 111, 108]⟩, .string ⟨#[101, 115, 99, 97, 112, 101]⟩, .string ⟨#[112, 97, 114, 97, 109, 115]⟩, .string ⟨#[115, 101, 116]⟩] 9)
        have hR1 := hR.alloc (.cells #[.string ⟨#[110, 111, 110, 101]⟩, .string ⟨#[112, 114, 105, 110, 116]⟩, .string ⟨#[99, 111, 110, 116, 114, 111, 108]⟩, .string ⟨#[101, 115, 99, 97, 112, 101]⟩, .string ⟨#[112, 97, 114, 97, 109, 115]⟩, .string ⟨#[115, 101, 116]⟩] 9)
        have bel1 := bel0.alloc (by simp; omega) (.cells #[.string ⟨#[110, 111, 110, 101]⟩, .string ⟨#[112, 114, 105, 110, 116]⟩, .string ⟨#[99, 111, 110, 116, 114, 111, 108]⟩, .string ⟨#[101, 115, 99, 97, 112, 101]⟩, .string ⟨#[112, 97, 114, 97, 109, 115]⟩, .string ⟨#[115, 101, 116]⟩] 9)
        have a0 := hA1.at 0 rfl
        have a1 := hA1.at 1 rfl
        have a2 := hA1.at 2 rfl
        have a3 := hA1.at 3 rfl
        have a4 := hA1.at 4 rfl
        have b0 := hA.at 0 rfl
        go_wp2_with fail
        go_at_call 12
        refine (l1Digits_calls _ ch _ hch.1 (by omega) (Nat.le_refl _)).mono ?_
        rintro e w2 ⟨rfl, hb⟩
        replace hA := hA1.belowb hb
        replace hR := hR1.belowb hb
        have bel2 := bel1.trans (hb.mono (by simp; omega))
        clear hb hA1 hR1 bel1 bel0 a0 a1 a2 a3 a4 b0
        have a0 := hA.at 0 rfl
        have a1 := hA.at 1 rfl
        have a2 := hA.at 2 rfl
        have a3 := hA.at 3 rfl
        have a4 := hA.at 4 rfl
        obtain ⟨da, hda⟩ : ∃ x, Hid (strOfNums (digL ch) = x) := ⟨_, hide rfl⟩
        rw [hda.out]
        have sa : da.size ≤ 6 := by rw [← hda.out, strOfNums_size]; exact dig_len (by omega)
        have t1 : ¬ 9223372036854775807 < 8 + da.size := lim (by omega)
        have HT0 : (⟨#[99, 111, 110, 116, 114, 111, 108]⟩ : ByteArray) ++ ⟨#[32]⟩ ++ da = strOfNums (textTo 2 ch st false ns 0) := by
          rw [← hda.out, show (⟨#[99, 111, 110, 116, 114, 111, 108]⟩ : ByteArray) = strOfNums [99, 111, 110, 116, 114, 111, 108] from rfl, show (⟨#[32]⟩ : ByteArray) = strOfNums [32] from rfl]
          simp only [str_app]
          try congr 1
          all_goals simp [textTo, wordsTo, words0, joinN, wordN, privL]
        have hlen := fun j hj => textTo_len hF j hj
        have hl6 := hF.l
        have hnn := hF.n
        have z0 : w.heap.size + 2 ≤ w2.heap.size := by have := hR.lt; have := bel2.size; omega
        clear hF hc
        go_wp2
        go_loopw [4, 5] (fun o i wr => ∃ j : Nat, j ≤ ns.length ∧ i = .int .i64 j ∧ o = .string (strOfNums (textTo 2 ch st false ns j)) ∧ Below w2.heap.size w2 wr) (fun _ i _ => ns.length - (intOf i).toNat)
        case atStart => exact ⟨0, Nat.zero_le _, rfl, by first | rfl | rw [HT0], Below.refl _ _⟩
        case round =>
          obtain ⟨j, hj, rfl, rfl, hb⟩ := hrel
          have hAr := hA.below hb hA.lt
          have hRr := hR.below hb hR.lt
          have c0 := hAr.at 0 rfl
          have c4 := hAr.at 4 rfl
          have belr := bel2.trans (hb.mono bel2.size)
          have hlj := hlen j hj
          obtain ⟨X, hX⟩ : ∃ X, Hid (textTo 2 ch st false ns j = X) := ⟨_, hide rfl⟩
          rw [hX.out] at hlj ⊢
          by_cases hlt : j < ns.length
          · have hltI : (j : Int) < (ns.length : Int) := by omega
            obtain ⟨b9, o9, e9, hcell⟩ := (h1.below belr).spot j hlt
            subst e9
            have hnj := hnn j hlt
            have hs := textTo_succ 2 ch st false ns j
            rw [hX.out] at hs
            obtain ⟨n0, hn0⟩ : ∃ z, ns.getD j 0 = z := ⟨_, rfl⟩
            rw [hn0] at hcell hnj hs
            have HS := hide hs
            obtain ⟨xs, hxs⟩ : ∃ z, Hid (strOfNums X = z) := ⟨_, hide rfl⟩
            have sx : xs.size = X.length := by rw [← hxs.out, strOfNums_size]
            rw [hxs.out]
            have u1 : ¬ 9223372036854775807 < xs.size + 1 := lim (by omega)
            clear hs hn0 hlen hnn
            go_wp2_with fail
            go_at_call 12
            refine (l1Digits_calls _ n0 _ hnj.1 (by omega) (Nat.le_refl _)).mono ?_
            rintro e w8 ⟨rfl, hb'⟩
            obtain ⟨dn, hdn⟩ : ∃ x, Hid (strOfNums (digL n0) = x) := ⟨_, hide rfl⟩
            rw [hdn.out]
            have sn : dn.size ≤ 6 := by rw [← hdn.out, strOfNums_size]; exact dig_len (by omega)
            have u2 : ¬ 9223372036854775807 < xs.size + 1 + dn.size := lim (by omega)
            have HX : xs ++ ⟨#[32]⟩ ++ dn = strOfNums (textTo 2 ch st false ns (j + 1)) := by
              rw [HS.out, ← hxs.out, ← hdn.out, show (⟨#[32]⟩ : ByteArray) = strOfNums [32] from rfl]
              simp only [str_app]
              congr 1
              simp
            have hb2 : Below w2.heap.size w2 w8 := hb.trans (hb'.mono hb.size)
            go_wp2
            go_roundw
            case rel => exact ⟨j + 1, by omega, by go_num, by first | rfl | rw [HX], hb2⟩
            case measure => simp [intOf]; omega
          · obtain rfl : j = ns.length := by omega
            obtain ⟨xs, hxs⟩ : ∃ z, Hid (strOfNums X = z) := ⟨_, hide rfl⟩
            rw [hxs.out]
            replace hR := hRr
            clear hRr
            have zr := hb.size
            go_wp2_with (first | fail | (refine wpList_build_at rfl 27 _ rfl #[.int .i64 0, .string xs] (by first | rfl | kernel_rfl) ?_; (try simp only [Act.put, List.setIfInBounds_toArray, List.set_cons_zero, List.set_cons_succ])) | (refine wpList_store_blk rfl _ _ _ rfl (w.heap.size + 1) 0 #[.int .i64 0, .string ⟨#[]⟩] #[.int .i64 0, .string xs] (.agg #[.int .i64 0, .string xs]) rfl rfl hR rfl (by kernel_rfl) rfl rfl ?_; (try simp only [Act.put, List.setIfInBounds_toArray, List.set_cons_zero, List.set_cons_succ]); clear hR; intro w9 hR hu))
            exact bodyPost_ret (results_blk hR _ _ rfl rfl Tryd.underlying27 rfl (by kernel_rfl)) rfl ⟨by rw [← hxs.out, ← hX.out], belr.trans (hu.below (by omega))⟩
      · have hch : 0 ≤ ch ∧ ch ≤ 65535 := by have := hF.c; omega
        go_enter Tryd.func5, Tryd.ntmps5
        go_wp2_with fail
        go_at_call 11
        refine (l4Action_calls 2 ch st true ns _ _ _ hn (h1.below bel0) (hA.at 0 rfl) (hA.at 1 rfl) (hA.at 2 rfl) (hA.at 3 rfl) (hA.at 4 rfl)).mono ?_
        rintro e w1 ⟨rfl, hw⟩
        rw [hw]
        clear hw w1
        rw [hc]
        have hA1 := hA.alloc (.cells #[.string ⟨#[110, 111, 110, 101]⟩, .string ⟨#[112, 114, 105, 110, 116]⟩, .string ⟨#[99, 111, 110, 116, 114, 111, 108]⟩, .string ⟨#[101, 115, 99, 97, 112, 101]⟩, .string ⟨#[112, 97, 114, 97, 109, 115]⟩, .string ⟨#[115, 101, 116]⟩] 9)
        have hR1 := hR.alloc (.cells #[.string ⟨#[110, 111, 110, 101]⟩, .string ⟨#[112, 114, 105, 110, 116]⟩, .string ⟨#[99, 111, 110, 116, 114, 111, 108]⟩, .string ⟨#[101, 115, 99, 97, 112, 101]⟩, .string ⟨#[112, 97, 114, 97, 109, 115]⟩, .string ⟨#[115, 101, 116]⟩] 9)
        have bel1 := bel0.alloc (by simp; omega) (.cells #[.string ⟨#[110, 111, 110, 101]⟩, .string ⟨#[112, 114, 105, 110, 116]⟩, .string ⟨#[99, 111, 110, 116, 114, 111, 108]⟩, .string ⟨#[101, 115, 99, 97, 112, 101]⟩, .string ⟨#[112, 97, 114, 97, 109, 115]⟩, .string ⟨#[115, 101, 116]⟩] 9)
        have a0 := hA1.at 0 rfl
        have a1 := hA1.at 1 rfl
        have a2 := hA1.at 2 rfl
        have a3 := hA1.at 3 rfl
        have a4 := hA1.at 4 rfl
        have b0 := hA.at 0 rfl
        go_wp2_with fail
        go_at_call 12
        refine (l1Digits_calls _ ch _ hch.1 (by omega) (Nat.le_refl _)).mono ?_
        rintro e w2 ⟨rfl, hb⟩
        replace hA := hA1.belowb hb
        replace hR := hR1.belowb hb
        have bel2 := bel1.trans (hb.mono (by simp; omega))
        clear hb hA1 hR1 bel1 bel0 a0 a1 a2 a3 a4 b0
        have a0 := hA.at 0 rfl
        have a1 := hA.at 1 rfl
        have a2 := hA.at 2 rfl
        have a3 := hA.at 3 rfl
        have a4 := hA.at 4 rfl
        obtain ⟨da, hda⟩ : ∃ x, Hid (strOfNums (digL ch) = x) := ⟨_, hide rfl⟩
        rw [hda.out]
        have sa : da.size ≤ 6 := by rw [← hda.out, strOfNums_size]; exact dig_len (by omega)
        have t1 : ¬ 9223372036854775807 < 8 + da.size := lim (by omega)
        have t5 : ¬ 9223372036854775807 < 8 + da.size + 8 := lim (by omega)
        have HT0 : (⟨#[99, 111, 110, 116, 114, 111, 108]⟩ : ByteArray) ++ ⟨#[32]⟩ ++ da ++ ⟨#[32, 112, 114, 105, 118, 97, 116, 101]⟩ = strOfNums (textTo 2 ch st true ns 0) := by
          rw [← hda.out, show (⟨#[99, 111, 110, 116, 114, 111, 108]⟩ : ByteArray) = strOfNums [99, 111, 110, 116, 114, 111, 108] from rfl, show (⟨#[32]⟩ : ByteArray) = strOfNums [32] from rfl, show (⟨#[32, 112, 114, 105, 118, 97, 116, 101]⟩ : ByteArray) = strOfNums [32, 112, 114, 105, 118, 97, 116, 101] from rfl]
          simp only [str_app]
          try congr 1
          all_goals simp [textTo, wordsTo, words0, joinN, wordN, privL]
        have hlen := fun j hj => textTo_len hF j hj
        have hl6 := hF.l
        have hnn := hF.n
        have z0 : w.heap.size + 2 ≤ w2.heap.size := by have := hR.lt; have := bel2.size; omega
        clear hF hc
        go_wp2
        go_loopw [4, 5] (fun o i wr => ∃ j : Nat, j ≤ ns.length ∧ i = .int .i64 j ∧ o = .string (strOfNums (textTo 2 ch st true ns j)) ∧ Below w2.heap.size w2 wr) (fun _ i _ => ns.length - (intOf i).toNat)
        case atStart => exact ⟨0, Nat.zero_le _, rfl, by first | rfl | rw [HT0], Below.refl _ _⟩
        case round =>
          obtain ⟨j, hj, rfl, rfl, hb⟩ := hrel
          have hAr := hA.below hb hA.lt
          have hRr := hR.below hb hR.lt
          have c0 := hAr.at 0 rfl
          have c4 := hAr.at 4 rfl
          have belr := bel2.trans (hb.mono bel2.size)
          have hlj := hlen j hj
          obtain ⟨X, hX⟩ : ∃ X, Hid (textTo 2 ch st true ns j = X) := ⟨_, hide rfl⟩
          rw [hX.out] at hlj ⊢
          by_cases hlt : j < ns.length
          · have hltI : (j : Int) < (ns.length : Int) := by omega
            obtain ⟨b9, o9, e9, hcell⟩ := (h1.below belr).spot j hlt
            subst e9
            have hnj := hnn j hlt
            have hs := textTo_succ 2 ch st true ns j
            rw [hX.out] at hs
            obtain ⟨n0, hn0⟩ : ∃ z, ns.getD j 0 = z := ⟨_, rfl⟩
            rw [hn0] at hcell hnj hs
            have HS := hide hs
            obtain ⟨xs, hxs⟩ : ∃ z, Hid (strOfNums X = z) := ⟨_, hide rfl⟩
            have sx : xs.size = X.length := by rw [← hxs.out, strOfNums_size]
            rw [hxs.out]
            have u1 : ¬ 9223372036854775807 < xs.size + 1 := lim (by omega)
            clear hs hn0 hlen hnn
            go_wp2_with fail
            go_at_call 12
            refine (l1Digits_calls _ n0 _ hnj.1 (by omega) (Nat.le_refl _)).mono ?_
            rintro e w8 ⟨rfl, hb'⟩
            obtain ⟨dn, hdn⟩ : ∃ x, Hid (strOfNums (digL n0) = x) := ⟨_, hide rfl⟩
            rw [hdn.out]
            have sn : dn.size ≤ 6 := by rw [← hdn.out, strOfNums_size]; exact dig_len (by omega)
            have u2 : ¬ 9223372036854775807 < xs.size + 1 + dn.size := lim (by omega)
            have HX : xs ++ ⟨#[32]⟩ ++ dn = strOfNums (textTo 2 ch st true ns (j + 1)) := by
              rw [HS.out, ← hxs.out, ← hdn.out, show (⟨#[32]⟩ : ByteArray) = strOfNums [32] from rfl]
              simp only [str_app]
              congr 1
              simp
            have hb2 : Below w2.heap.size w2 w8 := hb.trans (hb'.mono hb.size)
            go_wp2
            go_roundw
            case rel => exact ⟨j + 1, by omega, by go_num, by first | rfl | rw [HX], hb2⟩
            case measure => simp [intOf]; omega
          · obtain rfl : j = ns.length := by omega
            obtain ⟨xs, hxs⟩ : ∃ z, Hid (strOfNums X = z) := ⟨_, hide rfl⟩
            rw [hxs.out]
            replace hR := hRr
            clear hRr
            have zr := hb.size
            go_wp2_with (first | fail | (refine wpList_build_at rfl 27 _ rfl #[.int .i64 0, .string xs] (by first | rfl | kernel_rfl) ?_; (try simp only [Act.put, List.setIfInBounds_toArray, List.set_cons_zero, List.set_cons_succ])) | (refine wpList_store_blk rfl _ _ _ rfl (w.heap.size + 1) 0 #[.int .i64 0, .string ⟨#[]⟩] #[.int .i64 0, .string xs] (.agg #[.int .i64 0, .string xs]) rfl rfl hR rfl (by kernel_rfl) rfl rfl ?_; (try simp only [Act.put, List.setIfInBounds_toArray, List.set_cons_zero, List.set_cons_succ]); clear hR; intro w9 hR hu))
            exact bodyPost_ret (results_blk hR _ _ rfl rfl Tryd.underlying27 rfl (by kernel_rfl)) rfl ⟨by rw [← hxs.out, ← hX.out], belr.trans (hu.below (by omega))⟩
    · cases pv
      · have hch : 0 ≤ ch ∧ ch ≤ 65535 := by have := hF.c; omega
        go_enter Tryd.func5, Tryd.ntmps5
        go_wp2_with fail
        go_at_call 11
        refine (l4Action_calls 3 ch st false ns _ _ _ hn (h1.below bel0) (hA.at 0 rfl) (hA.at 1 rfl) (hA.at 2 rfl) (hA.at 3 rfl) (hA.at 4 rfl)).mono ?_
        rintro e w1 ⟨rfl, hw⟩
        rw [hw]
        clear hw w1
        rw [hc]
        have hA1 := hA.alloc (.cells #[.string ⟨#[110, 111, 110, 101]⟩, .string ⟨#[112, 114, 105, 110, 116]⟩, .string ⟨#[99, 111, 110, 116, 114, 111, 108]⟩, .string ⟨#[101, 115, 99, 97, 112, 101]⟩, .string ⟨#[112, 97, 114, 97, 109, 115]⟩, .string ⟨#[115, 101, 116]⟩] 9)
        have hR1 := hR.alloc (.cells #[.string ⟨#[110, 111, 110, 101]⟩, .string ⟨#[112, 114, 105, 110, 116]⟩, .string ⟨#[99, 111, 110, 116, 114, 111, 108]⟩, .string ⟨#[101, 115, 99, 97, 112, 101]⟩, .string ⟨#[112, 97, 114, 97, 109, 115]⟩, .string ⟨#[115, 101, 116]⟩] 9)
        have bel1 := bel0.alloc (by simp; omega) (.cells #[.string ⟨#[110, 111, 110, 101]⟩, .string ⟨#[112, 114, 105, 110, 116]⟩, .string ⟨#[99, 111, 110, 116, 114, 111, 108]⟩, .string ⟨#[101, 115, 99, 97, 112, 101]⟩, .string ⟨#[112, 97, 114, 97, 109, 115]⟩, .string ⟨#[115, 101, 116]⟩] 9)
        have a0 := hA1.at 0 rfl
        have a1 := hA1.at 1 rfl
        have a2 := hA1.at 2 rfl
        have a3 := hA1.at 3 rfl
        have a4 := hA1.at 4 rfl
        have b0 := hA.at 0 rfl
        go_wp2_with fail
        go_at_call 12
        refine (l1Digits_calls _ ch _ hch.1 (by omega) (Nat.le_refl _)).mono ?_
        rintro e w2 ⟨rfl, hb⟩
        replace hA := hA1.belowb hb
        replace hR := hR1.belowb hb
        have bel2 := bel1.trans (hb.mono (by simp; omega))
        clear hb hA1 hR1 bel1 bel0 a0 a1 a2 a3 a4 b0
        have a0 := hA.at 0 rfl
        have a1 := hA.at 1 rfl
        have a2 := hA.at 2 rfl
        have a3 := hA.at 3 rfl
        have a4 := hA.at 4 rfl
        obtain ⟨da, hda⟩ : ∃ x, Hid (strOfNums (digL ch) = x) := ⟨_, hide rfl⟩
        rw [hda.out]
        have sa : da.size ≤ 6 := by rw [← hda.out, strOfNums_size]; exact dig_len (by omega)
        have t1 : ¬ 9223372036854775807 < 7 + da.size := lim (by omega)
        have HT0 : (⟨#[101, 115, 99, 97, 112, 101]⟩ : ByteArray) ++ ⟨#[32]⟩ ++ da = strOfNums (textTo 3 ch st false ns 0) := by
          rw [← hda.out, show (⟨#[101, 115, 99, 97, 112, 101]⟩ : ByteArray) = strOfNums [101, 115, 99, 97, 112, 101] from rfl, show (⟨#[32]⟩ : ByteArray) = strOfNums [32] from rfl]
          simp only [str_app]
          try congr 1
          all_goals simp [textTo, wordsTo, words0, joinN, wordN, privL]
        have hlen := fun j hj => textTo_len hF j hj
        have hl6 := hF.l
        have hnn := hF.n
        have z0 : w.heap.size + 2 ≤ w2.heap.size := by have := hR.lt; have := bel2.size; omega
        clear hF hc
        go_wp2
        go_loopw [4, 5] (fun o i wr => ∃ j : Nat, j ≤ ns.length ∧ i = .int .i64 j ∧ o = .string (strOfNums (textTo 3 ch st false ns j)) ∧ Below w2.heap.size w2 wr) (fun _ i _ => ns.length - (intOf i).toNat)
        case atStart => exact ⟨0, Nat.zero_le _, rfl, by first | rfl | rw [HT0], Below.refl _ _⟩
        case round =>
          obtain ⟨j, hj, rfl, rfl, hb⟩ := hrel
          have hAr := hA.below hb hA.lt
          have hRr := hR.below hb hR.lt
          have c0 := hAr.at 0 rfl
          have c4 := hAr.at 4 rfl
          have belr := bel2.trans (hb.mono bel2.size)
          have hlj := hlen j hj
          obtain ⟨X, hX⟩ : ∃ X, Hid (textTo 3 ch st false ns j = X) := ⟨_, hide rfl⟩
          rw [hX.out] at hlj ⊢
          by_cases hlt : j < ns.length
          · have hltI : (j : Int) < (ns.length : Int) := by omega
            obtain ⟨b9, o9, e9, hcell⟩ := (h1.below belr).spot j hlt
            subst e9
            have hnj := hnn j hlt
            have hs := textTo_succ 3 ch st false ns j
            rw [hX.out] at hs
            obtain ⟨n0, hn0⟩ : ∃ z, ns.getD j 0 = z := ⟨_, rfl⟩
            rw [hn0] at hcell hnj hs
            have HS := hide hs
            obtain ⟨xs, hxs⟩ : ∃ z, Hid (strOfNums X = z) := ⟨_, hide rfl⟩
            have sx : xs.size = X.length := by rw [← hxs.out, strOfNums_size]
            rw [hxs.out]
            have u1 : ¬ 9223372036854775807 < xs.size + 1 := lim (by omega)
            clear hs hn0 hlen hnn
            go_wp2_with fail
            go_at_call 12
            refine (l1Digits_calls _ n0 _ hnj.1 (by omega) (Nat.le_refl _)).mono ?_
            rintro e w8 ⟨rfl, hb'⟩
            obtain ⟨dn, hdn⟩ : ∃ x, Hid (strOfNums (digL n0) = x) := ⟨_, hide rfl⟩
            rw [hdn.out]
            have sn : dn.size ≤ 6 := by rw [← hdn.out, strOfNums_size]; exact dig_len (by omega)
            have u2 : ¬ 9223372036854775807 < xs.size + 1 + dn.size := lim (by omega)
            have HX : xs ++ ⟨#[32]⟩ ++ dn = strOfNums (textTo 3 ch st false ns (j + 1)) := by
              rw [HS.out, ← hxs.out, ← hdn.out, show (⟨#[32]⟩ : ByteArray) = strOfNums [32] from rfl]
              simp only [str_app]
              congr 1
              simp
            have hb2 : Below w2.heap.size w2 w8 := hb.trans (hb'.mono hb.size)
            go_wp2
            go_roundw
            case rel => exact ⟨j + 1, by omega, by go_num, by first | rfl | rw [HX], hb2⟩
            case measure => simp [intOf]; omega
          · obtain rfl : j = ns.length := by omega
            obtain ⟨xs, hxs⟩ : ∃ z, Hid (strOfNums X = z) := ⟨_, hide rfl⟩
            rw [hxs.out]
            replace hR := hRr
            clear hRr
            have zr := hb.size
            go_wp2_with (first | fail | (refine wpList_build_at rfl 27 _ rfl #[.int .i64 0, .string xs] (by first | rfl | kernel_rfl) ?_; (try simp only [Act.put, List.setIfInBounds_toArray, List.set_cons_zero, List.set_cons_succ])) | (refine wpList_store_blk rfl _ _ _ rfl (w.heap.size + 1) 0 #[.int .i64 0, .string ⟨#[]⟩] #[.int .i64 0, .string xs] (.agg #[.int .i64 0, .string xs]) rfl rfl hR rfl (by kernel_rfl) rfl rfl ?_; (try simp only [Act.put, List.setIfInBounds_toArray, List.set_cons_zero, List.set_cons_succ]); clear hR; intro w9 hR hu))
            exact bodyPost_ret (results_blk hR _ _ rfl rfl Tryd.underlying27 rfl (by kernel_rfl)) rfl ⟨by rw [← hxs.out, ← hX.out], belr.trans (hu.below (by omega))⟩
      · have hch : 0 ≤ ch ∧ ch ≤ 65535 := by have := hF.c; omega
        go_enter Tryd.func5, Tryd.ntmps5
        go_wp2_with fail
        go_at_call 11
        refine (l4Action_calls 3 ch st true ns _ _ _ hn (h1.below bel0) (hA.at 0 rfl) (hA.at 1 rfl) (hA.at 2 rfl) (hA.at 3 rfl) (hA.at 4 rfl)).mono ?_
        rintro e w1 ⟨rfl, hw⟩
        rw [hw]
        clear hw w1
        rw [hc]
        have hA1 := hA.alloc (.cells #[.string ⟨#[110, 111, 110, 101]⟩, .string ⟨#[112, 114, 105, 110, 116]⟩, .string ⟨#[99, 111, 110, 116, 114, 111, 108]⟩, .string ⟨#[101, 115, 99, 97, 112, 101]⟩, .string ⟨#[112, 97, 114, 97, 109, 115]⟩, .string ⟨#[115, 101, 116]⟩] 9)
        have hR1 := hR.alloc (.cells #[.string ⟨#[110, 111, 110, 101]⟩, .string ⟨#[112, 114, 105, 110, 116]⟩, .string ⟨#[99, 111, 110, 116, 114, 111, 108]⟩, .string ⟨#[101, 115, 99, 97, 112, 101]⟩, .string ⟨#[112, 97, 114, 97, 109, 115]⟩, .string ⟨#[115, 101, 116]⟩] 9)
        have bel1 := bel0.alloc (by simp; omega) (.cells #[.string ⟨#[110, 111, 110, 101]⟩, .string ⟨#[112, 114, 105, 110, 116]⟩, .string ⟨#[99, 111, 110, 116, 114, 111, 108]⟩, .string ⟨#[101, 115, 99, 97, 112, 101]⟩, .string ⟨#[112, 97, 114, 97, 109, 115]⟩, .string ⟨#[115, 101, 116]⟩] 9)
        have a0 := hA1.at 0 rfl
        have a1 := hA1.at 1 rfl
        have a2 := hA1.at 2 rfl
        have a3 := hA1.at 3 rfl
        have a4 := hA1.at 4 rfl
        have b0 := hA.at 0 rfl
        go_wp2_with fail
        go_at_call 12
        refine (l1Digits_calls _ ch _ hch.1 (by omega) (Nat.le_refl _)).mono ?_
        rintro e w2 ⟨rfl, hb⟩
        replace hA := hA1.belowb hb
        replace hR := hR1.belowb hb
        have bel2 := bel1.trans (hb.mono (by simp; omega))
        clear hb hA1 hR1 bel1 bel0 a0 a1 a2 a3 a4 b0
        have a0 := hA.at 0 rfl
        have a1 := hA.at 1 rfl
        have a2 := hA.at 2 rfl
        have a3 := hA.at 3 rfl
        have a4 := hA.at 4 rfl
        obtain ⟨da, hda⟩ : ∃ x, Hid (strOfNums (digL ch) = x) := ⟨_, hide rfl⟩
        rw [hda.out]
        have sa : da.size ≤ 6 := by rw [← hda.out, strOfNums_size]; exact dig_len (by omega)
        have t1 : ¬ 9223372036854775807 < 7 + da.size := lim (by omega)
        have t5 : ¬ 9223372036854775807 < 7 + da.size + 8 := lim (by omega)
        have HT0 : (⟨#[101, 115, 99, 97, 112, 101]⟩ : ByteArray) ++ ⟨#[32]⟩ ++ da ++ ⟨#[32, 112, 114, 105, 118, 97, 116, 101]⟩ = strOfNums (textTo 3 ch st true ns 0) := by
          rw [← hda.out, show (⟨#[101, 115, 99, 97, 112, 101]⟩ : ByteArray) = strOfNums [101, 115, 99, 97, 112, 101] from rfl, show (⟨#[32]⟩ : ByteArray) = strOfNums [32] from rfl, show (⟨#[32, 112, 114, 105, 118, 97, 116, 101]⟩ : ByteArray) = strOfNums [32, 112, 114, 105, 118, 97, 116, 101] from rfl]
          simp only [str_app]
          try congr 1
          all_goals simp [textTo, wordsTo, words0, joinN, wordN, privL]
        have hlen := fun j hj => textTo_len hF j hj
        have hl6 := hF.l
        have hnn := hF.n
        have z0 : w.heap.size + 2 ≤ w2.heap.size := by have := hR.lt; have := bel2.size; omega
        clear hF hc
        go_wp2
        go_loopw [4, 5] (fun o i wr => ∃ j : Nat, j ≤ ns.length ∧ i = .int .i64 j ∧ o = .string (strOfNums (textTo 3 ch st true ns j)) ∧ Below w2.heap.size w2 wr) (fun _ i _ => ns.length - (intOf i).toNat)
        case atStart => exact ⟨0, Nat.zero_le _, rfl, by first | rfl | rw [HT0], Below.refl _ _⟩
        case round =>
          obtain ⟨j, hj, rfl, rfl, hb⟩ := hrel
          have hAr := hA.below hb hA.lt
          have hRr := hR.below hb hR.lt
          have c0 := hAr.at 0 rfl
          have c4 := hAr.at 4 rfl
          have belr := bel2.trans (hb.mono bel2.size)
          have hlj := hlen j hj
          obtain ⟨X, hX⟩ : ∃ X, Hid (textTo 3 ch st true ns j = X) := ⟨_, hide rfl⟩
          rw [hX.out] at hlj ⊢
          by_cases hlt : j < ns.length
          · have hltI : (j : Int) < (ns.length : Int) := by omega
            obtain ⟨b9, o9, e9, hcell⟩ := (h1.below belr).spot j hlt
            subst e9
            have hnj := hnn j hlt
            have hs := textTo_succ 3 ch st true ns j
            rw [hX.out] at hs
            obtain ⟨n0, hn0⟩ : ∃ z, ns.getD j 0 = z := ⟨_, rfl⟩
            rw [hn0] at hcell hnj hs
            have HS := hide hs
            obtain ⟨xs, hxs⟩ : ∃ z, Hid (strOfNums X = z) := ⟨_, hide rfl⟩
            have sx : xs.size = X.length := by rw [← hxs.out, strOfNums_size]
            rw [hxs.out]
            have u1 : ¬ 9223372036854775807 < xs.size + 1 := lim (by omega)
            clear hs hn0 hlen hnn
            go_wp2_with fail
            go_at_call 12
            refine (l1Digits_calls _ n0 _ hnj.1 (by omega) (Nat.le_refl _)).mono ?_
            rintro e w8 ⟨rfl, hb'⟩
            obtain ⟨dn, hdn⟩ : ∃ x, Hid (strOfNums (digL n0) = x) := ⟨_, hide rfl⟩
            rw [hdn.out]
            have sn : dn.size ≤ 6 := by rw [← hdn.out, strOfNums_size]; exact dig_len (by omega)
            have u2 : ¬ 9223372036854775807 < xs.size + 1 + dn.size := lim (by omega)
            have HX : xs ++ ⟨#[32]⟩ ++ dn = strOfNums (textTo 3 ch st true ns (j + 1)) := by
              rw [HS.out, ← hxs.out, ← hdn.out, show (⟨#[32]⟩ : ByteArray) = strOfNums [32] from rfl]
              simp only [str_app]
              congr 1
              simp
            have hb2 : Below w2.heap.size w2 w8 := hb.trans (hb'.mono hb.size)
            go_wp2
            go_roundw
            case rel => exact ⟨j + 1, by omega, by go_num, by first | rfl | rw [HX], hb2⟩
            case measure => simp [intOf]; omega
          · obtain rfl : j = ns.length := by omega
            obtain ⟨xs, hxs⟩ : ∃ z, Hid (strOfNums X = z) := ⟨_, hide rfl⟩
            rw [hxs.out]
            replace hR := hRr
            clear hRr
            have zr := hb.size
            go_wp2_with (first | fail | (refine wpList_build_at rfl 27 _ rfl #[.int .i64 0, .string xs] (by first | rfl | kernel_rfl) ?_; (try simp only [Act.put, List.setIfInBounds_toArray, List.set_cons_zero, List.set_cons_succ])) | (refine wpList_store_blk rfl _ _ _ rfl (w.heap.size + 1) 0 #[.int .i64 0, .string ⟨#[]⟩] #[.int .i64 0, .string xs] (.agg #[.int .i64 0, .string xs]) rfl rfl hR rfl (by kernel_rfl) rfl rfl ?_; (try simp only [Act.put, List.setIfInBounds_toArray, List.set_cons_zero, List.set_cons_succ]); clear hR; intro w9 hR hu))
            exact bodyPost_ret (results_blk hR _ _ rfl rfl Tryd.underlying27 rfl (by kernel_rfl)) rfl ⟨by rw [← hxs.out, ← hX.out], belr.trans (hu.below (by omega))⟩
    · cases pv
      · have hch : 0 ≤ ch ∧ ch ≤ 65535 := by have := hF.c; omega
        go_enter Tryd.func5, Tryd.ntmps5
        go_wp2_with fail
        go_at_call 11
        refine (l4Action_calls 4 ch st false ns _ _ _ hn (h1.below bel0) (hA.at 0 rfl) (hA.at 1 rfl) (hA.at 2 rfl) (hA.at 3 rfl) (hA.at 4 rfl)).mono ?_
        rintro e w1 ⟨rfl, hw⟩
        rw [hw]
        clear hw w1
        rw [hc]
        have hA1 := hA.alloc (.cells #[.string ⟨#[110, 111, 110, 101]⟩, .string ⟨#[112, 114, 105, 110, 116]⟩, .string ⟨#[99, 111, 110, 116, 114, 111, 108]⟩, .string ⟨#[101, 115, 99, 97, 112, 101]⟩, .string ⟨#[112, 97, 114, 97, 109, 115]⟩, .string ⟨#[115, 101, 116]⟩] 9)
        have hR1 := hR.alloc (.cells #[.string ⟨#[110, 111, 110, 101]⟩, .string ⟨#[112, 114, 105, 110, 116]⟩, .string ⟨#[99, 111, 110, 116, 114, 111, 108]⟩, .string ⟨#[101, 115, 99, 97, 112, 101]⟩, .string ⟨#[112, 97, 114, 97, 109, 115]⟩, .string ⟨#[115, 101, 116]⟩] 9)
        have bel1 := bel0.alloc (by simp; omega) (.cells #[.string ⟨#[110, 111, 110, 101]⟩, .string ⟨#[112, 114, 105, 110, 116]⟩, .string ⟨#[99, 111, 110, 116, 114, 111, 108]⟩, .string ⟨#[101, 115, 99, 97, 112, 101]⟩, .string ⟨#[112, 97, 114, 97, 109, 115]⟩, .string ⟨#[115, 101, 116]⟩] 9)
        have a0 := hA1.at 0 rfl
        have a1 := hA1.at 1 rfl
        have a2 := hA1.at 2 rfl
        have a3 := hA1.at 3 rfl
        have a4 := hA1.at 4 rfl
        have b0 := hA.at 0 rfl
        go_wp2_with fail
        go_at_call 12
        refine (l1Digits_calls _ ch _ hch.1 (by omega) (Nat.le_refl _)).mono ?_
        rintro e w2 ⟨rfl, hb⟩
        replace hA := hA1.belowb hb
        replace hR := hR1.belowb hb
        have bel2 := bel1.trans (hb.mono (by simp; omega))
        clear hb hA1 hR1 bel1 bel0 a0 a1 a2 a3 a4 b0
        have a0 := hA.at 0 rfl
        have a1 := hA.at 1 rfl
        have a2 := hA.at 2 rfl
        have a3 := hA.at 3 rfl
        have a4 := hA.at 4 rfl
        obtain ⟨da, hda⟩ : ∃ x, Hid (strOfNums (digL ch) = x) := ⟨_, hide rfl⟩
        rw [hda.out]
        have sa : da.size ≤ 6 := by rw [← hda.out, strOfNums_size]; exact dig_len (by omega)
        have t1 : ¬ 9223372036854775807 < 7 + da.size := lim (by omega)
        have HT0 : (⟨#[112, 97, 114, 97, 109, 115]⟩ : ByteArray) ++ ⟨#[32]⟩ ++ da = strOfNums (textTo 4 ch st false ns 0) := by
          rw [← hda.out, show (⟨#[112, 97, 114, 97, 109, 115]⟩ : ByteArray) = strOfNums [112, 97, 114, 97, 109, 115] from rfl, show (⟨#[32]⟩ : ByteArray) = strOfNums [32] from rfl]
          simp only [str_app]
          try congr 1
          all_goals simp [textTo, wordsTo, words0, joinN, wordN, privL]
        have hlen := fun j hj => textTo_len hF j hj
        have hl6 := hF.l
        have hnn := hF.n
        have z0 : w.heap.size + 2 ≤ w2.heap.size := by have := hR.lt; have := bel2.size; omega
        clear hF hc
        go_wp2
        go_loopw [4, 5] (fun o i wr => ∃ j : Nat, j ≤ ns.length ∧ i = .int .i64 j ∧ o = .string (strOfNums (textTo 4 ch st false ns j)) ∧ Below w2.heap.size w2 wr) (fun _ i _ => ns.length - (intOf i).toNat)
        case atStart => exact ⟨0, Nat.zero_le _, rfl, by first | rfl | rw [HT0], Below.refl _ _⟩
        case round =>
          obtain ⟨j, hj, rfl, rfl, hb⟩ := hrel
          have hAr := hA.below hb hA.lt
          have hRr := hR.below hb hR.lt
          have c0 := hAr.at 0 rfl
          have c4 := hAr.at 4 rfl
          have belr := bel2.trans (hb.mono bel2.size)
          have hlj := hlen j hj
          obtain ⟨X, hX⟩ : ∃ X, Hid (textTo 4 ch st false ns j = X) := ⟨_, hide rfl⟩
          rw [hX.out] at hlj ⊢
          by_cases hlt : j < ns.length
          · have hltI : (j : Int) < (ns.length : Int) := by omega
            obtain ⟨b9, o9, e9, hcell⟩ := (h1.below belr).spot j hlt
            subst e9
            have hnj := hnn j hlt
            have hs := textTo_succ 4 ch st false ns j
            rw [hX.out] at hs
            obtain ⟨n0, hn0⟩ : ∃ z, ns.getD j 0 = z := ⟨_, rfl⟩
            rw [hn0] at hcell hnj hs
            have HS := hide hs
            obtain ⟨xs, hxs⟩ : ∃ z, Hid (strOfNums X = z) := ⟨_, hide rfl⟩
            have sx : xs.size = X.length := by rw [← hxs.out, strOfNums_size]
            rw [hxs.out]
            have u1 : ¬ 9223372036854775807 < xs.size + 1 := lim (by omega)
            clear hs hn0 hlen hnn
            go_wp2_with fail
            go_at_call 12
            refine (l1Digits_calls _ n0 _ hnj.1 (by omega) (Nat.le_refl _)).mono ?_
            rintro e w8 ⟨rfl, hb'⟩
            obtain ⟨dn, hdn⟩ : ∃ x, Hid (strOfNums (digL n0) = x) := ⟨_, hide rfl⟩
            rw [hdn.out]
            have sn : dn.size ≤ 6 := by rw [← hdn.out, strOfNums_size]; exact dig_len (by omega)
            have u2 : ¬ 9223372036854775807 < xs.size + 1 + dn.size := lim (by omega)
            have HX : xs ++ ⟨#[32]⟩ ++ dn = strOfNums (textTo 4 ch st false ns (j + 1)) := by
              rw [HS.out, ← hxs.out, ← hdn.out, show (⟨#[32]⟩ : ByteArray) = strOfNums [32] from rfl]
              simp only [str_app]
              congr 1
              simp
            have hb2 : Below w2.heap.size w2 w8 := hb.trans (hb'.mono hb.size)
            go_wp2
            go_roundw
            case rel => exact ⟨j + 1, by omega, by go_num, by first | rfl | rw [HX], hb2⟩
            case measure => simp [intOf]; omega
          · obtain rfl : j = ns.length := by omega
            obtain ⟨xs, hxs⟩ : ∃ z, Hid (strOfNums X = z) := ⟨_, hide rfl⟩
            rw [hxs.out]
            replace hR := hRr
            clear hRr
            have zr := hb.size
            go_wp2_with (first | fail | (refine wpList_build_at rfl 27 _ rfl #[.int .i64 0, .string xs] (by first | rfl | kernel_rfl) ?_; (try simp only [Act.put, List.setIfInBounds_toArray, List.set_cons_zero, List.set_cons_succ])) | (refine wpList_store_blk rfl _ _ _ rfl (w.heap.size + 1) 0 #[.int .i64 0, .string ⟨#[]⟩] #[.int .i64 0, .string xs] (.agg #[.int .i64 0, .string xs]) rfl rfl hR rfl (by kernel_rfl) rfl rfl ?_; (try simp only [Act.put, List.setIfInBounds_toArray, List.set_cons_zero, List.set_cons_succ]); clear hR; intro w9 hR hu))
            exact bodyPost_ret (results_blk hR _ _ rfl rfl Tryd.underlying27 rfl (by kernel_rfl)) rfl ⟨by rw [← hxs.out, ← hX.out], belr.trans (hu.below (by omega))⟩
      · have hch : 0 ≤ ch ∧ ch ≤ 65535 := by have := hF.c; omega
        go_enter Tryd.func5, Tryd.ntmps5
        go_wp2_with fail
        go_at_call 11
        refine (l4Action_calls 4 ch st true ns _ _ _ hn (h1.below bel0) (hA.at 0 rfl) (hA.at 1 rfl) (hA.at 2 rfl) (hA.at 3 rfl) (hA.at 4 rfl)).mono ?_
        rintro e w1 ⟨rfl, hw⟩
        rw [hw]
        clear hw w1
        rw [hc]
        have hA1 := hA.alloc (.cells #[.string ⟨#[110, 111, 110, 101]⟩, .string ⟨#[112, 114, 105, 110, 116]⟩, .string ⟨#[99, 111, 110, 116, 114, 111, 108]⟩, .string ⟨#[101, 115, 99, 97, 112, 101]⟩, .string ⟨#[112, 97, 114, 97, 109, 115]⟩, .string ⟨#[115, 101, 116]⟩] 9)
        have hR1 := hR.alloc (.cells #[.string ⟨#[110, 111, 110, 101]⟩, .string ⟨#[112, 114, 105, 110, 116]⟩, .string ⟨#[99, 111, 110, 116, 114, 111, 108]⟩, .string ⟨#[101, 115, 99, 97, 112, 101]⟩, .string ⟨#[112, 97, 114, 97, 109, 115]⟩, .string ⟨#[115, 101, 116]⟩] 9)
        have bel1 := bel0.alloc (by simp; omega) (.cells #[.string ⟨#[110, 111, 110, 101]⟩, .string ⟨#[112, 114, 105, 110, 116]⟩, .string ⟨#[99, 111, 110, 116, 114, 111, 108]⟩, .string ⟨#[101, 115, 99, 97, 112, 101]⟩, .string ⟨#[112, 97, 114, 97, 109, 115]⟩, .string ⟨#[115, 101, 116]⟩] 9)
        have a0 := hA1.at 0 rfl
        have a1 := hA1.at 1 rfl
        have a2 := hA1.at 2 rfl
        have a3 := hA1.at 3 rfl
        have a4 := hA1.at 4 rfl
        have b0 := hA.at 0 rfl
        go_wp2_with fail
        go_at_call 12
        refine (l1Digits_calls _ ch _ hch.1 (by omega) (Nat.le_refl _)).mono ?_
        rintro e w2 ⟨rfl, hb⟩
        replace hA := hA1.belowb hb
        replace hR := hR1.belowb hb
        have bel2 := bel1.trans (hb.mono (by simp; omega))
        clear hb hA1 hR1 bel1 bel0 a0 a1 a2 a3 a4 b0
        have a0 := hA.at 0 rfl
        have a1 := hA.at 1 rfl
        have a2 := hA.at 2 rfl
        have a3 := hA.at 3 rfl
        have a4 := hA.at 4 rfl
        obtain ⟨da, hda⟩ : ∃ x, Hid (strOfNums (digL ch) = x) := ⟨_, hide rfl⟩
        rw [hda.out]
        have sa : da.size ≤ 6 := by rw [← hda.out, strOfNums_size]; exact dig_len (by omega)
        have t1 : ¬ 9223372036854775807 < 7 + da.size := lim (by omega)
        have t5 : ¬ 9223372036854775807 < 7 + da.size + 8 := lim (by omega)
        have HT0 : (⟨#[112, 97, 114, 97, 109, 115]⟩ : ByteArray) ++ ⟨#[32]⟩ ++ da ++ ⟨#[32, 112, 114, 105, 118, 97, 116, 101]⟩ = strOfNums (textTo 4 ch st true ns 0) := by
          rw [← hda.out, show (⟨#[112, 97, 114, 97, 109, 115]⟩ : ByteArray) = strOfNums [112, 97, 114, 97, 109, 115] from rfl, show (⟨#[32]⟩ : ByteArray) = strOfNums [32] from rfl, show (⟨#[32, 112, 114, 105, 118, 97, 116, 101]⟩ : ByteArray) = strOfNums [32, 112, 114, 105, 118, 97, 116, 101] from rfl]
          simp only [str_app]
          try congr 1
          all_goals simp [textTo, wordsTo, words0, joinN, wordN, privL]
        have hlen := fun j hj => textTo_len hF j hj
        have hl6 := hF.l
        have hnn := hF.n
        have z0 : w.heap.size + 2 ≤ w2.heap.size := by have := hR.lt; have := bel2.size; omega
        clear hF hc
        go_wp2
        go_loopw [4, 5] (fun o i wr => ∃ j : Nat, j ≤ ns.length ∧ i = .int .i64 j ∧ o = .string (strOfNums (textTo 4 ch st true ns j)) ∧ Below w2.heap.size w2 wr) (fun _ i _ => ns.length - (intOf i).toNat)
        case atStart => exact ⟨0, Nat.zero_le _, rfl, by first | rfl | rw [HT0], Below.refl _ _⟩
        case round =>
          obtain ⟨j, hj, rfl, rfl, hb⟩ := hrel
          have hAr := hA.below hb hA.lt
          have hRr := hR.below hb hR.lt
          have c0 := hAr.at 0 rfl
          have c4 := hAr.at 4 rfl
          have belr := bel2.trans (hb.mono bel2.size)
          have hlj := hlen j hj
          obtain ⟨X, hX⟩ : ∃ X, Hid (textTo 4 ch st true ns j = X) := ⟨_, hide rfl⟩
          rw [hX.out] at hlj ⊢
          by_cases hlt : j < ns.length
          · have hltI : (j : Int) < (ns.length : Int) := by omega
            obtain ⟨b9, o9, e9, hcell⟩ := (h1.below belr).spot j hlt
            subst e9
            have hnj := hnn j hlt
            have hs := textTo_succ 4 ch st true ns j
            rw [hX.out] at hs
            obtain ⟨n0, hn0⟩ : ∃ z, ns.getD j 0 = z := ⟨_, rfl⟩
            rw [hn0] at hcell hnj hs
            have HS := hide hs
            obtain ⟨xs, hxs⟩ : ∃ z, Hid (strOfNums X = z) := ⟨_, hide rfl⟩
            have sx : xs.size = X.length := by rw [← hxs.out, strOfNums_size]
            rw [hxs.out]
            have u1 : ¬ 9223372036854775807 < xs.size + 1 := lim (by omega)
            clear hs hn0 hlen hnn
            go_wp2_with fail
            go_at_call 12
            refine (l1Digits_calls _ n0 _ hnj.1 (by omega) (Nat.le_refl _)).mono ?_
            rintro e w8 ⟨rfl, hb'⟩
            obtain ⟨dn, hdn⟩ : ∃ x, Hid (strOfNums (digL n0) = x) := ⟨_, hide rfl⟩
            rw [hdn.out]
            have sn : dn.size ≤ 6 := by rw [← hdn.out, strOfNums_size]; exact dig_len (by omega)
            have u2 : ¬ 9223372036854775807 < xs.size + 1 + dn.size := lim (by omega)
            have HX : xs ++ ⟨#[32]⟩ ++ dn = strOfNums (textTo 4 ch st true ns (j + 1)) := by
              rw [HS.out, ← hxs.out, ← hdn.out, show (⟨#[32]⟩ : ByteArray) = strOfNums [32] from rfl]
              simp only [str_app]
              congr 1
              simp
            have hb2 : Below w2.heap.size w2 w8 := hb.trans (hb'.mono hb.size)
            go_wp2
            go_roundw
            case rel => exact ⟨j + 1, by omega, by go_num, by first | rfl | rw [HX], hb2⟩
            case measure => simp [intOf]; omega
          · obtain rfl : j = ns.length := by omega
            obtain ⟨xs, hxs⟩ : ∃ z, Hid (strOfNums X = z) := ⟨_, hide rfl⟩
            rw [hxs.out]
            replace hR := hRr
            clear hRr
            have zr := hb.size
            go_wp2_with (first | fail | (refine wpList_build_at rfl 27 _ rfl #[.int .i64 0, .string xs] (by first | rfl | kernel_rfl) ?_; (try simp only [Act.put, List.setIfInBounds_toArray, List.set_cons_zero, List.set_cons_succ])) | (refine wpList_store_blk rfl _ _ _ rfl (w.heap.size + 1) 0 #[.int .i64 0, .string ⟨#[]⟩] #[.int .i64 0, .string xs] (.agg #[.int .i64 0, .string xs]) rfl rfl hR rfl (by kernel_rfl) rfl rfl ?_; (try simp only [Act.put, List.setIfInBounds_toArray, List.set_cons_zero, List.set_cons_succ]); clear hR; intro w9 hR hu))
            exact bodyPost_ret (results_blk hR _ _ rfl rfl Tryd.underlying27 rfl (by kernel_rfl)) rfl ⟨by rw [← hxs.out, ← hX.out], belr.trans (hu.below (by omega))⟩
    · cases pv
      · have hch : 0 ≤ ch ∧ ch ≤ 65535 := by have := hF.c; omega
        have hst := hF.s rfl
        go_enter Tryd.func5, Tryd.ntmps5
        go_wp2_with fail
        go_at_call 11
        refine (l4Action_calls 5 ch st false ns _ _ _ hn (h1.below bel0) (hA.at 0 rfl) (hA.at 1 rfl) (hA.at 2 rfl) (hA.at 3 rfl) (hA.at 4 rfl)).mono ?_
        rintro e w1 ⟨rfl, hw⟩
        rw [hw]
        clear hw w1
        rw [hc]
        have hA1 := hA.alloc (.cells #[.string ⟨#[110, 111, 110, 101]⟩, .string ⟨#[112, 114, 105, 110, 116]⟩, .string ⟨#[99, 111, 110, 116, 114, 111, 108]⟩, .string ⟨#[101, 115, 99, 97, 112, 101]⟩, .string ⟨#[112, 97, 114, 97, 109, 115]⟩, .string ⟨#[115, 101, 116]⟩] 9)
        have hR1 := hR.alloc (.cells #[.string ⟨#[110, 111, 110, 101]⟩, .string ⟨#[112, 114, 105, 110, 116]⟩, .string ⟨#[99, 111, 110, 116, 114, 111, 108]⟩, .string ⟨#[101, 115, 99, 97, 112, 101]⟩, .string ⟨#[112, 97, 114, 97, 109, 115]⟩, .string ⟨#[115, 101, 116]⟩] 9)
        have bel1 := bel0.alloc (by simp; omega) (.cells #[.string ⟨#[110, 111, 110, 101]⟩, .string ⟨#[112, 114, 105, 110, 116]⟩, .string ⟨#[99, 111, 110, 116, 114, 111, 108]⟩, .string ⟨#[101, 115, 99, 97, 112, 101]⟩, .string ⟨#[112, 97, 114, 97, 109, 115]⟩, .string ⟨#[115, 101, 116]⟩] 9)
        have a0 := hA1.at 0 rfl
        have a1 := hA1.at 1 rfl
        have a2 := hA1.at 2 rfl
        have a3 := hA1.at 3 rfl
        have a4 := hA1.at 4 rfl
        have b0 := hA.at 0 rfl
        go_wp2_with fail
        go_at_call 12
        refine (l1Digits_calls _ ch _ hch.1 (by omega) (Nat.le_refl _)).mono ?_
        rintro e w2 ⟨rfl, hb⟩
        replace hA := hA1.belowb hb
        replace hR := hR1.belowb hb
        have bel2 := bel1.trans (hb.mono (by simp; omega))
        clear hb hA1 hR1 bel1 bel0 a0 a1 a2 a3 a4 b0
        have a0 := hA.at 0 rfl
        have a1 := hA.at 1 rfl
        have a2 := hA.at 2 rfl
        have a3 := hA.at 3 rfl
        have a4 := hA.at 4 rfl
        obtain ⟨da, hda⟩ : ∃ x, Hid (strOfNums (digL ch) = x) := ⟨_, hide rfl⟩
        rw [hda.out]
        have sa : da.size ≤ 6 := by rw [← hda.out, strOfNums_size]; exact dig_len (by omega)
        have t1 : ¬ 9223372036854775807 < 4 + da.size := lim (by omega)
        have t2 : ¬ 9223372036854775807 < 4 + da.size + 1 := lim (by omega)
        go_wp2_with fail
        go_at_call 12
        refine (l1Digits_calls _ st _ (by omega) (by omega) (Nat.le_refl _)).mono ?_
        rintro e w3 ⟨rfl, hb⟩
        replace hA := hA.belowb hb
        replace hR := hR.belowb hb
        have bel3 := bel2.trans (hb.mono bel2.size)
        clear hb bel2 a0 a1 a2 a3 a4
        have a0 := hA.at 0 rfl
        have a1 := hA.at 1 rfl
        have a2 := hA.at 2 rfl
        have a3 := hA.at 3 rfl
        have a4 := hA.at 4 rfl
        obtain ⟨db, hdb⟩ : ∃ x, Hid (strOfNums (digL st) = x) := ⟨_, hide rfl⟩
        rw [hdb.out]
        have sb : db.size ≤ 6 := by rw [← hdb.out, strOfNums_size]; exact dig_len (by omega)
        have t3 : ¬ 9223372036854775807 < 4 + da.size + 1 + db.size := lim (by omega)
        have HT0 : (⟨#[115, 101, 116]⟩ : ByteArray) ++ ⟨#[32]⟩ ++ da ++ ⟨#[32]⟩ ++ db = strOfNums (textTo 5 ch st false ns 0) := by
          rw [← hda.out, ← hdb.out, show (⟨#[115, 101, 116]⟩ : ByteArray) = strOfNums [115, 101, 116] from rfl, show (⟨#[32]⟩ : ByteArray) = strOfNums [32] from rfl]
          simp only [str_app]
          try congr 1
          all_goals simp [textTo, wordsTo, words0, joinN, wordN, privL]
        have hlen := fun j hj => textTo_len hF j hj
        have hl6 := hF.l
        have hnn := hF.n
        have z0 : w.heap.size + 2 ≤ w3.heap.size := by have := hR.lt; have := bel3.size; omega
        clear hF hc
        go_wp2
        go_loopw [4, 5] (fun o i wr => ∃ j : Nat, j ≤ ns.length ∧ i = .int .i64 j ∧ o = .string (strOfNums (textTo 5 ch st false ns j)) ∧ Below w3.heap.size w3 wr) (fun _ i _ => ns.length - (intOf i).toNat)
        case atStart => exact ⟨0, Nat.zero_le _, rfl, by first | rfl | rw [HT0], Below.refl _ _⟩
        case round =>
          obtain ⟨j, hj, rfl, rfl, hb⟩ := hrel
          have hAr := hA.below hb hA.lt
          have hRr := hR.below hb hR.lt
          have c0 := hAr.at 0 rfl
          have c4 := hAr.at 4 rfl
          have belr := bel3.trans (hb.mono bel3.size)
          have hlj := hlen j hj
          obtain ⟨X, hX⟩ : ∃ X, Hid (textTo 5 ch st false ns j = X) := ⟨_, hide rfl⟩
          rw [hX.out] at hlj ⊢
          by_cases hlt : j < ns.length
          · have hltI : (j : Int) < (ns.length : Int) := by omega
            obtain ⟨b9, o9, e9, hcell⟩ := (h1.below belr).spot j hlt
            subst e9
            have hnj := hnn j hlt
            have hs := textTo_succ 5 ch st false ns j
            rw [hX.out] at hs
            obtain ⟨n0, hn0⟩ : ∃ z, ns.getD j 0 = z := ⟨_, rfl⟩
            rw [hn0] at hcell hnj hs
            have HS := hide hs
            obtain ⟨xs, hxs⟩ : ∃ z, Hid (strOfNums X = z) := ⟨_, hide rfl⟩
            have sx : xs.size = X.length := by rw [← hxs.out, strOfNums_size]
            rw [hxs.out]
            have u1 : ¬ 9223372036854775807 < xs.size + 1 := lim (by omega)
            clear hs hn0 hlen hnn
            go_wp2_with fail
            go_at_call 12
            refine (l1Digits_calls _ n0 _ hnj.1 (by omega) (Nat.le_refl _)).mono ?_
            rintro e w8 ⟨rfl, hb'⟩
            obtain ⟨dn, hdn⟩ : ∃ x, Hid (strOfNums (digL n0) = x) := ⟨_, hide rfl⟩
            rw [hdn.out]
            have sn : dn.size ≤ 6 := by rw [← hdn.out, strOfNums_size]; exact dig_len (by omega)
            have u2 : ¬ 9223372036854775807 < xs.size + 1 + dn.size := lim (by omega)
            have HX : xs ++ ⟨#[32]⟩ ++ dn = strOfNums (textTo 5 ch st false ns (j + 1)) := by
              rw [HS.out, ← hxs.out, ← hdn.out, show (⟨#[32]⟩ : ByteArray) = strOfNums [32] from rfl]
              simp only [str_app]
              congr 1
              simp
            have hb2 : Below w3.heap.size w3 w8 := hb.trans (hb'.mono hb.size)
            go_wp2
            go_roundw
            case rel => exact ⟨j + 1, by omega, by go_num, by first | rfl | rw [HX], hb2⟩
            case measure => simp [intOf]; omega
          · obtain rfl : j = ns.length := by omega
            obtain ⟨xs, hxs⟩ : ∃ z, Hid (strOfNums X = z) := ⟨_, hide rfl⟩
            rw [hxs.out]
            replace hR := hRr
            clear hRr
            have zr := hb.size
            go_wp2_with (first | fail | (refine wpList_build_at rfl 27 _ rfl #[.int .i64 0, .string xs] (by first | rfl | kernel_rfl) ?_; (try simp only [Act.put, List.setIfInBounds_toArray, List.set_cons_zero, List.set_cons_succ])) | (refine wpList_store_blk rfl _ _ _ rfl (w.heap.size + 1) 0 #[.int .i64 0, .string ⟨#[]⟩] #[.int .i64 0, .string xs] (.agg #[.int .i64 0, .string xs]) rfl rfl hR rfl (by kernel_rfl) rfl rfl ?_; (try simp only [Act.put, List.setIfInBounds_toArray, List.set_cons_zero, List.set_cons_succ]); clear hR; intro w9 hR hu))
            exact bodyPost_ret (results_blk hR _ _ rfl rfl Tryd.underlying27 rfl (by kernel_rfl)) rfl ⟨by rw [← hxs.out, ← hX.out], belr.trans (hu.below (by omega))⟩
      · have hch : 0 ≤ ch ∧ ch ≤ 65535 := by have := hF.c; omega
        have hst := hF.s rfl
        go_enter Tryd.func5, Tryd.ntmps5
        go_wp2_with fail
        go_at_call 11
        refine (l4Action_calls 5 ch st true ns _ _ _ hn (h1.below bel0) (hA.at 0 rfl) (hA.at 1 rfl) (hA.at 2 rfl) (hA.at 3 rfl) (hA.at 4 rfl)).mono ?_
        rintro e w1 ⟨rfl, hw⟩
        rw [hw]
        clear hw w1
        rw [hc]
        have hA1 := hA.alloc (.cells #[.string ⟨#[110, 111, 110, 101]⟩, .string ⟨#[112, 114, 105, 110, 116]⟩, .string ⟨#[99, 111, 110, 116, 114, 111, 108]⟩, .string ⟨#[101, 115, 99, 97, 112, 101]⟩, .string ⟨#[112, 97, 114, 97, 109, 115]⟩, .string ⟨#[115, 101, 116]⟩] 9)
        have hR1 := hR.alloc (.cells #[.string ⟨#[110, 111, 110, 101]⟩, .string ⟨#[112, 114, 105, 110, 116]⟩, .string ⟨#[99, 111, 110, 116, 114, 111, 108]⟩, .string ⟨#[101, 115, 99, 97, 112, 101]⟩, .string ⟨#[112, 97, 114, 97, 109, 115]⟩, .string ⟨#[115, 101, 116]⟩] 9)
        have bel1 := bel0.alloc (by simp; omega) (.cells #[.string ⟨#[110, 111, 110, 101]⟩, .string ⟨#[112, 114, 105, 110, 116]⟩, .string ⟨#[99, 111, 110, 116, 114, 111, 108]⟩, .string ⟨#[101, 115, 99, 97, 112, 101]⟩, .string ⟨#[112, 97, 114, 97, 109, 115]⟩, .string ⟨#[115, 101, 116]⟩] 9)
        have a0 := hA1.at 0 rfl
        have a1 := hA1.at 1 rfl
        have a2 := hA1.at 2 rfl
        have a3 := hA1.at 3 rfl
        have a4 := hA1.at 4 rfl
        have b0 := hA.at 0 rfl
        go_wp2_with fail
        go_at_call 12
        refine (l1Digits_calls _ ch _ hch.1 (by omega) (Nat.le_refl _)).mono ?_
        rintro e w2 ⟨rfl, hb⟩
        replace hA := hA1.belowb hb
        replace hR := hR1.belowb hb
        have bel2 := bel1.trans (hb.mono (by simp; omega))
        clear hb hA1 hR1 bel1 bel0 a0 a1 a2 a3 a4 b0
        have a0 := hA.at 0 rfl
        have a1 := hA.at 1 rfl
        have a2 := hA.at 2 rfl
        have a3 := hA.at 3 rfl
        have a4 := hA.at 4 rfl
        obtain ⟨da, hda⟩ : ∃ x, Hid (strOfNums (digL ch) = x) := ⟨_, hide rfl⟩
        rw [hda.out]
        have sa : da.size ≤ 6 := by rw [← hda.out, strOfNums_size]; exact dig_len (by omega)
        have t1 : ¬ 9223372036854775807 < 4 + da.size := lim (by omega)
        have t2 : ¬ 9223372036854775807 < 4 + da.size + 1 := lim (by omega)
        go_wp2_with fail
        go_at_call 12
        refine (l1Digits_calls _ st _ (by omega) (by omega) (Nat.le_refl _)).mono ?_
        rintro e w3 ⟨rfl, hb⟩
        replace hA := hA.belowb hb
        replace hR := hR.belowb hb
        have bel3 := bel2.trans (hb.mono bel2.size)
        clear hb bel2 a0 a1 a2 a3 a4
        have a0 := hA.at 0 rfl
        have a1 := hA.at 1 rfl
        have a2 := hA.at 2 rfl
        have a3 := hA.at 3 rfl
        have a4 := hA.at 4 rfl
        obtain ⟨db, hdb⟩ : ∃ x, Hid (strOfNums (digL st) = x) := ⟨_, hide rfl⟩
        rw [hdb.out]
        have sb : db.size ≤ 6 := by rw [← hdb.out, strOfNums_size]; exact dig_len (by omega)
        have t3 : ¬ 9223372036854775807 < 4 + da.size + 1 + db.size := lim (by omega)
        have t5 : ¬ 9223372036854775807 < 4 + da.size + 1 + db.size + 8 := lim (by omega)
        have HT0 : (⟨#[115, 101, 116]⟩ : ByteArray) ++ ⟨#[32]⟩ ++ da ++ ⟨#[32]⟩ ++ db ++ ⟨#[32, 112, 114, 105, 118, 97, 116, 101]⟩ = strOfNums (textTo 5 ch st true ns 0) := by
          rw [← hda.out, ← hdb.out, show (⟨#[115, 101, 116]⟩ : ByteArray) = strOfNums [115, 101, 116] from rfl, show (⟨#[32]⟩ : ByteArray) = strOfNums [32] from rfl, show (⟨#[32, 112, 114, 105, 118, 97, 116, 101]⟩ : ByteArray) = strOfNums [32, 112, 114, 105, 118, 97, 116, 101] from rfl]
          simp only [str_app]
          try congr 1
          all_goals simp [textTo, wordsTo, words0, joinN, wordN, privL]
        have hlen := fun j hj => textTo_len hF j hj
        have hl6 := hF.l
        have hnn := hF.n
        have z0 : w.heap.size + 2 ≤ w3.heap.size := by have := hR.lt; have := bel3.size; omega
        clear hF hc
        go_wp2
        go_loopw [4, 5] (fun o i wr => ∃ j : Nat, j ≤ ns.length ∧ i = .int .i64 j ∧ o = .string (strOfNums (textTo 5 ch st true ns j)) ∧ Below w3.heap.size w3 wr) (fun _ i _ => ns.length - (intOf i).toNat)
        case atStart => exact ⟨0, Nat.zero_le _, rfl, by first | rfl | rw [HT0], Below.refl _ _⟩
        case round =>
          obtain ⟨j, hj, rfl, rfl, hb⟩ := hrel
          have hAr := hA.below hb hA.lt
          have hRr := hR.below hb hR.lt
          have c0 := hAr.at 0 rfl
          have c4 := hAr.at 4 rfl
          have belr := bel3.trans (hb.mono bel3.size)
          have hlj := hlen j hj
          obtain ⟨X, hX⟩ : ∃ X, Hid (textTo 5 ch st true ns j = X) := ⟨_, hide rfl⟩
          rw [hX.out] at hlj ⊢
          by_cases hlt : j < ns.length
          · have hltI : (j : Int) < (ns.length : Int) := by omega
            obtain ⟨b9, o9, e9, hcell⟩ := (h1.below belr).spot j hlt
            subst e9
            have hnj := hnn j hlt
            have hs := textTo_succ 5 ch st true ns j
            rw [hX.out] at hs
            obtain ⟨n0, hn0⟩ : ∃ z, ns.getD j 0 = z := ⟨_, rfl⟩
            rw [hn0] at hcell hnj hs
            have HS := hide hs
            obtain ⟨xs, hxs⟩ : ∃ z, Hid (strOfNums X = z) := ⟨_, hide rfl⟩
            have sx : xs.size = X.length := by rw [← hxs.out, strOfNums_size]
            rw [hxs.out]
            have u1 : ¬ 9223372036854775807 < xs.size + 1 := lim (by omega)
            clear hs hn0 hlen hnn
            go_wp2_with fail
            go_at_call 12
            refine (l1Digits_calls _ n0 _ hnj.1 (by omega) (Nat.le_refl _)).mono ?_
            rintro e w8 ⟨rfl, hb'⟩
            obtain ⟨dn, hdn⟩ : ∃ x, Hid (strOfNums (digL n0) = x) := ⟨_, hide rfl⟩
            rw [hdn.out]
            have sn : dn.size ≤ 6 := by rw [← hdn.out, strOfNums_size]; exact dig_len (by omega)
            have u2 : ¬ 9223372036854775807 < xs.size + 1 + dn.size := lim (by omega)
            have HX : xs ++ ⟨#[32]⟩ ++ dn = strOfNums (textTo 5 ch st true ns (j + 1)) := by
              rw [HS.out, ← hxs.out, ← hdn.out, show (⟨#[32]⟩ : ByteArray) = strOfNums [32] from rfl]
              simp only [str_app]
              congr 1
              simp
            have hb2 : Below w3.heap.size w3 w8 := hb.trans (hb'.mono hb.size)
            go_wp2
            go_roundw
            case rel => exact ⟨j + 1, by omega, by go_num, by first | rfl | rw [HX], hb2⟩
            case measure => simp [intOf]; omega
          · obtain rfl : j = ns.length := by omega
            obtain ⟨xs, hxs⟩ : ∃ z, Hid (strOfNums X = z) := ⟨_, hide rfl⟩
            rw [hxs.out]
            replace hR := hRr
            clear hRr
            have zr := hb.size
            go_wp2_with (first | fail | (refine wpList_build_at rfl 27 _ rfl #[.int .i64 0, .string xs] (by first | rfl | kernel_rfl) ?_; (try simp only [Act.put, List.setIfInBounds_toArray, List.set_cons_zero, List.set_cons_succ])) | (refine wpList_store_blk rfl _ _ _ rfl (w.heap.size + 1) 0 #[.int .i64 0, .string ⟨#[]⟩] #[.int .i64 0, .string xs] (.agg #[.int .i64 0, .string xs]) rfl rfl hR rfl (by kernel_rfl) rfl rfl ?_; (try simp only [Act.put, List.setIfInBounds_toArray, List.set_cons_zero, List.set_cons_succ]); clear hR; intro w9 hR hu))
            exact bodyPost_ret (results_blk hR _ _ rfl rfl Tryd.underlying27 rfl (by kernel_rfl)) rfl ⟨by rw [← hxs.out, ← hX.out], belr.trans (hu.below (by omega))⟩
  · rw [if_neg hc]
    obtain ⟨code, hcd⟩ : ∃ c, actCode kd ch st pv ns = c := ⟨_, rfl⟩
    rw [hcd]
    have hne : (code != 0) = true := by rw [← hcd]; simpa using hc
    have HC := hide hcd
    clear hc hcd
    go_enter Tryd.func5, Tryd.ntmps5
    go_wp2_with fail
    go_at_call 11
    refine (l4Action_calls kd ch st pv ns _ _ _ hn (h1.below bel0) (hA.at 0 rfl) (hA.at 1 rfl) (hA.at 2 rfl) (hA.at 3 rfl) (hA.at 4 rfl)).mono ?_
    rintro e w1 ⟨rfl, hw⟩
    rw [hw]
    clear hw w1
    rw [HC.out]
    go_wp2_with (first | (refine wpList_build_at rfl 27 _ rfl #[.int .i64 code, .string ⟨#[]⟩] (by first | rfl | kernel_rfl) ?_; (try simp only [Act.put, List.setIfInBounds_toArray, List.set_cons_zero, List.set_cons_succ])) | (refine wpList_store_blk rfl _ _ _ rfl (w.heap.size + 1) 0 #[.int .i64 0, .string ⟨#[]⟩] #[.int .i64 code, .string ⟨#[]⟩] (.agg #[.int .i64 code, .string ⟨#[]⟩]) rfl rfl hR rfl (by kernel_rfl) rfl rfl ?_; (try simp only [Act.put, List.setIfInBounds_toArray, List.set_cons_zero, List.set_cons_succ]); clear hR; intro w9 hR hu))
    exact bodyPost_ret (results_blk hR _ _ rfl rfl Tryd.underlying27 rfl (by kernel_rfl)) rfl ⟨rfl, bel0.trans (hu.below (by omega))⟩
end Go.Proofs.YtbeidafmnbjibabDoor
