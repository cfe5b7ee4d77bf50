/-
  What ScrollGrid answers, of the model: one row at a time (spec.l3Scroll), so many times (spec.l3Many).
-/
import Derived.Test.YtbndncfkkhjkoaiKeepFns
namespace Go.Proofs.Ytbndncfkkhjkoai
open Go.ChangeShapes Go.WideShapes Go.ChangeAt Go.RowKit
set_option linter.unusedVariables false
set_option linter.unusedSimpArgs false
set_option maxRecDepth 20000

theorem l1Min_calls (a b : Int) (w : World) : Calls Try.prog 72 #[.int .i64 a, .int .i64 b] w fun e w' => e = .returned (.int .i64 (min a b)) ∧ w' = w := by
  by_cases h : a < b
  · go_enter Try.func72, Try.ntmps72
    go_wp2
    go_ret
    exact ⟨by rw [show min a b = a by omega]; rfl, rfl⟩
  · go_enter Try.func72, Try.ntmps72
    go_wp2
    go_ret
    exact ⟨by rw [show min a b = b by omega]; rfl, rfl⟩
def upF (T W y : Nat) (f : Nat → Int × Int) (i : Nat) : Int × Int := if T * W ≤ i ∧ i < y * W then f (i + W) else f i
def dnF (B W y : Nat) (f : Nat → Int × Int) (i : Nat) : Int × Int := if (y + 1) * W ≤ i ∧ i < (B + 1) * W then f (i - W) else f i
theorem upF_first (T W : Nat) (f : Nat → Int × Int) (i : Nat) : f i = upF T W T f i := by
  unfold upF
  rw [if_neg (by omega)]
theorem upF_step {T W y : Nat} {f : Nat → Int × Int} (h : T ≤ y) (i : Nat) : (if y * W ≤ i ∧ i < y * W + W then upF T W y f ((y + 1) * W + (i - y * W)) else upF T W y f i) = upF T W (y + 1) f i := by
  have h1 : (y + 1) * W = y * W + W := by rw [Nat.add_mul, Nat.one_mul]
  have h2 : T * W ≤ y * W := Nat.mul_le_mul_right W h
  unfold upF
  rw [h1]
  by_cases e : y * W ≤ i ∧ i < y * W + W
  · rw [if_pos e, if_neg (by omega), if_pos (by omega), show y * W + W + (i - y * W) = i + W by omega]
  · rw [if_neg e]
    by_cases e2 : T * W ≤ i ∧ i < y * W
    · rw [if_pos e2, if_pos (by omega)]
    · rw [if_neg e2, if_neg (by omega)]
theorem upF_last {T B W : Nat} {f : Nat → Int × Int} {bl : Int × Int} (h : T ≤ B) (i : Nat) : (if B * W ≤ i ∧ i < B * W + W then bl else upF T W B f i) = scrollF (T * W) ((B + 1 - T) * W) (W : Int) f bl i := by
  have h2 : T * W ≤ B * W := Nat.mul_le_mul_right W h
  unfold upF scrollF slideF
  rw [Nat.sub_mul, Nat.add_mul, Nat.one_mul]
  by_cases e : B * W ≤ i ∧ i < B * W + W
  · rw [if_pos e, if_pos (by omega), if_neg (by omega)]
  · rw [if_neg e]
    by_cases e2 : T * W ≤ i ∧ i < B * W
    · rw [if_pos e2, if_pos (by omega), if_pos (by omega)]
      dsimp only
      rw [show T * W + (((i - T * W : Nat) : Int) + (W : Int)).toNat = i + W by omega]
    · rw [if_neg e2, if_neg (by omega)]
theorem dnF_first (B W : Nat) (f : Nat → Int × Int) (i : Nat) : f i = dnF B W B f i := by
  unfold dnF
  rw [if_neg (by omega)]
theorem dnF_step {B W y : Nat} {f : Nat → Int × Int} (h : 0 < y) (hB : y ≤ B) (i : Nat) : (if y * W ≤ i ∧ i < y * W + W then dnF B W y f ((y - 1) * W + (i - y * W)) else dnF B W y f i) = dnF B W (y - 1) f i := by
  have h1 : y * W = (y - 1) * W + W := by
    obtain ⟨z, rfl⟩ : ∃ z, y = z + 1 := ⟨y - 1, by omega⟩
    rw [Nat.add_sub_cancel, Nat.add_mul, Nat.one_mul]
  have h2 : (y + 1) * W ≤ (B + 1) * W := Nat.mul_le_mul_right W (by omega)
  have h3 : (y + 1) * W = y * W + W := by rw [Nat.add_mul, Nat.one_mul]
  unfold dnF
  rw [show y - 1 + 1 = y by omega]
  by_cases e : y * W ≤ i ∧ i < y * W + W
  · rw [if_pos e, if_neg (by omega), if_pos (by omega), show (y - 1) * W + (i - y * W) = i - W by omega]
  · rw [if_neg e]
    by_cases e2 : (y + 1) * W ≤ i ∧ i < (B + 1) * W
    · rw [if_pos e2, if_pos (by omega)]
    · rw [if_neg e2, if_neg (by omega)]
theorem dnF_last {T B W : Nat} {f : Nat → Int × Int} {bl : Int × Int} (h : T ≤ B) (i : Nat) : (if T * W ≤ i ∧ i < T * W + W then bl else dnF B W T f i) = scrollF (T * W) ((B + 1 - T) * W) (-(W : Int)) f bl i := by
  have h2 : T * W ≤ B * W := Nat.mul_le_mul_right W h
  unfold dnF scrollF slideF
  rw [Nat.sub_mul, Nat.add_mul, Nat.one_mul, Nat.add_mul, Nat.one_mul]
  by_cases e : T * W ≤ i ∧ i < T * W + W
  · rw [if_pos e, if_pos (by omega), if_neg (by omega)]
  · rw [if_neg e]
    by_cases e2 : T * W + W ≤ i ∧ i < B * W + W
    · rw [if_pos e2, if_pos (by omega), if_pos (by omega)]
      dsimp only
      rw [show T * W + (((i - T * W : Nat) : Int) + -(W : Int)).toNat = i - W by omega]
    · rw [if_neg e2, if_neg (by omega)]
theorem rep_get (n : Nat) (x : Int × Int) (i : Nat) (h : i < n) : (List.replicate n x).getD i (0, 0) = x := by simp [List.getD_eq_getElem?_getD, h]

set_option maxHeartbeats 2000000 in
theorem l3Scroll_down (B0 pb bx N cx T B W Hb : Nat) (r at' : Int) (f : Nat → Int × Int) (bs : List (Int × Int)) (w : World) (st : GSt B0 pb bx N cx r (W : Int) f bs w) (hcx : N ≤ cx) (hN : N ≤ 72) (h2 : 2 ≤ W) (h12 : W ≤ 12) (hTB : T ≤ B) (hB5 : B ≤ 5) (hBN : (B + 1) * W ≤ N) :
    Calls Try.prog 73 #[.pointer (some ⟨pb, 0, none⟩), .int .i64 T, .int .i64 B, .bool false, .int .i64 at'] w fun e w' => (∃ u, e = .returned u) ∧ GSt B0 pb bx N cx r (W : Int) (scrollF (T * W) ((B + 1 - T) * W) (-(W : Int)) f (32, at')) bs w' ∧ Below B0 w w' := by
  have HS := hide st
  have HBL : Hid (Below B0 w w) := hide (Below.refl _ _)
  clear st
  go_enter Try.func73, Try.ntmps73
  go_wp2
  go_loopw [11] (fun i wr => ∃ y : Nat, T ≤ y ∧ y ≤ B ∧ i = .int .i64 y ∧ Hid (GSt B0 pb bx N cx r (W : Int) (dnF B W y f) bs wr) ∧ Hid (Below B0 w wr)) (fun i _ => (intOf i).toNat)
  case atStart => exact ⟨B, hTB, Nat.le_refl _, rfl, hide (HS.out.congr (fun i _ => dnF_first B W f i)), HBL⟩
  case round =>
    obtain ⟨y, hy1, hy2, rfl, hst, hbl⟩ := hrel
    by_cases hlt : T < y
    · have hltI : (T : Int) < (y : Int) := by omega
      have e1 : y * W = (y - 1) * W + W := by
        obtain ⟨z, hz⟩ : ∃ z, y = z + 1 := ⟨y - 1, by omega⟩
        rw [hz, Nat.add_sub_cancel, Nat.add_mul, Nat.one_mul]
      have e2 : (y + 1) * W ≤ (B + 1) * W := Nat.mul_le_mul_right W (by omega)
      have RBN : y * W + W ≤ N := by rw [Nat.add_mul, Nat.one_mul] at e2; omega
      have FBN : (y - 1) * W + W ≤ N := by omega
      have ey : (y : Int) - 1 = ((y - 1 : Nat) : Int) := by omega
      have EY := hide ey
      clear e1 e2 ey
      have s1 := hst.out.s1
      have s2 := hst.out.s2
      go_wp2_with fail
      refine (l3RowOf_calls pb bx N cx ((y - 1) * W) W ((y - 1) * W + W) ((y : Int) - 1) (W : Int) _ wr s1 s2 hst.out.row.read hcx (by rw [Int.natCast_mul, EY.out]) rfl rfl FBN (by omega) (by omega) (by omega) (by omega)).mono ?_
      rintro e w2 ⟨v, rfl, ov, hb2⟩
      obtain ⟨br, cr, rfl, hcr, _, u1, u2, hrv⟩ := own_row ov (by omega)
      have st2 := hide (hst.out.below hb2)
      have bl2 := hide (hbl.out.trans (hb2.mono hst.out.base))
      have rv := hide (hrv.congr (fun i hi => mkL_get _ _ _ hi))
      clear hrv ov hb2 hst hbl s1 s2
      go_wp2_with fail
      refine (l3Row_calls pb bx N cx (y * W) W (y * W + W) br W cr W (y : Int) (W : Int) _ _ w2 st2.out.s1 st2.out.s2 st2.out.row hcx st2.out.lo.2.2.1 rv.out.read (by rw [Int.natCast_mul]) rfl rfl RBN (by omega) (by omega) (by omega) (by omega) (by omega)).mono ?_
      rintro e w3 ⟨⟨u3, rfl⟩, hr3, ht3⟩
      have H3 := hide (st2.out.touch ht3 hr3)
      have B3 := hide (bl2.out.trans (ht3.below st2.out.lo.2.1 st2.out.base))
      clear hr3 ht3 st2 bl2 rv
      go_wp2
      go_roundw
      case rel => exact ⟨y - 1, by omega, by omega, by first | rfl | go_num | (rw [EY.out]), hide (H3.out.congr (fun i _ => dnF_step (by omega) hy2 i)), B3⟩
      case measure => simp [intOf]; omega
    · obtain rfl : y = T := by omega
      have hge : ¬ ((y : Int) < (y : Int)) := by omega
      have RBN : y * W + W ≤ N := by have := Nat.mul_le_mul_right W (show y + 1 ≤ B + 1 by omega); rw [Nat.add_mul, Nat.one_mul] at this; omega
      have s1 := hst.out.s1
      go_wp2_with fail
      refine (l3Blanks_calls W at' (by omega) wr).mono ?_
      rintro e w2 ⟨v, rfl, ov, hb2⟩
      obtain ⟨br, cr, rfl, hcr, _, u1, u2, hrv⟩ := own_row ov (by omega)
      have st2 := hide (hst.out.below hb2)
      have bl2 := hide (hbl.out.trans (hb2.mono hst.out.base))
      have rv := hide (hrv.congr (g := fun _ => (32, at')) (fun i hi => rep_get _ _ _ hi))
      clear hrv ov hb2 hst hbl s1
      go_wp2_with fail
      refine (l3Row_calls pb bx N cx (y * W) W (y * W + W) br W cr W (y : Int) (W : Int) _ _ w2 st2.out.s1 st2.out.s2 st2.out.row hcx st2.out.lo.2.2.1 rv.out.read (by rw [Int.natCast_mul]) rfl rfl RBN (by omega) (by omega) (by omega) (by omega) (by omega)).mono ?_
      rintro e w3 ⟨⟨u3, rfl⟩, hr3, ht3⟩
      have H3 := hide (st2.out.touch ht3 hr3)
      have B3 := hide (bl2.out.trans (ht3.below st2.out.lo.2.1 st2.out.base))
      clear hr3 ht3 st2 bl2 rv
      go_wp2
      go_end0
      exact ⟨⟨_, rfl⟩, H3.out.congr (fun i _ => dnF_last hTB i), B3.out⟩
set_option maxHeartbeats 2000000 in
theorem l3Scroll_low (B0 pb bx N cx T B W Hb : Nat) (r at' : Int) (f : Nat → Int × Int) (bs : List (Int × Int)) (w : World) (st : GSt B0 pb bx N cx r (W : Int) f bs w) (hcx : N ≤ cx) (hN : N ≤ 72) (h2 : 2 ≤ W) (h12 : W ≤ 12) (hTB : T ≤ B) (hB5 : B ≤ 5) (hBN : (B + 1) * W ≤ N) (hT : ¬ T = 0) :
    Calls Try.prog 73 #[.pointer (some ⟨pb, 0, none⟩), .int .i64 T, .int .i64 B, .bool true, .int .i64 at'] w fun e w' => (∃ u, e = .returned u) ∧ GSt B0 pb bx N cx r (W : Int) (scrollF (T * W) ((B + 1 - T) * W) (W : Int) f (32, at')) bs w' ∧ Below B0 w w' := by
  have HS := hide st
  have HBL : Hid (Below B0 w w) := hide (Below.refl _ _)
  have hT0 : ((T : Int) == 0) = false := by rw [beq_eq_false_iff_ne]; omega
  clear st
  go_enter Try.func73, Try.ntmps73
  go_wp2
  go_loopw [10] (fun i wr => ∃ y : Nat, T ≤ y ∧ y ≤ B ∧ i = .int .i64 y ∧ Hid (GSt B0 pb bx N cx r (W : Int) (upF T W y f) bs wr) ∧ Hid (Below B0 w wr)) (fun i _ => B - (intOf i).toNat)
  case atStart => exact ⟨T, Nat.le_refl _, hTB, rfl, hide (HS.out.congr (fun i _ => upF_first T W f i)), HBL⟩
  case round =>
    obtain ⟨y, hy1, hy2, rfl, hst, hbl⟩ := hrel
    by_cases hlt : y < B
    · have hltI : (y : Int) < (B : Int) := by omega
      have e1 : (y + 1) * W = y * W + W := by rw [Nat.add_mul, Nat.one_mul]
      have e2 : (y + 1) * W + W ≤ (B + 1) * W := by have := Nat.mul_le_mul_right W (show y + 2 ≤ B + 1 by omega); rw [Nat.add_mul] at this; omega
      have FBN : (y + 1) * W + W ≤ N := by omega
      have RBN : y * W + W ≤ N := by omega
      clear e1 e2
      have s1 := hst.out.s1
      have s2 := hst.out.s2
      go_wp2_with fail
      refine (l3RowOf_calls pb bx N cx ((y + 1) * W) W ((y + 1) * W + W) ((y : Int) + 1) (W : Int) _ wr s1 s2 hst.out.row.read hcx (by rw [Int.natCast_mul, Int.natCast_add]; rfl) rfl rfl FBN (by omega) (by omega) (by omega) (by omega)).mono ?_
      rintro e w2 ⟨v, rfl, ov, hb2⟩
      obtain ⟨br, cr, rfl, hcr, _, u1, u2, hrv⟩ := own_row ov (by omega)
      have st2 := hide (hst.out.below hb2)
      have bl2 := hide (hbl.out.trans (hb2.mono hst.out.base))
      have rv := hide (hrv.congr (fun i hi => mkL_get _ _ _ hi))
      clear hrv ov hb2 hst hbl s1 s2
      go_wp2_with fail
      refine (l3Row_calls pb bx N cx (y * W) W (y * W + W) br W cr W (y : Int) (W : Int) _ _ w2 st2.out.s1 st2.out.s2 st2.out.row hcx st2.out.lo.2.2.1 rv.out.read (by rw [Int.natCast_mul]) rfl rfl RBN (by omega) (by omega) (by omega) (by omega) (by omega)).mono ?_
      rintro e w3 ⟨⟨u3, rfl⟩, hr3, ht3⟩
      have H3 := hide (st2.out.touch ht3 hr3)
      have B3 := hide (bl2.out.trans (ht3.below st2.out.lo.2.1 st2.out.base))
      clear hr3 ht3 st2 bl2 rv
      go_wp2
      go_roundw
      case rel => exact ⟨y + 1, by omega, by omega, by go_num, hide (H3.out.congr (fun i _ => upF_step hy1 i)), B3⟩
      case measure => simp [intOf]; omega
    · obtain rfl : y = B := by omega
      have hge : ¬ ((y : Int) < (y : Int)) := by omega
      have RBN : y * W + W ≤ N := by rw [Nat.add_mul, Nat.one_mul] at hBN; exact hBN
      have s1 := hst.out.s1
      go_wp2_with fail
      refine (l3Blanks_calls W at' (by omega) wr).mono ?_
      rintro e w2 ⟨v, rfl, ov, hb2⟩
      obtain ⟨br, cr, rfl, hcr, _, u1, u2, hrv⟩ := own_row ov (by omega)
      have st2 := hide (hst.out.below hb2)
      have bl2 := hide (hbl.out.trans (hb2.mono hst.out.base))
      have rv := hide (hrv.congr (g := fun _ => (32, at')) (fun i hi => rep_get _ _ _ hi))
      clear hrv ov hb2 hst hbl s1
      go_wp2_with fail
      refine (l3Row_calls pb bx N cx (y * W) W (y * W + W) br W cr W (y : Int) (W : Int) _ _ w2 st2.out.s1 st2.out.s2 st2.out.row hcx st2.out.lo.2.2.1 rv.out.read (by rw [Int.natCast_mul]) rfl rfl RBN (by omega) (by omega) (by omega) (by omega) (by omega)).mono ?_
      rintro e w3 ⟨⟨u3, rfl⟩, hr3, ht3⟩
      have H3 := hide (st2.out.touch ht3 hr3)
      have B3 := hide (bl2.out.trans (ht3.below st2.out.lo.2.1 st2.out.base))
      clear hr3 ht3 st2 bl2 rv
      go_wp2
      refine bodyPost_ret (results_none rfl _ _ _) rfl ?_
      exact ⟨⟨_, rfl⟩, H3.out.congr (fun i _ => upF_last hTB i), B3.out⟩
set_option maxHeartbeats 2000000 in
theorem l3Scroll_top (B0 pb bx N cx B W Hb : Nat) (r at' : Int) (f : Nat → Int × Int) (bs : List (Int × Int)) (w : World) (st : GSt B0 pb bx N cx r (W : Int) f bs w) (hcx : N ≤ cx) (hN : N ≤ 72) (h2 : 2 ≤ W) (h12 : W ≤ 12) (hTB : 0 ≤ B) (hB5 : B ≤ 5) (hBN : (B + 1) * W ≤ N) (hb : bs.length = Hb * W) (h5 : Hb ≤ 5) :
    Calls Try.prog 73 #[.pointer (some ⟨pb, 0, none⟩), .int .i64 0, .int .i64 B, .bool true, .int .i64 at'] w fun e w' => (∃ u, e = .returned u) ∧ GSt B0 pb bx N cx r (W : Int) (scrollF (0 * W) ((B + 1 - 0) * W) (W : Int) f (32, at')) (lastL (5 * W) (bs ++ mkL W f)) w' ∧ Below B0 w w' := by
  have HS := hide st
  have HB := hide hb
  have hWN : W ≤ N := by have := Nat.mul_le_mul_right W (show 1 ≤ B + 1 by omega); omega
  have s1 := st.s1
  have s2 := st.s2
  clear st hb
  go_enter Try.func73, Try.ntmps73
  go_wp2_with fail
  refine (l3RowOf_calls pb bx N cx 0 W W 0 (W : Int) f w s1 s2 HS.out.row.read hcx (by simp) rfl (by omega) hWN (by omega) (by omega) (by omega) (by omega)).mono ?_
  rintro e w1 ⟨v, rfl, ov, hb1⟩
  obtain ⟨br, cr, rfl, hcr, _, u1, u2, hrv⟩ := own_row ov (by omega)
  have bl1 := hide (hb1.mono HS.out.base)
  replace HS := hide (HS.out.below hb1)
  have rv := hide (hrv.congr (fun i hi => mkL_get _ _ _ hi))
  clear hrv ov hb1 s1 s2
  go_wp2_with fail
  refine (l3Keep_calls B0 pb bx N cx br cr W Hb r f _ bs w1 HS.out rv.out.read h2 h12 HB.out h5).mono ?_
  rintro e w9 ⟨⟨u9, rfl⟩, st9, hb9⟩
  rw [mkL_congr (g := f) (fun i _ => by rw [Nat.zero_add])] at st9
  replace HS := hide st9
  have HBL := hide (bl1.out.trans hb9)
  clear st9 hb9 bl1 rv
  go_wp2
  go_loopw [10] (fun i wr => ∃ y : Nat, 0 ≤ y ∧ y ≤ B ∧ i = .int .i64 y ∧ Hid (GSt B0 pb bx N cx r (W : Int) (upF 0 W y f) (lastL (5 * W) (bs ++ mkL W f)) wr) ∧ Hid (Below B0 w wr)) (fun i _ => B - (intOf i).toNat)
  case atStart => exact ⟨0, Nat.le_refl _, hTB, rfl, hide (HS.out.congr (fun i _ => upF_first 0 W f i)), HBL⟩
  case round =>
    obtain ⟨y, hy1, hy2, rfl, hst, hbl⟩ := hrel
    by_cases hlt : y < B
    · have hltI : (y : Int) < (B : Int) := by omega
      have e1 : (y + 1) * W = y * W + W := by rw [Nat.add_mul, Nat.one_mul]
      have e2 : (y + 1) * W + W ≤ (B + 1) * W := by have := Nat.mul_le_mul_right W (show y + 2 ≤ B + 1 by omega); rw [Nat.add_mul] at this; omega
      have FBN : (y + 1) * W + W ≤ N := by omega
      have RBN : y * W + W ≤ N := by omega
      clear e1 e2
      have s1 := hst.out.s1
      have s2 := hst.out.s2
      go_wp2_with fail
      refine (l3RowOf_calls pb bx N cx ((y + 1) * W) W ((y + 1) * W + W) ((y : Int) + 1) (W : Int) _ wr s1 s2 hst.out.row.read hcx (by rw [Int.natCast_mul, Int.natCast_add]; rfl) rfl rfl FBN (by omega) (by omega) (by omega) (by omega)).mono ?_
      rintro e w2 ⟨v, rfl, ov, hb2⟩
      obtain ⟨br, cr, rfl, hcr, _, u1, u2, hrv⟩ := own_row ov (by omega)
      have st2 := hide (hst.out.below hb2)
      have bl2 := hide (hbl.out.trans (hb2.mono hst.out.base))
      have rv := hide (hrv.congr (fun i hi => mkL_get _ _ _ hi))
      clear hrv ov hb2 hst hbl s1 s2
      go_wp2_with fail
      refine (l3Row_calls pb bx N cx (y * W) W (y * W + W) br W cr W (y : Int) (W : Int) _ _ w2 st2.out.s1 st2.out.s2 st2.out.row hcx st2.out.lo.2.2.1 rv.out.read (by rw [Int.natCast_mul]) rfl rfl RBN (by omega) (by omega) (by omega) (by omega) (by omega)).mono ?_
      rintro e w3 ⟨⟨u3, rfl⟩, hr3, ht3⟩
      have H3 := hide (st2.out.touch ht3 hr3)
      have B3 := hide (bl2.out.trans (ht3.below st2.out.lo.2.1 st2.out.base))
      clear hr3 ht3 st2 bl2 rv
      go_wp2
      go_roundw
      case rel => exact ⟨y + 1, by omega, by omega, by go_num, hide (H3.out.congr (fun i _ => upF_step hy1 i)), B3⟩
      case measure => simp [intOf]; omega
    · obtain rfl : y = B := by omega
      have hge : ¬ ((y : Int) < (y : Int)) := by omega
      have RBN : y * W + W ≤ N := by rw [Nat.add_mul, Nat.one_mul] at hBN; exact hBN
      have s1 := hst.out.s1
      go_wp2_with fail
      refine (l3Blanks_calls W at' (by omega) wr).mono ?_
      rintro e w2 ⟨v, rfl, ov, hb2⟩
      obtain ⟨br, cr, rfl, hcr, _, u1, u2, hrv⟩ := own_row ov (by omega)
      have st2 := hide (hst.out.below hb2)
      have bl2 := hide (hbl.out.trans (hb2.mono hst.out.base))
      have rv := hide (hrv.congr (g := fun _ => (32, at')) (fun i hi => rep_get _ _ _ hi))
      clear hrv ov hb2 hst hbl s1
      go_wp2_with fail
      refine (l3Row_calls pb bx N cx (y * W) W (y * W + W) br W cr W (y : Int) (W : Int) _ _ w2 st2.out.s1 st2.out.s2 st2.out.row hcx st2.out.lo.2.2.1 rv.out.read (by rw [Int.natCast_mul]) rfl rfl RBN (by omega) (by omega) (by omega) (by omega) (by omega)).mono ?_
      rintro e w3 ⟨⟨u3, rfl⟩, hr3, ht3⟩
      have H3 := hide (st2.out.touch ht3 hr3)
      have B3 := hide (bl2.out.trans (ht3.below st2.out.lo.2.1 st2.out.base))
      clear hr3 ht3 st2 bl2 rv
      go_wp2
      refine bodyPost_ret (results_none rfl _ _ _) rfl ?_
      exact ⟨⟨_, rfl⟩, H3.out.congr (fun i _ => upF_last hTB i), B3.out⟩
theorem scrollB_zero {W T : Nat} {f : Nat → Int × Int} {bs : List (Int × Int)} (h : bs.length ≤ 5 * W) : scrollB W T 0 f bs = bs := by
  unfold scrollB
  split
  · rw [lastL_short (by rw [List.length_append, mkL_length]; omega)]
    simp [mkL]
  · rfl
theorem scrollB_length {W T Hb k : Nat} {f : Nat → Int × Int} {bs : List (Int × Int)} (hb : bs.length = Hb * W) (h5 : Hb ≤ 5) : ∃ H, H ≤ 5 ∧ (scrollB W T k f bs).length = H * W := by
  unfold scrollB
  split
  · rw [lastL_length, List.length_append, mkL_length, hb, ← Nat.add_mul]
    rcases Nat.lt_or_ge (Hb + k) 5 with h | h
    · exact ⟨Hb + k, by omega, by have := Nat.mul_le_mul_right W (show Hb + k ≤ 5 by omega); omega⟩
    · exact ⟨5, by omega, by have := Nat.mul_le_mul_right W (show 5 ≤ Hb + k by omega); omega⟩
  · exact ⟨Hb, h5, hb⟩
theorem scroll_first {W L k : Nat} {f : Nat → Int × Int} {bl : Int × Int} (h : k * W + W ≤ L) (i : Nat) (hi : i < W) : scrollF (0 * W) L ((k * W : Nat) : Int) f bl i = f (k * W + i) := by
  unfold scrollF slideF
  rw [Nat.zero_mul, if_pos (by omega), if_pos (by omega)]
  dsimp only
  rw [show 0 + (((i - 0 : Nat) : Int) + ((k * W : Nat) : Int)).toNat = k * W + i by omega]

set_option maxHeartbeats 2000000 in
theorem l3Many_down (B0 pb bx N cx T B W Hb c : Nat) (r at' n : Int) (f : Nat → Int × Int) (bs : List (Int × Int)) (w : World) (st : GSt B0 pb bx N cx r (W : Int) f bs w) (hcx : N ≤ cx) (hN : N ≤ 72) (h2 : 2 ≤ W) (h12 : W ≤ 12) (hTB : T ≤ B) (hB5 : B ≤ 5) (hBN : (B + 1) * W ≤ N) (hb : bs.length = Hb * W) (h5 : Hb ≤ 5) (nn : Nat) (hn : n = -(nn : Int)) (hn0 : 0 < nn) (hn9 : nn ≤ 9) (hc : c = min nn (B + 1 - T)) :
    Calls Try.prog 52 #[.pointer (some ⟨pb, 0, none⟩), .int .i64 T, .int .i64 B, .int .i64 n, .int .i64 at'] w fun e w' => (∃ u, e = .returned u) ∧ GSt B0 pb bx N cx r (W : Int) (scrollF (T * W) ((B + 1 - T) * W) (-((c * W : Nat) : Int)) f (32, at')) bs w' ∧ Below B0 w w' := by
  have HS := hide st
  have HB := hide hb
  clear st hb
  have hmin : min (nn : Int) ((B : Int) - (T : Int) + 1) = (c : Int) := by omega
  have hneg : -(nn : Int) < 0 := by omega
  have hneg2 : ¬ (0 : Int) < -(nn : Int) := by omega
  have hcl : c ≤ B + 1 - T := by omega
  subst hn
  clear hc
  go_enter Try.func52, Try.ntmps52
  go_wp2_with fail
  refine (l1Min_calls _ _ w).mono ?_
  rintro e w' ⟨rfl, hw⟩
  rw [hw]
  clear hw w'
  rw [hmin]
  clear hmin
  go_wp2
  go_loopw [3] (fun i wr => ∃ j k : Nat, j + k = c ∧ i = .int .i64 j ∧ Hid (GSt B0 pb bx N cx r (W : Int) (scrollF (T * W) ((B + 1 - T) * W) (-((k * W : Nat) : Int)) f (32, at')) bs wr) ∧ Hid (Below B0 w wr)) (fun i _ => (intOf i).toNat)
  case atStart => exact ⟨c, 0, by omega, rfl, hide (HS.out.congr (fun i _ => by rw [Nat.zero_mul]; exact (scrollF_same _ _ _ _ i).symm)), hide (Below.refl _ _)⟩
  case round =>
    obtain ⟨j, k, hjk, rfl, hst, hbl⟩ := hrel
    by_cases hj : 0 < j
    · have hjI : (0 : Int) < (j : Int) := by omega
      have ej : (j : Int) - 1 = ((j - 1 : Nat) : Int) := by omega
      have EJ := hide ej
      have hkL : k * W + W ≤ (B + 1 - T) * W := by have := Nat.mul_le_mul_right W (show k + 1 ≤ B + 1 - T by omega); rw [Nat.add_mul, Nat.one_mul] at this; exact this
      have ek : (k + 1) * W = k * W + W := by rw [Nat.add_mul, Nat.one_mul]
      have EKK := hide ek
      clear ej ek
      go_wp2_with fail
      refine (l3Scroll_down B0 pb bx N cx T B W Hb r at' _ bs wr hst.out hcx hN h2 h12 hTB hB5 hBN).mono ?_
      rintro e w3 ⟨⟨u3, rfl⟩, st3, hb3⟩
      have H3 := hide (st3.congr (g := scrollF (T * W) ((B + 1 - T) * W) (-(((k + 1) * W : Nat) : Int)) f (32, at')) (fun i _ => by rw [scrollF_down, EKK.out]))
      have B3 := hide (hbl.out.trans hb3)
      clear st3 hb3 hst hbl
      go_wp2
      go_roundw
      case rel => exact ⟨j - 1, k + 1, by omega, by first | rfl | go_num | (rw [EJ.out]), H3, B3⟩
      case measure => simp [intOf]; omega
    · obtain rfl : j = 0 := by omega
      obtain rfl : k = c := by omega
      go_wp2
      go_end0
      exact ⟨⟨_, rfl⟩, hst.out, hbl.out⟩
set_option maxHeartbeats 2000000 in
theorem l3Many_zero (B0 pb bx N cx T B W Hb c : Nat) (r at' n : Int) (f : Nat → Int × Int) (bs : List (Int × Int)) (w : World) (st : GSt B0 pb bx N cx r (W : Int) f bs w) (hcx : N ≤ cx) (hN : N ≤ 72) (h2 : 2 ≤ W) (h12 : W ≤ 12) (hTB : T ≤ B) (hB5 : B ≤ 5) (hBN : (B + 1) * W ≤ N) (hb : bs.length = Hb * W) (h5 : Hb ≤ 5) (hn : n = 0) :
    Calls Try.prog 52 #[.pointer (some ⟨pb, 0, none⟩), .int .i64 T, .int .i64 B, .int .i64 n, .int .i64 at'] w fun e w' => (∃ u, e = .returned u) ∧ GSt B0 pb bx N cx r (W : Int) (scrollF (T * W) ((B + 1 - T) * W) 0 f (32, at')) bs w' ∧ Below B0 w w' := by
  have HS := hide st
  have hmin : min (0 : Int) ((B : Int) - (T : Int) + 1) = 0 := by omega
  subst hn
  clear st
  go_enter Try.func52, Try.ntmps52
  go_wp2_with fail
  refine (l1Min_calls _ _ w).mono ?_
  rintro e w' ⟨rfl, hw⟩
  rw [hw]
  clear hw w'
  rw [hmin]
  clear hmin
  go_wp2
  go_loopw [3] (fun i wr => i = .int .i64 0 ∧ wr = w) (fun i _ => 0)
  case atStart => exact ⟨rfl, rfl⟩
  case round =>
    obtain ⟨rfl, rfl⟩ := hrel
    go_wp2
    go_end0
    exact ⟨⟨_, rfl⟩, HS.out.congr (fun i _ => (scrollF_same _ _ _ _ i).symm), Below.refl _ _⟩
set_option maxHeartbeats 2000000 in
theorem l3Many_low (B0 pb bx N cx T B W Hb c : Nat) (r at' n : Int) (f : Nat → Int × Int) (bs : List (Int × Int)) (w : World) (st : GSt B0 pb bx N cx r (W : Int) f bs w) (hcx : N ≤ cx) (hN : N ≤ 72) (h2 : 2 ≤ W) (h12 : W ≤ 12) (hTB : T ≤ B) (hB5 : B ≤ 5) (hBN : (B + 1) * W ≤ N) (hb : bs.length = Hb * W) (h5 : Hb ≤ 5) (nn : Nat) (hn : n = (nn : Int)) (hn0 : 0 < nn) (hn9 : nn ≤ 9) (hc : c = min nn (B + 1 - T)) (hT : ¬ T = 0) :
    Calls Try.prog 52 #[.pointer (some ⟨pb, 0, none⟩), .int .i64 T, .int .i64 B, .int .i64 n, .int .i64 at'] w fun e w' => (∃ u, e = .returned u) ∧ GSt B0 pb bx N cx r (W : Int) (scrollF (T * W) ((B + 1 - T) * W) ((c * W : Nat) : Int) f (32, at')) bs w' ∧ Below B0 w w' := by
  have HS := hide st
  have HB := hide hb
  clear st hb
  have hmin : min (nn : Int) ((B : Int) - (T : Int) + 1) = (c : Int) := by omega
  have hpos : (0 : Int) < (nn : Int) := by omega
  have hpos2 : ¬ (nn : Int) < 0 := by omega
  have hcl : c ≤ B + 1 - T := by omega
  subst hn
  clear hc
  go_enter Try.func52, Try.ntmps52
  go_wp2_with fail
  refine (l1Min_calls _ _ w).mono ?_
  rintro e w' ⟨rfl, hw⟩
  rw [hw]
  clear hw w'
  rw [hmin]
  clear hmin
  go_wp2
  go_loopw [3] (fun i wr => ∃ j k : Nat, j + k = c ∧ i = .int .i64 j ∧ Hid (GSt B0 pb bx N cx r (W : Int) (scrollF (T * W) ((B + 1 - T) * W) ((k * W : Nat) : Int) f (32, at')) bs wr) ∧ Hid (Below B0 w wr)) (fun i _ => (intOf i).toNat)
  case atStart => exact ⟨c, 0, by omega, rfl, hide (HS.out.congr (fun i _ => by rw [Nat.zero_mul]; exact (scrollF_same _ _ _ _ i).symm)), hide (Below.refl _ _)⟩
  case round =>
    obtain ⟨j, k, hjk, rfl, hst, hbl⟩ := hrel
    by_cases hj : 0 < j
    · have hjI : (0 : Int) < (j : Int) := by omega
      have ej : (j : Int) - 1 = ((j - 1 : Nat) : Int) := by omega
      have EJ := hide ej
      have hkL : k * W + W ≤ (B + 1 - T) * W := by have := Nat.mul_le_mul_right W (show k + 1 ≤ B + 1 - T by omega); rw [Nat.add_mul, Nat.one_mul] at this; exact this
      have ek : (k + 1) * W = k * W + W := by rw [Nat.add_mul, Nat.one_mul]
      have EKK := hide ek
      clear ej ek
      go_wp2_with fail
      refine (l3Scroll_low B0 pb bx N cx T B W Hb r at' _ bs wr hst.out hcx hN h2 h12 hTB hB5 hBN hT).mono ?_
      rintro e w3 ⟨⟨u3, rfl⟩, st3, hb3⟩
      have H3 := hide (st3.congr (g := scrollF (T * W) ((B + 1 - T) * W) (((k + 1) * W : Nat) : Int) f (32, at')) (fun i _ => by rw [scrollF_up, EKK.out]))
      have B3 := hide (hbl.out.trans hb3)
      clear st3 hb3 hst hbl
      go_wp2
      go_roundw
      case rel => exact ⟨j - 1, k + 1, by omega, by first | rfl | go_num | (rw [EJ.out]), H3, B3⟩
      case measure => simp [intOf]; omega
    · obtain rfl : j = 0 := by omega
      obtain rfl : k = c := by omega
      go_wp2
      go_end0
      exact ⟨⟨_, rfl⟩, hst.out, hbl.out⟩
set_option maxHeartbeats 2000000 in
theorem l3Many_top (B0 pb bx N cx B W Hb c : Nat) (r at' n : Int) (f : Nat → Int × Int) (bs : List (Int × Int)) (w : World) (st : GSt B0 pb bx N cx r (W : Int) f bs w) (hcx : N ≤ cx) (hN : N ≤ 72) (h2 : 2 ≤ W) (h12 : W ≤ 12) (hTB : 0 ≤ B) (hB5 : B ≤ 5) (hBN : (B + 1) * W ≤ N) (hb : bs.length = Hb * W) (h5 : Hb ≤ 5) (nn : Nat) (hn : n = (nn : Int)) (hn0 : 0 < nn) (hn9 : nn ≤ 9) (hc : c = min nn (B + 1 - 0)) :
    Calls Try.prog 52 #[.pointer (some ⟨pb, 0, none⟩), .int .i64 0, .int .i64 B, .int .i64 n, .int .i64 at'] w fun e w' => (∃ u, e = .returned u) ∧ GSt B0 pb bx N cx r (W : Int) (scrollF (0 * W) ((B + 1 - 0) * W) ((c * W : Nat) : Int) f (32, at')) (scrollB W 0 c f bs) w' ∧ Below B0 w w' := by
  have HS := hide st
  have HB := hide hb
  clear st hb
  have hmin : min (nn : Int) ((B : Int) + 1) = (c : Int) := by omega
  have hpos : (0 : Int) < (nn : Int) := by omega
  have hpos2 : ¬ (nn : Int) < 0 := by omega
  have hcl : c ≤ B + 1 - 0 := by omega
  subst hn
  clear hc
  go_enter Try.func52, Try.ntmps52
  go_wp2_with fail
  refine (l1Min_calls _ _ w).mono ?_
  rintro e w' ⟨rfl, hw⟩
  rw [hw]
  clear hw w'
  rw [hmin]
  clear hmin
  go_wp2
  go_loopw [3] (fun i wr => ∃ j k : Nat, j + k = c ∧ i = .int .i64 j ∧ Hid (GSt B0 pb bx N cx r (W : Int) (scrollF (0 * W) ((B + 1 - 0) * W) ((k * W : Nat) : Int) f (32, at')) (scrollB W 0 k f bs) wr) ∧ Hid (Below B0 w wr)) (fun i _ => (intOf i).toNat)
  case atStart => exact ⟨c, 0, by omega, rfl, hide ((by rw [scrollB_zero (by rw [HB.out]; exact Nat.mul_le_mul_right W h5)]; exact HS.out.congr (fun i _ => by rw [Nat.zero_mul]; exact (scrollF_same _ _ _ _ i).symm))), hide (Below.refl _ _)⟩
  case round =>
    obtain ⟨j, k, hjk, rfl, hst, hbl⟩ := hrel
    by_cases hj : 0 < j
    · have hjI : (0 : Int) < (j : Int) := by omega
      have ej : (j : Int) - 1 = ((j - 1 : Nat) : Int) := by omega
      have EJ := hide ej
      have hkL : k * W + W ≤ (B + 1 - 0) * W := by have := Nat.mul_le_mul_right W (show k + 1 ≤ B + 1 - 0 by omega); rw [Nat.add_mul, Nat.one_mul] at this; exact this
      have ek : (k + 1) * W = k * W + W := by rw [Nat.add_mul, Nat.one_mul]
      have EKK := hide ek
      clear ej ek
      go_wp2_with fail
      obtain ⟨H, hH5, hHl⟩ := scrollB_length (T := 0) (k := k) (f := f) HB.out h5
      have HHL := hide hHl
      clear hHl
      refine (l3Scroll_top B0 pb bx N cx B W H r at' _ _ wr hst.out hcx hN h2 h12 hTB hB5 hBN HHL.out hH5).mono ?_
      rintro e w3 ⟨⟨u3, rfl⟩, st3, hb3⟩
      rw [scrollB_succ (fun i hi => scroll_first hkL i hi)] at st3
      have H3 := hide (st3.congr (g := scrollF (0 * W) ((B + 1 - 0) * W) (((k + 1) * W : Nat) : Int) f (32, at')) (fun i _ => by rw [scrollF_up, EKK.out]))
      have B3 := hide (hbl.out.trans hb3)
      clear st3 hb3 hst hbl
      go_wp2
      go_roundw
      case rel => exact ⟨j - 1, k + 1, by omega, by first | rfl | go_num | (rw [EJ.out]), H3, B3⟩
      case measure => simp [intOf]; omega
    · obtain rfl : j = 0 := by omega
      obtain rfl : k = c := by omega
      go_wp2
      go_end0
      exact ⟨⟨_, rfl⟩, hst.out, hbl.out⟩
theorem l3Many_calls (B0 pb bx N cx T B W Hb : Nat) (r at' n : Int) (f : Nat → Int × Int) (bs : List (Int × Int)) (w : World) (st : GSt B0 pb bx N cx r (W : Int) f bs w) (hcx : N ≤ cx) (hN : N ≤ 72) (h2 : 2 ≤ W) (h12 : W ≤ 12) (hTB : T ≤ B) (hB5 : B ≤ 5) (hBN : (B + 1) * W ≤ N) (hb : bs.length = Hb * W) (h5 : Hb ≤ 5) (hn : -9 ≤ n ∧ n ≤ 9) :
    Calls Try.prog 52 #[.pointer (some ⟨pb, 0, none⟩), .int .i64 T, .int .i64 B, .int .i64 n, .int .i64 at'] w fun e w' => (∃ u, e = .returned u) ∧ GSt B0 pb bx N cx r (W : Int) (scrollF (T * W) ((B + 1 - T) * W) (n * (W : Int)) f (32, at')) (scrollB W T (max 0 (min n ((B : Int) + 1))).toNat f bs) w' ∧ Below B0 w w' := by
  have hbm : bs.length ≤ 5 * W := by rw [hb]; exact Nat.mul_le_mul_right W h5
  rcases Int.lt_trichotomy n 0 with h | h | h
  · refine (l3Many_down B0 pb bx N cx T B W Hb (min n.natAbs (B + 1 - T)) r at' n f bs w st hcx hN h2 h12 hTB hB5 hBN hb h5 n.natAbs (by omega) (by omega) (by omega) rfl).mono ?_
    rintro e w' ⟨he, h1, h3⟩
    rw [show (max 0 (min n ((B : Int) + 1))).toNat = 0 by omega, scrollB_zero hbm]
    refine ⟨he, h1.congr (fun i _ => scrollF_far ?_ i), h3⟩
    rcases Nat.le_total n.natAbs (B + 1 - T) with g | g
    · right; right
      rw [Nat.min_eq_left g, Int.natCast_mul, ← Int.neg_mul]
      congr 1
      omega
    · right; left
      rw [Nat.min_eq_right g]
      have a := Int.mul_le_mul_of_nonneg_right (show n ≤ -((B + 1 - T : Nat) : Int) by omega) (show (0 : Int) ≤ (W : Int) by omega)
      rw [Int.neg_mul, ← Int.natCast_mul] at a
      exact ⟨by omega, a⟩
  · refine (l3Many_zero B0 pb bx N cx T B W Hb 0 r at' n f bs w st hcx hN h2 h12 hTB hB5 hBN hb h5 h).mono ?_
    rintro e w' ⟨he, h1, h3⟩
    rw [show (max 0 (min n ((B : Int) + 1))).toNat = 0 by omega, scrollB_zero hbm, h, Int.zero_mul]
    exact ⟨he, h1, h3⟩
  · have far : ((((B + 1 - T) * W : Nat) : Int) ≤ ((min n.natAbs (B + 1 - T) * W : Nat) : Int) ∧ (((B + 1 - T) * W : Nat) : Int) ≤ n * (W : Int)) ∨ (((min n.natAbs (B + 1 - T) * W : Nat) : Int) ≤ -(((B + 1 - T) * W : Nat) : Int) ∧ n * (W : Int) ≤ -(((B + 1 - T) * W : Nat) : Int)) ∨ ((min n.natAbs (B + 1 - T) * W : Nat) : Int) = n * (W : Int) := by
      rcases Nat.le_total n.natAbs (B + 1 - T) with g | g
      · right; right
        rw [Nat.min_eq_left g, Int.natCast_mul]
        congr 1
        omega
      · left
        rw [Nat.min_eq_right g]
        have a := Int.mul_le_mul_of_nonneg_right (show ((B + 1 - T : Nat) : Int) ≤ n by omega) (show (0 : Int) ≤ (W : Int) by omega)
        rw [← Int.natCast_mul] at a
        exact ⟨Int.le_refl _, a⟩
    by_cases hT : T = 0
    · subst hT
      refine (l3Many_top B0 pb bx N cx B W Hb (min n.natAbs (B + 1 - 0)) r at' n f bs w st hcx hN h2 h12 hTB hB5 hBN hb h5 n.natAbs (by omega) (by omega) (by omega) rfl).mono ?_
      rintro e w' ⟨he, h1, h3⟩
      rw [show (max 0 (min n ((B : Int) + 1))).toNat = min n.natAbs (B + 1 - 0) by omega]
      exact ⟨he, h1.congr (fun i _ => scrollF_far far i), h3⟩
    · refine (l3Many_low B0 pb bx N cx T B W Hb (min n.natAbs (B + 1 - T)) r at' n f bs w st hcx hN h2 h12 hTB hB5 hBN hb h5 n.natAbs (by omega) (by omega) (by omega) rfl hT).mono ?_
      rintro e w' ⟨he, h1, h3⟩
      rw [scrollB_low hT]
      exact ⟨he, h1.congr (fun i _ => scrollF_far far i), h3⟩
end Go.Proofs.Ytbndncfkkhjkoai
