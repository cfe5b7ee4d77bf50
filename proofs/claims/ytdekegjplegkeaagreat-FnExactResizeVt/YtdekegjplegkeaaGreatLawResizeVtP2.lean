/-
  What the model's ResizeScreen answers.
-/
import Derived.Test.YtdekegjplegkeaaGreatLawResizeVtP1
import Derived.Test.YtdekegjplegkeaaGreatScrFns
import Derived.Test.YtdekegjplegkeaaGreatSegMem
import Derived.Deep.QuietTactic
import Derived.BigQuiet
import Derived.Test.YtdekegjplegkeaaGreatNewFns
import Derived.Test.YtdekegjplegkeaaGreatGridRes
import Derived.Deep.RegionHeld3
import Derived.Deep.RegionHeld
import Derived.Test.YtdekegjplegkeaaGreatScrNew2
import Derived.Test.YtdekegjplegkeaaGreatScrFault2
import Derived.Test.YtdekegjplegkeaaGreatCopyNew
import Derived.Test.YtdekegjplegkeaaGreatMem
import Derived.Test.YtdekegjplegkeaaGreatUntil
import Derived.Test.YtdekegjplegkeaaGreatOffScr
/- What ScrollGrid answers, of the model: one row at a time (spec.l3Scroll), so many times (spec.l3Many). -/
namespace Go.Proofs.YtdekegjplegkeaaGreat
set_option maxRecDepth 20000
open Go.ChangeShapes Go.WideShapes Go.ChangeAt Go.RowKit
set_option linter.unusedVariables false
set_option linter.unusedSimpArgs false
set_option maxRecDepth 20000

theorem l1Min_calls (a b : Int) (w : World) : Calls Tryz.prog 133 #[.int .i64 a, .int .i64 b] w fun e w' => e = .returned (.int .i64 (min a b)) ∧ w' = w := by
  by_cases h : a < b
  · go_enter Tryz.func133, Tryz.ntmps133
    go_wp2
    go_ret
    exact ⟨by rw [show min a b = a by omega]; rfl, rfl⟩
  · go_enter Tryz.func133, Tryz.ntmps133
    go_wp2
    go_ret
    exact ⟨by rw [show min a b = b by omega]; rfl, rfl⟩
def upF (T W y : Nat) (f : Nat → Int × Int) (i : Nat) : Int × Int := if T * W ≤ i ∧ i < y * W then f (i + W) else f i
def dnF (B W y : Nat) (f : Nat → Int × Int) (i : Nat) : Int × Int := if (y + 1) * W ≤ i ∧ i < (B + 1) * W then f (i - W) else f i
theorem upF_first (T W : Nat) (f : Nat → Int × Int) (i : Nat) : f i = upF T W T f i := by
  unfold upF
  rw [if_neg (by omega)]
theorem upF_step {T W y : Nat} {f : Nat → Int × Int} (h : T ≤ y) (i : Nat) : (if y * W ≤ i ∧ i < y * W + W then upF T W y f ((y + 1) * W + (i - y * W)) else upF T W y f i) = upF T W (y + 1) f i := by
  have h1 : (y + 1) * W = y * W + W := by rw [Nat.add_mul, Nat.one_mul]
  have h2 : T * W ≤ y * W := Nat.mul_le_mul_right W h
  unfold upF
  rw [h1]
  by_cases e : y * W ≤ i ∧ i < y * W + W
  · rw [if_pos e, if_neg (by omega), if_pos (by omega), show y * W + W + (i - y * W) = i + W by omega]
  · rw [if_neg e]
    by_cases e2 : T * W ≤ i ∧ i < y * W
    · rw [if_pos e2, if_pos (by omega)]
    · rw [if_neg e2, if_neg (by omega)]
theorem upF_last {T B W : Nat} {f : Nat → Int × Int} {bl : Int × Int} (h : T ≤ B) (i : Nat) : (if B * W ≤ i ∧ i < B * W + W then bl else upF T W B f i) = scrollF (T * W) ((B + 1 - T) * W) (W : Int) f bl i := by
  have h2 : T * W ≤ B * W := Nat.mul_le_mul_right W h
  unfold upF scrollF slideF
  rw [Nat.sub_mul, Nat.add_mul, Nat.one_mul]
  by_cases e : B * W ≤ i ∧ i < B * W + W
  · rw [if_pos e, if_pos (by omega), if_neg (by omega)]
  · rw [if_neg e]
    by_cases e2 : T * W ≤ i ∧ i < B * W
    · rw [if_pos e2, if_pos (by omega), if_pos (by omega)]
      dsimp only
      rw [show T * W + (((i - T * W : Nat) : Int) + (W : Int)).toNat = i + W by omega]
    · rw [if_neg e2, if_neg (by omega)]
theorem dnF_first (B W : Nat) (f : Nat → Int × Int) (i : Nat) : f i = dnF B W B f i := by
  unfold dnF
  rw [if_neg (by omega)]
theorem dnF_step {B W y : Nat} {f : Nat → Int × Int} (h : 0 < y) (hB : y ≤ B) (i : Nat) : (if y * W ≤ i ∧ i < y * W + W then dnF B W y f ((y - 1) * W + (i - y * W)) else dnF B W y f i) = dnF B W (y - 1) f i := by
  have h1 : y * W = (y - 1) * W + W := by
    obtain ⟨z, rfl⟩ : ∃ z, y = z + 1 := ⟨y - 1, by omega⟩
    rw [Nat.add_sub_cancel, Nat.add_mul, Nat.one_mul]
  have h2 : (y + 1) * W ≤ (B + 1) * W := Nat.mul_le_mul_right W (by omega)
  have h3 : (y + 1) * W = y * W + W := by rw [Nat.add_mul, Nat.one_mul]
  unfold dnF
  rw [show y - 1 + 1 = y by omega]
  by_cases e : y * W ≤ i ∧ i < y * W + W
  · rw [if_pos e, if_neg (by omega), if_pos (by omega), show (y - 1) * W + (i - y * W) = i - W by omega]
  · rw [if_neg e]
    by_cases e2 : (y + 1) * W ≤ i ∧ i < (B + 1) * W
    · rw [if_pos e2, if_pos (by omega)]
    · rw [if_neg e2, if_neg (by omega)]
theorem dnF_last {T B W : Nat} {f : Nat → Int × Int} {bl : Int × Int} (h : T ≤ B) (i : Nat) : (if T * W ≤ i ∧ i < T * W + W then bl else dnF B W T f i) = scrollF (T * W) ((B + 1 - T) * W) (-(W : Int)) f bl i := by
  have h2 : T * W ≤ B * W := Nat.mul_le_mul_right W h
  unfold dnF scrollF slideF
  rw [Nat.sub_mul, Nat.add_mul, Nat.one_mul, Nat.add_mul, Nat.one_mul]
  by_cases e : T * W ≤ i ∧ i < T * W + W
  · rw [if_pos e, if_pos (by omega), if_neg (by omega)]
  · rw [if_neg e]
    by_cases e2 : T * W + W ≤ i ∧ i < B * W + W
    · rw [if_pos e2, if_pos (by omega), if_pos (by omega)]
      dsimp only
      rw [show T * W + (((i - T * W : Nat) : Int) + -(W : Int)).toNat = i - W by omega]
    · rw [if_neg e2, if_neg (by omega)]
theorem rep_get (n : Nat) (x : Int × Int) (i : Nat) (h : i < n) : (List.replicate n x).getD i (0, 0) = x := by simp [List.getD_eq_getElem?_getD, h]

set_option maxHeartbeats 2000000 in
theorem l3Scroll_down (B0 pb bx N cx T B W Hb : Nat) (r at' : Int) (f : Nat → Int × Int) (bs : List (Int × Int)) (w : World) (st : GSt B0 pb bx N cx r (W : Int) f bs w) (hcx : N ≤ cx) (hN : N ≤ 72) (h2 : 2 ≤ W) (h12 : W ≤ 12) (hTB : T ≤ B) (hB5 : B ≤ 5) (hBN : (B + 1) * W ≤ N) :
    Calls Tryz.prog 226 #[.pointer (some ⟨pb, 0, none⟩), .int .i64 T, .int .i64 B, .bool false, .int .i64 at'] w fun e w' => (∃ u, e = .returned u) ∧ GSt B0 pb bx N cx r (W : Int) (scrollF (T * W) ((B + 1 - T) * W) (-(W : Int)) f (32, at')) bs w' ∧ Below B0 w w' := by
  have HS := hide st
  have HBL : Hid (Below B0 w w) := hide (Below.refl _ _)
  clear st
  go_enter Tryz.func226, Tryz.ntmps226
  go_wp2
  go_loopw [11] (fun i wr => ∃ y : Nat, T ≤ y ∧ y ≤ B ∧ i = .int .i64 y ∧ Hid (GSt B0 pb bx N cx r (W : Int) (dnF B W y f) bs wr) ∧ Hid (Below B0 w wr)) (fun i _ => (intOf i).toNat)
  case atStart => exact ⟨B, hTB, Nat.le_refl _, rfl, hide (HS.out.congr (fun i _ => dnF_first B W f i)), HBL⟩
  case round =>
    obtain ⟨y, hy1, hy2, rfl, hst, hbl⟩ := hrel
    by_cases hlt : T < y
    · have hltI : (T : Int) < (y : Int) := by omega
      have e1 : y * W = (y - 1) * W + W := by
        obtain ⟨z, hz⟩ : ∃ z, y = z + 1 := ⟨y - 1, by omega⟩
        rw [hz, Nat.add_sub_cancel, Nat.add_mul, Nat.one_mul]
      have e2 : (y + 1) * W ≤ (B + 1) * W := Nat.mul_le_mul_right W (by omega)
      have RBN : y * W + W ≤ N := by rw [Nat.add_mul, Nat.one_mul] at e2; omega
      have FBN : (y - 1) * W + W ≤ N := by omega
      have ey : (y : Int) - 1 = ((y - 1 : Nat) : Int) := by omega
      have EY := hide ey
      clear e1 e2 ey
      have s1 := hst.out.s1
      have s2 := hst.out.s2
      go_wp2_with fail
      refine (l3RowOf_calls pb bx N cx ((y - 1) * W) W ((y - 1) * W + W) ((y : Int) - 1) (W : Int) _ wr s1 s2 hst.out.row.read hcx (by rw [Int.natCast_mul, EY.out]) rfl rfl FBN (by omega) (by omega) (by omega) (by omega)).mono ?_
      rintro e w2 ⟨v, rfl, ov, hb2⟩
      obtain ⟨br, cr, rfl, hcr, _, u1, u2, hrv⟩ := own_row ov (by omega)
      have st2 := hide (hst.out.below hb2)
      have bl2 := hide (hbl.out.trans (hb2.mono hst.out.base))
      have rv := hide (hrv.congr (fun i hi => mkL_get _ _ _ hi))
      clear hrv ov hb2 hst hbl s1 s2
      go_wp2_with fail
      refine (l3Row_calls pb bx N cx (y * W) W (y * W + W) br W cr W (y : Int) (W : Int) _ _ w2 st2.out.s1 st2.out.s2 st2.out.row hcx st2.out.lo.2.2.1 rv.out.read (by rw [Int.natCast_mul]) rfl rfl RBN (by omega) (by omega) (by omega) (by omega) (by omega)).mono ?_
      rintro e w3 ⟨⟨u3, rfl⟩, hr3, ht3⟩
      have H3 := hide (st2.out.touch ht3 hr3)
      have B3 := hide (bl2.out.trans (ht3.below st2.out.lo.2.1 st2.out.base))
      clear hr3 ht3 st2 bl2 rv
      go_wp2
      go_roundw
      case rel => exact ⟨y - 1, by omega, by omega, by first | rfl | go_num | (rw [EY.out]), hide (H3.out.congr (fun i _ => dnF_step (by omega) hy2 i)), B3⟩
      case measure => simp [intOf]; omega
    · obtain rfl : y = T := by omega
      have hge : ¬ ((y : Int) < (y : Int)) := by omega
      have RBN : y * W + W ≤ N := by have := Nat.mul_le_mul_right W (show y + 1 ≤ B + 1 by omega); rw [Nat.add_mul, Nat.one_mul] at this; omega
      have s1 := hst.out.s1
      go_wp2_with fail
      refine (l3Blanks_calls W at' (by omega) wr).mono ?_
      rintro e w2 ⟨v, rfl, ov, hb2⟩
      obtain ⟨br, cr, rfl, hcr, _, u1, u2, hrv⟩ := own_row ov (by omega)
      have st2 := hide (hst.out.below hb2)
      have bl2 := hide (hbl.out.trans (hb2.mono hst.out.base))
      have rv := hide (hrv.congr (g := fun _ => (32, at')) (fun i hi => rep_get _ _ _ hi))
      clear hrv ov hb2 hst hbl s1
      go_wp2_with fail
      refine (l3Row_calls pb bx N cx (y * W) W (y * W + W) br W cr W (y : Int) (W : Int) _ _ w2 st2.out.s1 st2.out.s2 st2.out.row hcx st2.out.lo.2.2.1 rv.out.read (by rw [Int.natCast_mul]) rfl rfl RBN (by omega) (by omega) (by omega) (by omega) (by omega)).mono ?_
      rintro e w3 ⟨⟨u3, rfl⟩, hr3, ht3⟩
      have H3 := hide (st2.out.touch ht3 hr3)
      have B3 := hide (bl2.out.trans (ht3.below st2.out.lo.2.1 st2.out.base))
      clear hr3 ht3 st2 bl2 rv
      go_wp2
      go_end0
      exact ⟨⟨_, rfl⟩, H3.out.congr (fun i _ => dnF_last hTB i), B3.out⟩
set_option maxHeartbeats 2000000 in
theorem l3Scroll_low (B0 pb bx N cx T B W Hb : Nat) (r at' : Int) (f : Nat → Int × Int) (bs : List (Int × Int)) (w : World) (st : GSt B0 pb bx N cx r (W : Int) f bs w) (hcx : N ≤ cx) (hN : N ≤ 72) (h2 : 2 ≤ W) (h12 : W ≤ 12) (hTB : T ≤ B) (hB5 : B ≤ 5) (hBN : (B + 1) * W ≤ N) (hT : ¬ T = 0) :
    Calls Tryz.prog 226 #[.pointer (some ⟨pb, 0, none⟩), .int .i64 T, .int .i64 B, .bool true, .int .i64 at'] w fun e w' => (∃ u, e = .returned u) ∧ GSt B0 pb bx N cx r (W : Int) (scrollF (T * W) ((B + 1 - T) * W) (W : Int) f (32, at')) bs w' ∧ Below B0 w w' := by
  have HS := hide st
  have HBL : Hid (Below B0 w w) := hide (Below.refl _ _)
  have hT0 : ((T : Int) == 0) = false := by rw [beq_eq_false_iff_ne]; omega
  clear st
  go_enter Tryz.func226, Tryz.ntmps226
  go_wp2
  go_loopw [10] (fun i wr => ∃ y : Nat, T ≤ y ∧ y ≤ B ∧ i = .int .i64 y ∧ Hid (GSt B0 pb bx N cx r (W : Int) (upF T W y f) bs wr) ∧ Hid (Below B0 w wr)) (fun i _ => B - (intOf i).toNat)
  case atStart => exact ⟨T, Nat.le_refl _, hTB, rfl, hide (HS.out.congr (fun i _ => upF_first T W f i)), HBL⟩
  case round =>
    obtain ⟨y, hy1, hy2, rfl, hst, hbl⟩ := hrel
    by_cases hlt : y < B
    · have hltI : (y : Int) < (B : Int) := by omega
      have e1 : (y + 1) * W = y * W + W := by rw [Nat.add_mul, Nat.one_mul]
      have e2 : (y + 1) * W + W ≤ (B + 1) * W := by have := Nat.mul_le_mul_right W (show y + 2 ≤ B + 1 by omega); rw [Nat.add_mul] at this; omega
      have FBN : (y + 1) * W + W ≤ N := by omega
      have RBN : y * W + W ≤ N := by omega
      clear e1 e2
      have s1 := hst.out.s1
      have s2 := hst.out.s2
      go_wp2_with fail
      refine (l3RowOf_calls pb bx N cx ((y + 1) * W) W ((y + 1) * W + W) ((y : Int) + 1) (W : Int) _ wr s1 s2 hst.out.row.read hcx (by rw [Int.natCast_mul, Int.natCast_add]; rfl) rfl rfl FBN (by omega) (by omega) (by omega) (by omega)).mono ?_
      rintro e w2 ⟨v, rfl, ov, hb2⟩
      obtain ⟨br, cr, rfl, hcr, _, u1, u2, hrv⟩ := own_row ov (by omega)
      have st2 := hide (hst.out.below hb2)
      have bl2 := hide (hbl.out.trans (hb2.mono hst.out.base))
      have rv := hide (hrv.congr (fun i hi => mkL_get _ _ _ hi))
      clear hrv ov hb2 hst hbl s1 s2
      go_wp2_with fail
      refine (l3Row_calls pb bx N cx (y * W) W (y * W + W) br W cr W (y : Int) (W : Int) _ _ w2 st2.out.s1 st2.out.s2 st2.out.row hcx st2.out.lo.2.2.1 rv.out.read (by rw [Int.natCast_mul]) rfl rfl RBN (by omega) (by omega) (by omega) (by omega) (by omega)).mono ?_
      rintro e w3 ⟨⟨u3, rfl⟩, hr3, ht3⟩
      have H3 := hide (st2.out.touch ht3 hr3)
      have B3 := hide (bl2.out.trans (ht3.below st2.out.lo.2.1 st2.out.base))
      clear hr3 ht3 st2 bl2 rv
      go_wp2
      go_roundw
      case rel => exact ⟨y + 1, by omega, by omega, by go_num, hide (H3.out.congr (fun i _ => upF_step hy1 i)), B3⟩
      case measure => simp [intOf]; omega
    · obtain rfl : y = B := by omega
      have hge : ¬ ((y : Int) < (y : Int)) := by omega
      have RBN : y * W + W ≤ N := by rw [Nat.add_mul, Nat.one_mul] at hBN; exact hBN
      have s1 := hst.out.s1
      go_wp2_with fail
      refine (l3Blanks_calls W at' (by omega) wr).mono ?_
      rintro e w2 ⟨v, rfl, ov, hb2⟩
      obtain ⟨br, cr, rfl, hcr, _, u1, u2, hrv⟩ := own_row ov (by omega)
      have st2 := hide (hst.out.below hb2)
      have bl2 := hide (hbl.out.trans (hb2.mono hst.out.base))
      have rv := hide (hrv.congr (g := fun _ => (32, at')) (fun i hi => rep_get _ _ _ hi))
      clear hrv ov hb2 hst hbl s1
      go_wp2_with fail
      refine (l3Row_calls pb bx N cx (y * W) W (y * W + W) br W cr W (y : Int) (W : Int) _ _ w2 st2.out.s1 st2.out.s2 st2.out.row hcx st2.out.lo.2.2.1 rv.out.read (by rw [Int.natCast_mul]) rfl rfl RBN (by omega) (by omega) (by omega) (by omega) (by omega)).mono ?_
      rintro e w3 ⟨⟨u3, rfl⟩, hr3, ht3⟩
      have H3 := hide (st2.out.touch ht3 hr3)
      have B3 := hide (bl2.out.trans (ht3.below st2.out.lo.2.1 st2.out.base))
      clear hr3 ht3 st2 bl2 rv
      go_wp2
      refine bodyPost_ret (results_none rfl _ _ _) rfl ?_
      exact ⟨⟨_, rfl⟩, H3.out.congr (fun i _ => upF_last hTB i), B3.out⟩
set_option maxHeartbeats 2000000 in
theorem l3Scroll_top (B0 pb bx N cx B W Hb : Nat) (r at' : Int) (f : Nat → Int × Int) (bs : List (Int × Int)) (w : World) (st : GSt B0 pb bx N cx r (W : Int) f bs w) (hcx : N ≤ cx) (hN : N ≤ 72) (h2 : 2 ≤ W) (h12 : W ≤ 12) (hTB : 0 ≤ B) (hB5 : B ≤ 5) (hBN : (B + 1) * W ≤ N) (hb : bs.length = Hb * W) (h5 : Hb ≤ 5) :
    Calls Tryz.prog 226 #[.pointer (some ⟨pb, 0, none⟩), .int .i64 0, .int .i64 B, .bool true, .int .i64 at'] w fun e w' => (∃ u, e = .returned u) ∧ GSt B0 pb bx N cx r (W : Int) (scrollF (0 * W) ((B + 1 - 0) * W) (W : Int) f (32, at')) (lastL (5 * W) (bs ++ mkL W f)) w' ∧ Below B0 w w' := by
  have HS := hide st
  have HB := hide hb
  have hWN : W ≤ N := by have := Nat.mul_le_mul_right W (show 1 ≤ B + 1 by omega); omega
  have s1 := st.s1
  have s2 := st.s2
  clear st hb
  go_enter Tryz.func226, Tryz.ntmps226
  go_wp2_with fail
  refine (l3RowOf_calls pb bx N cx 0 W W 0 (W : Int) f w s1 s2 HS.out.row.read hcx (by simp) rfl (by omega) hWN (by omega) (by omega) (by omega) (by omega)).mono ?_
  rintro e w1 ⟨v, rfl, ov, hb1⟩
  obtain ⟨br, cr, rfl, hcr, _, u1, u2, hrv⟩ := own_row ov (by omega)
  have bl1 := hide (hb1.mono HS.out.base)
  replace HS := hide (HS.out.below hb1)
  have rv := hide (hrv.congr (fun i hi => mkL_get _ _ _ hi))
  clear hrv ov hb1 s1 s2
  go_wp2_with fail
  refine (l3Keep_calls B0 pb bx N cx br cr W Hb r f _ bs w1 HS.out rv.out.read h2 h12 HB.out h5).mono ?_
  rintro e w9 ⟨⟨u9, rfl⟩, st9, hb9⟩
  rw [mkL_congr (g := f) (fun i _ => by rw [Nat.zero_add])] at st9
  replace HS := hide st9
  have HBL := hide (bl1.out.trans hb9)
  clear st9 hb9 bl1 rv
  go_wp2
  go_loopw [10] (fun i wr => ∃ y : Nat, 0 ≤ y ∧ y ≤ B ∧ i = .int .i64 y ∧ Hid (GSt B0 pb bx N cx r (W : Int) (upF 0 W y f) (lastL (5 * W) (bs ++ mkL W f)) wr) ∧ Hid (Below B0 w wr)) (fun i _ => B - (intOf i).toNat)
  case atStart => exact ⟨0, Nat.le_refl _, hTB, rfl, hide (HS.out.congr (fun i _ => upF_first 0 W f i)), HBL⟩
  case round =>
    obtain ⟨y, hy1, hy2, rfl, hst, hbl⟩ := hrel
    by_cases hlt : y < B
    · have hltI : (y : Int) < (B : Int) := by omega
      have e1 : (y + 1) * W = y * W + W := by rw [Nat.add_mul, Nat.one_mul]
      have e2 : (y + 1) * W + W ≤ (B + 1) * W := by have := Nat.mul_le_mul_right W (show y + 2 ≤ B + 1 by omega); rw [Nat.add_mul] at this; omega
      have FBN : (y + 1) * W + W ≤ N := by omega
      have RBN : y * W + W ≤ N := by omega
      clear e1 e2
      have s1 := hst.out.s1
      have s2 := hst.out.s2
      go_wp2_with fail
      refine (l3RowOf_calls pb bx N cx ((y + 1) * W) W ((y + 1) * W + W) ((y : Int) + 1) (W : Int) _ wr s1 s2 hst.out.row.read hcx (by rw [Int.natCast_mul, Int.natCast_add]; rfl) rfl rfl FBN (by omega) (by omega) (by omega) (by omega)).mono ?_
      rintro e w2 ⟨v, rfl, ov, hb2⟩
      obtain ⟨br, cr, rfl, hcr, _, u1, u2, hrv⟩ := own_row ov (by omega)
      have st2 := hide (hst.out.below hb2)
      have bl2 := hide (hbl.out.trans (hb2.mono hst.out.base))
      have rv := hide (hrv.congr (fun i hi => mkL_get _ _ _ hi))
      clear hrv ov hb2 hst hbl s1 s2
      go_wp2_with fail
      refine (l3Row_calls pb bx N cx (y * W) W (y * W + W) br W cr W (y : Int) (W : Int) _ _ w2 st2.out.s1 st2.out.s2 st2.out.row hcx st2.out.lo.2.2.1 rv.out.read (by rw [Int.natCast_mul]) rfl rfl RBN (by omega) (by omega) (by omega) (by omega) (by omega)).mono ?_
      rintro e w3 ⟨⟨u3, rfl⟩, hr3, ht3⟩
      have H3 := hide (st2.out.touch ht3 hr3)
      have B3 := hide (bl2.out.trans (ht3.below st2.out.lo.2.1 st2.out.base))
      clear hr3 ht3 st2 bl2 rv
      go_wp2
      go_roundw
      case rel => exact ⟨y + 1, by omega, by omega, by go_num, hide (H3.out.congr (fun i _ => upF_step hy1 i)), B3⟩
      case measure => simp [intOf]; omega
    · obtain rfl : y = B := by omega
      have hge : ¬ ((y : Int) < (y : Int)) := by omega
      have RBN : y * W + W ≤ N := by rw [Nat.add_mul, Nat.one_mul] at hBN; exact hBN
      have s1 := hst.out.s1
      go_wp2_with fail
      refine (l3Blanks_calls W at' (by omega) wr).mono ?_
      rintro e w2 ⟨v, rfl, ov, hb2⟩
      obtain ⟨br, cr, rfl, hcr, _, u1, u2, hrv⟩ := own_row ov (by omega)
      have st2 := hide (hst.out.below hb2)
      have bl2 := hide (hbl.out.trans (hb2.mono hst.out.base))
      have rv := hide (hrv.congr (g := fun _ => (32, at')) (fun i hi => rep_get _ _ _ hi))
      clear hrv ov hb2 hst hbl s1
      go_wp2_with fail
      refine (l3Row_calls pb bx N cx (y * W) W (y * W + W) br W cr W (y : Int) (W : Int) _ _ w2 st2.out.s1 st2.out.s2 st2.out.row hcx st2.out.lo.2.2.1 rv.out.read (by rw [Int.natCast_mul]) rfl rfl RBN (by omega) (by omega) (by omega) (by omega) (by omega)).mono ?_
      rintro e w3 ⟨⟨u3, rfl⟩, hr3, ht3⟩
      have H3 := hide (st2.out.touch ht3 hr3)
      have B3 := hide (bl2.out.trans (ht3.below st2.out.lo.2.1 st2.out.base))
      clear hr3 ht3 st2 bl2 rv
      go_wp2
      refine bodyPost_ret (results_none rfl _ _ _) rfl ?_
      exact ⟨⟨_, rfl⟩, H3.out.congr (fun i _ => upF_last hTB i), B3.out⟩
theorem scrollB_zero {W T : Nat} {f : Nat → Int × Int} {bs : List (Int × Int)} (h : bs.length ≤ 5 * W) : scrollB W T 0 f bs = bs := by
  unfold scrollB
  split
  · rw [lastL_short (by rw [List.length_append, mkL_length]; omega)]
    simp [mkL]
  · rfl
theorem scrollB_length {W T Hb k : Nat} {f : Nat → Int × Int} {bs : List (Int × Int)} (hb : bs.length = Hb * W) (h5 : Hb ≤ 5) : ∃ H, H ≤ 5 ∧ (scrollB W T k f bs).length = H * W := by
  unfold scrollB
  split
  · rw [lastL_length, List.length_append, mkL_length, hb, ← Nat.add_mul]
    rcases Nat.lt_or_ge (Hb + k) 5 with h | h
    · exact ⟨Hb + k, by omega, by have := Nat.mul_le_mul_right W (show Hb + k ≤ 5 by omega); omega⟩
    · exact ⟨5, by omega, by have := Nat.mul_le_mul_right W (show 5 ≤ Hb + k by omega); omega⟩
  · exact ⟨Hb, h5, hb⟩
theorem scroll_first {W L k : Nat} {f : Nat → Int × Int} {bl : Int × Int} (h : k * W + W ≤ L) (i : Nat) (hi : i < W) : scrollF (0 * W) L ((k * W : Nat) : Int) f bl i = f (k * W + i) := by
  unfold scrollF slideF
  rw [Nat.zero_mul, if_pos (by omega), if_pos (by omega)]
  dsimp only
  rw [show 0 + (((i - 0 : Nat) : Int) + ((k * W : Nat) : Int)).toNat = k * W + i by omega]

set_option maxHeartbeats 2000000 in
theorem l3Many_down (B0 pb bx N cx T B W Hb c : Nat) (r at' n : Int) (f : Nat → Int × Int) (bs : List (Int × Int)) (w : World) (st : GSt B0 pb bx N cx r (W : Int) f bs w) (hcx : N ≤ cx) (hN : N ≤ 72) (h2 : 2 ≤ W) (h12 : W ≤ 12) (hTB : T ≤ B) (hB5 : B ≤ 5) (hBN : (B + 1) * W ≤ N) (hb : bs.length = Hb * W) (h5 : Hb ≤ 5) (nn : Nat) (hn : n = -(nn : Int)) (hn0 : 0 < nn) (hn9 : nn ≤ 9) (hc : c = min nn (B + 1 - T)) :
    Calls Tryz.prog 202 #[.pointer (some ⟨pb, 0, none⟩), .int .i64 T, .int .i64 B, .int .i64 n, .int .i64 at'] w fun e w' => (∃ u, e = .returned u) ∧ GSt B0 pb bx N cx r (W : Int) (scrollF (T * W) ((B + 1 - T) * W) (-((c * W : Nat) : Int)) f (32, at')) bs w' ∧ Below B0 w w' := by
  have HS := hide st
  have HB := hide hb
  clear st hb
  have hmin : min (nn : Int) ((B : Int) - (T : Int) + 1) = (c : Int) := by omega
  have hneg : -(nn : Int) < 0 := by omega
  have hneg2 : ¬ (0 : Int) < -(nn : Int) := by omega
  have hcl : c ≤ B + 1 - T := by omega
  subst hn
  clear hc
  go_enter Tryz.func202, Tryz.ntmps202
  go_wp2_with fail
  refine (l1Min_calls _ _ w).mono ?_
  rintro e w' ⟨rfl, hw⟩
  rw [hw]
  clear hw w'
  rw [hmin]
  clear hmin
  go_wp2
  go_loopw [3] (fun i wr => ∃ j k : Nat, j + k = c ∧ i = .int .i64 j ∧ Hid (GSt B0 pb bx N cx r (W : Int) (scrollF (T * W) ((B + 1 - T) * W) (-((k * W : Nat) : Int)) f (32, at')) bs wr) ∧ Hid (Below B0 w wr)) (fun i _ => (intOf i).toNat)
  case atStart => exact ⟨c, 0, by omega, rfl, hide (HS.out.congr (fun i _ => by rw [Nat.zero_mul]; exact (scrollF_same _ _ _ _ i).symm)), hide (Below.refl _ _)⟩
  case round =>
    obtain ⟨j, k, hjk, rfl, hst, hbl⟩ := hrel
    by_cases hj : 0 < j
    · have hjI : (0 : Int) < (j : Int) := by omega
      have ej : (j : Int) - 1 = ((j - 1 : Nat) : Int) := by omega
      have EJ := hide ej
      have hkL : k * W + W ≤ (B + 1 - T) * W := by have := Nat.mul_le_mul_right W (show k + 1 ≤ B + 1 - T by omega); rw [Nat.add_mul, Nat.one_mul] at this; exact this
      have ek : (k + 1) * W = k * W + W := by rw [Nat.add_mul, Nat.one_mul]
      have EKK := hide ek
      clear ej ek
      go_wp2_with fail
      refine (l3Scroll_down B0 pb bx N cx T B W Hb r at' _ bs wr hst.out hcx hN h2 h12 hTB hB5 hBN).mono ?_
      rintro e w3 ⟨⟨u3, rfl⟩, st3, hb3⟩
      have H3 := hide (st3.congr (g := scrollF (T * W) ((B + 1 - T) * W) (-(((k + 1) * W : Nat) : Int)) f (32, at')) (fun i _ => by rw [scrollF_down, EKK.out]))
      have B3 := hide (hbl.out.trans hb3)
      clear st3 hb3 hst hbl
      go_wp2
      go_roundw
      case rel => exact ⟨j - 1, k + 1, by omega, by first | rfl | go_num | (rw [EJ.out]), H3, B3⟩
      case measure => simp [intOf]; omega
    · obtain rfl : j = 0 := by omega
      obtain rfl : k = c := by omega
      go_wp2
      go_end0
      exact ⟨⟨_, rfl⟩, hst.out, hbl.out⟩
set_option maxHeartbeats 2000000 in
theorem l3Many_zero (B0 pb bx N cx T B W Hb c : Nat) (r at' n : Int) (f : Nat → Int × Int) (bs : List (Int × Int)) (w : World) (st : GSt B0 pb bx N cx r (W : Int) f bs w) (hcx : N ≤ cx) (hN : N ≤ 72) (h2 : 2 ≤ W) (h12 : W ≤ 12) (hTB : T ≤ B) (hB5 : B ≤ 5) (hBN : (B + 1) * W ≤ N) (hb : bs.length = Hb * W) (h5 : Hb ≤ 5) (hn : n = 0) :
    Calls Tryz.prog 202 #[.pointer (some ⟨pb, 0, none⟩), .int .i64 T, .int .i64 B, .int .i64 n, .int .i64 at'] w fun e w' => (∃ u, e = .returned u) ∧ GSt B0 pb bx N cx r (W : Int) (scrollF (T * W) ((B + 1 - T) * W) 0 f (32, at')) bs w' ∧ Below B0 w w' := by
  have HS := hide st
  have hmin : min (0 : Int) ((B : Int) - (T : Int) + 1) = 0 := by omega
  subst hn
  clear st
  go_enter Tryz.func202, Tryz.ntmps202
  go_wp2_with fail
  refine (l1Min_calls _ _ w).mono ?_
  rintro e w' ⟨rfl, hw⟩
  rw [hw]
  clear hw w'
  rw [hmin]
  clear hmin
  go_wp2
  go_loopw [3] (fun i wr => i = .int .i64 0 ∧ wr = w) (fun i _ => 0)
  case atStart => exact ⟨rfl, rfl⟩
  case round =>
    obtain ⟨rfl, rfl⟩ := hrel
    go_wp2
    go_end0
    exact ⟨⟨_, rfl⟩, HS.out.congr (fun i _ => (scrollF_same _ _ _ _ i).symm), Below.refl _ _⟩
set_option maxHeartbeats 2000000 in
theorem l3Many_low (B0 pb bx N cx T B W Hb c : Nat) (r at' n : Int) (f : Nat → Int × Int) (bs : List (Int × Int)) (w : World) (st : GSt B0 pb bx N cx r (W : Int) f bs w) (hcx : N ≤ cx) (hN : N ≤ 72) (h2 : 2 ≤ W) (h12 : W ≤ 12) (hTB : T ≤ B) (hB5 : B ≤ 5) (hBN : (B + 1) * W ≤ N) (hb : bs.length = Hb * W) (h5 : Hb ≤ 5) (nn : Nat) (hn : n = (nn : Int)) (hn0 : 0 < nn) (hn9 : nn ≤ 9) (hc : c = min nn (B + 1 - T)) (hT : ¬ T = 0) :
    Calls Tryz.prog 202 #[.pointer (some ⟨pb, 0, none⟩), .int .i64 T, .int .i64 B, .int .i64 n, .int .i64 at'] w fun e w' => (∃ u, e = .returned u) ∧ GSt B0 pb bx N cx r (W : Int) (scrollF (T * W) ((B + 1 - T) * W) ((c * W : Nat) : Int) f (32, at')) bs w' ∧ Below B0 w w' := by
  have HS := hide st
  have HB := hide hb
  clear st hb
  have hmin : min (nn : Int) ((B : Int) - (T : Int) + 1) = (c : Int) := by omega
  have hpos : (0 : Int) < (nn : Int) := by omega
  have hpos2 : ¬ (nn : Int) < 0 := by omega
  have hcl : c ≤ B + 1 - T := by omega
  subst hn
  clear hc
  go_enter Tryz.func202, Tryz.ntmps202
  go_wp2_with fail
  refine (l1Min_calls _ _ w).mono ?_
  rintro e w' ⟨rfl, hw⟩
  rw [hw]
  clear hw w'
  rw [hmin]
  clear hmin
  go_wp2
  go_loopw [3] (fun i wr => ∃ j k : Nat, j + k = c ∧ i = .int .i64 j ∧ Hid (GSt B0 pb bx N cx r (W : Int) (scrollF (T * W) ((B + 1 - T) * W) ((k * W : Nat) : Int) f (32, at')) bs wr) ∧ Hid (Below B0 w wr)) (fun i _ => (intOf i).toNat)
  case atStart => exact ⟨c, 0, by omega, rfl, hide (HS.out.congr (fun i _ => by rw [Nat.zero_mul]; exact (scrollF_same _ _ _ _ i).symm)), hide (Below.refl _ _)⟩
  case round =>
    obtain ⟨j, k, hjk, rfl, hst, hbl⟩ := hrel
    by_cases hj : 0 < j
    · have hjI : (0 : Int) < (j : Int) := by omega
      have ej : (j : Int) - 1 = ((j - 1 : Nat) : Int) := by omega
      have EJ := hide ej
      have hkL : k * W + W ≤ (B + 1 - T) * W := by have := Nat.mul_le_mul_right W (show k + 1 ≤ B + 1 - T by omega); rw [Nat.add_mul, Nat.one_mul] at this; exact this
      have ek : (k + 1) * W = k * W + W := by rw [Nat.add_mul, Nat.one_mul]
      have EKK := hide ek
      clear ej ek
      go_wp2_with fail
      refine (l3Scroll_low B0 pb bx N cx T B W Hb r at' _ bs wr hst.out hcx hN h2 h12 hTB hB5 hBN hT).mono ?_
      rintro e w3 ⟨⟨u3, rfl⟩, st3, hb3⟩
      have H3 := hide (st3.congr (g := scrollF (T * W) ((B + 1 - T) * W) (((k + 1) * W : Nat) : Int) f (32, at')) (fun i _ => by rw [scrollF_up, EKK.out]))
      have B3 := hide (hbl.out.trans hb3)
      clear st3 hb3 hst hbl
      go_wp2
      go_roundw
      case rel => exact ⟨j - 1, k + 1, by omega, by first | rfl | go_num | (rw [EJ.out]), H3, B3⟩
      case measure => simp [intOf]; omega
    · obtain rfl : j = 0 := by omega
      obtain rfl : k = c := by omega
      go_wp2
      go_end0
      exact ⟨⟨_, rfl⟩, hst.out, hbl.out⟩
set_option maxHeartbeats 2000000 in
theorem l3Many_top (B0 pb bx N cx B W Hb c : Nat) (r at' n : Int) (f : Nat → Int × Int) (bs : List (Int × Int)) (w : World) (st : GSt B0 pb bx N cx r (W : Int) f bs w) (hcx : N ≤ cx) (hN : N ≤ 72) (h2 : 2 ≤ W) (h12 : W ≤ 12) (hTB : 0 ≤ B) (hB5 : B ≤ 5) (hBN : (B + 1) * W ≤ N) (hb : bs.length = Hb * W) (h5 : Hb ≤ 5) (nn : Nat) (hn : n = (nn : Int)) (hn0 : 0 < nn) (hn9 : nn ≤ 9) (hc : c = min nn (B + 1 - 0)) :
    Calls Tryz.prog 202 #[.pointer (some ⟨pb, 0, none⟩), .int .i64 0, .int .i64 B, .int .i64 n, .int .i64 at'] w fun e w' => (∃ u, e = .returned u) ∧ GSt B0 pb bx N cx r (W : Int) (scrollF (0 * W) ((B + 1 - 0) * W) ((c * W : Nat) : Int) f (32, at')) (scrollB W 0 c f bs) w' ∧ Below B0 w w' := by
  have HS := hide st
  have HB := hide hb
  clear st hb
  have hmin : min (nn : Int) ((B : Int) + 1) = (c : Int) := by omega
  have hpos : (0 : Int) < (nn : Int) := by omega
  have hpos2 : ¬ (nn : Int) < 0 := by omega
  have hcl : c ≤ B + 1 - 0 := by omega
  subst hn
  clear hc
  go_enter Tryz.func202, Tryz.ntmps202
  go_wp2_with fail
  refine (l1Min_calls _ _ w).mono ?_
  rintro e w' ⟨rfl, hw⟩
  rw [hw]
  clear hw w'
  rw [hmin]
  clear hmin
  go_wp2
  go_loopw [3] (fun i wr => ∃ j k : Nat, j + k = c ∧ i = .int .i64 j ∧ Hid (GSt B0 pb bx N cx r (W : Int) (scrollF (0 * W) ((B + 1 - 0) * W) ((k * W : Nat) : Int) f (32, at')) (scrollB W 0 k f bs) wr) ∧ Hid (Below B0 w wr)) (fun i _ => (intOf i).toNat)
  case atStart => exact ⟨c, 0, by omega, rfl, hide ((by rw [scrollB_zero (by rw [HB.out]; exact Nat.mul_le_mul_right W h5)]; exact HS.out.congr (fun i _ => by rw [Nat.zero_mul]; exact (scrollF_same _ _ _ _ i).symm))), hide (Below.refl _ _)⟩
  case round =>
    obtain ⟨j, k, hjk, rfl, hst, hbl⟩ := hrel
    by_cases hj : 0 < j
    · have hjI : (0 : Int) < (j : Int) := by omega
      have ej : (j : Int) - 1 = ((j - 1 : Nat) : Int) := by omega
      have EJ := hide ej
      have hkL : k * W + W ≤ (B + 1 - 0) * W := by have := Nat.mul_le_mul_right W (show k + 1 ≤ B + 1 - 0 by omega); rw [Nat.add_mul, Nat.one_mul] at this; exact this
      have ek : (k + 1) * W = k * W + W := by rw [Nat.add_mul, Nat.one_mul]
      have EKK := hide ek
      clear ej ek
      go_wp2_with fail
      obtain ⟨H, hH5, hHl⟩ := scrollB_length (T := 0) (k := k) (f := f) HB.out h5
      have HHL := hide hHl
      clear hHl
      refine (l3Scroll_top B0 pb bx N cx B W H r at' _ _ wr hst.out hcx hN h2 h12 hTB hB5 hBN HHL.out hH5).mono ?_
      rintro e w3 ⟨⟨u3, rfl⟩, st3, hb3⟩
      rw [scrollB_succ (fun i hi => scroll_first hkL i hi)] at st3
      have H3 := hide (st3.congr (g := scrollF (0 * W) ((B + 1 - 0) * W) (((k + 1) * W : Nat) : Int) f (32, at')) (fun i _ => by rw [scrollF_up, EKK.out]))
      have B3 := hide (hbl.out.trans hb3)
      clear st3 hb3 hst hbl
      go_wp2
      go_roundw
      case rel => exact ⟨j - 1, k + 1, by omega, by first | rfl | go_num | (rw [EJ.out]), H3, B3⟩
      case measure => simp [intOf]; omega
    · obtain rfl : j = 0 := by omega
      obtain rfl : k = c := by omega
      go_wp2
      go_end0
      exact ⟨⟨_, rfl⟩, hst.out, hbl.out⟩
theorem l3Many_calls (B0 pb bx N cx T B W Hb : Nat) (r at' n : Int) (f : Nat → Int × Int) (bs : List (Int × Int)) (w : World) (st : GSt B0 pb bx N cx r (W : Int) f bs w) (hcx : N ≤ cx) (hN : N ≤ 72) (h2 : 2 ≤ W) (h12 : W ≤ 12) (hTB : T ≤ B) (hB5 : B ≤ 5) (hBN : (B + 1) * W ≤ N) (hb : bs.length = Hb * W) (h5 : Hb ≤ 5) (hn : -9 ≤ n ∧ n ≤ 9) :
    Calls Tryz.prog 202 #[.pointer (some ⟨pb, 0, none⟩), .int .i64 T, .int .i64 B, .int .i64 n, .int .i64 at'] w fun e w' => (∃ u, e = .returned u) ∧ GSt B0 pb bx N cx r (W : Int) (scrollF (T * W) ((B + 1 - T) * W) (n * (W : Int)) f (32, at')) (scrollB W T (max 0 (min n ((B : Int) + 1))).toNat f bs) w' ∧ Below B0 w w' := by
  have hbm : bs.length ≤ 5 * W := by rw [hb]; exact Nat.mul_le_mul_right W h5
  rcases Int.lt_trichotomy n 0 with h | h | h
  · refine (l3Many_down B0 pb bx N cx T B W Hb (min n.natAbs (B + 1 - T)) r at' n f bs w st hcx hN h2 h12 hTB hB5 hBN hb h5 n.natAbs (by omega) (by omega) (by omega) rfl).mono ?_
    rintro e w' ⟨he, h1, h3⟩
    rw [show (max 0 (min n ((B : Int) + 1))).toNat = 0 by omega, scrollB_zero hbm]
    refine ⟨he, h1.congr (fun i _ => scrollF_far ?_ i), h3⟩
    rcases Nat.le_total n.natAbs (B + 1 - T) with g | g
    · right; right
      rw [Nat.min_eq_left g, Int.natCast_mul, ← Int.neg_mul]
      congr 1
      omega
    · right; left
      rw [Nat.min_eq_right g]
      have a := Int.mul_le_mul_of_nonneg_right (show n ≤ -((B + 1 - T : Nat) : Int) by omega) (show (0 : Int) ≤ (W : Int) by omega)
      rw [Int.neg_mul, ← Int.natCast_mul] at a
      exact ⟨by omega, a⟩
  · refine (l3Many_zero B0 pb bx N cx T B W Hb 0 r at' n f bs w st hcx hN h2 h12 hTB hB5 hBN hb h5 h).mono ?_
    rintro e w' ⟨he, h1, h3⟩
    rw [show (max 0 (min n ((B : Int) + 1))).toNat = 0 by omega, scrollB_zero hbm, h, Int.zero_mul]
    exact ⟨he, h1, h3⟩
  · have far : ((((B + 1 - T) * W : Nat) : Int) ≤ ((min n.natAbs (B + 1 - T) * W : Nat) : Int) ∧ (((B + 1 - T) * W : Nat) : Int) ≤ n * (W : Int)) ∨ (((min n.natAbs (B + 1 - T) * W : Nat) : Int) ≤ -(((B + 1 - T) * W : Nat) : Int) ∧ n * (W : Int) ≤ -(((B + 1 - T) * W : Nat) : Int)) ∨ ((min n.natAbs (B + 1 - T) * W : Nat) : Int) = n * (W : Int) := by
      rcases Nat.le_total n.natAbs (B + 1 - T) with g | g
      · right; right
        rw [Nat.min_eq_left g, Int.natCast_mul]
        congr 1
        omega
      · left
        rw [Nat.min_eq_right g]
        have a := Int.mul_le_mul_of_nonneg_right (show ((B + 1 - T : Nat) : Int) ≤ n by omega) (show (0 : Int) ≤ (W : Int) by omega)
        rw [← Int.natCast_mul] at a
        exact ⟨Int.le_refl _, a⟩
    by_cases hT : T = 0
    · subst hT
      refine (l3Many_top B0 pb bx N cx B W Hb (min n.natAbs (B + 1 - 0)) r at' n f bs w st hcx hN h2 h12 hTB hB5 hBN hb h5 n.natAbs (by omega) (by omega) (by omega) rfl).mono ?_
      rintro e w' ⟨he, h1, h3⟩
      rw [show (max 0 (min n ((B : Int) + 1))).toNat = min n.natAbs (B + 1 - 0) by omega]
      exact ⟨he, h1.congr (fun i _ => scrollF_far far i), h3⟩
    · refine (l3Many_low B0 pb bx N cx T B W Hb (min n.natAbs (B + 1 - T)) r at' n f bs w st hcx hN h2 h12 hTB hB5 hBN hb h5 n.natAbs (by omega) (by omega) (by omega) rfl hT).mono ?_
      rintro e w' ⟨he, h1, h3⟩
      rw [scrollB_low hT]
      exact ⟨he, h1.congr (fun i _ => scrollF_far far i), h3⟩
end Go.Proofs.YtdekegjplegkeaaGreat

/- Where one may go on a screen that is pointed at: rowsToGo, goToRow, goToColumn of the program, l5Go of the model. -/
namespace Go.Proofs.YtdekegjplegkeaaGreat
set_option maxRecDepth 20000
open Go.ChangeShapes Go.WideShapes Go.ChangeAt Go.RowKit
set_option linter.unusedVariables false
set_option linter.unusedSimpArgs false
set_option maxRecDepth 20000

def rowLo (s : Scr) : Int := if s.org = true then s.top else 0
def rowHi (s : Scr) : Int := if s.org = true then s.bot else s.r - 1
def goRow (s : Scr) (y : Int) : Scr := { s with y := max (rowLo s) (min y (rowHi s)), wrap := false }
def goCol (s : Scr) (x : Int) : Scr := { s with x := max 0 (min x (s.wd - 1)), wrap := false }
theorem min_ite (a b : Int) : (if b < a then b else a) = min a b := by omega
theorem max_ite (a b : Int) : (if a < b then b else a) = max a b := by omega
theorem Turn.drewN {O : Nat → Prop} {b p q : Nat} {w w' : World} (h : Turn O b p q w w') (n : Nat) : Turn O b p q w (w'.drewN n) := ⟨h.os, h.tape, h.output, h.size, h.block, h.self⟩
set_option maxHeartbeats 400000 in
theorem lastRow_calls (s : Scr) (v1 v2 v3 v4 : Value) (b ob : Nat) (w : World) (s1 : 1 ≤ s.r) (s2 : s.r ≤ 6) (hB : Seg w b ob (scrA s v1 v2 v3 v4)) :
    Calls Tryz.prog 217 #[.pointer (some ⟨b, ob, none⟩)] w fun e w' => e = .returned (.int .i64 (s.r - 1)) ∧ w' = w := by
  have g0 := hB.at0 (scrA_0 s v1 v2 v3 v4)
  have hw : IntKind.i64.wrap (s.r - 1) = s.r - 1 := wrap_small (by omega) (by omega)
  clear hB
  go_enter Tryz.func217, Tryz.ntmps217
  go_wp2
  go_ret
  exact ⟨rfl, rfl⟩
set_option maxHeartbeats 400000 in
theorem lastColumn_calls (s : Scr) (v1 v2 v3 v4 : Value) (b ob : Nat) (w : World) (s3 : 2 ≤ s.wd) (s4 : s.wd ≤ 12) (hB : Seg w b ob (scrA s v1 v2 v3 v4)) :
    Calls Tryz.prog 171 #[.pointer (some ⟨b, ob, none⟩)] w fun e w' => e = .returned (.int .i64 (s.wd - 1)) ∧ w' = w := by
  have g0 := hB.at 1 (scrA_1 s v1 v2 v3 v4)
  have hw : IntKind.i64.wrap (s.wd - 1) = s.wd - 1 := wrap_small (by omega) (by omega)
  clear hB
  go_enter Tryz.func171, Tryz.ntmps171
  go_wp2
  go_ret
  exact ⟨rfl, rfl⟩
set_option maxHeartbeats 1000000 in
theorem rowsToGo_calls (s : Scr) (v1 v2 v3 v4 : Value) (b ob : Nat) (w : World) (s1 : 1 ≤ s.r) (s2 : s.r ≤ 6) (hB : Seg w b ob (scrA s v1 v2 v3 v4)) :
    Calls Tryz.prog 200 #[.pointer (some ⟨b, ob, none⟩)] w fun e w' => e = .returned (.tuple #[.int .i64 (rowLo s), .int .i64 (rowHi s)]) ∧ ∃ n, w' = w.drewN n := by
  have g8 := hB.at 8 (scrA_8 s v1 v2 v3 v4)
  have g9 := hB.at 9 (scrA_9 s v1 v2 v3 v4)
  have g10 := hB.at 10 (scrA_10 s v1 v2 v3 v4)
  unfold rowLo rowHi
  cases ho : s.org
  · rw [ho] at g10
    go_enter Tryz.func200, Tryz.ntmps200
    go_wp2_with (go_at_call 217; refine (lastRow_calls s v1 v2 v3 v4 b ob _ s1 s2 hB).mono ?_; rintro e w' ⟨rfl, hw⟩; rw [hw]; clear hw w')
    go_ret2
    exact ⟨rfl, 0, rfl⟩
  · rw [ho] at g10
    clear hB
    go_enter Tryz.func200, Tryz.ntmps200
    go_wp2_with fail
    go_quiet (fail)
    go_wp2
    go_ret2
    exact ⟨rfl, _, rfl⟩
set_option maxHeartbeats 1000000 in
theorem goToColumn_calls (s : Scr) (v1 v2 v3 v4 : Value) (b ob : Nat) (O : Nat → Prop) (x : Int) (w : World) (s3 : 2 ≤ s.wd) (s4 : s.wd ≤ 12) (hB : Seg w b ob (scrA s v1 v2 v3 v4)) :
    Calls Tryz.prog 138 #[.pointer (some ⟨b, ob, none⟩), .int .i64 x] w fun e w' => (∃ u, e = .returned u) ∧ Seg w' b ob (scrA (goCol s x) v1 v2 v3 v4) ∧ Turn O b ob (ob + 20) w w' := by
  obtain ⟨m, hm⟩ : ∃ m, min x (s.wd - 1) = m := ⟨_, rfl⟩
  obtain ⟨k, hk⟩ : ∃ k, max 0 m = k := ⟨_, rfl⟩
  have e1 : goCol s x = { s with x := k, wrap := false } := by unfold goCol; rw [hm, hk]
  rw [e1]
  have i1 : (if s.wd - 1 < x then s.wd - 1 else x) = m := by rw [min_ite, hm]
  have i2 : (if 0 < m then m else 0) = k := by rw [max_ite, hk]
  have hT := Turn.refl O b ob (ob + 20) w
  clear e1 hm hk
  go_enter Tryz.func138, Tryz.ntmps138
  go_wp2_with (first | (go_at_call 171; refine (lastColumn_calls s v1 v2 v3 v4 b ob _ s3 s4 hB).mono ?_; rintro e w' ⟨rfl, hw⟩; rw [hw]; clear hw w') | (refine wpList_store_seg rfl O 2 _ _ rfl b ob 5 (scrA s v1 v2 v3 v4) (.int .i64 k) hB rfl rfl rfl (by kernel_rfl) rfl ?_; (try simp only [Act.put, List.setIfInBounds_toArray, List.set_cons_zero, List.set_cons_succ]); intro w1 hB' tt; replace hT := hT.trans tt; clear hB tt; have hB : Seg w1 b ob (scrA { s with x := k } v1 v2 v3 v4) := hB'; clear hB') | (refine wpList_store_seg rfl O 4 _ _ rfl b ob 6 (scrA { s with x := k } v1 v2 v3 v4) (.bool false) hB rfl rfl rfl (by kernel_rfl) rfl ?_; (try simp only [Act.put, List.setIfInBounds_toArray, List.set_cons_zero, List.set_cons_succ]); intro w2 hB' tt; replace hT := hT.trans tt; clear hB tt; have hB : Seg w2 b ob (scrA { s with x := k, wrap := false } v1 v2 v3 v4) := hB'; clear hB'))
  go_end0
  exact ⟨⟨_, rfl⟩, hB, hT⟩
set_option maxHeartbeats 1000000 in
theorem goToRow_calls (s : Scr) (v1 v2 v3 v4 : Value) (b ob : Nat) (O : Nat → Prop) (y : Int) (w : World) (s1 : 1 ≤ s.r) (s2 : s.r ≤ 6) (hB : Seg w b ob (scrA s v1 v2 v3 v4)) :
    Calls Tryz.prog 137 #[.pointer (some ⟨b, ob, none⟩), .int .i64 y] w fun e w' => (∃ u, e = .returned u) ∧ Seg w' b ob (scrA (goRow s y) v1 v2 v3 v4) ∧ Turn O b ob (ob + 20) w w' := by
  obtain ⟨m, hm⟩ : ∃ m, min y (rowHi s) = m := ⟨_, rfl⟩
  obtain ⟨k, hk⟩ : ∃ k, max (rowLo s) m = k := ⟨_, rfl⟩
  have e1 : goRow s y = { s with y := k, wrap := false } := by unfold goRow; rw [hm, hk]
  rw [e1]
  have i1 : (if rowHi s < y then rowHi s else y) = m := by rw [min_ite, hm]
  have i2 : (if rowLo s < m then m else rowLo s) = k := by rw [max_ite, hk]
  have hT := Turn.refl O b ob (ob + 20) w
  clear e1 hm hk
  go_enter Tryz.func137, Tryz.ntmps137
  go_wp2_with (first | (go_at_call 200; refine (rowsToGo_calls s v1 v2 v3 v4 b ob _ s1 s2 hB).mono ?_; rintro e w' ⟨rfl, n, hw⟩; rw [hw]; clear hw w'; replace hB := hB.drewN n; replace hT := hT.drewN n) | (refine wpList_store_seg rfl O 2 _ _ rfl b ob 4 (scrA s v1 v2 v3 v4) (.int .i64 k) hB rfl rfl rfl (by kernel_rfl) rfl ?_; (try simp only [Act.put, List.setIfInBounds_toArray, List.set_cons_zero, List.set_cons_succ]); intro w1 hB' tt; replace hT := hT.trans tt; clear hB tt; have hB : Seg w1 b ob (scrA { s with y := k } v1 v2 v3 v4) := hB'; clear hB') | (refine wpList_store_seg rfl O 4 _ _ rfl b ob 6 (scrA { s with y := k } v1 v2 v3 v4) (.bool false) hB rfl rfl rfl (by kernel_rfl) rfl ?_; (try simp only [Act.put, List.setIfInBounds_toArray, List.set_cons_zero, List.set_cons_succ]); intro w2 hB' tt; replace hT := hT.trans tt; clear hB tt; have hB : Seg w2 b ob (scrA { s with y := k, wrap := false } v1 v2 v3 v4) := hB'; clear hB'))
  go_end0
  exact ⟨⟨_, rfl⟩, hB, hT⟩
end Go.Proofs.YtdekegjplegkeaaGreat

/- A range over an iterator that tells its rounds in order, and whose body may break off: the k-th round is met at the k-th values alone. The rows of a sheet so. -/
namespace Go.Proofs.YtdekegjplegkeaaGreat
set_option maxRecDepth 20000
open Go.ChangeShapes Go.WideShapes Go.ChangeAt Go.RowKit Go.Shelf
attribute [local go_sem] Oper.semAt_some
set_option linter.unusedVariables false
set_option linter.unusedSimpArgs false
set_option maxRecDepth 100000

/-- Behind a round's body: nothing of the loop's own blocks was turned; it went on, or it broke off by 'exit x'. -/
def Behind (B x : Nat) (I Ix : World → Prop) (W : World) (e : Exit) (_ : Act) (W' : World) : Prop :=
  (∀ j, B ≤ j → j < W.heap.size → W'.heap[j]? = W.heap[j]?) ∧ W.heap.size ≤ W'.heap.size ∧ ((e = .normal ∧ I W') ∨ (e = .exit x ∧ Ix W'))

theorem range_count {F : Fence} {n : Nat} {P : Program} {g : Operand} {ps : Array Tmp} {assign body : Code} {Q : Exit → Act → World → Prop} {a : Act} {w : World} (hro : F.round = none) (h1 : 1 ≤ n) {gf : Nat} {lb : Array Value}
    (hg : a.eval g = .func (.func gf) #[] lb) (hFg : F.fn gf) (eg : ∀ args w, (callFunc gf args).run P w = .ok (.enter gf args) w) (enc : Nat → Array Value) (hps : ∀ k, (enc k).size = ps.size) (H x : Nat) (I : Nat → World → Prop) (Ix : World → Prop)
    (hIb : ∀ k W W', I k W → Below W.heap.size W W' → I k W') (hIp : ∀ k W l o, I k W → w.heap.size ≤ l → I k (W.putObj l o)) (hXp : ∀ W l o, Ix W → w.heap.size ≤ l → Ix (W.putObj l o))
    (hiter : ∀ (l : Nat) (J : Nat → World → Prop) (Jx : World → Prop) (W : World), (∀ k W1, J k W1 → I k W1) → (∀ k W1 W2, J k W1 → Below W1.heap.size W1 W2 → J k W2) →
      (∀ k W1, k < H → J k W1 → YieldAt F (n - 1 - 1) P l (enc k) W1 fun e W' => (e = .returned (.bool true) ∧ J (k + 1) W') ∨ (e = .returned (.bool false) ∧ Jx W')) → J 0 W →
      CallsIn F (n - 1) P gf (#[.func (.yield l) #[] #[]] ++ lb) W fun e W' => (∃ v, e = .returned v) ∧ (J H W' ∨ Jx W'))
    (h0 : I 0 w) (a1 : Nat → Act)
    (hassign : ∀ (l k : Nat) (W : World) (K : Act → World → Prop), K (a1 k) W → assign.wpIn (F.inRound l) (n - 1 - 1) P (Exit.then K (fun _ _ _ => False)) { tmps := (ps.zip (enc k)).foldl (fun t (p, v) => t.setIfInBounds p v) a.tmps, defers := [] } W)
    (hbody : ∀ (l k : Nat) (W : World), k < H → I k W → body.wpIn (F.inRound l) (n - 1 - 1) P (Behind w.heap.size x (I (k + 1)) Ix W) (a1 k) W)
    (hdone : ∀ (D : Nat) (W : World), w.heap.size ≤ D → I H W → W.heap[D]? = some (.deferred (some [])) → Q .normal { a with defers := { target := .collected D, args := #[] } :: a.defers } W)
    (hstop : ∀ (D : Nat) (W : World), w.heap.size ≤ D → Ix W → W.heap[D]? = some (.deferred (some [])) → (Code.exit x).wpIn F n P Q { a with defers := { target := .collected D, args := #[] } :: a.defers } W) :
    (Code.rangeFunc g ps assign body).wpIn F n P Q a w := by
  refine wpIn_rangeFunc fun fn hfn => ?_
  rw [hro]
  obtain ⟨R, hR⟩ : ∃ R : LoopState → Option Code → Loop, R = fun s p => { state := s, pending := p, fn, tmps := a.tmps, params := ps, assign, body, defers := w.heap.size } := ⟨_, rfl⟩
  obtain ⟨V, hV⟩ : ∃ V, V = (w.alloc (.deferred (some []))).alloc (.loop (R .ready none)) := ⟨_, rfl⟩
  have vl : V.heap[w.heap.size + 1]? = some (.loop (R .ready none)) := by
    rw [hV]
    have h := World.alloc_heap_new (w.alloc (.deferred (some []))) (.loop (R .ready none))
    rwa [World.size_alloc] at h
  have vd : V.heap[w.heap.size]? = some (.deferred (some [])) := by
    rw [hV]
    exact (Below.heap_alloc _ _ _ (by simp)).trans (World.alloc_heap_new w _)
  have v0 : I 0 V := hIb 0 w V h0 (by rw [hV]; exact ((Below.refl _ _).alloc (Nat.le_refl _) _).alloc (by simp) _)
  have hlt : ∀ {W : World} {j : Nat} {o : Obj}, W.heap[j]? = some o → j < W.heap.size := fun h => (Array.getElem?_eq_some_iff.1 h).1
  refine ⟨w.heap.size + 1, [{ target := .collected w.heap.size, args := #[] }], V, { target := .fn (.func gf) lb, args := #[.func (.yield (w.heap.size + 1)) #[] #[]] }, V, gf, #[.func (.yield (w.heap.size + 1)) #[] #[]] ++ lb, V,
    by rw [hV, hR]; exact run_enterLoop_outer _ _ _ _ _, by simp only [resolve, hg]; simp [go_sem], fun f' hf => by simp [Target.leads] at hf; subst hf; exact hFg, by simp [invoke, go_sem, eg], fun _ => h1, ?_⟩
  refine (hiter (w.heap.size + 1) (fun k W => I k W ∧ W.heap[w.heap.size + 1]? = some (.loop (R .ready none)) ∧ W.heap[w.heap.size]? = some (.deferred (some [])))
    (fun W => Ix W ∧ W.heap[w.heap.size + 1]? = some (.loop (R .done (some (.exit x)))) ∧ W.heap[w.heap.size]? = some (.deferred (some []))) V (fun _ _ h => h.1)
    (fun k W1 W2 h hb => ⟨hIb k W1 W2 h.1 hb, (hb.block _ (hlt h.2.1)).trans h.2.1, (hb.block _ (hlt h.2.2)).trans h.2.2⟩) ?_ ⟨v0, vl, vd⟩).mono ?_
  · rintro k W hk ⟨hi, hl, hd⟩
    have hy := run_yield (P := P) (args := enc k) hl (by rw [hR]; exact hps k)
    rw [hR] at hy
    refine ⟨fn, _, assign, body, hy, roundIn_of_wpIn hfn (hassign _ k W _ ⟨_, run_beginRound hl (by rw [hR]), ?_⟩)⟩
    have sz : (W.putObj (w.heap.size + 1) (.loop { R .ready none with state := .busy })).heap.size = W.heap.size := by simp [World.putObj]
    refine wpIn_mono (hbody _ k _ hk (hIp k W _ _ hi (by omega))) ?_
    rintro e a3 W3 ⟨kp, ks, hx⟩
    have l3 : W3.heap[w.heap.size + 1]? = some (.loop { R .ready none with state := .busy }) := (kp _ (by omega) (by rw [sz]; exact hlt hl)).trans (World.putObj_heap_same (hlt hl))
    have d3 : W3.heap[w.heap.size]? = some (.deferred (some [])) := (kp _ (by omega) (by rw [sz]; exact hlt hd)).trans ((World.putObj_heap_other (by omega)).trans hd)
    have put : ∀ o : Obj, (W3.putObj (w.heap.size + 1) o).heap[w.heap.size + 1]? = some o ∧ (W3.putObj (w.heap.size + 1) o).heap[w.heap.size]? = some (.deferred (some [])) := fun o => ⟨World.putObj_heap_same (hlt l3), (World.putObj_heap_other (by omega)).trans d3⟩
    rcases hx with ⟨rfl, h⟩ | ⟨rfl, h⟩
    · have hr := run_endRound (P := P) none l3
      rw [hR] at hr
      exact ⟨_, _, hr, .inl ⟨rfl, hIp _ _ _ _ h (by omega), by rw [hR]; exact (put _).1, (put _).2⟩⟩
    · have hr := run_endRound (P := P) (some (.exit x)) l3
      rw [hR] at hr
      exact ⟨_, _, hr, .inr ⟨rfl, hXp _ _ _ h (by omega), by rw [hR]; exact (put _).1, (put _).2⟩⟩
  · rintro e W2 ⟨⟨v, rfl⟩, ⟨hi, hl, hd⟩ | ⟨hi, hl, hd⟩⟩
    · refine ⟨none, _, by have h := run_endLoop (P := P) hl (by rw [hR]; simp); rw [hR] at h; exact h, hdone _ _ (Nat.le_refl _) (hIp _ _ _ _ hi (by omega)) ((World.putObj_heap_other (by omega)).trans hd)⟩
    · refine ⟨some (.exit x), _, by have h := run_endLoop (P := P) hl (by rw [hR]; simp); rw [hR] at h; exact h, hstop _ _ (Nat.le_refl _) (hXp _ _ _ hi (by omega)) ((World.putObj_heap_other (by omega)).trans hd)⟩

/-- The k-th of the rows of m cells. -/
def rowAt (b off m cap : Nat) (k : Nat) : Array Value := #[.int .i64 (k : Int), .slice (some ⟨b, off + k * m * 2, none⟩) m (cap - k * m)]

set_option maxHeartbeats 2000000 in
theorem rows1_at (n : Nat) (l Bs b off m H N cap : Nat) (wd : Int) (a : Option Addr) (hN : N = H * m) (hwd : wd = (m : Int)) (hm : 1 ≤ m) (hm2 : m ≤ 1000) (hH : H ≤ 1000) (hc : N ≤ cap) (ha : 0 < N → a = some ⟨b, off, none⟩) (hN1 : N ≤ 1048576) (J : Nat → World → Prop) (Jx : World → Prop) (W : World)
    (hJb : ∀ k W1 W2, J k W1 → Below W1.heap.size W1 W2 → J k W2) (hJc : ∀ k W1, J k W1 → W1.cell? ⟨Bs, 0, none⟩ = some (.int .i64 wd) ∧ W1.cell? ⟨Bs, 1, none⟩ = some (.slice a N cap))
    (hY : ∀ k W1, k < H → J k W1 → YieldAt Fence.wide (n - 1) Tryz.prog l (rowAt b off m cap k) W1 fun e W' => (e = .returned (.bool true) ∧ J (k + 1) W') ∨ (e = .returned (.bool false) ∧ Jx W')) (h0 : J 0 W) :
    CallsIn Fence.wide n Tryz.prog 237 #[.func (.yield l) #[] #[], .pointer (some ⟨Bs, 0, none⟩)] W fun e W' => (∃ v, e = .returned v) ∧ (J H W' ∨ Jx W') := by
  have hq : (N : Int) / wd = (H : Int) := by rw [hN, hwd, Int.natCast_mul]; exact Int.mul_ediv_cancel _ (by omega)
  obtain ⟨c0, c1⟩ := hJc 0 W h0
  have HQ := hide hq
  have HN := hide hN
  have HWD := hide hwd
  have w1' : 1 ≤ wd := by omega
  have w2' : wd ≤ 1000 := by omega
  have HA := hide ha
  have HC := hide hJc
  have HYY := hide hY
  have HJB := hide hJb
  clear hq hN hwd ha hJc hY hJb
  refine callsIn_of_wp Tryz.func237 rfl trivial ?_ rfl
  simp only [Tryz.ntmps237, List.size_toArray, List.length_cons, List.length_nil, Nat.reduceAdd, Nat.reduceSub, Array.replicate_succ, Array.replicate_zero, List.push_toArray, List.append_toArray, List.nil_append, List.cons_append]
  gi_wp2
  refine ⟨trivial, fun h => by simp [Fence.wide] at h, (callsIn_wide.2 (height_calls wd w1' w2' a N cap hN1 _)).mono ?_⟩
  rintro e W2 ⟨rfl, hb2⟩
  rw [HQ.out]
  have h2 := hide (HJB.out 0 W W2 h0 hb2)
  clear hb2 c0 c1 h0
  gi_wp2
  gi_loopw [6] (fun i wr => ∃ k : Nat, k ≤ H ∧ i = .int .i64 k ∧ Hid (J k wr)) (fun i _ => H - (intOf i).toNat)
  case atStart => exact ⟨0, Nat.zero_le _, rfl, h2⟩
  case round =>
    obtain ⟨k, hk, rfl, hJs⟩ := hrel
    obtain ⟨d0, d1⟩ := HC.out k wr hJs.out
    clear h2
    by_cases hlt : k < H
    · have hltI : (k : Int) < (H : Int) := by omega
      have hkm : k * m + m ≤ N := by
        have h := Nat.mul_le_mul_right m (show k + 1 ≤ H by omega)
        rw [Nat.add_mul, ← HN.out] at h
        omega
      have hNp : 0 < N := by omega
      have hkw : (k : Int) * wd = ((k * m : Nat) : Int) := by rw [HWD.out, Int.natCast_mul]
      have HKW := hide hkw
      clear hkw
      gi_wp2
      refine ⟨trivial, fun h => by simp [Fence.wide] at h, (callsIn_wide.2 (row_calls wd k b off N cap (k * m) m (.slice a N cap) ⟨hc, a, rfl, HA.out⟩ HKW.out HWD.out (by omega) (by omega) hkm hN1 wr)).mono ?_⟩
      rintro e W3 ⟨v, rfl, ⟨hcv, av, rfl, hav⟩, hb3⟩
      obtain rfl := hav (by omega)
      have hJ3 := hide (HJB.out k wr W3 hJs.out hb3)
      clear hb3 hJs d0 d1
      obtain ⟨fn, tmps, assign, body, hy, hR⟩ := HYY.out k W3 hlt hJ3.out
      simp only [rowAt] at hy
      gi_wp2
      refine ⟨fun h => by simp [Fence.wide] at h, hR.mono ?_⟩
      rintro e W4 (⟨rfl, hJ4⟩ | ⟨rfl, hx4⟩)
      · have hJ4' := hide hJ4
        clear hJ4
        gi_wp2
        go_roundw
        case rel => exact ⟨k + 1, by omega, by go_num, hJ4'⟩
        case measure => simp [intOf]; omega
      · gi_wp2
        refine bodyPost_ret (results_none rfl _ _ _) rfl ?_
        exact ⟨⟨_, rfl⟩, .inr hx4⟩
    · obtain rfl : k = H := by omega
      have hge : ¬ ((k : Int) < (k : Int)) := by omega
      gi_wp2
      go_end0
      first
        | exact ⟨⟨_, rfl⟩, .inl hJs.out⟩
        | exact ⟨⟨_, rfl⟩, hJs.out⟩

end Go.Proofs.YtdekegjplegkeaaGreat

/- impl's sheets of another size: newSheet for any number of rows, resized. -/
namespace Go.Proofs.YtdekegjplegkeaaGreat
set_option maxRecDepth 20000
open Go.ChangeShapes Go.WideShapes Go.ChangeAt Go.RowKit Go.Shelf
attribute [local go_sem] Oper.semAt_some
set_option linter.unusedVariables false
set_option linter.unusedSimpArgs false
set_option maxRecDepth 100000

set_option maxHeartbeats 1000000 in
theorem newSheet_any (rows wd c g : Int) (n : Nat) (hn : rows * wd = (n : Int)) (hn1 : n ≤ 1048576) (w : World) :
    Calls Tryz.prog 224 #[.int .i64 rows, .int .i64 wd, .agg #[.int .i64 c, .int .i64 g]] w fun e w' => ∃ b, e = .returned (.agg #[.int .i64 wd, .slice (some ⟨b, 0, none⟩) n n]) ∧ w.heap.size ≤ b ∧ b < w'.heap.size ∧ Row w' b 0 n (fun _ => (c, g)) ∧ Below w.heap.size w w' := by
  obtain ⟨i0, hi, hz0, hz1, hz2⟩ := info_parts info_cell
  have hk : IntKind.i64.wrap (rows * wd) = (n : Int) := by rw [hn]; exact wrap_small (by omega) (by omega)
  have HN := hide hn
  clear hn
  go_enter Tryz.func224, Tryz.ntmps224
  go_wp2_with (at_make; refine wpList_make_full _ rfl (.tmp 11) (.tmp 11) 33 rfl (w.heap.size + 2) 193 i0 (.agg #[.int .i64 0, .int .i64 0]) 2 Tryz.underlying33 hi hz0 hz1 .i64 .i64 _ _ n rfl rfl rfl rfl ?c1 ?c2 ?c3 ?_)
  case c1 => rw [hz2]; omega
  case c2 => unfold maxLen; omega
  case c3 => simp
  intro w1 hown hgrow
  have hz := made_zeros n
  simp only [Value.cells] at hz
  rw [hz] at hown
  obtain ⟨x1, x2⟩ := hown.lt (w.heap.size + 2) rfl
  have hrow : Row w1 (w.heap.size + 2) 0 n (fun i => (List.replicate n (0, 0)).getD i (0, 0)) := by
    by_cases h0 : 0 < n
    · obtain ⟨b, cap, e1, _, _, _, _, hrow⟩ := own_row hown h0
      injection e1 with e1 e2 e3
      injection e1 with e1
      injection e1 with e1
      subst e1
      exact hrow
    · exact fun i hi => absurd hi (by omega)
  have hb1 : Below (w.heap.size + 2) ((w.alloc (.cells #[.int .i64 c, .int .i64 g] 193)).alloc (.cells #[.int .i64 0, .slice none 0 0] 217)) w1 := (Below.refl _ _).grown hgrow (by simp) (fun k hk => by cases hk)
  have C0 : w1.cell? ⟨w.heap.size, 0, none⟩ = some (.int .i64 c) := cellk hb1 (by omega) (by simp [go_sem])
  have C1 : w1.cell? ⟨w.heap.size, 1, none⟩ = some (.int .i64 g) := cellk hb1 (by omega) (by simp [go_sem])
  have R0 : w1.cell? ⟨w.heap.size + 1, 0, none⟩ = some (.int .i64 0) := cellk hb1 (by omega) (by simp [go_sem])
  have R1 : w1.cell? ⟨w.heap.size + 1, 1, none⟩ = some (.slice none 0 0) := cellk hb1 (by omega) (by simp [go_sem])
  have Z0 : w1.frozen? ⟨w.heap.size + 1, 0, none⟩ = false := by rw [hb1.frozen (p := ⟨w.heap.size + 1, 0, none⟩) (by simp)]; simp [go_sem]
  have Z1 : w1.frozen? ⟨w.heap.size + 1, 1, none⟩ = false := by rw [hb1.frozen (p := ⟨w.heap.size + 1, 1, none⟩) (by simp)]; simp [go_sem]
  have b1 : Below w.heap.size w w1 := (show Below w.heap.size w ((w.alloc (.cells #[.int .i64 c, .int .i64 g] 193)).alloc (.cells #[.int .i64 0, .slice none 0 0] 217)) from (by repeat' (first | with_reducible exact Below.refl _ _ | with_reducible assumption | with_reducible refine Below.drew ?_ | with_reducible refine Below.alloc ?_ ?_ _ | with_reducible refine Below.setCell ?_ ?_ _ | (simp; done) | (simp; omega) | omega))).trans (hb1.mono (by omega))
  have HR := hide hrow
  clear hown hgrow hb1 hz hrow
  have l1 : w.heap.size < w1.heap.size := by omega
  have hb2 : Below w1.heap.size w1 (w1.alloc (.cells #[.int .i64 wd, .slice (some ⟨w.heap.size + 2, 0, none⟩) n n] 217)) := (by repeat' (first | with_reducible exact Below.refl _ _ | with_reducible assumption | with_reducible refine Below.drew ?_ | with_reducible refine Below.alloc ?_ ?_ _ | with_reducible refine Below.setCell ?_ ?_ _ | (simp; done) | (simp; omega) | omega))
  have D0 := cellb hb2 C0
  have D1 := cellb hb2 C1
  go_wp2_with fail
  refine (fill_calls (w.heap.size + 2) 0 n n _ _ c g _ ⟨Nat.le_refl _, _, rfl, fun _ => rfl⟩ (HR.out.below hb2 x2) (by simp; omega) hn1).mono ?_
  rintro e w2 ⟨⟨u, rfl⟩, hr2, ht2⟩
  have S0 : w2.cell? ⟨w1.heap.size, 0, none⟩ = some (.int .i64 wd) := ht2.cellAt (by simp) (by omega)
  have S1 : w2.cell? ⟨w1.heap.size, 1, none⟩ = some (.slice (some ⟨w.heap.size + 2, 0, none⟩) n n) := ht2.cellAt (by simp) (by omega)
  replace R0 := ht2.cellAt (cellb hb2 R0) (by omega)
  replace R1 := ht2.cellAt (cellb hb2 R1) (by omega)
  replace Z0 := ht2.frozenAt (by simp; omega) ((hb2.frozen (p := ⟨w.heap.size + 1, 0, none⟩) (by simp; omega)).trans Z0)
  replace Z1 := ht2.frozenAt (by simp; omega) ((hb2.frozen (p := ⟨w.heap.size + 1, 1, none⟩) (by simp; omega)).trans Z1)
  have b2 : Below w.heap.size w w2 := b1.trans ((hb2.mono b1.size).trans (ht2.below (by omega) (by simp; omega)))
  have hs2 : w1.heap.size + 1 ≤ w2.heap.size := by have := ht2.size; simp at this; omega
  have H2 := hide hr2
  clear hr2 ht2 C0 C1 D0 D1
  obtain ⟨s0, s1⟩ := res2 (w := w2) (r := w.heap.size + 1) (.int .i64 wd) (.slice (some ⟨w.heap.size + 2, 0, none⟩) n n) R0 R1
  have t3 : Touch (w.heap.size + 1) 0 2 w2 ((w2.setCell ⟨w.heap.size + 1, 0, none⟩ (.int .i64 wd)).setCell ⟨w.heap.size + 1, 1, none⟩ (.slice (some ⟨w.heap.size + 2, 0, none⟩) n n)) := ((Touch.refl _ _ _ _).setCell (by omega) (by omega) _).setCell (by omega) (by omega) _
  have T3 := hide t3
  clear t3
  go_wp2
  refine bodyPost_ret (v := .agg #[.int .i64 wd, .slice (some ⟨w.heap.size + 2, 0, none⟩) n n]) (by simp only [results, Tryz.results224]; simp [go_sem, s0, s1]) rfl ⟨_, rfl, by omega, by have := T3.out.size; omega, H2.out.touch T3.out (by omega), b2.trans (T3.out.below (by omega) (by omega))⟩
/-- The cells of K rows of m cells in rows of m' cells: what is in both, blanks elsewhere. -/
def fitF (m m' K : Nat) (f : Nat → Int × Int) (bl : Int × Int) (i : Nat) : Int × Int := if i < K * m' ∧ i % m' < m then f (i / m' * m + i % m') else bl
theorem fitF_zero (m m' : Nat) (f : Nat → Int × Int) (bl : Int × Int) (i : Nat) : bl = fitF m m' 0 f bl i := by
  unfold fitF
  rw [if_neg (by omega)]
theorem fitF_step {m m' k : Nat} {f : Nat → Int × Int} {bl : Int × Int} (h : 0 < m') (i : Nat) : (if k * m' ≤ i ∧ i < k * m' + min m m' then f (k * m + (i - k * m')) else fitF m m' k f bl i) = fitF m m' (k + 1) f bl i := by
  unfold fitF
  have h1 : (k + 1) * m' = k * m' + m' := by rw [Nat.add_mul, Nat.one_mul]
  rw [h1]
  by_cases e : k * m' ≤ i ∧ i < k * m' + m'
  · have hd : i / m' = k := Nat.div_eq_of_lt_le e.1 (by rw [h1]; exact e.2)
    have hm := Nat.div_add_mod i m'
    rw [hd, Nat.mul_comm] at hm
    rw [hd]
    by_cases e2 : i < k * m' + min m m'
    · rw [if_pos ⟨e.1, e2⟩, if_pos (by omega), show k * m + (i - k * m') = k * m + i % m' by omega]
    · rw [if_neg (by omega), if_neg (by omega), if_neg (by omega)]
  · rw [if_neg (by omega)]
    by_cases e2 : i < k * m' ∧ i % m' < m
    · rw [if_pos e2, if_pos (by omega)]
    · rw [if_neg e2, if_neg (by omega)]
theorem Touch.putObj {b p q l : Nat} {o : Obj} {a w : World} (h : Touch b p q a w) (hl : a.heap.size ≤ l) (hb : b < a.heap.size) : Touch b p q a (w.putObj l o) := by
  have hne : ∀ k, k < a.heap.size → (w.putObj l o).heap[k]? = w.heap[k]? := fun k hk => World.putObj_heap_other (by omega)
  refine ⟨h.os, h.tape, h.output, by simp [World.putObj]; exact h.size, fun k hk hkb => (hne k hk).trans (h.block k hk hkb), fun o ho => ?_, fun o => ?_⟩
  · exact (World.cell?_of_block (w := w) (a := ⟨b, o, none⟩) (hne b hb)).trans (h.cell o ho)
  · exact (World.frozen?_of_block (w := w) (a := ⟨b, o, none⟩) (hne b hb)).trans (h.frozen o)

theorem wpListIn_copy2 {F : Fence} {nF : Nat} {P : Program} {w : World} {ops : Array Oper} {rest : List Oper} {o : Oper} {a : Act} {Q : Exit → Act → World → Prop} (hgd : o.guard = none) (d s : Operand) (dT sT : TypeId)
    (ho : o.op = .call { callee := .builtin .copy, args := #[d, s], argTypes := #[dT, sT] }) (elem : TypeId) (hu : P.underlying dT = some (.slice elem)) (hsz : (P.info? elem).map (·.size) = some 2)
    (dp sp : Option Addr) (dLen dCap sLen sCap m : Nat) (hd : a.eval d = .slice dp dLen dCap) (hs : a.eval s = .slice sp sLen sCap) (hm : m = Nat.min sLen dLen)
    (b off : Nat) (f : Nat → Int × Int) (hrow : Row w b off dLen f) (hdp : 0 < m → dp = some ⟨b, off, none⟩)
    (b' off' : Nat) (g : Nat → Int × Int) (hg : RowR w b' off' m g) (hsp : 0 < m → sp = some ⟨b', off', none⟩)
    (h : ∀ w', Row w' b off dLen (fun i => if i < m then g i else f i) → Touch b off (off + m * 2) w w' → wpListIn F nF P ops Q rest (a.put o.dst (goInt m)) w') :
    wpListIn F nF P ops Q (o :: rest) a w := by
  refine wpListIn_plain hgd fun K hK => ?_
  obtain ⟨w', hrun, h1, h2⟩ := run_copy2 (P := P) w dT sT o.type elem hu hsz dp sp dLen dCap sLen sCap m hm b off f hrow hdp b' off' g hg hsp
  unfold Oper.wpIn
  refine ⟨by simp [Oper.about, ho, resolve, Target.leads, Sem.run_pure], ?_⟩
  rw [Oper.semAt_plain F _ _ (by rw [ho]; intro c hc; cases hc)]
  simp [execOp, ho, resolve, invoke, builtin, hd, hs, hrun, Result.andThen]
  exact hK _ _ (h w' h1 h2)
/-- Between two rounds of resized: k rows are copied. -/
structure RzI (wL : World) (bo N' m W' R' : Nat) (c g : Int) (f : Nat → Int × Int) (k : Nat) (W : World) : Prop where
  touch : Touch bo 0 (N' * 2) wL W
  row : Row W bo 0 N' (fitF m W' k f (c, g))
  le : k ≤ R'
theorem RzI.below {wL W V : World} {bo N' m W' R' k : Nat} {c g : Int} {f : Nat → Int × Int} (h : RzI wL bo N' m W' R' c g f k W) (hb : bo < wL.heap.size) (hv : Below W.heap.size W V) : RzI wL bo N' m W' R' c g f k V :=
  have hs : bo < W.heap.size := Nat.lt_of_lt_of_le hb h.touch.size
  ⟨h.touch.trans (Touch.of_below hv (Nat.le_refl _) hs), h.row.below hv hs, h.le⟩
theorem RzI.putObj {wL W : World} {bo N' m W' R' k l : Nat} {o : Obj} {c g : Int} {f : Nat → Int × Int} (h : RzI wL bo N' m W' R' c g f k W) (hb : bo < wL.heap.size) (hl : wL.heap.size ≤ l) : RzI wL bo N' m W' R' c g f k (W.putObj l o) :=
  ⟨h.touch.putObj hl hb, h.row.block (World.putObj_heap_other (by omega)), h.le⟩

set_option maxHeartbeats 4000000 in
theorem resized_calls (wd rows width c g : Int) (b off H m N cap R' W' N' : Nat) (a : Option Addr) (f : Nat → Int × Int) (w : World) (hr : RowR w b off N f) (hN : N = H * m) (hwd : wd = (m : Int)) (hrw : rows = (R' : Int)) (hww : width = (W' : Int)) (hN' : N' = R' * W') (hm : 1 ≤ m) (hm2 : m ≤ 1000) (hH : H ≤ 1000) (hW1 : 1 ≤ W') (hW2 : W' ≤ 1000) (hR : R' ≤ 1000)
    (hc : N ≤ cap) (ha : 0 < N → a = some ⟨b, off, none⟩) (hN1 : N ≤ 100000) (hN2 : N' ≤ 100000) :
    Calls Tryz.prog 197 #[.agg #[.int .i64 wd, .slice a N cap], .int .i64 rows, .int .i64 width, .agg #[.int .i64 c, .int .i64 g]] w fun e w' => ∃ bo, e = .returned (.agg #[.int .i64 width, .slice (some ⟨bo, 0, none⟩) N' N']) ∧ w.heap.size ≤ bo ∧ bo < w'.heap.size ∧ Row w' bo 0 N' (fitF m W' (min R' H) f (c, g)) ∧ Below w.heap.size w w' := by
  have hmul : rows * width = (N' : Int) := by rw [hrw, hww, hN', Int.natCast_mul]
  have HR := hide hr
  have HN := hide hN
  have HW := hide hwd
  have HRW := hide hrw
  have HWW := hide hww
  have HN' := hide hN'
  have HA := hide ha
  have HMU := hide hmul
  clear hr hN hwd hrw hww hN' ha hmul
  refine (callsIn_wide (n := 5)).1 ?_
  refine callsIn_of_wp_marks Tryz.func197 rfl trivial ?_ rfl
  simp only [Tryz.ntmps197, List.size_toArray, List.length_cons, List.length_nil, Nat.reduceAdd, Nat.reduceSub, Array.replicate_succ, Array.replicate_zero, List.push_toArray, List.append_toArray, List.nil_append, List.cons_append]
  gi_wp2
  refine ⟨trivial, (callsIn_wide.2 (newSheet_any rows width c g N' HMU.out (by omega) _)).mono ?_⟩
  rintro e w1 ⟨bo, rfl, o1, o2, hro, hb1⟩
  have hbW0 : Below w.heap.size w ((((w.alloc (.cells #[.int .i64 wd, .slice a N cap] 217)).alloc (.cells #[.int .i64 rows] 2)).alloc (.cells #[.int .i64 c, .int .i64 g] 193)).alloc (.cells #[.int .i64 0, .slice none 0 0] 217)) := (by repeat' (first | with_reducible exact Below.refl _ _ | with_reducible assumption | with_reducible refine Below.drew ?_ | with_reducible refine Below.alloc ?_ ?_ _ | with_reducible refine Below.setCell ?_ ?_ _ | (simp; done) | (simp; omega) | omega))
  have sW0 : ((((w.alloc (.cells #[.int .i64 wd, .slice a N cap] 217)).alloc (.cells #[.int .i64 rows] 2)).alloc (.cells #[.int .i64 c, .int .i64 g] 193)).alloc (.cells #[.int .i64 0, .slice none 0 0] 217)).heap.size = w.heap.size + 4 := by simp
  have S0 : w1.cell? ⟨w.heap.size, 0, none⟩ = some (.int .i64 wd) := cellb hb1 (by simp [go_sem])
  have S1 : w1.cell? ⟨w.heap.size, 1, none⟩ = some (.slice a N cap) := cellb hb1 (by simp [go_sem])
  have Q0 : w1.cell? ⟨w.heap.size + 1, 0, none⟩ = some (.int .i64 rows) := cellb hb1 (by simp [go_sem])
  have R0 : w1.cell? ⟨w.heap.size + 3, 0, none⟩ = some (.int .i64 0) := cellb hb1 (by simp [go_sem])
  have R1 : w1.cell? ⟨w.heap.size + 3, 1, none⟩ = some (.slice none 0 0) := cellb hb1 (by simp [go_sem])
  have Z0 : w1.frozen? ⟨w.heap.size + 3, 0, none⟩ = false := by rw [hb1.frozen (p := ⟨w.heap.size + 3, 0, none⟩) (by simp)]; simp [go_sem]
  have Z1 : w1.frozen? ⟨w.heap.size + 3, 1, none⟩ = false := by rw [hb1.frozen (p := ⟨w.heap.size + 3, 1, none⟩) (by simp)]; simp [go_sem]
  have b1 : Below w.heap.size w w1 := hbW0.trans (hb1.mono (by omega))
  have hs1 : w.heap.size + 4 ≤ w1.heap.size := by have := hb1.size; omega
  have o1' : w.heap.size + 4 ≤ bo := by omega
  have HRO := hide hro
  clear hb1 hbW0 hro o1 sW0
  have hbA : Below w1.heap.size w1 (w1.alloc (.cells #[.int .i64 width, .slice (some ⟨bo, 0, none⟩) N' N'] 217)) := (by repeat' (first | with_reducible exact Below.refl _ _ | with_reducible assumption | with_reducible refine Below.drew ?_ | with_reducible refine Below.alloc ?_ ?_ _ | with_reducible refine Below.setCell ?_ ?_ _ | (simp; done) | (simp; omega) | omega))
  have S0a := cellb hbA S0
  have S1a := cellb hbA S1
  gi_wp2
  clear S0a S1a hbA
  refine ⟨trivial, (callsIn_wide.2 (rows_calls wd a N cap _)).mono ?_⟩
  rintro e w' ⟨rfl, rfl⟩
  have hbL : Below w1.heap.size w1 ((w1.alloc (.cells #[.int .i64 width, .slice (some ⟨bo, 0, none⟩) N' N'] 217)).alloc (.cells #[.int .i64 wd, .slice a N cap] 217)) := (by repeat' (first | with_reducible exact Below.refl _ _ | with_reducible assumption | with_reducible refine Below.drew ?_ | with_reducible refine Below.alloc ?_ ?_ _ | with_reducible refine Below.setCell ?_ ?_ _ | (simp; done) | (simp; omega) | omega))
  have q0 : ((w1.alloc (.cells #[.int .i64 width, .slice (some ⟨bo, 0, none⟩) N' N'] 217)).alloc (.cells #[.int .i64 wd, .slice a N cap] 217)).cell? ⟨w1.heap.size + 1, 0, none⟩ = some (.int .i64 wd) := by simp [go_sem]
  have q1 : ((w1.alloc (.cells #[.int .i64 width, .slice (some ⟨bo, 0, none⟩) N' N'] 217)).alloc (.cells #[.int .i64 wd, .slice a N cap] 217)).cell? ⟨w1.heap.size + 1, 1, none⟩ = some (.slice a N cap) := by simp [go_sem]
  have u0 : ((w1.alloc (.cells #[.int .i64 width, .slice (some ⟨bo, 0, none⟩) N' N'] 217)).alloc (.cells #[.int .i64 wd, .slice a N cap] 217)).cell? ⟨w1.heap.size, 0, none⟩ = some (.int .i64 width) := by simp [go_sem]
  have u1 : ((w1.alloc (.cells #[.int .i64 width, .slice (some ⟨bo, 0, none⟩) N' N'] 217)).alloc (.cells #[.int .i64 wd, .slice a N cap] 217)).cell? ⟨w1.heap.size, 1, none⟩ = some (.slice (some ⟨bo, 0, none⟩) N' N') := by simp [go_sem]
  have hsL : ((w1.alloc (.cells #[.int .i64 width, .slice (some ⟨bo, 0, none⟩) N' N'] 217)).alloc (.cells #[.int .i64 wd, .slice a N cap] 217)).heap.size = w1.heap.size + 2 := by simp
  have esz : (w1.alloc (.cells #[.int .i64 width, .slice (some ⟨bo, 0, none⟩) N' N'] 217)).heap.size = w1.heap.size + 1 := by simp
  rw [esz]
  clear esz
  generalize ((w1.alloc (.cells #[.int .i64 width, .slice (some ⟨bo, 0, none⟩) N' N'] 217)).alloc (.cells #[.int .i64 wd, .slice a N cap] 217)) = wL at *
  replace Q0 := cellb hbL Q0
  replace R0 := cellb hbL R0
  replace R1 := cellb hbL R1
  replace Z0 : wL.frozen? ⟨w.heap.size + 3, 0, none⟩ = false := by rw [hbL.frozen (p := ⟨w.heap.size + 3, 0, none⟩) (by simp; omega)]; exact Z0
  replace Z1 : wL.frozen? ⟨w.heap.size + 3, 1, none⟩ = false := by rw [hbL.frozen (p := ⟨w.heap.size + 3, 1, none⟩) (by simp; omega)]; exact Z1
  have b2 := b1.trans (hbL.mono b1.size)
  replace HRO := hide (HRO.out.below hbL o2)
  clear b1 hbL S0 S1
  gi_wp2
  have hblt : 0 < N → b < w.heap.size := fun h => HR.out.lt h
  have HRL := hide (fun (h : 0 < N) => HR.out.below b2 (hblt h))
  have boL : bo < wL.heap.size := by omega
  refine range_count rfl (by omega) (gf := 237) (lb := #[.pointer (some ⟨w1.heap.size + 1, 0, none⟩)]) rfl trivial (enters_of Tryz.func237 (by kernel_rfl) rfl) (rowAt b off m cap) (fun _ => rfl) H 0
    (fun k W => RzI wL bo N' m W' R' c g f k W) (fun W => RzI wL bo N' m W' R' c g f R' W ∧ R' ≤ H) (fun k W W' h hb => h.below boL hb) (fun k W l o h hl => h.putObj boL hl) (fun W l o h hl => ⟨h.1.putObj boL hl, h.2⟩)
    (fun l J Jx W hJI hJb hY h0 => rows1_at _ l (w1.heap.size + 1) b off m H N cap wd a HN.out HW.out hm hm2 hH hc HA.out (by omega) J Jx W hJb (fun k W1 hj => ⟨(hJI k W1 hj).touch.cellAt q0 (by omega), (hJI k W1 hj).touch.cellAt q1 (by omega)⟩) hY h0)
    ⟨Touch.refl _ _ _ _, HRO.out.congr (fun i _ => fitF_zero m W' f (c, g) i), Nat.zero_le _⟩
    (fun k => { tmps := #[.agg #[.int .i64 wd, .slice a N cap], .int .i64 rows, .int .i64 width, .agg #[.int .i64 c, .int .i64 g], .pointer (some ⟨w.heap.size, 0, none⟩), .pointer (some ⟨w.heap.size + 1, 0, none⟩), undef, .pointer (some ⟨w.heap.size + 1 + 1, 0, none⟩), .pointer (some ⟨w.heap.size + 1 + 1 + 1, 0, none⟩), .pointer (some ⟨w1.heap.size, 0, none⟩), .int .i64 (k : Int), .slice (some ⟨b, off + k * m * 2, none⟩) m (cap - k * m), .int .i64 rows, .int .i64 width, .agg #[.int .i64 c, .int .i64 g], .agg #[.int .i64 width, .slice (some ⟨bo, 0, none⟩) N' N'], .agg #[.int .i64 wd, .slice a N cap], .func (.func 237) #[] #[.pointer (some ⟨w1.heap.size + 1, 0, none⟩)], .int .i64 (k : Int), .slice (some ⟨b, off + k * m * 2, none⟩) m (cap - k * m), undef, undef, undef, undef, undef, undef, undef, undef, undef], defers := [] }) ?assign ?body ?done ?stop
  case assign =>
    intro l k W K hK
    simp only [rowAt]
    gi_wp2
    exact hK
  case body =>
    rintro l k W hk hI
    have ht := hI.touch
    have q2 := ht.cellAt Q0 (by omega)
    by_cases hkR : k = R'
    · subst hkR
      have hEq : ((k : Int) == rows) = true := by rw [HRW.out]; simp
      have HI := hide hI
      clear hI ht
      gi_wp2
      exact ⟨fun j _ _ => rfl, Nat.le_refl _, .inr ⟨rfl, HI.out, by omega⟩⟩
    · have hkl : k < R' := by have := hI.le; omega
      have hEq : ((k : Int) == rows) = false := by rw [HRW.out, beq_eq_false_iff_ne]; omega
      have v0 := ht.cellAt u0 (by omega)
      have v1 := ht.cellAt u1 (by omega)
      have hKW : k * W' + W' ≤ N' := by
        have h := Nat.mul_le_mul_right W' (show k + 1 ≤ R' by omega)
        rw [Nat.add_mul, Nat.one_mul, ← HN'.out] at h
        exact h
      have hKm : k * m + m ≤ N := by
        have h := Nat.mul_le_mul_right m (show k + 1 ≤ H by omega)
        rw [Nat.add_mul, Nat.one_mul, ← HN.out] at h
        exact h
      have HT := hide ht
      have HRW2 := hide hI.row
      have hWs : wL.heap.size ≤ W.heap.size := ht.size
      clear hI ht
      gi_wp2
      refine ⟨trivial, CallsIn.inRound l ((callsIn_wide.2 (row_calls width (k : Int) bo 0 N' N' (k * W') W' _ ⟨Nat.le_refl _, _, rfl, fun _ => rfl⟩ (by rw [HWW.out, Int.natCast_mul]) HWW.out (by omega) (by omega) hKW (by omega) W)).mono ?_)⟩
      rintro e W3 ⟨v, rfl, ⟨hcv, av, rfl, hav⟩, hb3⟩
      obtain rfl := hav (by omega)
      rw [Nat.zero_add]
      have hs3 : W.heap.size ≤ W3.heap.size := hb3.size
      have R3 := hide (HRW2.out.below hb3 (by omega))
      have T3 := hide (HT.out.trans (Touch.of_below hb3 (Nat.le_refl _) (by omega)))
      have B3 := hide hb3
      clear hb3 HT HRW2
      obtain ⟨W4, hrun, hr4, ht4⟩ := run_copy2 (P := Tryz.prog) W3 33 33 3 193 Tryz.underlying33 cell_size2 (some ⟨bo, k * W' * 2, none⟩) (some ⟨b, off + k * m * 2, none⟩) W' (N' - k * W') m (cap - k * m) (min m W') rfl bo (k * W' * 2) (fun i => fitF m W' k f (c, g) (k * W' + i)) (by have h := R3.out.sub (k * W') W' hKW; rw [Nat.zero_add] at h; exact h) (fun _ => rfl) b (off + k * m * 2) (fun i => f (k * m + i)) (((HRL.out (by omega)).touch T3.out (by have := hblt (by omega); omega)).sub (k * m) (min m W') (by omega)) (fun _ => rfl)
      have R4 := hide hr4
      have T4 := hide ht4
      clear hr4 ht4
      gi_wp2
      have h4 := T4.out
      have h5 : Touch bo 0 (N' * 2) W3 W4 := h4.mono (Nat.zero_le _) (by omega)
      refine ⟨fun j h1 h2 => ?_, Nat.le_trans hs3 h4.size, .inl ⟨rfl, ⟨T3.out.trans h5, (R3.out.join (k := k * W') (m := W') (by rw [Nat.zero_add, Nat.zero_add, Nat.add_mul]; exact h4.mono (Nat.le_refl _) (by omega)) (by rw [Nat.zero_add]; exact R4.out) hKW).congr (fun i hi => ?_), by omega⟩⟩⟩
      · exact (h4.block j (by omega) (by omega)).trans (B3.out.block j h2)
      · rw [← fitF_step (by omega)]
        by_cases e : k * W' ≤ i ∧ i < k * W' + W'
        · rw [if_pos e]
          by_cases e2 : i - k * W' < min m W'
          · rw [if_pos e2, if_pos (by omega)]
          · rw [if_neg e2, if_neg (by omega), show k * W' + (i - k * W') = i by omega]
        · rw [if_neg e, if_neg (by omega)]
  case done =>
    rintro D W hD hI hK
    have hle := hI.le
    have ht := hI.touch
    have HRR := hide hI.row
    have HKK := hide hK
    have V0 := ht.cellAt u0 (by omega)
    have V1 := ht.cellAt u1 (by omega)
    replace R0 := ht.cellAt R0 (by omega)
    replace R1 := ht.cellAt R1 (by omega)
    replace Z0 := ht.frozenAt (by omega) Z0
    replace Z1 := ht.frozenAt (by omega) Z1
    have hWs : wL.heap.size ≤ W.heap.size := ht.size
    have bW := hide (b2.trans (ht.below (B := w.heap.size) (by omega) (by omega)))
    obtain ⟨s0, s1⟩ := res2 (w := W) (r := w.heap.size + 3) (.int .i64 width) (.slice (some ⟨bo, 0, none⟩) N' N') R0 R1
    have hKN : D < W.heap.size := (Array.getElem?_eq_some_iff.1 hK).1
    have hK2 := ((KeepsOthers.setCell W ⟨w.heap.size + 3, 0, none⟩ (.int .i64 width)).trans (KeepsOthers.setCell _ ⟨w.heap.size + 3, 1, none⟩ (.slice (some ⟨bo, 0, none⟩) N' N'))).same D _ HKK.out rfl
    have t3 : Touch (w.heap.size + 3) 0 2 W ((W.setCell ⟨w.heap.size + 3, 0, none⟩ (.int .i64 width)).setCell ⟨w.heap.size + 3, 1, none⟩ (.slice (some ⟨bo, 0, none⟩) N' N')) := ((Touch.refl _ _ _ _).setCell (by omega) (by omega) _).setCell (by omega) (by omega) _
    have T3 := hide t3
    have KK2 := hide hK2
    clear ht hI hK t3 hK2 u0 u1 q0 q1
    gi_wp2
    rw [show w.heap.size + 1 + 1 + 1 = w.heap.size + 3 from rfl]
    have hK2 := KK2.out
    have t3 := T3.out
    generalize ((W.setCell ⟨w.heap.size + 3, 0, none⟩ (.int .i64 width)).setCell ⟨w.heap.size + 3, 1, none⟩ (.slice (some ⟨bo, 0, none⟩) N' N')) = W3 at *
    refine ⟨by simp, .inl ⟨_, _, rfl, run_takeDeferred hK2, ?_⟩⟩
    have hrow : ∀ r, some D = some r → ∃ o : Obj, W3.heap[r]? = some o ∧ o.isCells = false := by
      rintro r e
      injection e with e
      subst e
      exact ⟨_, hK2, rfl⟩
    have t0 := cell_kept s0 (grownBy_putObj' W3 D (.deferred none)) hrow
    have t1 := cell_kept s1 (grownBy_putObj' W3 D (.deferred none)) hrow
    have hsz : W.heap.size ≤ (W3.putObj D (.deferred none)).heap.size := by simp [World.putObj]; exact t3.size
    rw [show min R' H = H by omega]
    refine ⟨_, ?_, bo, rfl, by omega, by omega, ?_, ?_⟩
    · simp [results, Tryz.results197, go_sem, t0, t1]
    · exact (HRR.out.touch t3 (by omega)).block (World.putObj_heap_other (by omega))
    · refine (bW.out.trans (t3.below (by omega) (by omega))).trans ?_
      have hgp := grownBy_putObj' W3 D (.deferred none)
      exact ⟨hgp.os, hgp.tape, hgp.output, hgp.size, fun j hj => World.putObj_heap_other (by omega)⟩
  case stop =>
    rintro D W hD ⟨hI, hRH⟩ hK
    have ht := hI.touch
    have HRR := hide hI.row
    have HKK := hide hK
    have V0 := ht.cellAt u0 (by omega)
    have V1 := ht.cellAt u1 (by omega)
    replace R0 := ht.cellAt R0 (by omega)
    replace R1 := ht.cellAt R1 (by omega)
    replace Z0 := ht.frozenAt (by omega) Z0
    replace Z1 := ht.frozenAt (by omega) Z1
    have hWs : wL.heap.size ≤ W.heap.size := ht.size
    have bW := hide (b2.trans (ht.below (B := w.heap.size) (by omega) (by omega)))
    obtain ⟨s0, s1⟩ := res2 (w := W) (r := w.heap.size + 3) (.int .i64 width) (.slice (some ⟨bo, 0, none⟩) N' N') R0 R1
    have hKN : D < W.heap.size := (Array.getElem?_eq_some_iff.1 hK).1
    have hK2 := ((KeepsOthers.setCell W ⟨w.heap.size + 3, 0, none⟩ (.int .i64 width)).trans (KeepsOthers.setCell _ ⟨w.heap.size + 3, 1, none⟩ (.slice (some ⟨bo, 0, none⟩) N' N'))).same D _ HKK.out rfl
    have t3 : Touch (w.heap.size + 3) 0 2 W ((W.setCell ⟨w.heap.size + 3, 0, none⟩ (.int .i64 width)).setCell ⟨w.heap.size + 3, 1, none⟩ (.slice (some ⟨bo, 0, none⟩) N' N')) := ((Touch.refl _ _ _ _).setCell (by omega) (by omega) _).setCell (by omega) (by omega) _
    have T3 := hide t3
    have KK2 := hide hK2
    clear ht hI hK t3 hK2 u0 u1 q0 q1
    gi_wp2
    rw [show w.heap.size + 1 + 1 + 1 = w.heap.size + 3 from rfl]
    have hK2 := KK2.out
    have t3 := T3.out
    generalize ((W.setCell ⟨w.heap.size + 3, 0, none⟩ (.int .i64 width)).setCell ⟨w.heap.size + 3, 1, none⟩ (.slice (some ⟨bo, 0, none⟩) N' N')) = W3 at *
    refine ⟨by simp, .inl ⟨_, _, rfl, run_takeDeferred hK2, ?_⟩⟩
    have hrow : ∀ r, some D = some r → ∃ o : Obj, W3.heap[r]? = some o ∧ o.isCells = false := by
      rintro r e
      injection e with e
      subst e
      exact ⟨_, hK2, rfl⟩
    have t0 := cell_kept s0 (grownBy_putObj' W3 D (.deferred none)) hrow
    have t1 := cell_kept s1 (grownBy_putObj' W3 D (.deferred none)) hrow
    have hsz : W.heap.size ≤ (W3.putObj D (.deferred none)).heap.size := by simp [World.putObj]; exact t3.size
    rw [show min R' H = R' by omega]
    refine ⟨_, ?_, bo, rfl, by omega, by omega, ?_, ?_⟩
    · simp [results, Tryz.results197, go_sem, t0, t1]
    · exact (HRR.out.touch t3 (by omega)).block (World.putObj_heap_other (by omega))
    · refine (bW.out.trans (t3.below (by omega) (by omega))).trans ?_
      have hgp := grownBy_putObj' W3 D (.deferred none)
      exact ⟨hgp.os, hgp.tape, hgp.output, hgp.size, fun j hj => World.putObj_heap_other (by omega)⟩
end Go.Proofs.YtdekegjplegkeaaGreat

/- What ResizeGrid answers, of the program. -/
namespace Go.Proofs.YtdekegjplegkeaaGreat
set_option maxRecDepth 20000
open Go.ChangeShapes Go.WideShapes Go.ChangeAt Go.RowKit
set_option linter.unusedVariables false
set_option linter.unusedSimpArgs false
set_option maxRecDepth 20000

def resizeRes (r wd : Int) (cs bs : List (Int × Int)) (rows width : Int) : GRes := gres r wd cs bs (sizeB rows width) ⟨0, rows, width, mkL (rows.toNat * width.toNat) (fitF wd.toNat width.toNat (min rows.toNat r.toNat) (fun i => cs.getD i (0, 0)) (32, 0)), mkL (bs.length / wd.toNat * width.toNat) (fitF wd.toNat width.toNat (bs.length / wd.toNat) (fun i => bs.getD i (0, 0)) (32, 0))⟩
theorem resizeRes_def (r wd : Int) (cs bs : List (Int × Int)) (rows width : Int) : resizeRes r wd cs bs rows width = gres r wd cs bs (sizeB rows width) ⟨0, rows, width, mkL (rows.toNat * width.toNat) (fitF wd.toNat width.toNat (min rows.toNat r.toNat) (fun i => cs.getD i (0, 0)) (32, 0)), mkL (bs.length / wd.toNat * width.toNat) (fitF wd.toNat width.toNat (bs.length / wd.toNat) (fun i => bs.getD i (0, 0)) (32, 0))⟩ := rfl
/-- A resize of a grid without a fault, in naturals. -/
theorem resize_nats {r wd rows width : Int} {cs bs : List (Int × Int)} (h : GFine r wd cs bs) (hs : sizeB rows width = true) : ∃ R W R' W' Hb N' M' : Nat, r = (R : Int) ∧ wd = (W : Int) ∧ rows = (R' : Int) ∧ width = (W' : Int) ∧ 1 ≤ R ∧ R ≤ 6 ∧ 2 ≤ W ∧ W ≤ 12 ∧ 1 ≤ R' ∧ R' ≤ 6 ∧ 2 ≤ W' ∧ W' ≤ 12 ∧ Hb ≤ 5 ∧ N' ≤ 72 ∧ M' ≤ 60 ∧ 0 < N' ∧ cs.length = R * W ∧ bs.length = Hb * W ∧ bs.length / W = Hb ∧ N' = R' * W' ∧ M' = Hb * W' := by
  obtain ⟨R, W, rfl, rfl, n1, n2, n3, n4, n5, n6, n7, n8, n9, n10⟩ := h.nats
  obtain ⟨s1, s2, s3, s4, s5, s6⟩ := size_mul hs
  obtain ⟨R', rfl⟩ : ∃ X : Nat, rows = X := ⟨rows.toNat, by omega⟩
  obtain ⟨W', rfl⟩ : ∃ X : Nat, width = X := ⟨width.toNat, by omega⟩
  have hd : bs.length = bs.length / W * W := (Nat.div_mul_cancel (Nat.dvd_of_mod_eq_zero n7)).symm
  have hh : bs.length / W ≤ 5 := Nat.div_le_of_le_mul (by rw [Nat.mul_comm]; exact n6)
  have a1 : R' * W' ≤ 6 * W' := Nat.mul_le_mul_right W' (by omega)
  have a2 : 1 * W' ≤ R' * W' := Nat.mul_le_mul_right W' (by omega)
  have a3 : bs.length / W * W' ≤ 5 * W' := Nat.mul_le_mul_right W' hh
  exact ⟨R, W, R', W', bs.length / W, R' * W', bs.length / W * W', rfl, rfl, rfl, rfl, n1, n2, n3, n4, by omega, by omega, by omega, by omega, hh, by omega, by omega, by omega, n5, hd, rfl, rfl, rfl⟩
theorem resizeRes_len (r wd : Int) (cs bs : List (Int × Int)) (rows width : Int) : (resizeRes r wd cs bs rows width).cs.length ≤ 72 ∧ (resizeRes r wd cs bs rows width).bs.length ≤ 60 := by
  by_cases hs : sizeB rows width = true
  · refine gres_len (fun h => ?_)
    obtain ⟨R, W, R', W', Hb, N', M', rfl, rfl, rfl, rfl, _, _, _, _, _, _, _, _, _, n1, n2, _, _, _, n3, n4, n5⟩ := resize_nats h hs
    simp only [mkL_length, Int.toNat_natCast, n3, ← n4, ← n5]
    exact ⟨n1, n2⟩
  · rw [resizeRes_def, Bool.eq_false_iff.2 hs]
    by_cases hG : gridCode r wd cs bs = 0
    · rw [gres_bad hG rfl]; exact ⟨by simp [gbad], by simp [gbad]⟩
    · rw [gres_fault hG]; exact ⟨by simp [gbad], by simp [gbad]⟩
theorem own_rowr {w : World} {base n : Nat} {e : TypeId} {a : Option Addr} {cap : Nat} {xs : List (Int × Int)} (h : w.ownsRow base e 2 (.slice a n cap) n (pvs xs)) : ∃ b, RowR w b 0 n (fun i => xs.getD i (0, 0)) ∧ (0 < n → a = some ⟨b, 0, none⟩) ∧ (0 < n → b < w.heap.size) := by
  by_cases h0 : 0 < n
  · obtain ⟨b, c, e1, _, _, _, h2, hr⟩ := own_row h h0
    injection e1 with e1
    exact ⟨b, hr.read, fun _ => e1, fun _ => h2⟩
  · exact ⟨0, fun i hi => absurd hi (by omega), fun h => absurd h h0, fun h => absurd h h0⟩
/-- What a result holds, whose lists lie in two blocks. -/
theorem gown_two {w w' : World} {base bx by' n m cx cy : Nat} {F G : Nat → Int × Int} (hr : Row w bx 0 n F) (hg : Row w by' 0 m G) (h1 : base ≤ bx) (h2 : bx < by') (h3 : by' < w.heap.size) (hs : w.heap.size ≤ w'.heap.size) (hk : ∀ k, k < w.heap.size → w'.heap[k]? = w.heap[k]? ∨ k < base) :
    GOwn base w'.heap.size w' (.slice (some ⟨bx, 0, none⟩) n cx) (.slice (some ⟨by', 0, none⟩) m cy) (mkL n F) (mkL m G) := by
  have p1 : PairsAt bx (bx + 1) w (.slice (some ⟨bx, 0, none⟩) n cx) (mkL n F) := PairsAt.of_row hr (Nat.le_refl _) (Nat.lt_succ_self _)
  have p2 : PairsAt by' (by' + 1) w (.slice (some ⟨by', 0, none⟩) m cy) (mkL m G) := PairsAt.of_row hg (Nat.le_refl _) (Nat.lt_succ_self _)
  refine ((GOwn.of (lo := base) (hi := w.heap.size) p1 p2 h1 (by omega) (by omega) (by omega) (.inl (by omega))).of_blocks (fun i h1 h2 => ?_)).mono (Nat.le_refl _) hs
  rcases hk i h2 with h | h
  · exact h
  · omega

theorem rowr_below {w w' : World} {b off n : Nat} {f : Nat → Int × Int} (h : RowR w b off n f) (hb : Below w.heap.size w w') (hl : 0 < n → b < w.heap.size) : RowR w' b off n f := by
  by_cases h0 : 0 < n
  · exact h.below hb (hl h0)
  · exact fun i hi => absurd hi (by omega)

set_option maxHeartbeats 2000000 in
theorem implResizeGrid_calls (r wd : Int) (cs bs : List (Int × Int)) (rows width : Int) (v1 v2 : Value) (w : World) (hn1 : cs.length ≤ 1048576) (hn2 : bs.length ≤ 1048576) (h1 : PRead w v1 cs) (h2 : PRead w v2 bs) :
    Calls Tryz.prog 136 #[.agg #[.int .i64 r, .int .i64 wd, v1, v2], .int .i64 rows, .int .i64 width] w fun e w' => ∃ v5 v6, e = .returned (.agg #[.int .i64 (resizeRes r wd cs bs rows width).code, .int .i64 (resizeRes r wd cs bs rows width).rows, .int .i64 (resizeRes r wd cs bs rows width).wd, v5, v6]) ∧ GOwn w.heap.size w'.heap.size w' v5 v6 (resizeRes r wd cs bs rows width).cs (resizeRes r wd cs bs rows width).bs ∧ Below w.heap.size w w' := by
  have h1' := h1
  obtain ⟨a1, c1, rfl, hx1⟩ := h1'
  clear hx1
  have h2' := h2
  obtain ⟨a2, c2, rfl, hx2⟩ := h2'
  clear hx2
  have hb0 : Below w.heap.size w ((w.alloc (.cells #[.int .i64 r, .int .i64 wd, .slice a1 cs.length c1, .slice a2 bs.length c2] 35)).alloc (.cells #[.int .i64 0, .int .i64 0, .int .i64 0, .slice none 0 0, .slice none 0 0] 185)) := (by repeat' (first | with_reducible exact Below.refl _ _ | with_reducible assumption | with_reducible refine Below.drew ?_ | with_reducible refine Below.alloc ?_ ?_ _ | with_reducible refine Below.setCell ?_ ?_ _ | (simp; done) | (simp; omega) | omega))
  have HF := implGridFault_calls r wd cs bs _ _ ((w.alloc (.cells #[.int .i64 r, .int .i64 wd, .slice a1 cs.length c1, .slice a2 bs.length c2] 35)).alloc (.cells #[.int .i64 0, .int .i64 0, .int .i64 0, .slice none 0 0, .slice none 0 0] 185)) hn1 hn2 (h1.below hb0) (h2.below hb0)
  by_cases hG : gridCode r wd cs bs = 0
  · cases k0 : sizeB rows width with
    | false =>
      rw [resizeRes_def, gres_bad hG (by exact k0)]
      rw [hG] at HF
      simp only [gbad]
      go_enter Tryz.func136, Tryz.ntmps136
      go_wp2_with fail
      refine HF.mono ?_
      rintro e w1 ⟨rfl, hb1⟩
      have A0 : w1.cell? ⟨w.heap.size, 0, none⟩ = some (.int .i64 r) := cellb hb1 (by simp [go_sem])
      have A1 : w1.cell? ⟨w.heap.size, 1, none⟩ = some (.int .i64 wd) := cellb hb1 (by simp [go_sem])
      have A2 : w1.cell? ⟨w.heap.size, 2, none⟩ = some (.slice a1 cs.length c1) := cellb hb1 (by simp [go_sem])
      have A3 : w1.cell? ⟨w.heap.size, 3, none⟩ = some (.slice a2 bs.length c2) := cellb hb1 (by simp [go_sem])
      have R0 : w1.cell? ⟨w.heap.size + 1, 0, none⟩ = some (.int .i64 0) := cellb hb1 (by simp [go_sem])
      have Z0 : w1.frozen? ⟨w.heap.size + 1, 0, none⟩ = false := by rw [hb1.frozen (p := ⟨w.heap.size + 1, 0, none⟩) (by simp)]; simp [go_sem]
      have R1 : w1.cell? ⟨w.heap.size + 1, 1, none⟩ = some (.int .i64 0) := cellb hb1 (by simp [go_sem])
      have Z1 : w1.frozen? ⟨w.heap.size + 1, 1, none⟩ = false := by rw [hb1.frozen (p := ⟨w.heap.size + 1, 1, none⟩) (by simp)]; simp [go_sem]
      have R2 : w1.cell? ⟨w.heap.size + 1, 2, none⟩ = some (.int .i64 0) := cellb hb1 (by simp [go_sem])
      have Z2 : w1.frozen? ⟨w.heap.size + 1, 2, none⟩ = false := by rw [hb1.frozen (p := ⟨w.heap.size + 1, 2, none⟩) (by simp)]; simp [go_sem]
      have R3 : w1.cell? ⟨w.heap.size + 1, 3, none⟩ = some (.slice none 0 0) := cellb hb1 (by simp [go_sem])
      have Z3 : w1.frozen? ⟨w.heap.size + 1, 3, none⟩ = false := by rw [hb1.frozen (p := ⟨w.heap.size + 1, 3, none⟩) (by simp)]; simp [go_sem]
      have R4 : w1.cell? ⟨w.heap.size + 1, 4, none⟩ = some (.slice none 0 0) := cellb hb1 (by simp [go_sem])
      have Z4 : w1.frozen? ⟨w.heap.size + 1, 4, none⟩ = false := by rw [hb1.frozen (p := ⟨w.heap.size + 1, 4, none⟩) (by simp)]; simp [go_sem]
      have hs1 : w.heap.size + 2 ≤ w1.heap.size := by have := hb1.size; simp at this; omega
      have b1 : Below w.heap.size w w1 := hb0.trans (hb1.mono (by simp; omega))
      clear hb1 hb0 HF
      go_wp2_with (first
        | (go_at_call 164; refine (isSize_calls _ _ _).mono ?_; rintro e w' ⟨rfl, hw⟩; rw [hw, k0]; clear hw w'))
      have hr := res5 (w := w1) (r := w.heap.size + 1) (.int .i64 3) (.int .i64 0) (.int .i64 0) (.slice none 0 0) (.slice none 0 0) R0 R1 R2 R3 R4
      go_wp2
      refine bodyPost_ret (v := .agg #[.int .i64 3, .int .i64 0, .int .i64 0, .slice none 0 0, .slice none 0 0]) (by simp only [results, Tryz.results136]; simp [go_sem, hr.1, hr.2.1, hr.2.2.1, hr.2.2.2.1, hr.2.2.2.2]) rfl ⟨_, _, rfl, ?_, b1.trans (show Below w.heap.size w1 _ from (by repeat' (first | with_reducible exact Below.refl _ _ | with_reducible assumption | with_reducible refine Below.drew ?_ | with_reducible refine Below.alloc ?_ ?_ _ | with_reducible refine Below.setCell ?_ ?_ _ | (simp; done) | (simp; omega) | omega)))⟩
      exact GOwn.nil _ _ _ (by have := b1.size; simp [World.setCell]; omega)
    | true =>
      rw [resizeRes_def, gres_ok hG k0]
      rw [hG] at HF
      have hfine := gfine_of_code hG
      obtain ⟨n1, n2, hq, n8, n9, n10⟩ := hfine.short
      obtain ⟨R, W, R', W', Hb, N', M', eR, eW, rfl, rfl, p1, p2, p3, p4, p5, p6, p7, p8, p9, p10, p11, p12, e1, e2, e3, e4, e5⟩ := resize_nats hfine k0
      clear hfine hG
      have eW' : wd.toNat = W := by omega
      have eR' : r.toNat = R := by omega
      simp only [eW', eR', Int.toNat_natCast, e3, ← e4, ← e5]
      have EW := hide eW
      have E1 := hide e1
      have E2 := hide e2
      have E4 := hide e4
      have E5 := hide e5
      have eq1 : ((N' : Nat) : Int) / (W' : Int) = (R' : Int) := by rw [e4]; exact rows_back (by omega)
      have EQ1 := hide eq1
      have eq2 : (bs.length : Int) / wd = (Hb : Int) := by rw [e2, eW]; exact rows_back (by omega)
      have EQ2 := hide eq2
      clear eW eW' eR eR' e1 e2 e3 e4 e5 eq1 eq2
      go_enter Tryz.func136, Tryz.ntmps136
      go_wp2_with fail
      refine HF.mono ?_
      rintro e w1 ⟨rfl, hb1⟩
      have A0 : w1.cell? ⟨w.heap.size, 0, none⟩ = some (.int .i64 r) := cellb hb1 (by simp [go_sem])
      have A1 : w1.cell? ⟨w.heap.size, 1, none⟩ = some (.int .i64 wd) := cellb hb1 (by simp [go_sem])
      have A2 : w1.cell? ⟨w.heap.size, 2, none⟩ = some (.slice a1 cs.length c1) := cellb hb1 (by simp [go_sem])
      have A3 : w1.cell? ⟨w.heap.size, 3, none⟩ = some (.slice a2 bs.length c2) := cellb hb1 (by simp [go_sem])
      have R0 : w1.cell? ⟨w.heap.size + 1, 0, none⟩ = some (.int .i64 0) := cellb hb1 (by simp [go_sem])
      have Z0 : w1.frozen? ⟨w.heap.size + 1, 0, none⟩ = false := by rw [hb1.frozen (p := ⟨w.heap.size + 1, 0, none⟩) (by simp)]; simp [go_sem]
      have R1 : w1.cell? ⟨w.heap.size + 1, 1, none⟩ = some (.int .i64 0) := cellb hb1 (by simp [go_sem])
      have Z1 : w1.frozen? ⟨w.heap.size + 1, 1, none⟩ = false := by rw [hb1.frozen (p := ⟨w.heap.size + 1, 1, none⟩) (by simp)]; simp [go_sem]
      have R2 : w1.cell? ⟨w.heap.size + 1, 2, none⟩ = some (.int .i64 0) := cellb hb1 (by simp [go_sem])
      have Z2 : w1.frozen? ⟨w.heap.size + 1, 2, none⟩ = false := by rw [hb1.frozen (p := ⟨w.heap.size + 1, 2, none⟩) (by simp)]; simp [go_sem]
      have R3 : w1.cell? ⟨w.heap.size + 1, 3, none⟩ = some (.slice none 0 0) := cellb hb1 (by simp [go_sem])
      have Z3 : w1.frozen? ⟨w.heap.size + 1, 3, none⟩ = false := by rw [hb1.frozen (p := ⟨w.heap.size + 1, 3, none⟩) (by simp)]; simp [go_sem]
      have R4 : w1.cell? ⟨w.heap.size + 1, 4, none⟩ = some (.slice none 0 0) := cellb hb1 (by simp [go_sem])
      have Z4 : w1.frozen? ⟨w.heap.size + 1, 4, none⟩ = false := by rw [hb1.frozen (p := ⟨w.heap.size + 1, 4, none⟩) (by simp)]; simp [go_sem]
      have hs1 : w.heap.size + 2 ≤ w1.heap.size := by have := hb1.size; simp at this; omega
      have b1 : Below w.heap.size w w1 := hb0.trans (hb1.mono (by simp; omega))
      clear hb1 hb0 HF
      go_wp2_with (first
        | (go_at_call 164; refine (isSize_calls _ _ _).mono ?_; rintro e w' ⟨rfl, hw⟩; rw [hw, k0]; clear hw w'))
      refine (sheetsOf_calls r wd cs bs _ _ w1 hn1 hn2 (h1.below b1) (h2.below b1)).mono ?_
      rintro e w2 ⟨x, y, m, rfl, m1, m2, ox, xm, oy, hb2⟩
      replace A0 := cellb hb2 A0
      replace A1 := cellb hb2 A1
      replace A2 := cellb hb2 A2
      replace A3 := cellb hb2 A3
      replace R0 := cellb hb2 R0
      replace R1 := cellb hb2 R1
      replace R2 := cellb hb2 R2
      replace R3 := cellb hb2 R3
      replace R4 := cellb hb2 R4
      replace Z0 : w2.frozen? ⟨w.heap.size + 1, 0, none⟩ = false := by rw [hb2.frozen (p := ⟨w.heap.size + 1, 0, none⟩) (by simp; omega)]; exact Z0
      replace Z1 : w2.frozen? ⟨w.heap.size + 1, 1, none⟩ = false := by rw [hb2.frozen (p := ⟨w.heap.size + 1, 1, none⟩) (by simp; omega)]; exact Z1
      replace Z2 : w2.frozen? ⟨w.heap.size + 1, 2, none⟩ = false := by rw [hb2.frozen (p := ⟨w.heap.size + 1, 2, none⟩) (by simp; omega)]; exact Z2
      replace Z3 : w2.frozen? ⟨w.heap.size + 1, 3, none⟩ = false := by rw [hb2.frozen (p := ⟨w.heap.size + 1, 3, none⟩) (by simp; omega)]; exact Z3
      replace Z4 : w2.frozen? ⟨w.heap.size + 1, 4, none⟩ = false := by rw [hb2.frozen (p := ⟨w.heap.size + 1, 4, none⟩) (by simp; omega)]; exact Z4
      have b2 := b1.trans (hb2.mono b1.size)
      have hs2 : w1.heap.size ≤ w2.heap.size := hb2.size
      obtain ⟨bx, cx, rfl, hcx, _, x1, x2, hrow⟩ := own_row ox n8
      obtain ⟨ay, cy, rfl, hyc⟩ := own_room2 oy
      have HX := hide hrow
      have HY := hide oy
      clear hrow oy ox xm hb2
      go_wp2_with fail
      have hb3 : Below w2.heap.size w2 ((w2.alloc (.cells #[.int .i64 wd, .slice (some ⟨bx, 0, none⟩) cs.length cx] 217)).alloc (.cells #[.int .i64 wd, .slice ay bs.length cy] 217)) := (by repeat' (first | with_reducible exact Below.refl _ _ | with_reducible assumption | with_reducible refine Below.drew ?_ | with_reducible refine Below.alloc ?_ ?_ _ | with_reducible refine Below.setCell ?_ ?_ _ | (simp; done) | (simp; omega) | omega))
      have S0 : ((w2.alloc (.cells #[.int .i64 wd, .slice (some ⟨bx, 0, none⟩) cs.length cx] 217)).alloc (.cells #[.int .i64 wd, .slice ay bs.length cy] 217)).cell? ⟨w2.heap.size, 0, none⟩ = some (.int .i64 wd) := by simp [go_sem]
      have S1 : ((w2.alloc (.cells #[.int .i64 wd, .slice (some ⟨bx, 0, none⟩) cs.length cx] 217)).alloc (.cells #[.int .i64 wd, .slice ay bs.length cy] 217)).cell? ⟨w2.heap.size, 1, none⟩ = some (.slice (some ⟨bx, 0, none⟩) cs.length cx) := by simp [go_sem]
      have U0 : ((w2.alloc (.cells #[.int .i64 wd, .slice (some ⟨bx, 0, none⟩) cs.length cx] 217)).alloc (.cells #[.int .i64 wd, .slice ay bs.length cy] 217)).cell? ⟨w2.heap.size + 1, 0, none⟩ = some (.int .i64 wd) := by simp [go_sem]
      have U1 : ((w2.alloc (.cells #[.int .i64 wd, .slice (some ⟨bx, 0, none⟩) cs.length cx] 217)).alloc (.cells #[.int .i64 wd, .slice ay bs.length cy] 217)).cell? ⟨w2.heap.size + 1, 1, none⟩ = some (.slice ay bs.length cy) := by simp [go_sem]
      have hs3 : ((w2.alloc (.cells #[.int .i64 wd, .slice (some ⟨bx, 0, none⟩) cs.length cx] 217)).alloc (.cells #[.int .i64 wd, .slice ay bs.length cy] 217)).heap.size = w2.heap.size + 2 := by simp
      generalize ((w2.alloc (.cells #[.int .i64 wd, .slice (some ⟨bx, 0, none⟩) cs.length cx] 217)).alloc (.cells #[.int .i64 wd, .slice ay bs.length cy] 217)) = w3 at *
      replace A0 := cellb hb3 A0
      replace A1 := cellb hb3 A1
      replace A2 := cellb hb3 A2
      replace A3 := cellb hb3 A3
      replace R0 := cellb hb3 R0
      replace R1 := cellb hb3 R1
      replace R2 := cellb hb3 R2
      replace R3 := cellb hb3 R3
      replace R4 := cellb hb3 R4
      replace Z0 : w3.frozen? ⟨w.heap.size + 1, 0, none⟩ = false := by rw [hb3.frozen (p := ⟨w.heap.size + 1, 0, none⟩) (by simp; omega)]; exact Z0
      replace Z1 : w3.frozen? ⟨w.heap.size + 1, 1, none⟩ = false := by rw [hb3.frozen (p := ⟨w.heap.size + 1, 1, none⟩) (by simp; omega)]; exact Z1
      replace Z2 : w3.frozen? ⟨w.heap.size + 1, 2, none⟩ = false := by rw [hb3.frozen (p := ⟨w.heap.size + 1, 2, none⟩) (by simp; omega)]; exact Z2
      replace Z3 : w3.frozen? ⟨w.heap.size + 1, 3, none⟩ = false := by rw [hb3.frozen (p := ⟨w.heap.size + 1, 3, none⟩) (by simp; omega)]; exact Z3
      replace Z4 : w3.frozen? ⟨w.heap.size + 1, 4, none⟩ = false := by rw [hb3.frozen (p := ⟨w.heap.size + 1, 4, none⟩) (by simp; omega)]; exact Z4
      have b3 := b2.trans (hb3.mono b2.size)
      replace HX := hide (HX.out.below hb3 x2)
      replace HY := hide (own_below HY.out hb3)
      clear hb3 b2
      obtain ⟨by', hyr, hya, hyl⟩ := own_rowr HY.out
      have HYR := hide hyr
      have HYA := hide hya
      have HYL := hide hyl
      clear hyr hya hyl HY
      refine wp_region_held_drew (S := (fun w' => w'.cell? ⟨w2.heap.size, 0, none⟩ = some (.int .i64 wd) ∧ w'.cell? ⟨w2.heap.size, 1, none⟩ = some (.slice (some ⟨bx, 0, none⟩) cs.length cx) ∧ w'.cell? ⟨w2.heap.size + 1, 0, none⟩ = some (.int .i64 wd) ∧ w'.cell? ⟨w2.heap.size + 1, 1, none⟩ = some (.slice ay bs.length cy))) (by kernel_rfl) ?_ (fun hHeld => ?_)
      · (try dsimp only); exact ⟨S0, S1, U0, U1⟩
      refine wpAnyH_take (i := 0) (oi := ⟨_, _, _, _, _, _⟩) (v := ?_) rfl (by kernel_rfl) (by kernel_rfl) (by kernel_rfl) (fun _ _ _ h => h) (Or.inl ⟨by rfl, ?_⟩) hHeld ?_
      rotate_left
      · (intro w hSw; (try dsimp only at hSw); go_simp; try (with_reducible rfl))
      try simp only [Act.put, List.setIfInBounds_toArray, List.set_cons_zero, List.set_cons_succ]
      refine wpAnyH_take (i := 1) (oi := ⟨_, _, _, _, _, _⟩) (v := ?_) rfl (by kernel_rfl) (by kernel_rfl) (by kernel_rfl) (fun _ _ _ h => h) (Or.inl ⟨by rfl, ?_⟩) hHeld ?_
      rotate_left
      · (intro w hSw; (try dsimp only at hSw); go_simp; try (with_reducible rfl))
      try simp only [Act.put, List.setIfInBounds_toArray, List.set_cons_zero, List.set_cons_succ]
      refine wpAnyH_take (i := 2) (oi := ⟨_, _, _, _, _, _⟩) (v := ?_) rfl (by kernel_rfl) (by kernel_rfl) (by kernel_rfl) (fun _ _ _ h => h) (Or.inl ⟨by rfl, ?_⟩) hHeld ?_
      rotate_left
      · (intro w hSw; (try dsimp only at hSw); go_simp; try (with_reducible rfl))
      try simp only [Act.put, List.setIfInBounds_toArray, List.set_cons_zero, List.set_cons_succ]
      refine wpAnyH_take (i := 5) (oi := ⟨_, _, _, _, _, _⟩) (v := ?_) rfl (by kernel_rfl) (by kernel_rfl) (by kernel_rfl) (fun _ _ _ h => h) (Or.inl ⟨by rfl, ?_⟩) hHeld ?_
      rotate_left
      · (intro w hSw; (try dsimp only at hSw); go_simp; try (with_reducible rfl))
      try simp only [Act.put, List.setIfInBounds_toArray, List.set_cons_zero, List.set_cons_succ]
      refine wpAnyH_take (i := 6) (oi := ⟨_, _, _, _, _, _⟩) (v := ?_) rfl (by kernel_rfl) (by kernel_rfl) (by kernel_rfl) (fun _ _ _ h => h) (Or.inl ⟨by rfl, ?_⟩) hHeld ?_
      rotate_left
      · (intro w hSw; (try dsimp only at hSw); go_simp; try (with_reducible rfl))
      try simp only [Act.put, List.setIfInBounds_toArray, List.set_cons_zero, List.set_cons_succ]
      refine wpAnyH_take (i := 8) (oi := ⟨_, _, _, _, _, _⟩) (v := ?_) rfl (by kernel_rfl) (by kernel_rfl) (by kernel_rfl) (fun _ _ _ h => h) (Or.inl ⟨by rfl, ?_⟩) hHeld ?_
      rotate_left
      · (intro w hSw; (try dsimp only at hSw); go_simp; try (with_reducible rfl))
      try simp only [Act.put, List.setIfInBounds_toArray, List.set_cons_zero, List.set_cons_succ]
      refine wpAnyH_ready (rs := [3]) (by kernel_rfl) (by simp) ?_
      refine AllReadyH.cons (o := ⟨_, _, _, _, _, _⟩) rfl (fun K hK => ?_) AllReadyH.nil
      go_simp
      go_at_call 198
      refine (blankOf_calls 0 _).mono ?_
      rintro e w4 ⟨rfl, hb4⟩
      replace hb4 : Below w3.heap.size w3 w4 := (below_drewN (Below.refl _ _) 1).trans hb4
      have hs4 : w3.heap.size ≤ w4.heap.size := hb4.size
      replace A0 := cellb hb4 A0
      replace A1 := cellb hb4 A1
      replace A2 := cellb hb4 A2
      replace A3 := cellb hb4 A3
      replace R0 := cellb hb4 R0
      replace R1 := cellb hb4 R1
      replace R2 := cellb hb4 R2
      replace R3 := cellb hb4 R3
      replace R4 := cellb hb4 R4
      replace S0 := cellb hb4 S0
      replace S1 := cellb hb4 S1
      replace U0 := cellb hb4 U0
      replace U1 := cellb hb4 U1
      replace Z0 : w4.frozen? ⟨w.heap.size + 1, 0, none⟩ = false := by rw [hb4.frozen (p := ⟨w.heap.size + 1, 0, none⟩) (by simp; omega)]; exact Z0
      replace Z1 : w4.frozen? ⟨w.heap.size + 1, 1, none⟩ = false := by rw [hb4.frozen (p := ⟨w.heap.size + 1, 1, none⟩) (by simp; omega)]; exact Z1
      replace Z2 : w4.frozen? ⟨w.heap.size + 1, 2, none⟩ = false := by rw [hb4.frozen (p := ⟨w.heap.size + 1, 2, none⟩) (by simp; omega)]; exact Z2
      replace Z3 : w4.frozen? ⟨w.heap.size + 1, 3, none⟩ = false := by rw [hb4.frozen (p := ⟨w.heap.size + 1, 3, none⟩) (by simp; omega)]; exact Z3
      replace Z4 : w4.frozen? ⟨w.heap.size + 1, 4, none⟩ = false := by rw [hb4.frozen (p := ⟨w.heap.size + 1, 4, none⟩) (by simp; omega)]; exact Z4
      have b4 := b3.trans (hb4.mono b3.size)
      replace HX := hide (HX.out.below hb4 (by omega))
      replace HYR := hide (rowr_below HYR.out hb4 HYL.out)
      replace HYL := hide (fun h => Nat.lt_of_lt_of_le (HYL.out h) hs4)
      clear b3 hb4
      try go_wp2_with fail
      refine hK.out _ _ ?_ ?_
      · (try dsimp only); exact ⟨S0, S1, U0, U1⟩
      clear hHeld hK K
      intro hHeld
      try simp only [Act.put, List.setIfInBounds_toArray, List.set_cons_zero, List.set_cons_succ]
      refine wpAnyH_ready (rs := [4]) (by kernel_rfl) (by simp) ?_
      refine AllReadyH.cons (o := ⟨_, _, _, _, _, _⟩) rfl (fun K hK => ?_) AllReadyH.nil
      go_simp
      go_at_call 197
      refine (resized_calls wd (R' : Int) (W' : Int) 32 0 bx 0 R W cs.length cx R' W' N' _ _ w4 HX.out.read E1.out EW.out rfl rfl E4.out (by omega) (by omega) (by omega) (by omega) (by omega) (by omega) hcx (fun _ => rfl) (by omega) (by omega)).mono ?_
      rintro e w5 ⟨bo, rfl, o1, o2, hro, hb5⟩
      have hs5 : w4.heap.size ≤ w5.heap.size := hb5.size
      have HRO := hide hro
      clear hro
      replace A0 := cellb hb5 A0
      replace A1 := cellb hb5 A1
      replace A2 := cellb hb5 A2
      replace A3 := cellb hb5 A3
      replace R0 := cellb hb5 R0
      replace R1 := cellb hb5 R1
      replace R2 := cellb hb5 R2
      replace R3 := cellb hb5 R3
      replace R4 := cellb hb5 R4
      replace S0 := cellb hb5 S0
      replace S1 := cellb hb5 S1
      replace U0 := cellb hb5 U0
      replace U1 := cellb hb5 U1
      replace Z0 : w5.frozen? ⟨w.heap.size + 1, 0, none⟩ = false := by rw [hb5.frozen (p := ⟨w.heap.size + 1, 0, none⟩) (by simp; omega)]; exact Z0
      replace Z1 : w5.frozen? ⟨w.heap.size + 1, 1, none⟩ = false := by rw [hb5.frozen (p := ⟨w.heap.size + 1, 1, none⟩) (by simp; omega)]; exact Z1
      replace Z2 : w5.frozen? ⟨w.heap.size + 1, 2, none⟩ = false := by rw [hb5.frozen (p := ⟨w.heap.size + 1, 2, none⟩) (by simp; omega)]; exact Z2
      replace Z3 : w5.frozen? ⟨w.heap.size + 1, 3, none⟩ = false := by rw [hb5.frozen (p := ⟨w.heap.size + 1, 3, none⟩) (by simp; omega)]; exact Z3
      replace Z4 : w5.frozen? ⟨w.heap.size + 1, 4, none⟩ = false := by rw [hb5.frozen (p := ⟨w.heap.size + 1, 4, none⟩) (by simp; omega)]; exact Z4
      have b5 := b4.trans (hb5.mono b4.size)
      replace HYR := hide (rowr_below HYR.out hb5 HYL.out)
      replace HYL := hide (fun h => Nat.lt_of_lt_of_le (HYL.out h) hs5)
      clear HX
      clear b4 hb5
      try go_wp2_with fail
      refine hK.out _ _ ?_ ?_
      · (try dsimp only); exact ⟨S0, S1, U0, U1⟩
      clear hHeld hK K
      intro hHeld
      try simp only [Act.put, List.setIfInBounds_toArray, List.set_cons_zero, List.set_cons_succ]
      refine wpAnyH_ready (rs := [7]) (by kernel_rfl) (by simp) ?_
      refine AllReadyH.cons (o := ⟨_, _, _, _, _, _⟩) rfl (fun K hK => ?_) AllReadyH.nil
      go_simp
      go_at_call 199
      refine (height_calls wd n1 n2 ay bs.length cy hn2 _).mono ?_
      rintro e w6 ⟨rfl, hb6⟩
      rw [EQ2.out]
      have hs6 : w5.heap.size ≤ w6.heap.size := hb6.size
      replace A0 := cellb hb6 A0
      replace A1 := cellb hb6 A1
      replace A2 := cellb hb6 A2
      replace A3 := cellb hb6 A3
      replace R0 := cellb hb6 R0
      replace R1 := cellb hb6 R1
      replace R2 := cellb hb6 R2
      replace R3 := cellb hb6 R3
      replace R4 := cellb hb6 R4
      replace S0 := cellb hb6 S0
      replace S1 := cellb hb6 S1
      replace U0 := cellb hb6 U0
      replace U1 := cellb hb6 U1
      replace Z0 : w6.frozen? ⟨w.heap.size + 1, 0, none⟩ = false := by rw [hb6.frozen (p := ⟨w.heap.size + 1, 0, none⟩) (by simp; omega)]; exact Z0
      replace Z1 : w6.frozen? ⟨w.heap.size + 1, 1, none⟩ = false := by rw [hb6.frozen (p := ⟨w.heap.size + 1, 1, none⟩) (by simp; omega)]; exact Z1
      replace Z2 : w6.frozen? ⟨w.heap.size + 1, 2, none⟩ = false := by rw [hb6.frozen (p := ⟨w.heap.size + 1, 2, none⟩) (by simp; omega)]; exact Z2
      replace Z3 : w6.frozen? ⟨w.heap.size + 1, 3, none⟩ = false := by rw [hb6.frozen (p := ⟨w.heap.size + 1, 3, none⟩) (by simp; omega)]; exact Z3
      replace Z4 : w6.frozen? ⟨w.heap.size + 1, 4, none⟩ = false := by rw [hb6.frozen (p := ⟨w.heap.size + 1, 4, none⟩) (by simp; omega)]; exact Z4
      have b6 := b5.trans (hb6.mono b5.size)
      replace HRO := hide (HRO.out.below hb6 (by omega))
      replace HYR := hide (rowr_below HYR.out hb6 HYL.out)
      replace HYL := hide (fun h => Nat.lt_of_lt_of_le (HYL.out h) hs6)
      clear b5 hb6
      try go_wp2_with fail
      refine hK.out _ _ ?_ ?_
      · (try dsimp only); exact ⟨S0, S1, U0, U1⟩
      clear hHeld hK K
      intro hHeld
      try simp only [Act.put, List.setIfInBounds_toArray, List.set_cons_zero, List.set_cons_succ]
      refine wpAnyH_ready (rs := [9]) (by kernel_rfl) (by simp) ?_
      refine AllReadyH.cons (o := ⟨_, _, _, _, _, _⟩) rfl (fun K hK => ?_) AllReadyH.nil
      go_simp
      go_at_call 198
      refine (blankOf_calls 0 _).mono ?_
      rintro e w7 ⟨rfl, hb7⟩
      have hs7 : w6.heap.size ≤ w7.heap.size := hb7.size
      replace A0 := cellb hb7 A0
      replace A1 := cellb hb7 A1
      replace A2 := cellb hb7 A2
      replace A3 := cellb hb7 A3
      replace R0 := cellb hb7 R0
      replace R1 := cellb hb7 R1
      replace R2 := cellb hb7 R2
      replace R3 := cellb hb7 R3
      replace R4 := cellb hb7 R4
      replace S0 := cellb hb7 S0
      replace S1 := cellb hb7 S1
      replace U0 := cellb hb7 U0
      replace U1 := cellb hb7 U1
      replace Z0 : w7.frozen? ⟨w.heap.size + 1, 0, none⟩ = false := by rw [hb7.frozen (p := ⟨w.heap.size + 1, 0, none⟩) (by simp; omega)]; exact Z0
      replace Z1 : w7.frozen? ⟨w.heap.size + 1, 1, none⟩ = false := by rw [hb7.frozen (p := ⟨w.heap.size + 1, 1, none⟩) (by simp; omega)]; exact Z1
      replace Z2 : w7.frozen? ⟨w.heap.size + 1, 2, none⟩ = false := by rw [hb7.frozen (p := ⟨w.heap.size + 1, 2, none⟩) (by simp; omega)]; exact Z2
      replace Z3 : w7.frozen? ⟨w.heap.size + 1, 3, none⟩ = false := by rw [hb7.frozen (p := ⟨w.heap.size + 1, 3, none⟩) (by simp; omega)]; exact Z3
      replace Z4 : w7.frozen? ⟨w.heap.size + 1, 4, none⟩ = false := by rw [hb7.frozen (p := ⟨w.heap.size + 1, 4, none⟩) (by simp; omega)]; exact Z4
      have b7 := b6.trans (hb7.mono b6.size)
      replace HRO := hide (HRO.out.below hb7 (by omega))
      replace HYR := hide (rowr_below HYR.out hb7 HYL.out)
      replace HYL := hide (fun h => Nat.lt_of_lt_of_le (HYL.out h) hs7)
      clear b6 hb7
      try go_wp2_with fail
      refine hK.out _ _ ?_ ?_
      · (try dsimp only); exact ⟨S0, S1, U0, U1⟩
      clear hHeld hK K
      intro hHeld
      try simp only [Act.put, List.setIfInBounds_toArray, List.set_cons_zero, List.set_cons_succ]
      refine wpAnyH_ready (rs := [10]) (by kernel_rfl) (by simp) ?_
      refine AllReadyH.cons (o := ⟨_, _, _, _, _, _⟩) rfl (fun K hK => ?_) AllReadyH.nil
      go_simp
      go_at_call 197
      refine (resized_calls wd (Hb : Int) (W' : Int) 32 0 by' 0 Hb W bs.length cy Hb W' M' _ _ w7 HYR.out E2.out EW.out rfl rfl E5.out (by omega) (by omega) (by omega) (by omega) (by omega) (by omega) hyc HYA.out (by omega) (by omega)).mono ?_
      rintro e w8 ⟨bp, rfl, o3, o4, hrp, hb8⟩
      have hs8 : w7.heap.size ≤ w8.heap.size := hb8.size
      rw [Nat.min_self] at hrp
      have HRP := hide hrp
      clear hrp
      replace A0 := cellb hb8 A0
      replace A1 := cellb hb8 A1
      replace A2 := cellb hb8 A2
      replace A3 := cellb hb8 A3
      replace R0 := cellb hb8 R0
      replace R1 := cellb hb8 R1
      replace R2 := cellb hb8 R2
      replace R3 := cellb hb8 R3
      replace R4 := cellb hb8 R4
      replace S0 := cellb hb8 S0
      replace S1 := cellb hb8 S1
      replace U0 := cellb hb8 U0
      replace U1 := cellb hb8 U1
      replace Z0 : w8.frozen? ⟨w.heap.size + 1, 0, none⟩ = false := by rw [hb8.frozen (p := ⟨w.heap.size + 1, 0, none⟩) (by simp; omega)]; exact Z0
      replace Z1 : w8.frozen? ⟨w.heap.size + 1, 1, none⟩ = false := by rw [hb8.frozen (p := ⟨w.heap.size + 1, 1, none⟩) (by simp; omega)]; exact Z1
      replace Z2 : w8.frozen? ⟨w.heap.size + 1, 2, none⟩ = false := by rw [hb8.frozen (p := ⟨w.heap.size + 1, 2, none⟩) (by simp; omega)]; exact Z2
      replace Z3 : w8.frozen? ⟨w.heap.size + 1, 3, none⟩ = false := by rw [hb8.frozen (p := ⟨w.heap.size + 1, 3, none⟩) (by simp; omega)]; exact Z3
      replace Z4 : w8.frozen? ⟨w.heap.size + 1, 4, none⟩ = false := by rw [hb8.frozen (p := ⟨w.heap.size + 1, 4, none⟩) (by simp; omega)]; exact Z4
      have b8 := b7.trans (hb8.mono b7.size)
      replace HRO := hide (HRO.out.below hb8 (by omega))
      clear HYR HYL HYA
      clear b7 hb8
      try go_wp2_with fail
      refine hK.out _ _ ?_ ?_
      · (try dsimp only); exact ⟨S0, S1, U0, U1⟩
      clear hHeld hK K
      intro hHeld
      try simp only [Act.put, List.setIfInBounds_toArray, List.set_cons_zero, List.set_cons_succ]
      refine wpAnyH_ready (rs := [11]) (by kernel_rfl) (by simp) ?_
      refine AllReadyH.cons (o := ⟨_, _, _, _, _, _⟩) rfl (fun K hK => ?_) AllReadyH.nil
      go_simp
      go_at_call 196
      refine (gridOf_calls (W' : Int) (W' : Int) (by omega) (by omega) (some ⟨bo, 0, none⟩) (some ⟨bp, 0, none⟩) N' M' N' M' (by omega) w8).mono ?_
      rintro e w9 ⟨rfl, hb9⟩
      rw [EQ1.out]
      have hs9 : w8.heap.size ≤ w9.heap.size := hb9.size
      replace A0 := cellb hb9 A0
      replace A1 := cellb hb9 A1
      replace A2 := cellb hb9 A2
      replace A3 := cellb hb9 A3
      replace R0 := cellb hb9 R0
      replace R1 := cellb hb9 R1
      replace R2 := cellb hb9 R2
      replace R3 := cellb hb9 R3
      replace R4 := cellb hb9 R4
      replace S0 := cellb hb9 S0
      replace S1 := cellb hb9 S1
      replace U0 := cellb hb9 U0
      replace U1 := cellb hb9 U1
      replace Z0 : w9.frozen? ⟨w.heap.size + 1, 0, none⟩ = false := by rw [hb9.frozen (p := ⟨w.heap.size + 1, 0, none⟩) (by simp; omega)]; exact Z0
      replace Z1 : w9.frozen? ⟨w.heap.size + 1, 1, none⟩ = false := by rw [hb9.frozen (p := ⟨w.heap.size + 1, 1, none⟩) (by simp; omega)]; exact Z1
      replace Z2 : w9.frozen? ⟨w.heap.size + 1, 2, none⟩ = false := by rw [hb9.frozen (p := ⟨w.heap.size + 1, 2, none⟩) (by simp; omega)]; exact Z2
      replace Z3 : w9.frozen? ⟨w.heap.size + 1, 3, none⟩ = false := by rw [hb9.frozen (p := ⟨w.heap.size + 1, 3, none⟩) (by simp; omega)]; exact Z3
      replace Z4 : w9.frozen? ⟨w.heap.size + 1, 4, none⟩ = false := by rw [hb9.frozen (p := ⟨w.heap.size + 1, 4, none⟩) (by simp; omega)]; exact Z4
      have b9 := b8.trans (hb9.mono b8.size)
      replace HRO := hide (HRO.out.below hb9 (by omega))
      replace HRP := hide (HRP.out.below hb9 (by omega))
      clear b8 hb9
      try go_wp2_with fail
      refine hK.out _ _ ?_ ?_
      · (try dsimp only); exact ⟨S0, S1, U0, U1⟩
      clear hHeld hK K
      intro hHeld
      try simp only [Act.put, List.setIfInBounds_toArray, List.set_cons_zero, List.set_cons_succ]
      refine wpAnyH_ready (rs := [12]) (by kernel_rfl) (by simp) ?_
      refine AllReadyH.cons (o := ⟨_, _, _, _, _, _⟩) rfl (fun K hK => ?_) AllReadyH.nil
      go_simp
      have ht : Touch (w.heap.size + 1) 0 5 w9 (((((w9.setCell ⟨w.heap.size + 1, 0, none⟩ (.int .i64 0)).setCell ⟨w.heap.size + 1, 1, none⟩ (.int .i64 (R' : Int))).setCell ⟨w.heap.size + 1, 2, none⟩ (.int .i64 (W' : Int))).setCell ⟨w.heap.size + 1, 3, none⟩ (.slice (some ⟨bo, 0, none⟩) N' N')).setCell ⟨w.heap.size + 1, 4, none⟩ (.slice (some ⟨bp, 0, none⟩) M' M')) := ((((((Touch.refl _ _ _ _).setCell (by omega) (by omega) _).setCell (by omega) (by omega) _).setCell (by omega) (by omega) _).setCell (by omega) (by omega) _).setCell (by omega) (by omega) _)
      have hr := res5 (w := w9) (r := w.heap.size + 1) (.int .i64 0) (.int .i64 (R' : Int)) (.int .i64 (W' : Int)) (.slice (some ⟨bo, 0, none⟩) N' N') (.slice (some ⟨bp, 0, none⟩) M' M') R0 R1 R2 R3 R4
      generalize (((((w9.setCell ⟨w.heap.size + 1, 0, none⟩ (.int .i64 0)).setCell ⟨w.heap.size + 1, 1, none⟩ (.int .i64 (R' : Int))).setCell ⟨w.heap.size + 1, 2, none⟩ (.int .i64 (W' : Int))).setCell ⟨w.heap.size + 1, 3, none⟩ (.slice (some ⟨bo, 0, none⟩) N' N')).setCell ⟨w.heap.size + 1, 4, none⟩ (.slice (some ⟨bp, 0, none⟩) M' M')) = wx at *
      have bx' : Below w.heap.size w wx := b9.trans (ht.below (by omega) (by omega))
      have HT := hide ht
      replace S0 := ht.cellAt S0 (by omega)
      replace S1 := ht.cellAt S1 (by omega)
      replace U0 := ht.cellAt U0 (by omega)
      replace U1 := ht.cellAt U1 (by omega)
      clear ht b9
      refine hK.out _ _ ?_ ?_
      · (try dsimp only); exact ⟨S0, S1, U0, U1⟩
      clear hHeld hK K
      intro hHeld
      try simp only [Act.put, List.setIfInBounds_toArray, List.set_cons_zero, List.set_cons_succ]
      refine wpAnyH_done (by kernel_rfl) ?_ _
      clear hHeld
      go_wp2
      refine bodyPost_ret (v := .agg #[.int .i64 0, .int .i64 (R' : Int), .int .i64 (W' : Int), .slice (some ⟨bo, 0, none⟩) N' N', .slice (some ⟨bp, 0, none⟩) M' M']) (by simp only [results, Tryz.results136]; simp [go_sem, hr.1, hr.2.1, hr.2.2.1, hr.2.2.2.1, hr.2.2.2.2]) rfl ⟨_, _, rfl, ?_, bx'⟩
      exact (gown_two (w := w9) (base := w1.heap.size) HRO.out HRP.out (by omega) (by omega) (by omega) HT.out.size (fun k hk => by
        by_cases h : k < w1.heap.size
        · exact .inr h
        · exact .inl (HT.out.block k hk (by omega)))).mono (by omega) (Nat.le_refl _)
  · rw [resizeRes_def, gres_fault hG]
    generalize gridCode r wd cs bs = code at *
    have hcb : (code != 0) = true := by simpa using hG
    simp only [gbad]
    go_enter Tryz.func136, Tryz.ntmps136
    go_wp2_with fail
    refine HF.mono ?_
    rintro e w1 ⟨rfl, hb1⟩
    have A0 : w1.cell? ⟨w.heap.size, 0, none⟩ = some (.int .i64 r) := cellb hb1 (by simp [go_sem])
    have A1 : w1.cell? ⟨w.heap.size, 1, none⟩ = some (.int .i64 wd) := cellb hb1 (by simp [go_sem])
    have A2 : w1.cell? ⟨w.heap.size, 2, none⟩ = some (.slice a1 cs.length c1) := cellb hb1 (by simp [go_sem])
    have A3 : w1.cell? ⟨w.heap.size, 3, none⟩ = some (.slice a2 bs.length c2) := cellb hb1 (by simp [go_sem])
    have R0 : w1.cell? ⟨w.heap.size + 1, 0, none⟩ = some (.int .i64 0) := cellb hb1 (by simp [go_sem])
    have Z0 : w1.frozen? ⟨w.heap.size + 1, 0, none⟩ = false := by rw [hb1.frozen (p := ⟨w.heap.size + 1, 0, none⟩) (by simp)]; simp [go_sem]
    have R1 : w1.cell? ⟨w.heap.size + 1, 1, none⟩ = some (.int .i64 0) := cellb hb1 (by simp [go_sem])
    have Z1 : w1.frozen? ⟨w.heap.size + 1, 1, none⟩ = false := by rw [hb1.frozen (p := ⟨w.heap.size + 1, 1, none⟩) (by simp)]; simp [go_sem]
    have R2 : w1.cell? ⟨w.heap.size + 1, 2, none⟩ = some (.int .i64 0) := cellb hb1 (by simp [go_sem])
    have Z2 : w1.frozen? ⟨w.heap.size + 1, 2, none⟩ = false := by rw [hb1.frozen (p := ⟨w.heap.size + 1, 2, none⟩) (by simp)]; simp [go_sem]
    have R3 : w1.cell? ⟨w.heap.size + 1, 3, none⟩ = some (.slice none 0 0) := cellb hb1 (by simp [go_sem])
    have Z3 : w1.frozen? ⟨w.heap.size + 1, 3, none⟩ = false := by rw [hb1.frozen (p := ⟨w.heap.size + 1, 3, none⟩) (by simp)]; simp [go_sem]
    have R4 : w1.cell? ⟨w.heap.size + 1, 4, none⟩ = some (.slice none 0 0) := cellb hb1 (by simp [go_sem])
    have Z4 : w1.frozen? ⟨w.heap.size + 1, 4, none⟩ = false := by rw [hb1.frozen (p := ⟨w.heap.size + 1, 4, none⟩) (by simp)]; simp [go_sem]
    have hs1 : w.heap.size + 2 ≤ w1.heap.size := by have := hb1.size; simp at this; omega
    have b1 : Below w.heap.size w w1 := hb0.trans (hb1.mono (by simp; omega))
    clear hb1 hb0 HF
    have hr := res5 (w := w1) (r := w.heap.size + 1) (.int .i64 code) (.int .i64 0) (.int .i64 0) (.slice none 0 0) (.slice none 0 0) R0 R1 R2 R3 R4
    go_wp2
    refine bodyPost_ret (v := .agg #[.int .i64 code, .int .i64 0, .int .i64 0, .slice none 0 0, .slice none 0 0]) (by simp only [results, Tryz.results136]; simp [go_sem, hr.1, hr.2.1, hr.2.2.1, hr.2.2.2.1, hr.2.2.2.2]) rfl ⟨_, _, rfl, ?_, b1.trans (show Below w.heap.size w1 _ from (by repeat' (first | with_reducible exact Below.refl _ _ | with_reducible assumption | with_reducible refine Below.drew ?_ | with_reducible refine Below.alloc ?_ ?_ _ | with_reducible refine Below.setCell ?_ ?_ _ | (simp; done) | (simp; omega) | omega)))⟩
    exact GOwn.nil _ _ _ (by have := b1.size; simp [World.setCell]; omega)

end Go.Proofs.YtdekegjplegkeaaGreat

/- What impl.ResizeScreen answers. -/
namespace Go.Proofs.YtdekegjplegkeaaGreat
set_option maxRecDepth 20000
open Go.ChangeShapes Go.WideShapes Go.ChangeAt Go.RowKit
set_option linter.unusedVariables false
set_option linter.unusedSimpArgs false
set_option maxRecDepth 20000

def rzGrid (s : Scr) (rows width : Int) : GRes := resizeRes s.r s.wd s.cs s.bs rows width
def rzStart (s : Scr) (rows width : Int) : Scr := { s with r := rows, wd := width, cs := (rzGrid s rows width).cs, bs := (rzGrid s rows width).bs, top := 0, bot := rows - 1 }
def rzScr (s : Scr) (rows width : Int) : Scr := { goCol (goRow (rzStart s rows width) s.y) s.x with tabs := tabsW s.tabs width.toNat }
def rzRes (s : Scr) (rows width : Int) : SRes := if scrCode s = 0 then (if sizeB rows width = true then ⟨0, rzScr s rows width⟩ else sbad 3) else sbad (scrCode s)
theorem rz_grid_code {s : Scr} (h : scrCode s = 0) : gridCode s.r s.wd s.cs s.bs = 0 := by
  by_cases hg : gridCode s.r s.wd s.cs s.bs = 0
  · exact hg
  · rw [scr_grid hg] at h; exact absurd h hg
def grdZ (s : Scr) (v1 v2 : Value) : Array Value := #[.int .i64 s.r, .int .i64 s.wd, v1, v2]
theorem scrA_grdZ (s : Scr) (v1 v2 v3 v4 : Value) : ((scrA s v1 v2 v3 v4).toList.drop 0).take (grdZ s v1 v2).size = (grdZ s v1 v2).toList := rfl
set_option maxHeartbeats 8000000 in
theorem implResizeScreen_calls (s : Scr) (v1 v2 v3 v4 : Value) (rows width : Int) (w : World) (hn1 : s.cs.length ≤ 1048576) (hn2 : s.bs.length ≤ 1048576) (hn3 : s.tabs.length ≤ 1048576) (hn4 : s.sets.length ≤ 1048576) (h : SRead w s v1 v2 v3 v4) :
    Calls Tryz.prog 79 #[.agg (scrA s v1 v2 v3 v4), .int .i64 rows, .int .i64 width] w fun e w' => ∃ u1 u2 u3 u4, e = .returned (.agg (resA (rzRes s rows width).code (rzRes s rows width).s u1 u2 u3 u4)) ∧ SOwn w.heap.size w'.heap.size w' u1 u2 u3 u4 (rzRes s rows width).s ∧ Below w.heap.size w w' := by
  have bel0 : Below w.heap.size w ((w.alloc (.cells (scrA s v1 v2 v3 v4) 37)).alloc (.cells #[.int .i64 0, .int .i64 0, .int .i64 0, .slice none 0 0, .slice none 0 0, .int .i64 0, .int .i64 0, .bool false, .int .i64 0, .int .i64 0, .int .i64 0, .bool false, .bool false, .bool false, .slice none 0 0, .int .i64 0, .int .i64 0, .int .i64 0, .slice none 0 0, .int .i64 0, .int .i64 0] 39)) := (by repeat' (first | with_reducible exact Below.refl _ _ | with_reducible assumption | with_reducible refine Below.drew ?_ | with_reducible refine Below.alloc ?_ ?_ _ | with_reducible refine Below.setCell ?_ ?_ _ | (simp; done) | (simp; omega) | omega))
  have hA := (Blk.new w (scrA s v1 v2 v3 v4) 37).alloc (.cells #[.int .i64 0, .int .i64 0, .int .i64 0, .slice none 0 0, .slice none 0 0, .int .i64 0, .int .i64 0, .bool false, .int .i64 0, .int .i64 0, .int .i64 0, .bool false, .bool false, .bool false, .slice none 0 0, .int .i64 0, .int .i64 0, .int .i64 0, .slice none 0 0, .int .i64 0, .int .i64 0] 39)
  have hR : Blk ((w.alloc (.cells (scrA s v1 v2 v3 v4) 37)).alloc (.cells #[.int .i64 0, .int .i64 0, .int .i64 0, .slice none 0 0, .slice none 0 0, .int .i64 0, .int .i64 0, .bool false, .int .i64 0, .int .i64 0, .int .i64 0, .bool false, .bool false, .bool false, .slice none 0 0, .int .i64 0, .int .i64 0, .int .i64 0, .slice none 0 0, .int .i64 0, .int .i64 0] 39)) (w.heap.size + 1) (resA 0 scr0 (.slice none 0 0) (.slice none 0 0) (.slice none 0 0) (.slice none 0 0)) := Blk.new_at (by simp) _ _
  unfold rzRes
  by_cases hc : scrCode s = 0
  · rw [if_pos hc]
    cases hz : sizeB rows width with
    | false =>
      rw [if_neg (by simp)]
      have e' : resizeRes s.r s.wd s.cs s.bs rows width = gbad 3 := by rw [resizeRes_def, gres_bad (rz_grid_code hc) hz]
      go_enter Tryz.func79, Tryz.ntmps79
      go_wp2_with (first | fail | (refine wpList_load_at rfl 37 _ rfl (w.heap.size) 0 rfl _ (scrA s v1 v2 v3 v4) hA rfl _ Tryz.underlying37 rfl (by kernel_rfl) ?_; (try simp only [Act.put, List.setIfInBounds_toArray, List.set_cons_zero, List.set_cons_succ])))
      go_at_call 58
      refine (implScreenFault_calls s _ _ _ _ _ hn1 hn2 hn3 hn4 (h.below bel0)).mono ?_
      rintro e w1 ⟨rfl, hb⟩
      replace hA := hA.belowb hb
      replace hR := hR.belowb hb
      have bel1 := bel0.trans (hb.mono bel0.size)
      have z1 : w.heap.size + 2 ≤ w1.heap.size := by have := hb.size; simp at this; omega
      clear hb bel0
      rw [hc]
      go_wp2_with (first | fail | (refine wpList_load_at rfl 35 _ rfl (w.heap.size) 0 rfl _ (grdZ s v1 v2) hA (scrA_grdZ s v1 v2 v3 v4) _ Tryz.underlying35 rfl (by kernel_rfl) ?_; (try simp only [Act.put, List.setIfInBounds_toArray, List.set_cons_zero, List.set_cons_succ])))
      go_at_call 136
      refine (implResizeGrid_calls s.r s.wd s.cs s.bs rows width _ _ _ hn1 hn2 (h.g1.below bel1) (h.g2.below bel1)).mono ?_
      rw [e']
      rintro e w2 ⟨gx, gy, rfl, hg, hb⟩
      obtain ⟨a1, c1, a2, c2, rfl, rfl⟩ := hg.forms
      replace hA := hA.belowb hb
      replace hR := hR.belowb hb
      have bel2 := bel1.trans (hb.mono bel1.size)
      have z2 : w.heap.size + 2 ≤ w2.heap.size := by have := hb.size; omega
      clear hb bel1 hg
      dsimp only [gbad]
      go_wp2_with (first | (refine wpList_store_blk rfl _ _ _ rfl w2.heap.size 0 #[.int .i64 0, .int .i64 0, .int .i64 0, .slice none 0 0, .slice none 0 0] #[.int .i64 3, .int .i64 0, .int .i64 0, .slice a1 0 c1, .slice a2 0 c2] (.agg #[.int .i64 3, .int .i64 0, .int .i64 0, .slice a1 0 c1, .slice a2 0 c2]) rfl rfl (Blk.new w2 _ _) rfl (by kernel_rfl) rfl rfl ?_; (try simp only [Act.put, List.setIfInBounds_toArray, List.set_cons_zero, List.set_cons_succ]); intro w3 hG hu2; have cG := hG.cells; replace hA := (hA.alloc (.cells #[.int .i64 0, .int .i64 0, .int .i64 0, .slice none 0 0, .slice none 0 0] 185)).upd hu2 (by omega); replace hR := (hR.alloc (.cells #[.int .i64 0, .int .i64 0, .int .i64 0, .slice none 0 0, .slice none 0 0] 185)).upd hu2 (by omega); have bel3 := (bel2.trans ((Below.refl _ w2).alloc (by omega) (.cells #[.int .i64 0, .int .i64 0, .int .i64 0, .slice none 0 0, .slice none 0 0] 185))).trans (hu2.below (by omega)); have z3 : w3.heap.size = w2.heap.size + 1 := (by have := hu2.size; simpa using this); clear hu2 bel2) | (refine wpList_build_at rfl 39 _ rfl (resA 3 scr0 (.slice none 0 0) (.slice none 0 0) (.slice none 0 0) (.slice none 0 0)) (by first | rfl | kernel_rfl) ?_; (try simp only [Act.put, List.setIfInBounds_toArray, List.set_cons_zero, List.set_cons_succ])) | (refine wpList_store_blk rfl _ _ _ rfl (w.heap.size + 1) 0 (resA 0 scr0 (.slice none 0 0) (.slice none 0 0) (.slice none 0 0) (.slice none 0 0)) (resA 3 scr0 (.slice none 0 0) (.slice none 0 0) (.slice none 0 0) (.slice none 0 0)) (.agg (resA 3 scr0 (.slice none 0 0) (.slice none 0 0) (.slice none 0 0) (.slice none 0 0))) rfl rfl hR rfl (by kernel_rfl) rfl rfl ?_; (try simp only [Act.put, List.setIfInBounds_toArray, List.set_cons_zero, List.set_cons_succ]); clear hR; intro w9 hR hu))
      exact bodyPost_ret (results_blk hR _ _ rfl rfl Tryz.underlying39 rfl (by kernel_rfl)) rfl ⟨_, _, _, _, rfl, sown_zero _ _ (by have := hu.size; omega) _, bel3.trans (hu.below (by omega))⟩
    | true =>
      rw [if_pos rfl]
      obtain ⟨s1, s2, s3, s4, s5, s6⟩ := size_mul hz
      have hwr : IntKind.i64.wrap (rows - 1) = rows - 1 := wrap_small (by omega) (by omega)
      obtain ⟨G, hG'⟩ : ∃ G, rzGrid s rows width = G := ⟨_, rfl⟩
      have e' : resizeRes s.r s.wd s.cs s.bs rows width = ⟨0, rows, width, G.cs, G.bs⟩ := by rw [← hG']; unfold rzGrid; rw [resizeRes_def, gres_ok (rz_grid_code hc) hz]
      obtain ⟨kw, rfl⟩ : ∃ kw : Nat, width = (kw : Int) := ⟨width.toNat, by omega⟩
      have hst : rzStart s rows (kw : Int) = { s with r := rows, wd := (kw : Int), cs := G.cs, bs := G.bs, top := 0, bot := rows - 1 } := by unfold rzStart; rw [hG']
      have hfin : rzScr s rows (kw : Int) = { goCol (goRow { s with r := rows, wd := (kw : Int), cs := G.cs, bs := G.bs, top := 0, bot := rows - 1 } s.y) s.x with tabs := tabsW s.tabs kw } := by unfold rzScr; rw [hst]; simp
      rw [hfin]
      clear hst hfin hG' s5 s6
      go_enter Tryz.func79, Tryz.ntmps79
      go_wp2_with (first | fail | (refine wpList_load_at rfl 37 _ rfl (w.heap.size) 0 rfl _ (scrA s v1 v2 v3 v4) hA rfl _ Tryz.underlying37 rfl (by kernel_rfl) ?_; (try simp only [Act.put, List.setIfInBounds_toArray, List.set_cons_zero, List.set_cons_succ])))
      go_at_call 58
      refine (implScreenFault_calls s _ _ _ _ _ hn1 hn2 hn3 hn4 (h.below bel0)).mono ?_
      rintro e w1 ⟨rfl, hb⟩
      replace hA := hA.belowb hb
      replace hR := hR.belowb hb
      have bel1 := bel0.trans (hb.mono bel0.size)
      have z1 : w.heap.size + 2 ≤ w1.heap.size := by have := hb.size; simp at this; omega
      clear hb bel0
      rw [hc]
      go_wp2_with (first | fail | (refine wpList_load_at rfl 35 _ rfl (w.heap.size) 0 rfl _ (grdZ s v1 v2) hA (scrA_grdZ s v1 v2 v3 v4) _ Tryz.underlying35 rfl (by kernel_rfl) ?_; (try simp only [Act.put, List.setIfInBounds_toArray, List.set_cons_zero, List.set_cons_succ])))
      go_at_call 136
      refine (implResizeGrid_calls s.r s.wd s.cs s.bs rows (kw : Int) _ _ _ hn1 hn2 (h.g1.below bel1) (h.g2.below bel1)).mono ?_
      rw [e']
      rintro e w2 ⟨gx, gy, rfl, hg, hb⟩
      obtain ⟨a1, c1, a2, c2, rfl, rfl⟩ := hg.forms
      replace hA := hA.belowb hb
      replace hR := hR.belowb hb
      have bel2 := bel1.trans (hb.mono bel1.size)
      have z2 : w1.heap.size ≤ w2.heap.size := hb.size
      clear hb bel1 hc e'
      dsimp only at hg ⊢
      have cA := hA.cells
      go_wp2_with (first | fail | (refine wpList_store_blk rfl _ _ _ rfl w2.heap.size 0 #[.int .i64 0, .int .i64 0, .int .i64 0, .slice none 0 0, .slice none 0 0] #[.int .i64 0, .int .i64 rows, .int .i64 (kw : Int), .slice a1 G.cs.length c1, .slice a2 G.bs.length c2] (.agg #[.int .i64 0, .int .i64 rows, .int .i64 (kw : Int), .slice a1 G.cs.length c1, .slice a2 G.bs.length c2]) rfl rfl (Blk.new w2 _ _) rfl (by kernel_rfl) rfl rfl ?_; (try simp only [Act.put, List.setIfInBounds_toArray, List.set_cons_zero, List.set_cons_succ]); intro w3 hG hu2; have cG := hG.cells; replace hA := (hA.alloc (.cells #[.int .i64 0, .int .i64 0, .int .i64 0, .slice none 0 0, .slice none 0 0] 185)).upd hu2 (by omega); replace hR := (hR.alloc (.cells #[.int .i64 0, .int .i64 0, .int .i64 0, .slice none 0 0, .slice none 0 0] 185)).upd hu2 (by omega); have bel3 := (bel2.trans ((Below.refl _ w2).alloc (by omega) (.cells #[.int .i64 0, .int .i64 0, .int .i64 0, .slice none 0 0, .slice none 0 0] 185))).trans (hu2.below (by omega)); have z3 : w3.heap.size = w2.heap.size + 1 := (by have := hu2.size; simpa using this); replace hg := hg.of_blocks (w' := w3) (fun q q1 q2 => (hu2.block q (by omega)).trans (Below.heap_alloc _ _ _ (by omega))); clear hu2 bel2) | (refine wpList_load_at rfl 37 _ rfl (w.heap.size) 0 rfl _ (scrA s v1 v2 v3 v4) hA rfl _ Tryz.underlying37 rfl (by kernel_rfl) ?_; (try simp only [Act.put, List.setIfInBounds_toArray, List.set_cons_zero, List.set_cons_succ])))
      go_at_call 59
      refine (ownScreen_calls s v1 v2 v3 v4 _ hn1 hn2 hn3 hn4 (h.below bel3)).mono ?_
      rintro e w4 ⟨rfl, u1, u2, u3, u4, hO, hs, hb⟩
      have z4 : w3.heap.size + 1 ≤ w4.heap.size := by have := hO.lt; omega
      replace hA := hA.below hb (by omega)
      replace hR := hR.below hb (by omega)
      replace hg := hg.below hb (by omega)
      replace hG := hG.below hb (by omega)
      have bel4 := bel3.trans (hb.mono (by omega))
      clear hb bel3 cA cG
      have hB := hO.seg
      obtain ⟨l1, h1, l2, h2, l3, h3, a1', a2', a3', a4', a5', a6', a7', a8', a9', _, _, hS⟩ := hs.ex
      have hS' := hS
      obtain ⟨b4, d4, rfl, _⟩ := hS'
      obtain ⟨O, hO0⟩ : ∃ O : Nat → Prop, ∀ k, ¬ O k := ⟨fun _ => False, fun _ h => h⟩
      clear hs hO
      obtain ⟨p, hp⟩ : ∃ p, w3.heap.size = p := ⟨_, rfl⟩
      rw [hp] at hB a1' a3' a5' z4 ⊢
      have cA := hA.cells
      have cG := hG.cells
      have f1 := scrA_4 s v1 v2 v3 v4
      have f2 := scrA_5 s v1 v2 v3 v4
      have f3 := scrA_13 s v1 v2 v3 v4
      go_wp2_with (first | fail | (refine wpList_load_at rfl 35 _ rfl (w2.heap.size) 1 rfl _ #[.int .i64 rows, .int .i64 (kw : Int), .slice a1 G.cs.length c1, .slice a2 G.bs.length c2] hG rfl _ Tryz.underlying35 rfl (by kernel_rfl) ?_; (try simp only [Act.put, List.setIfInBounds_toArray, List.set_cons_zero, List.set_cons_succ])) | (refine wpList_store_seg rfl O 35 _ _ rfl p 0 0 (scrA s u1 u2 u3 (.slice b4 s.sets.length d4)) (.agg #[.int .i64 rows, .int .i64 (kw : Int), .slice a1 G.cs.length c1, .slice a2 G.bs.length c2]) hB rfl rfl rfl (by kernel_rfl) rfl ?_; (try simp only [Act.put, List.setIfInBounds_toArray, List.set_cons_zero, List.set_cons_succ]); intro w5 hB' tt; clear hB; have hB : Seg w5 p 0 (scrA { s with r := rows, wd := (kw : Int), cs := G.cs, bs := G.bs } (.slice a1 G.cs.length c1) (.slice a2 G.bs.length c2) u3 (.slice b4 s.sets.length d4)) := hB'; clear hB'; replace hA := hA.of_block (tt.block _ (by omega) (by omega) (hO0 _)); replace hR := hR.of_block (tt.block _ (by omega) (by omega) (hO0 _)); replace hg := hg.of_blocks (w' := w5) (fun q q1 q2 => tt.block q (by omega) (by omega) (hO0 _)); replace hG := hG.of_block (tt.block _ (by omega) (by omega) (hO0 _)); replace hS := hS.of_blocks (w' := w5) (fun q q1 q2 => tt.block q (by omega) (by omega) (hO0 _)); have bel5 := bel4.trans (tt.below (fun k _ => hO0 k) (by omega) (by omega)); have z5 : w4.heap.size ≤ w5.heap.size := tt.size; clear bel4 cA cG; have cA := hA.cells; have cG := hG.cells; clear tt) | (refine wpList_store_seg rfl O 2 _ _ rfl p 0 8 (scrA { s with r := rows, wd := (kw : Int), cs := G.cs, bs := G.bs } (.slice a1 G.cs.length c1) (.slice a2 G.bs.length c2) u3 (.slice b4 s.sets.length d4)) (.int .i64 0) hB rfl rfl rfl (by kernel_rfl) rfl ?_; (try simp only [Act.put, List.setIfInBounds_toArray, List.set_cons_zero, List.set_cons_succ]); intro w6 hB' tt; clear hB; have hB : Seg w6 p 0 (scrA { s with r := rows, wd := (kw : Int), cs := G.cs, bs := G.bs, top := 0 } (.slice a1 G.cs.length c1) (.slice a2 G.bs.length c2) u3 (.slice b4 s.sets.length d4)) := hB'; clear hB'; replace hA := hA.of_block (tt.block _ (by omega) (by omega) (hO0 _)); replace hR := hR.of_block (tt.block _ (by omega) (by omega) (hO0 _)); replace hg := hg.of_blocks (w' := w6) (fun q q1 q2 => tt.block q (by omega) (by omega) (hO0 _)); replace hG := hG.of_block (tt.block _ (by omega) (by omega) (hO0 _)); replace hS := hS.of_blocks (w' := w6) (fun q q1 q2 => tt.block q (by omega) (by omega) (hO0 _)); have bel6 := bel5.trans (tt.below (fun k _ => hO0 k) (by omega) (by omega)); have z6 : w5.heap.size ≤ w6.heap.size := tt.size; clear bel5 cA cG; have cA := hA.cells; have cG := hG.cells; clear tt) | (refine wpList_store_seg rfl O 2 _ _ rfl p 0 9 (scrA { s with r := rows, wd := (kw : Int), cs := G.cs, bs := G.bs, top := 0 } (.slice a1 G.cs.length c1) (.slice a2 G.bs.length c2) u3 (.slice b4 s.sets.length d4)) (.int .i64 (rows - 1)) hB rfl rfl rfl (by kernel_rfl) rfl ?_; (try simp only [Act.put, List.setIfInBounds_toArray, List.set_cons_zero, List.set_cons_succ]); intro w7 hB' tt; clear hB; have hB : Seg w7 p 0 (scrA { s with r := rows, wd := (kw : Int), cs := G.cs, bs := G.bs, top := 0, bot := rows - 1 } (.slice a1 G.cs.length c1) (.slice a2 G.bs.length c2) u3 (.slice b4 s.sets.length d4)) := hB'; clear hB'; replace hA := hA.of_block (tt.block _ (by omega) (by omega) (hO0 _)); replace hR := hR.of_block (tt.block _ (by omega) (by omega) (hO0 _)); replace hg := hg.of_blocks (w' := w7) (fun q q1 q2 => tt.block q (by omega) (by omega) (hO0 _)); replace hG := hG.of_block (tt.block _ (by omega) (by omega) (hO0 _)); replace hS := hS.of_blocks (w' := w7) (fun q q1 q2 => tt.block q (by omega) (by omega) (hO0 _)); have bel7 := bel6.trans (tt.below (fun k _ => hO0 k) (by omega) (by omega)); have z7 : w6.heap.size ≤ w7.heap.size := tt.size; clear bel6 cA cG; have cA := hA.cells; have cG := hG.cells; clear tt))
      go_at_call 137
      refine (goToRow_calls { s with r := rows, wd := (kw : Int), cs := G.cs, bs := G.bs, top := 0, bot := rows - 1 } _ _ _ _ p 0 O s.y _ s1 s2 hB).mono ?_
      rintro e w8 ⟨⟨_, rfl⟩, hB', tt⟩
      replace hA := hA.of_block (tt.block _ (by omega) (by omega) (hO0 _))
      replace hR := hR.of_block (tt.block _ (by omega) (by omega) (hO0 _))
      replace hg := hg.of_blocks (w' := w8) (fun q q1 q2 => tt.block q (by omega) (by omega) (hO0 _))
      replace hG := hG.of_block (tt.block _ (by omega) (by omega) (hO0 _))
      replace hS := hS.of_blocks (w' := w8) (fun q q1 q2 => tt.block q (by omega) (by omega) (hO0 _))
      have bel8 := bel7.trans (tt.below (fun k _ => hO0 k) (by omega) (by omega))
      have z8 : w7.heap.size ≤ w8.heap.size := tt.size
      clear hB tt bel7 cA cG
      have hB := hB'
      clear hB'
      have cA := hA.cells
      have cG := hG.cells
      go_wp2_with fail
      go_at_call 138
      refine (goToColumn_calls (goRow { s with r := rows, wd := (kw : Int), cs := G.cs, bs := G.bs, top := 0, bot := rows - 1 } s.y) _ _ _ _ p 0 O s.x _ s3 s4 hB).mono ?_
      rintro e w9 ⟨⟨_, rfl⟩, hB', tt⟩
      replace hA := hA.of_block (tt.block _ (by omega) (by omega) (hO0 _))
      replace hR := hR.of_block (tt.block _ (by omega) (by omega) (hO0 _))
      replace hg := hg.of_blocks (w' := w9) (fun q q1 q2 => tt.block q (by omega) (by omega) (hO0 _))
      replace hG := hG.of_block (tt.block _ (by omega) (by omega) (hO0 _))
      replace hS := hS.of_blocks (w' := w9) (fun q q1 q2 => tt.block q (by omega) (by omega) (hO0 _))
      have bel9 := bel8.trans (tt.below (fun k _ => hO0 k) (by omega) (by omega))
      have z9 : w8.heap.size ≤ w9.heap.size := tt.size
      clear hB tt bel8 cA cG
      have hB := hB'
      clear hB'
      have cA := hA.cells
      have cG := hG.cells
      go_wp2_with fail
      go_at_call 139
      refine (tabsOf_form s.tabs kw (by omega) (by omega) _ _ (h.g3.below bel9)).mono ?_
      rintro e w10 ⟨at', ct, rfl, hT, hb⟩
      have z10 : w9.heap.size ≤ w10.heap.size := hb.size
      replace hR := hR.belowb hb
      replace hB := hB.belowb hb
      replace hg := hg.below hb (by omega)
      replace hS := hS.below hb (by omega)
      have bel10 := bel9.trans (hb.mono (by omega))
      clear hb bel9 hA hG cA cG
      go_wp2_with (first | (refine wpList_store_seg rfl O 25 _ _ rfl p 0 13 (scrA (goCol (goRow { s with r := rows, wd := (kw : Int), cs := G.cs, bs := G.bs, top := 0, bot := rows - 1 } s.y) s.x) (.slice a1 G.cs.length c1) (.slice a2 G.bs.length c2) u3 (.slice b4 s.sets.length d4)) (.slice at' kw ct) hB rfl rfl rfl (by kernel_rfl) rfl ?_; (try simp only [Act.put, List.setIfInBounds_toArray, List.set_cons_zero, List.set_cons_succ]); intro w11 hB' tt; clear hB; have hB : Seg w11 p 0 (scrA { goCol (goRow { s with r := rows, wd := (kw : Int), cs := G.cs, bs := G.bs, top := 0, bot := rows - 1 } s.y) s.x with tabs := tabsW s.tabs kw } (.slice a1 G.cs.length c1) (.slice a2 G.bs.length c2) (.slice at' kw ct) (.slice b4 s.sets.length d4)) := hB'; clear hB'; replace hR := hR.of_block (tt.block _ (by omega) (by omega) (hO0 _)); replace hg := hg.of_blocks (w' := w11) (fun q q1 q2 => tt.block q (by omega) (by omega) (hO0 _)); replace hS := hS.of_blocks (w' := w11) (fun q q1 q2 => tt.block q (by omega) (by omega) (hO0 _)); replace hT := BoolsAt.of_blocks (w' := w11) hT (fun q q1 q2 => tt.block q (by omega) (by omega) (hO0 _)); have bel11 := bel10.trans (tt.below (fun k _ => hO0 k) (by omega) (by omega)); have z11 : w10.heap.size ≤ w11.heap.size := tt.size; clear tt bel10) | (refine wpList_load_seg rfl 37 _ rfl p 0 0 (scrA { goCol (goRow { s with r := rows, wd := (kw : Int), cs := G.cs, bs := G.bs, top := 0, bot := rows - 1 } s.y) s.x with tabs := tabsW s.tabs kw } (.slice a1 G.cs.length c1) (.slice a2 G.bs.length c2) (.slice at' kw ct) (.slice b4 s.sets.length d4)) (scrA { goCol (goRow { s with r := rows, wd := (kw : Int), cs := G.cs, bs := G.bs, top := 0, bot := rows - 1 } s.y) s.x with tabs := tabsW s.tabs kw } (.slice a1 G.cs.length c1) (.slice a2 G.bs.length c2) (.slice at' kw ct) (.slice b4 s.sets.length d4)) hB rfl rfl _ Tryz.underlying37 rfl (by kernel_rfl) ?_; (try simp only [Act.put, List.setIfInBounds_toArray, List.set_cons_zero, List.set_cons_succ])) | (refine wpList_build_at rfl 39 _ rfl (resA 0 { goCol (goRow { s with r := rows, wd := (kw : Int), cs := G.cs, bs := G.bs, top := 0, bot := rows - 1 } s.y) s.x with tabs := tabsW s.tabs kw } (.slice a1 G.cs.length c1) (.slice a2 G.bs.length c2) (.slice at' kw ct) (.slice b4 s.sets.length d4)) (by first | rfl | kernel_rfl) ?_; (try simp only [Act.put, List.setIfInBounds_toArray, List.set_cons_zero, List.set_cons_succ])) | (refine wpList_store_blk rfl _ _ _ rfl (w.heap.size + 1) 0 (resA 0 scr0 (.slice none 0 0) (.slice none 0 0) (.slice none 0 0) (.slice none 0 0)) (resA 0 { goCol (goRow { s with r := rows, wd := (kw : Int), cs := G.cs, bs := G.bs, top := 0, bot := rows - 1 } s.y) s.x with tabs := tabsW s.tabs kw } (.slice a1 G.cs.length c1) (.slice a2 G.bs.length c2) (.slice at' kw ct) (.slice b4 s.sets.length d4)) (.agg (resA 0 { goCol (goRow { s with r := rows, wd := (kw : Int), cs := G.cs, bs := G.bs, top := 0, bot := rows - 1 } s.y) s.x with tabs := tabsW s.tabs kw } (.slice a1 G.cs.length c1) (.slice a2 G.bs.length c2) (.slice at' kw ct) (.slice b4 s.sets.length d4))) rfl rfl hR rfl (by kernel_rfl) rfl rfl ?_; (try simp only [Act.put, List.setIfInBounds_toArray, List.set_cons_zero, List.set_cons_succ]); clear hR; intro w12 hR hu))
      exact bodyPost_ret (results_blk hR _ _ rfl rfl Tryz.underlying39 rfl (by kernel_rfl)) rfl ⟨_, _, _, _, rfl, ⟨w1.heap.size, w2.heap.size, w9.heap.size, w10.heap.size, l3, h3, by omega, by have := hu.size; omega, by omega, by have := hu.size; omega, by omega, by have := hu.size; omega, by omega, by omega, by omega, hg.of_blocks (fun q q1 q2 => hu.block q (by omega)), BoolsAt.of_blocks hT (fun q q1 q2 => hu.block q (by omega)), hS.of_blocks (fun q q1 q2 => hu.block q (by omega))⟩, bel11.trans (hu.below (by omega))⟩
  · rw [if_neg hc]
    obtain ⟨code, hcd⟩ : ∃ c, scrCode s = c := ⟨_, rfl⟩
    rw [hcd]
    have hne : (code != 0) = true := by rw [← hcd]; simpa using hc
    have HC := hide hcd
    clear hc hcd
    go_enter Tryz.func79, Tryz.ntmps79
    go_wp2_with (first | fail | (refine wpList_load_at rfl 37 _ rfl (w.heap.size) 0 rfl _ (scrA s v1 v2 v3 v4) hA rfl _ Tryz.underlying37 rfl (by kernel_rfl) ?_; (try simp only [Act.put, List.setIfInBounds_toArray, List.set_cons_zero, List.set_cons_succ])))
    go_at_call 58
    refine (implScreenFault_calls s _ _ _ _ _ hn1 hn2 hn3 hn4 (h.below bel0)).mono ?_
    rintro e w1 ⟨rfl, hb⟩
    replace hA := hA.belowb hb
    replace hR := hR.belowb hb
    have bel1 := bel0.trans (hb.mono bel0.size)
    have z1 : w.heap.size + 2 ≤ w1.heap.size := by have := hb.size; simp at this; omega
    clear hb bel0
    rw [HC.out]
    go_wp2_with (first | (refine wpList_build_at rfl 39 _ rfl (resA code scr0 (.slice none 0 0) (.slice none 0 0) (.slice none 0 0) (.slice none 0 0)) (by first | rfl | kernel_rfl) ?_; (try simp only [Act.put, List.setIfInBounds_toArray, List.set_cons_zero, List.set_cons_succ])) | (refine wpList_store_blk rfl _ _ _ rfl (w.heap.size + 1) 0 (resA 0 scr0 (.slice none 0 0) (.slice none 0 0) (.slice none 0 0) (.slice none 0 0)) (resA code scr0 (.slice none 0 0) (.slice none 0 0) (.slice none 0 0) (.slice none 0 0)) (.agg (resA code scr0 (.slice none 0 0) (.slice none 0 0) (.slice none 0 0) (.slice none 0 0))) rfl rfl hR rfl (by kernel_rfl) rfl rfl ?_; (try simp only [Act.put, List.setIfInBounds_toArray, List.set_cons_zero, List.set_cons_succ]); clear hR; intro w9 hR hu))
    exact bodyPost_ret (results_blk hR _ _ rfl rfl Tryz.underlying39 rfl (by kernel_rfl)) rfl ⟨_, _, _, _, rfl, sown_zero _ _ (by have := hu.size; omega) _, bel1.trans (hu.below (by omega))⟩
end Go.Proofs.YtdekegjplegkeaaGreat

/- l5Copy of the model: a copy of a screen that shares nothing. -/
namespace Go.Proofs.YtdekegjplegkeaaGreat
set_option maxRecDepth 20000
open Go.ChangeShapes Go.WideShapes Go.ChangeAt Go.RowKit
set_option linter.unusedVariables false
set_option linter.unusedSimpArgs false
set_option maxRecDepth 20000

theorem scrA_grdC (s : Scr) (v1 v2 v3 v4 : Value) : ((scrA s v1 v2 v3 v4).toList.drop 0).take (#[.int .i64 s.r, .int .i64 s.wd, v1, v2] : Array Value).size = (#[.int .i64 s.r, .int .i64 s.wd, v1, v2] : Array Value).toList := rfl
/-- A row of one's own stays where another block turns. -/
theorem own_upd {w w' : World} {base size n g : Nat} {e : TypeId} {v : Value} {xs : List Value} (h : w.ownsRow base e size v n xs) (hu : Upd g w w') (hg : ∀ k, v.ownBlock = some k → k ≠ g) : w'.ownsRow base e size v n xs := by
  obtain ⟨h1, h2⟩ := h
  refine ⟨h1, ?_⟩
  rcases h2 with h2 | ⟨q, cap, cur, rfl, hb, hq, hr⟩
  · exact .inl h2
  · exact .inr ⟨q, cap, cur, rfl, hb, (hu.block q (hg q (by simp [Value.ownBlock]))).trans hq, hr⟩
set_option maxHeartbeats 4000000 in
theorem l5Copy_calls (s : Scr) (v1 v2 v3 v4 : Value) (w : World) (hn1 : s.cs.length ≤ 1048576) (hn2 : s.bs.length ≤ 1048576) (hn3 : s.tabs.length ≤ 1048576) (hn4 : s.sets.length ≤ 1048576) (h : SRead w s v1 v2 v3 v4) :
    Calls Tryz.prog 46 #[.agg (scrA s v1 v2 v3 v4)] w fun e w' => ∃ u1 u2 u3 u4, e = .returned (.agg (scrA s u1 u2 u3 u4)) ∧ (∃ p1 p2 p3 p4, w.heap.size ≤ p1 ∧ p1 ≤ p2 ∧ p2 ≤ p3 ∧ p3 ≤ p4 ∧ p4 ≤ w'.heap.size ∧ w'.ownsRow p1 193 2 u1 s.cs.length (pvs s.cs) ∧ (∀ k, u1.ownBlock = some k → k < p2) ∧ w'.ownsRow p2 193 2 u2 s.bs.length (pvs s.bs) ∧ (∀ k, u2.ownBlock = some k → k < p3) ∧ BoolsAt p3 p4 w' u3 s.tabs ∧ IntsAt .i64 p4 w'.heap.size w' u4 s.sets) ∧ Below w.heap.size w w' := by
  obtain ⟨ii, hi, hi0, hi1, hi2⟩ := info_parts info_intO
  obtain ⟨ib, hb', hb0, hb1, hb2⟩ := info_parts info_boolO
  have h' := h
  obtain ⟨a1, c1, a2, c2, a3, c3, a4, c4, rfl, rfl, rfl, rfl⟩ := h'.forms
  clear h'
  have bel : Below w.heap.size w ((w.alloc (.cells (scrA s (.slice a1 s.cs.length c1) (.slice a2 s.bs.length c2) (.slice a3 s.tabs.length c3) (.slice a4 s.sets.length c4)) 37)).alloc (.cells #[.int .i64 0, .int .i64 0, .slice none 0 0, .slice none 0 0, .int .i64 0, .int .i64 0, .bool false, .int .i64 0, .int .i64 0, .int .i64 0, .bool false, .bool false, .bool false, .slice none 0 0, .int .i64 0, .int .i64 0, .int .i64 0, .slice none 0 0, .int .i64 0, .int .i64 0] 37)) := (by repeat' (first | with_reducible exact Below.refl _ _ | with_reducible assumption | with_reducible refine Below.drew ?_ | with_reducible refine Below.alloc ?_ ?_ _ | with_reducible refine Below.setCell ?_ ?_ _ | (simp; done) | (simp; omega) | omega))
  have s0 : ((w.alloc (.cells (scrA s (.slice a1 s.cs.length c1) (.slice a2 s.bs.length c2) (.slice a3 s.tabs.length c3) (.slice a4 s.sets.length c4)) 37)).alloc (.cells #[.int .i64 0, .int .i64 0, .slice none 0 0, .slice none 0 0, .int .i64 0, .int .i64 0, .bool false, .int .i64 0, .int .i64 0, .int .i64 0, .bool false, .bool false, .bool false, .slice none 0 0, .int .i64 0, .int .i64 0, .int .i64 0, .slice none 0 0, .int .i64 0, .int .i64 0] 37)).heap.size = w.heap.size + 2 := by simp
  have hA := (Blk.new w (scrA s (.slice a1 s.cs.length c1) (.slice a2 s.bs.length c2) (.slice a3 s.tabs.length c3) (.slice a4 s.sets.length c4)) 37).alloc (.cells #[.int .i64 0, .int .i64 0, .slice none 0 0, .slice none 0 0, .int .i64 0, .int .i64 0, .bool false, .int .i64 0, .int .i64 0, .int .i64 0, .bool false, .bool false, .bool false, .slice none 0 0, .int .i64 0, .int .i64 0, .int .i64 0, .slice none 0 0, .int .i64 0, .int .i64 0] 37)
  have hO : Blk ((w.alloc (.cells (scrA s (.slice a1 s.cs.length c1) (.slice a2 s.bs.length c2) (.slice a3 s.tabs.length c3) (.slice a4 s.sets.length c4)) 37)).alloc (.cells #[.int .i64 0, .int .i64 0, .slice none 0 0, .slice none 0 0, .int .i64 0, .int .i64 0, .bool false, .int .i64 0, .int .i64 0, .int .i64 0, .bool false, .bool false, .bool false, .slice none 0 0, .int .i64 0, .int .i64 0, .int .i64 0, .slice none 0 0, .int .i64 0, .int .i64 0] 37)) (w.heap.size + 1) (scrA scr0 (.slice none 0 0) (.slice none 0 0) (.slice none 0 0) (.slice none 0 0)) := Blk.new_at (by simp) _ _
  go_enter Tryz.func46, Tryz.ntmps46
  go_wp2_with (first | fail | (refine wpList_load_at rfl 35 _ rfl (w.heap.size) 0 rfl _ #[.int .i64 s.r, .int .i64 s.wd, .slice a1 s.cs.length c1, .slice a2 s.bs.length c2] hA (scrA_grdC s _ _ _ _) _ Tryz.underlying35 rfl (by kernel_rfl) ?_; (try simp only [Act.put, List.setIfInBounds_toArray, List.set_cons_zero, List.set_cons_succ])))
  go_at_call 88
  refine (l3Copy_calls s.r s.wd s.cs s.bs _ _ _ hn1 hn2 (h.g1.below bel) (h.g2.below bel)).mono ?_
  rintro e w1 ⟨x, y, m, rfl, hm1, hm2, hox, hxl, hoy, hb⟩
  rw [s0] at hm1 hox
  obtain ⟨b1, d1, rfl, _⟩ := own_room2 hox
  obtain ⟨b2, d2, rfl, _⟩ := own_room2 hoy
  replace hA := hA.belowb hb
  replace hO := hO.belowb hb
  have s1 : w.heap.size + 2 ≤ w1.heap.size := by have := hb.size; rw [s0] at this; exact this
  have hyl : ∀ k, (Value.slice b2 s.bs.length d2).ownBlock = some k → k < w1.heap.size := fun k hk => (hoy.lt k hk).2
  have HXL := hide hxl
  have HYL := hide hyl
  replace bel := bel.trans (hb.mono bel.size)
  clear hb hxl hyl s0
  have cA := hA.cells
  have e0_2 := scrA_2 s (.slice a1 s.cs.length c1) (.slice a2 s.bs.length c2) (.slice a3 s.tabs.length c3) (.slice a4 s.sets.length c4)
  have e0_3 := scrA_3 s (.slice a1 s.cs.length c1) (.slice a2 s.bs.length c2) (.slice a3 s.tabs.length c3) (.slice a4 s.sets.length c4)
  have e0_13 := scrA_13 s (.slice a1 s.cs.length c1) (.slice a2 s.bs.length c2) (.slice a3 s.tabs.length c3) (.slice a4 s.sets.length c4)
  have e0_17 := scrA_17 s (.slice a1 s.cs.length c1) (.slice a2 s.bs.length c2) (.slice a3 s.tabs.length c3) (.slice a4 s.sets.length c4)
  go_wp2_with (first | fail | (refine wpList_store_blk rfl _ _ _ rfl (w.heap.size) 0 (scrA s (.slice a1 s.cs.length c1) (.slice a2 s.bs.length c2) (.slice a3 s.tabs.length c3) (.slice a4 s.sets.length c4)) (scrA s (.slice b1 s.cs.length d1) (.slice b2 s.bs.length d2) (.slice a3 s.tabs.length c3) (.slice a4 s.sets.length c4)) (.agg #[.int .i64 s.r, .int .i64 s.wd, .slice b1 s.cs.length d1, .slice b2 s.bs.length d2]) rfl rfl hA rfl (by kernel_rfl) rfl rfl ?_; (try simp only [Act.put, List.setIfInBounds_toArray, List.set_cons_zero, List.set_cons_succ]); clear hA cA; intro w2 hA hu; replace hO := hO.upd hu (by omega); replace hox := own_upd hox hu (fun k hk => by have := (hox.lt k hk).1; omega); replace hoy := own_upd hoy hu (fun k hk => by have := (hoy.lt k hk).1; omega); replace bel := bel.trans (hu.below (by omega)); have z2 := Nat.le_of_eq hu.size; have zz2 := Nat.le_of_eq hu.size.symm; clear hu; have cA := hA.cells; have cB := (hA.alloc (.cells #[] 4)).cells; have e1_2 := scrA_2 s (.slice b1 s.cs.length d1) (.slice b2 s.bs.length d2) (.slice a3 s.tabs.length c3) (.slice a4 s.sets.length c4); have e1_3 := scrA_3 s (.slice b1 s.cs.length d1) (.slice b2 s.bs.length d2) (.slice a3 s.tabs.length c3) (.slice a4 s.sets.length c4); have e1_13 := scrA_13 s (.slice b1 s.cs.length d1) (.slice b2 s.bs.length d2) (.slice a3 s.tabs.length c3) (.slice a4 s.sets.length c4); have e1_17 := scrA_17 s (.slice b1 s.cs.length d1) (.slice b2 s.bs.length d2) (.slice a3 s.tabs.length c3) (.slice a4 s.sets.length c4)) | (at_builtin; refine wpList_copy_bools _ rfl (.tmp 7) (.tmp 9) 25 rfl w2.heap.size 4 ib (.bool false) 1 Tryz.underlying25 hb' hb0 hb1 hb2 rfl (.slice (some ⟨w2.heap.size, 0, none⟩) 0 0) rfl (by have h := World.ownsRow_lit (base := w2.heap.size) (e := 4) (size := 1) w2 #[] 0 (by simp) (by simp) rfl; simpa [boolsV, intsV] using h) _ _ rfl ((h.below bel).g3.below ((Below.refl _ _).alloc (Nat.le_refl _) _)) (by omega) (by omega) (by simp) ?_; intro v' w3 ow hT hb; clear ow; have P' := hT; obtain ⟨b3, d3, rfl, _⟩ := P'; replace hb := ((Below.refl w2.heap.size w2).alloc (Nat.le_refl _) (.cells #[] 4)).trans hb; replace hA := hA.belowb hb; replace hO := hO.belowb hb; replace hox := own_below hox hb; replace hoy := own_below hoy hb; have z3 : w2.heap.size ≤ w3.heap.size := hb.size; replace bel := bel.trans (hb.mono (by omega)); clear hb; have cA := hA.cells) | (refine wpList_store_blk rfl _ _ _ rfl (w.heap.size) 13 (scrA s (.slice b1 s.cs.length d1) (.slice b2 s.bs.length d2) (.slice a3 s.tabs.length c3) (.slice a4 s.sets.length c4)) (scrA s (.slice b1 s.cs.length d1) (.slice b2 s.bs.length d2) (.slice b3 s.tabs.length d3) (.slice a4 s.sets.length c4)) (.slice b3 s.tabs.length d3) rfl rfl hA rfl (by kernel_rfl) rfl rfl ?_; (try simp only [Act.put, List.setIfInBounds_toArray, List.set_cons_zero, List.set_cons_succ]); clear hA cA; intro w4 hA hu; replace hO := hO.upd hu (by omega); replace hox := own_upd hox hu (fun k hk => by have := (hox.lt k hk).1; omega); replace hoy := own_upd hoy hu (fun k hk => by have := (hoy.lt k hk).1; omega); replace hT := hT.of_blocks (w' := w4) (fun q q1 q2 => hu.block q (by omega)); replace bel := bel.trans (hu.below (by omega)); have z4 := Nat.le_of_eq hu.size; have zz4 := Nat.le_of_eq hu.size.symm; clear hu; have cA := hA.cells; have cC := (hA.alloc (.cells #[] 2)).cells; have e2_2 := scrA_2 s (.slice b1 s.cs.length d1) (.slice b2 s.bs.length d2) (.slice b3 s.tabs.length d3) (.slice a4 s.sets.length c4); have e2_3 := scrA_3 s (.slice b1 s.cs.length d1) (.slice b2 s.bs.length d2) (.slice b3 s.tabs.length d3) (.slice a4 s.sets.length c4); have e2_13 := scrA_13 s (.slice b1 s.cs.length d1) (.slice b2 s.bs.length d2) (.slice b3 s.tabs.length d3) (.slice a4 s.sets.length c4); have e2_17 := scrA_17 s (.slice b1 s.cs.length d1) (.slice b2 s.bs.length d2) (.slice b3 s.tabs.length d3) (.slice a4 s.sets.length c4)) | (at_builtin; refine wpList_copy_ints _ rfl (.tmp 12) (.tmp 14) 26 rfl w4.heap.size 2 ii (.int .i64 0) 8 Tryz.underlying26 hi hi0 hi1 hi2 rfl (.slice (some ⟨w4.heap.size, 0, none⟩) 0 0) rfl (by have h := World.ownsRow_lit (base := w4.heap.size) (e := 2) (size := 1) w4 #[] 0 (by simp) (by simp) rfl; simpa [boolsV, intsV] using h) _ _ rfl ((h.below bel).g4.below ((Below.refl _ _).alloc (Nat.le_refl _) _)) (by omega) (by omega) (by simp) ?_; intro v' w5 ow hI hb; clear ow; have P' := hI; obtain ⟨b4, d4, rfl, _⟩ := P'; replace hb := ((Below.refl w4.heap.size w4).alloc (Nat.le_refl _) (.cells #[] 2)).trans hb; replace hA := hA.belowb hb; replace hO := hO.belowb hb; replace hox := own_below hox hb; replace hoy := own_below hoy hb; have z5 : w4.heap.size ≤ w5.heap.size := hb.size; replace bel := bel.trans (hb.mono (by omega)); replace hT := hT.below hb (by omega); clear hb; have cA := hA.cells) | (refine wpList_store_blk rfl _ _ _ rfl (w.heap.size) 17 (scrA s (.slice b1 s.cs.length d1) (.slice b2 s.bs.length d2) (.slice b3 s.tabs.length d3) (.slice a4 s.sets.length c4)) (scrA s (.slice b1 s.cs.length d1) (.slice b2 s.bs.length d2) (.slice b3 s.tabs.length d3) (.slice b4 s.sets.length d4)) (.slice b4 s.sets.length d4) rfl rfl hA rfl (by kernel_rfl) rfl rfl ?_; (try simp only [Act.put, List.setIfInBounds_toArray, List.set_cons_zero, List.set_cons_succ]); clear hA cA; intro w6 hA hu; replace hO := hO.upd hu (by omega); replace hox := own_upd hox hu (fun k hk => by have := (hox.lt k hk).1; omega); replace hoy := own_upd hoy hu (fun k hk => by have := (hoy.lt k hk).1; omega); replace hT := hT.of_blocks (w' := w6) (fun q q1 q2 => hu.block q (by omega)); replace hI := hI.of_blocks (w' := w6) (fun q q1 q2 => hu.block q (by omega)); replace bel := bel.trans (hu.below (by omega)); have z6 := Nat.le_of_eq hu.size; have zz6 := Nat.le_of_eq hu.size.symm; clear hu; have cA := hA.cells; have e3_2 := scrA_2 s (.slice b1 s.cs.length d1) (.slice b2 s.bs.length d2) (.slice b3 s.tabs.length d3) (.slice b4 s.sets.length d4); have e3_3 := scrA_3 s (.slice b1 s.cs.length d1) (.slice b2 s.bs.length d2) (.slice b3 s.tabs.length d3) (.slice b4 s.sets.length d4); have e3_13 := scrA_13 s (.slice b1 s.cs.length d1) (.slice b2 s.bs.length d2) (.slice b3 s.tabs.length d3) (.slice b4 s.sets.length d4); have e3_17 := scrA_17 s (.slice b1 s.cs.length d1) (.slice b2 s.bs.length d2) (.slice b3 s.tabs.length d3) (.slice b4 s.sets.length d4)) | (refine wpList_load_at rfl 37 _ rfl (w.heap.size) 0 rfl _ (scrA s (.slice b1 s.cs.length d1) (.slice b2 s.bs.length d2) (.slice b3 s.tabs.length d3) (.slice b4 s.sets.length d4)) hA rfl _ Tryz.underlying37 rfl (by kernel_rfl) ?_; (try simp only [Act.put, List.setIfInBounds_toArray, List.set_cons_zero, List.set_cons_succ])) | (refine wpList_store_blk rfl _ _ _ rfl (w.heap.size + 1) 0 (scrA scr0 (.slice none 0 0) (.slice none 0 0) (.slice none 0 0) (.slice none 0 0)) (scrA s (.slice b1 s.cs.length d1) (.slice b2 s.bs.length d2) (.slice b3 s.tabs.length d3) (.slice b4 s.sets.length d4)) (.agg (scrA s (.slice b1 s.cs.length d1) (.slice b2 s.bs.length d2) (.slice b3 s.tabs.length d3) (.slice b4 s.sets.length d4))) rfl rfl hO rfl (by kernel_rfl) rfl rfl ?_; (try simp only [Act.put, List.setIfInBounds_toArray, List.set_cons_zero, List.set_cons_succ]); clear hO; intro w7 hO hu; have HX3 := hide (fun k (hk : (Value.slice b1 s.cs.length d1).ownBlock = some k) => (by have := (hox.lt k hk).1; omega : k ≠ w.heap.size + 1)); have HY3 := hide (fun k (hk : (Value.slice b2 s.bs.length d2).ownBlock = some k) => (by have := (hoy.lt k hk).1; omega : k ≠ w.heap.size + 1))))
  exact bodyPost_ret (results_blk hO _ _ rfl rfl Tryz.underlying37 rfl (by kernel_rfl)) rfl ⟨_, _, _, _, rfl, ⟨w.heap.size + 2, m, w1.heap.size, w3.heap.size, by omega, by omega, by omega, by omega, by have := hu.size; omega, own_upd hox hu HX3.out, HXL.out, own_upd hoy hu HY3.out, HYL.out, (BoolsAt.of_blocks hT (fun q q1 q2 => hu.block q (by omega))).mono (by omega) (by omega), (hI.of_blocks (fun q q1 q2 => hu.block q (by omega))).mono (by omega) (by have := hu.size; omega)⟩, bel.trans (hu.below (by omega))⟩
end Go.Proofs.YtdekegjplegkeaaGreat

/- Where one may go on a screen, for the model: l5Go. -/
namespace Go.Proofs.YtdekegjplegkeaaGreat
set_option maxRecDepth 20000
open Go.ChangeShapes Go.WideShapes Go.ChangeAt Go.RowKit
set_option linter.unusedVariables false
set_option linter.unusedSimpArgs false
set_option maxRecDepth 20000

theorem l1Max_calls (a b : Int) (w : World) : Calls Tryz.prog 156 #[.int .i64 a, .int .i64 b] w fun e w' => e = .returned (.int .i64 (max a b)) ∧ w' = w := by
  by_cases h : b < a
  · go_enter Tryz.func156, Tryz.ntmps156
    go_wp2
    go_ret
    exact ⟨by rw [show max a b = a by omega]; rfl, rfl⟩
  · go_enter Tryz.func156, Tryz.ntmps156
    go_wp2
    go_ret
    exact ⟨by rw [show max a b = b by omega]; rfl, rfl⟩
def goTo (s : Scr) (y x : Int) : Scr := goCol (goRow s y) x
set_option maxHeartbeats 2000000 in
theorem l5Go_calls (s : Scr) (v1 v2 v3 v4 : Value) (b ob : Nat) (O : Nat → Prop) (y x : Int) (w : World) (s1 : 1 ≤ s.r) (s2 : s.r ≤ 6) (s3 : 2 ≤ s.wd) (s4 : s.wd ≤ 12) (hB : Seg w b ob (scrA s v1 v2 v3 v4)) :
    Calls Tryz.prog 135 #[.pointer (some ⟨b, ob, none⟩), .int .i64 y, .int .i64 x] w fun e w' => (∃ u, e = .returned u) ∧ Seg w' b ob (scrA (goTo s y x) v1 v2 v3 v4) ∧ Turn O b ob (ob + 20) w w' := by
  obtain ⟨m, hm⟩ : ∃ m, min (rowHi s) y = m := ⟨_, rfl⟩
  obtain ⟨k, hk⟩ : ∃ k, max (rowLo s) m = k := ⟨_, rfl⟩
  obtain ⟨p, hp⟩ : ∃ p, min (s.wd - 1) x = p := ⟨_, rfl⟩
  obtain ⟨q, hq⟩ : ∃ q, max 0 p = q := ⟨_, rfl⟩
  have e1 : goTo s y x = { s with y := k, x := q, wrap := false } := by
    unfold goTo goCol goRow
    rw [Int.min_comm y, hm, hk]
    show ({ s with y := k, wrap := false, x := max 0 (min x (s.wd - 1)) } : Scr) = _
    rw [Int.min_comm x, hp, hq]
  rw [e1]
  have hr : IntKind.i64.wrap (s.r - 1) = s.r - 1 := wrap_small (by omega) (by omega)
  have hc : IntKind.i64.wrap (s.wd - 1) = s.wd - 1 := wrap_small (by omega) (by omega)
  have hT := Turn.refl O b ob (ob + 20) w
  clear e1
  unfold rowHi at hm
  unfold rowLo at hk
  have g0 := hB.at0 (scrA_0 s v1 v2 v3 v4)
  have g1 := hB.at 1 (scrA_1 s v1 v2 v3 v4)
  have g8 := hB.at 8 (scrA_8 s v1 v2 v3 v4)
  have g9 := hB.at 9 (scrA_9 s v1 v2 v3 v4)
  have g10 := hB.at 10 (scrA_10 s v1 v2 v3 v4)
  rcases (show s.org = false ∨ s.org = true by cases s.org <;> simp) with ho | ho
  · rw [ho] at hm hk g10
    simp only [Bool.false_eq_true, if_false] at hm hk
    have HM := hide hm
    have HK := hide hk
    have HP := hide hp
    have HQ := hide hq
    clear hm hk hp hq
    go_enter Tryz.func135, Tryz.ntmps135
    go_wp2_with (first | (go_at_call 133; refine (l1Min_calls _ _ _).mono ?_; rintro e w' ⟨rfl, hw⟩; rw [hw]; clear hw w'; first | rw [HM.out] | rw [HK.out] | rw [HP.out] | rw [HQ.out]) | (go_at_call 156; refine (l1Max_calls _ _ _).mono ?_; rintro e w' ⟨rfl, hw⟩; rw [hw]; clear hw w'; first | rw [HM.out] | rw [HK.out] | rw [HP.out] | rw [HQ.out]) | (refine wpList_store_seg rfl O 2 _ _ rfl b ob 4 (scrA s v1 v2 v3 v4) (.int .i64 k) hB rfl rfl rfl (by kernel_rfl) rfl ?_; (try simp only [Act.put, List.setIfInBounds_toArray, List.set_cons_zero, List.set_cons_succ]); clear g0 g1 g8 g9 g10; intro w1 hB' tt; replace hT := hT.trans tt; clear hB tt; have hB : Seg w1 b ob (scrA { s with y := k } v1 v2 v3 v4) := hB'; clear hB'; have g1 := hB.at 1 (scrA_1 { s with y := k } v1 v2 v3 v4)) | (refine wpList_store_seg rfl O 2 _ _ rfl b ob 5 (scrA { s with y := k } v1 v2 v3 v4) (.int .i64 q) hB rfl rfl rfl (by kernel_rfl) rfl ?_; (try simp only [Act.put, List.setIfInBounds_toArray, List.set_cons_zero, List.set_cons_succ]); clear g1; intro w2 hB' tt; replace hT := hT.trans tt; clear hB tt; have hB : Seg w2 b ob (scrA { s with y := k, x := q } v1 v2 v3 v4) := hB'; clear hB') | (refine wpList_store_seg rfl O 4 _ _ rfl b ob 6 (scrA { s with y := k, x := q } v1 v2 v3 v4) (.bool false) hB rfl rfl rfl (by kernel_rfl) rfl ?_; (try simp only [Act.put, List.setIfInBounds_toArray, List.set_cons_zero, List.set_cons_succ]); intro w3 hB' tt; replace hT := hT.trans tt; clear hB tt; have hB : Seg w3 b ob (scrA { s with y := k, x := q, wrap := false } v1 v2 v3 v4) := hB'; clear hB'))
    go_end0
    exact ⟨⟨_, rfl⟩, hB, hT⟩
  · rw [ho] at hm hk g10
    simp only [if_true] at hm hk
    have HM := hide hm
    have HK := hide hk
    have HP := hide hp
    have HQ := hide hq
    clear hm hk hp hq
    go_enter Tryz.func135, Tryz.ntmps135
    go_wp2_with (first | (go_at_call 133; refine (l1Min_calls _ _ _).mono ?_; rintro e w' ⟨rfl, hw⟩; rw [hw]; clear hw w'; first | rw [HM.out] | rw [HK.out] | rw [HP.out] | rw [HQ.out]) | (go_at_call 156; refine (l1Max_calls _ _ _).mono ?_; rintro e w' ⟨rfl, hw⟩; rw [hw]; clear hw w'; first | rw [HM.out] | rw [HK.out] | rw [HP.out] | rw [HQ.out]) | (refine wpList_store_seg rfl O 2 _ _ rfl b ob 4 (scrA s v1 v2 v3 v4) (.int .i64 k) hB rfl rfl rfl (by kernel_rfl) rfl ?_; (try simp only [Act.put, List.setIfInBounds_toArray, List.set_cons_zero, List.set_cons_succ]); clear g0 g1 g8 g9 g10; intro w1 hB' tt; replace hT := hT.trans tt; clear hB tt; have hB : Seg w1 b ob (scrA { s with y := k } v1 v2 v3 v4) := hB'; clear hB'; have g1 := hB.at 1 (scrA_1 { s with y := k } v1 v2 v3 v4)) | (refine wpList_store_seg rfl O 2 _ _ rfl b ob 5 (scrA { s with y := k } v1 v2 v3 v4) (.int .i64 q) hB rfl rfl rfl (by kernel_rfl) rfl ?_; (try simp only [Act.put, List.setIfInBounds_toArray, List.set_cons_zero, List.set_cons_succ]); clear g1; intro w2 hB' tt; replace hT := hT.trans tt; clear hB tt; have hB : Seg w2 b ob (scrA { s with y := k, x := q } v1 v2 v3 v4) := hB'; clear hB') | (refine wpList_store_seg rfl O 4 _ _ rfl b ob 6 (scrA { s with y := k, x := q } v1 v2 v3 v4) (.bool false) hB rfl rfl rfl (by kernel_rfl) rfl ?_; (try simp only [Act.put, List.setIfInBounds_toArray, List.set_cons_zero, List.set_cons_succ]); intro w3 hB' tt; replace hT := hT.trans tt; clear hB tt; have hB : Seg w3 b ob (scrA { s with y := k, x := q, wrap := false } v1 v2 v3 v4) := hB'; clear hB'))
    go_end0
    exact ⟨⟨_, rfl⟩, hB, hT⟩
end Go.Proofs.YtdekegjplegkeaaGreat

/- A slice that has room for what it holds. -/
namespace Go.Proofs.YtdekegjplegkeaaGreat
set_option maxRecDepth 20000
def Capped (v : Value) : Prop := ∀ a n c, v = .slice a n c → n ≤ c
theorem Capped.of {a : Option Addr} {n c : Nat} (h : n ≤ c) : Capped (.slice a n c) := fun _ _ _ e => by cases e; exact h
end Go.Proofs.YtdekegjplegkeaaGreat

/- What ResizeGrid answers, of the model: l3Fit, l3Resize. -/
namespace Go.Proofs.YtdekegjplegkeaaGreat
set_option maxRecDepth 20000
open Go.ChangeShapes Go.WideShapes Go.ChangeAt Go.RowKit
set_option linter.unusedVariables false
set_option linter.unusedSimpArgs false
set_option maxRecDepth 20000

theorem fitF_step2 {m m' k : Nat} {f : Nat → Int × Int} {bl : Int × Int} (h : 0 < m') (i : Nat) : (if k * m' ≤ i ∧ i < k * m' + m' then (if i - k * m' < min m m' then f (k * m + (i - k * m')) else bl) else fitF m m' k f bl i) = fitF m m' (k + 1) f bl i := by
  rw [← fitF_step h]
  by_cases e : k * m' ≤ i ∧ i < k * m' + m'
  · rw [if_pos e]
    by_cases e2 : i - k * m' < min m m'
    · rw [if_pos e2, if_pos (by omega)]
    · rw [if_neg e2, if_neg (by omega)]
      unfold fitF
      rw [if_neg (by omega)]
  · rw [if_neg e, if_neg (by omega)]
theorem fitF_more {m m' K k : Nat} {f : Nat → Int × Int} {bl : Int × Int} (h : 0 < m') (hk : k < K) : mkL (k * m') (fitF m m' K f bl) ++ mkL m' (fun x => if x < min m m' then f (k * m + x) else bl) = mkL ((k + 1) * m') (fitF m m' K f bl) := by
  rw [Nat.add_mul, Nat.one_mul, mkL_add]
  congr 1
  refine mkL_congr (fun x hx => ?_)
  unfold fitF
  have h2 : (k + 1) * m' ≤ K * m' := Nat.mul_le_mul_right m' (by omega)
  rw [Nat.add_mul, Nat.one_mul] at h2
  have hd : (k * m' + x) / m' = k := Nat.div_eq_of_lt_le (by omega) (by rw [Nat.add_mul, Nat.one_mul]; omega)
  have hm := Nat.div_add_mod (k * m' + x) m'
  rw [hd, Nat.mul_comm] at hm
  have hx2 : (k * m' + x) % m' = x := by omega
  rw [hd, hx2]
  by_cases e : x < m
  · rw [if_pos (by omega), if_pos ⟨by omega, e⟩]
  · rw [if_neg (by omega), if_neg (by omega)]
set_option maxHeartbeats 2000000 in
theorem l3RowOf_off (pb bx off n cx k m u : Nat) (y wd : Int) (f : Nat → Int × Int) (w : World) (c1 : w.cell? ⟨pb, 1, none⟩ = some (.int .i64 wd)) (c2 : w.cell? ⟨pb, 2, none⟩ = some (.slice (some ⟨bx, off, none⟩) n cx)) (hr : RowR w bx off n f) (hc : n ≤ cx)
    (hk : y * wd = (k : Int)) (hm : wd = (m : Int)) (hu : u = k + m) (hun : u ≤ n) (hn : n ≤ 1048576) (hm0 : 0 < m) (y0 : 0 ≤ y) (y1 : y ≤ 1000) :
    Calls Tryz.prog 194 #[.pointer (some ⟨pb, 0, none⟩), .int .i64 y] w fun e w' => ∃ v, e = .returned v ∧ w'.ownsRow w.heap.size 193 2 v m (pvs (mkL m (fun i => f (k + i)))) ∧ Below w.heap.size w w' := by
  obtain ⟨i0, hi, hz0, hz1, hz2⟩ := info_parts info_cell
  have e1 : IntKind.i64.wrap (y * wd) = (k : Int) := by rw [hk]; exact wrap_small (by omega) (by omega)
  have e2 : IntKind.i64.wrap ((y + 1) * wd) = (u : Int) := by rw [Int.add_mul, hk, hm]; rw [show (k : Int) + 1 * (m : Int) = (u : Int) by omega]; exact wrap_small (by omega) (by omega)
  have e3 : IntKind.i64.wrap (y + 1) = y + 1 := wrap_small (by omega) (by omega)
  have e4 : u ≤ cx := by omega
  have e5 : (k : Int) ≤ (u : Int) := by omega
  have e6 : (u : Int) ≤ (cx : Int) := by omega
  have e7 : ¬ cx = k := by omega
  have e8 : ¬ k = cx := by omega
  have e9 : k ≤ u := by omega
  have HK := hide hk
  have HM := hide hm
  have HU := hide hu
  clear hk hm
  have hpr : PRead (w.drew.alloc (.cells #[] 193)) (.slice (some ⟨bx, off + k * 2, none⟩) (u - k) (cx - k)) (mkL (u - k) (fun i => f (k + i))) := by
    have h := (hr.sub k (u - k) (by omega)).below (B := w.heap.size) (w' := w.drew.alloc (.cells #[] 193)) (by repeat' (first | with_reducible exact Below.refl _ _ | with_reducible assumption | with_reducible refine Below.drew ?_ | with_reducible refine Below.alloc ?_ ?_ _ | with_reducible refine Below.setCell ?_ ?_ _ | (simp; done) | (simp; omega) | omega)) (hr.lt (by omega))
    exact pread_of_row h
  clear hu hr
  go_enter Tryz.func194, Tryz.ntmps194
  go_wp2_with fail
  have hlit : (w.drew.alloc (.cells #[] 193)).ownsRow w.heap.size 193 2 (.slice (some ⟨w.heap.size, 0, none⟩) 0 0) 0 (pvs []) := World.ownsRow_lit (base := w.heap.size) (e := 193) (size := 2) w.drew #[] 0 (Nat.le_refl _) (by simp) rfl
  have hba : Below w.heap.size w (w.alloc (.cells #[] 193)) := (by repeat' (first | with_reducible exact Below.refl _ _ | with_reducible assumption | with_reducible refine Below.drew ?_ | with_reducible refine Below.alloc ?_ ?_ _ | with_reducible refine Below.setCell ?_ ?_ _ | (simp; done) | (simp; omega) | omega))
  have K1 := cellb hba c1
  have K2 := cellb hba c2
  refine wp_region_held_drew (S := (fun w' => w'.cell? ⟨pb, 1, none⟩ = some (.int .i64 wd) ∧ w'.cell? ⟨pb, 2, none⟩ = some (.slice (some ⟨bx, off, none⟩) n cx))) (by kernel_rfl) ?_ (fun hHeld => ?_)
  · (try dsimp only); exact ⟨c1, c2⟩
  refine wpAnyH_take (i := 1) (oi := ⟨_, _, _, _, _, _⟩) (v := ?_) rfl (by kernel_rfl) (by kernel_rfl) (by kernel_rfl) (fun _ _ _ h => h) (Or.inl ⟨by rfl, ?_⟩) hHeld ?_
  rotate_left
  · (intro w hSw; (try dsimp only at hSw); go_simp; try (with_reducible rfl))
  try simp only [Act.put, List.setIfInBounds_toArray, List.set_cons_zero, List.set_cons_succ]
  refine wpAnyH_take (i := 2) (oi := ⟨_, _, _, _, _, _⟩) (v := ?_) rfl (by kernel_rfl) (by kernel_rfl) (by kernel_rfl) (fun _ _ _ h => h) (Or.inl ⟨by rfl, ?_⟩) hHeld ?_
  rotate_left
  · (intro w hSw; (try dsimp only at hSw); go_simp; try (with_reducible rfl))
  try simp only [Act.put, List.setIfInBounds_toArray, List.set_cons_zero, List.set_cons_succ]
  refine wpAnyH_take (i := 3) (oi := ⟨_, _, _, _, _, _⟩) (v := ?_) rfl (by kernel_rfl) (by kernel_rfl) (by kernel_rfl) (fun _ _ _ h => h) (Or.inl ⟨by rfl, ?_⟩) hHeld ?_
  rotate_left
  · (intro w hSw; (try dsimp only at hSw); go_simp; try (with_reducible rfl))
  try simp only [Act.put, List.setIfInBounds_toArray, List.set_cons_zero, List.set_cons_succ]
  refine wpAnyH_take (i := 4) (oi := ⟨_, _, _, _, _, _⟩) (v := ?_) rfl (by kernel_rfl) (by kernel_rfl) (by kernel_rfl) (fun _ _ _ h => h) (Or.inl ⟨by rfl, ?_⟩) hHeld ?_
  rotate_left
  · (intro w hSw; (try dsimp only at hSw); go_simp; try (with_reducible rfl))
  try simp only [Act.put, List.setIfInBounds_toArray, List.set_cons_zero, List.set_cons_succ]
  refine wpAnyH_take (i := 5) (oi := ⟨_, _, _, _, _, _⟩) (v := ?_) rfl (by kernel_rfl) (by kernel_rfl) (by kernel_rfl) (fun _ _ _ h => h) (Or.inl ⟨by rfl, ?_⟩) hHeld ?_
  rotate_left
  · (intro w hSw; (try dsimp only at hSw); go_simp; try (with_reducible rfl))
  try simp only [Act.put, List.setIfInBounds_toArray, List.set_cons_zero, List.set_cons_succ]
  refine wpAnyH_take (i := 6) (oi := ⟨_, _, _, _, _, _⟩) (v := ?_) rfl (by kernel_rfl) (by kernel_rfl) (by kernel_rfl) (fun _ _ _ h => h) (Or.inl ⟨by rfl, ?_⟩) hHeld ?_
  rotate_left
  · (intro w hSw; (try dsimp only at hSw); go_simp; try (with_reducible rfl))
  try simp only [Act.put, List.setIfInBounds_toArray, List.set_cons_zero, List.set_cons_succ]
  refine wpAnyH_take (i := 7) (oi := ⟨_, _, _, _, _, _⟩) (v := ?_) rfl (by kernel_rfl) (by kernel_rfl) (by kernel_rfl) (fun _ _ _ h => h) (Or.inl ⟨by rfl, ?_⟩) hHeld ?_
  rotate_left
  · (intro w hSw; (try dsimp only at hSw); go_simp; try (with_reducible rfl))
  try simp only [Act.put, List.setIfInBounds_toArray, List.set_cons_zero, List.set_cons_succ]
  refine wpAnyH_take (i := 8) (oi := ⟨_, _, _, _, _, _⟩) (v := ?_) rfl (by kernel_rfl) (by kernel_rfl) (by kernel_rfl) (fun _ _ _ h => h) (Or.inl ⟨by rfl, ?_⟩) hHeld ?_
  rotate_left
  · (intro w hSw; (try dsimp only at hSw); go_simp; try (with_reducible rfl))
  try simp only [Act.put, List.setIfInBounds_toArray, List.set_cons_zero, List.set_cons_succ]
  refine wpAnyH_take (i := 9) (oi := ⟨_, _, _, _, _, _⟩) (v := ?_) rfl (by kernel_rfl) (by kernel_rfl) (by kernel_rfl) (fun _ _ _ h => h) (Or.inl ⟨by rfl, ?_⟩) hHeld ?_
  rotate_left
  · (intro w hSw; (try dsimp only at hSw); go_simp; try (with_reducible rfl))
  try simp only [Act.put, List.setIfInBounds_toArray, List.set_cons_zero, List.set_cons_succ]
  refine wpAnyH_take (i := 10) (oi := ⟨_, _, _, _, _, _⟩) (v := ?_) rfl (by kernel_rfl) (by kernel_rfl) (by kernel_rfl) (fun _ _ _ h => h) (Or.inl ⟨by rfl, ?_⟩) hHeld ?_
  rotate_left
  · (intro w hSw; (try dsimp only at hSw); go_simp; try (with_reducible rfl))
  try simp only [Act.put, List.setIfInBounds_toArray, List.set_cons_zero, List.set_cons_succ]
  refine wpAnyH_take (i := 11) (oi := ⟨_, _, _, _, _, _⟩) (v := ?_) rfl (by kernel_rfl) (by kernel_rfl) (by kernel_rfl) (fun _ _ _ h => h) (Or.inl ⟨by rfl, ?_⟩) hHeld ?_
  rotate_left
  · (intro w hSw; (try dsimp only at hSw); go_simp; try (with_reducible rfl))
  try simp only [Act.put, List.setIfInBounds_toArray, List.set_cons_zero, List.set_cons_succ]
  refine wpAnyH_take (i := 12) (oi := ⟨_, _, _, _, _, _⟩) (v := ?_) rfl (by kernel_rfl) (by kernel_rfl) (by kernel_rfl) (fun _ _ _ h => h) (Or.inl ⟨by rfl, ?_⟩) hHeld ?_
  rotate_left
  · (intro w hSw; (try dsimp only at hSw); go_simp; try (with_reducible rfl))
  try simp only [Act.put, List.setIfInBounds_toArray, List.set_cons_zero, List.set_cons_succ]
  refine wpAnyH_take (i := 13) (oi := ⟨_, _, _, _, _, _⟩) (v := ?_) rfl (by kernel_rfl) (by kernel_rfl) (by kernel_rfl) (fun _ _ _ h => h) (Or.inl ⟨by rfl, ?_⟩) hHeld ?_
  rotate_left
  · (intro w hSw; (try dsimp only at hSw); go_simp; try (with_reducible rfl))
  try simp only [Act.put, List.setIfInBounds_toArray, List.set_cons_zero, List.set_cons_succ]
  refine wpAnyH_take (i := 14) (oi := ⟨_, _, _, _, _, _⟩) (v := ?_) rfl (by kernel_rfl) (by kernel_rfl) (by kernel_rfl) (fun _ _ _ h => h) (Or.inl ⟨by rfl, ?_⟩) hHeld ?_
  rotate_left
  · (intro w hSw; (try dsimp only at hSw); go_simp; try (with_reducible rfl))
  try simp only [Act.put, List.setIfInBounds_toArray, List.set_cons_zero, List.set_cons_succ]
  refine wpAnyH_take (i := 15) (oi := ⟨_, _, _, _, _, _⟩) (v := ?_) rfl (by kernel_rfl) (by kernel_rfl) (by kernel_rfl) (fun _ _ _ h => h) (Or.inl ⟨by rfl, ?_⟩) hHeld ?_
  rotate_left
  · (intro w hSw; (try dsimp only at hSw); go_simp; try (with_reducible rfl))
  try simp only [Act.put, List.setIfInBounds_toArray, List.set_cons_zero, List.set_cons_succ]
  refine wpAnyH_take (i := 16) (oi := ⟨_, _, _, _, _, _⟩) (v := ?_) rfl (by kernel_rfl) (by kernel_rfl) (by kernel_rfl) (fun _ _ _ h => h) (Or.inl ⟨by rfl, ?_⟩) hHeld ?_
  rotate_left
  · (intro w hSw; (try dsimp only at hSw); go_simp; try (with_reducible rfl))
  try simp only [Act.put, List.setIfInBounds_toArray, List.set_cons_zero, List.set_cons_succ]
  refine wpAnyH_take (i := 17) (oi := ⟨_, _, _, _, _, _⟩) (v := ?_) rfl (by kernel_rfl) (by kernel_rfl) (by kernel_rfl) (fun _ _ _ h => h) (Or.inl ⟨by rfl, ?_⟩) hHeld ?_
  rotate_left
  · (intro w hSw; (try dsimp only at hSw); go_simp; try (with_reducible rfl))
  try simp only [Act.put, List.setIfInBounds_toArray, List.set_cons_zero, List.set_cons_succ]
  refine wpAnyH_take (i := 18) (oi := ⟨_, _, _, _, _, _⟩) (v := ?_) rfl (by kernel_rfl) (by kernel_rfl) (by kernel_rfl) (fun _ _ _ h => h) (Or.inl ⟨by rfl, ?_⟩) hHeld ?_
  rotate_left
  · (intro w hSw; (try dsimp only at hSw); go_simp; try (with_reducible rfl))
  try simp only [Act.put, List.setIfInBounds_toArray, List.set_cons_zero, List.set_cons_succ]
  refine wpAnyH_ready (rs := [0]) (by kernel_rfl) (by simp) ?_
  refine (AllReadyH.cons (o := ⟨_, _, _, _, _, _⟩) rfl (fun K hK => ?_) AllReadyH.nil)
  go_simp
  refine hK.out _ _ ?_ ?_
  · (try dsimp only); exact ⟨K1, K2⟩
  clear hHeld hK K
  intro hHeld
  try simp only [Act.put, List.setIfInBounds_toArray, List.set_cons_zero, List.set_cons_succ]
  refine wpAnyH_ready (rs := [19]) (by kernel_rfl) (by simp) ?_
  refine (AllReadyH.cons (o := ⟨_, _, _, _, _, _⟩) rfl (fun K hK => ?_) AllReadyH.nil)
  refine step_append_pread rfl (.tmp 5) (.tmp 23) 33 rfl w.heap.size 193 i0 (.agg #[.int .i64 0, .int .i64 0]) 16 Tryz.underlying33 hi hz0 hz1 hz2 rfl _ 0 [] rfl hlit (some ⟨bx, off + k * 2, none⟩) (mkL (u - k) (fun i => f (k + i))) (u - k) (cx - k) rfl (by rw [mkL_length]) hpr (by unfold maxLen; omega) (by omega) (by show w.heap.size ≤ (w.drew.alloc _).heap.size; simp) ?_
  intro v w1 hown1 hgr1
  have hb1 : Below w.heap.size w w1 := (((below_drewN (Below.refl _ _) 1).alloc (Nat.le_refl _) _) : Below w.heap.size w (w.drew.alloc (.cells #[] 193))).grown hgr1 (by show w.heap.size ≤ (w.drew.alloc _).heap.size; simp) (fun q hq => (hlit.lt q hq).1)
  replace K1 := cellb hb1 c1
  replace K2 := cellb hb1 c2
  try simp only [List.nil_append, Nat.zero_add] at hown1
  obtain ⟨av, cv, rfl, hvc⟩ := own_room2 hown1
  have HO := hide hown1
  clear hown1 hgr1
  refine hK.out _ _ ?_ ?_
  · (try dsimp only); exact ⟨K1, K2⟩
  clear hHeld hK K
  intro hHeld
  try simp only [Act.put, List.setIfInBounds_toArray, List.set_cons_zero, List.set_cons_succ]
  refine wpAnyH_take (i := 20) (oi := ⟨_, _, _, _, _, _⟩) (v := ?_) rfl (by kernel_rfl) (by kernel_rfl) (by kernel_rfl) (fun _ _ _ h => h) (Or.inl ⟨by rfl, ?_⟩) hHeld ?_
  rotate_left
  · (intro w hSw; (try dsimp only at hSw); go_simp; try (with_reducible rfl))
  try simp only [Act.put, List.setIfInBounds_toArray, List.set_cons_zero, List.set_cons_succ]
  refine wpAnyH_done (by kernel_rfl) ?_ _
  go_wp2
  go_ret
  have hm' : u - k = m := by have := HU.out; omega
  refine ⟨.slice av (u - k) cv, rfl, ?_, hb1⟩
  have h := HO.out
  rw [hm'] at h ⊢
  exact h
set_option maxHeartbeats 2000000 in
theorem l3Fit_calls (b off m cap W' : Nat) (g : Nat → Int × Int) (w : World) (hg : RowR w b off m g) (h2 : 2 ≤ W') (h12 : W' ≤ 12) (hm : 0 < m) :
    Calls Tryz.prog 193 #[.slice (some ⟨b, off, none⟩) m cap, .int .i64 (W' : Int)] w fun e w' => ∃ bn cn, e = .returned (.slice (some ⟨bn, 0, none⟩) W' cn) ∧ W' ≤ cn ∧ w.heap.size ≤ bn ∧ bn < w'.heap.size ∧ Row w' bn 0 W' (fun x => if x < min m W' then g x else (32, 0)) ∧ Below w.heap.size w w' := by
  have hbl := hg.lt hm
  have HG := hide hg
  clear hg
  go_enter Tryz.func193, Tryz.ntmps193
  go_wp2_with fail
  refine (l3Blanks_calls W' 0 (by omega) w).mono ?_
  rintro e w1 ⟨v, rfl, ov, hb1⟩
  obtain ⟨bn, cn, rfl, hcn, _, u1, u2, hrv⟩ := own_row ov (by omega)
  have hs1 : w.heap.size ≤ w1.heap.size := hb1.size
  obtain ⟨w2, hrun, hr2, ht2⟩ := run_copy2 (P := Tryz.prog) w1 33 33 3 193 Tryz.underlying33 cell_size2 (some ⟨bn, 0, none⟩) (some ⟨b, off, none⟩) W' cn m cap (min m W') rfl bn 0 (fun _ => (32, 0)) (hrv.congr (fun i hi => rep_get _ _ _ hi)) (fun _ => rfl) b off g (fun i hi => (HG.out.below hb1 hbl) i (by omega)) (fun _ => rfl)
  have R2 := hide hr2
  have T2 := hide ht2
  have B1 := hide hb1
  clear hr2 ht2 hb1 hrv ov
  go_wp2
  go_ret
  exact ⟨bn, cn, rfl, hcn, u1, by have := T2.out.size; omega, R2.out, B1.out.trans (T2.out.below u1 hs1)⟩
theorem Touch.later {b p q : Nat} {a w w' : World} (h : Touch b p q a w) (hb : Below a.heap.size w w') (hl : b < a.heap.size) : Touch b p q a w' :=
  ⟨hb.os.trans h.os, hb.tape.trans h.tape, hb.output.trans h.output, Nat.le_trans h.size hb.size, fun k hk hn => (hb.block k hk).trans (h.block k hk hn), fun o ho => (hb.cell (p := ⟨b, o, none⟩) hl).trans (h.cell o ho), fun o => (hb.frozen (p := ⟨b, o, none⟩) hl).trans (h.frozen o)⟩

set_option maxHeartbeats 1000000 in
theorem l3Resize_calls (R W R' W' Hb N' M' : Nat) (r wd : Int) (cs bs : List (Int × Int)) (v1 v2 : Value) (w : World) (h1 : PRead w v1 cs) (h2 : PRead w v2 bs) (k1 : Capped v1) (k2 : Capped v2) (eR : r = (R : Int)) (eW : wd = (W : Int)) (p1 : 1 ≤ R) (p2 : R ≤ 6) (p3 : 2 ≤ W) (p4 : W ≤ 12) (p5 : 1 ≤ R') (p6 : R' ≤ 6) (p7 : 2 ≤ W') (p8 : W' ≤ 12) (p9 : Hb ≤ 5) (p10 : N' ≤ 72) (p11 : M' ≤ 60) (p12 : 0 < N')
    (n9 : cs.length ≤ 72) (n10 : bs.length ≤ 60) (e1 : cs.length = R * W) (e2 : bs.length = Hb * W) (e4 : N' = R' * W') (e5 : M' = Hb * W') :
    Calls Tryz.prog 132 #[.agg #[.int .i64 r, .int .i64 wd, v1, v2], .int .i64 (R' : Int), .int .i64 (W' : Int)] w fun e w' => ∃ v5 v6, e = .returned (.agg #[.int .i64 (R' : Int), .int .i64 (W' : Int), v5, v6]) ∧ GOwn w.heap.size w'.heap.size w' v5 v6 (mkL N' (fitF W W' (min R' R) (fun i => cs.getD i (0, 0)) (32, 0))) (mkL M' (fitF W W' Hb (fun i => bs.getD i (0, 0)) (32, 0))) ∧ Below w.heap.size w w' := by
  obtain ⟨i0, hi, hz0, hz1, hz2⟩ := info_parts info_cell
  have h1' := h1
  obtain ⟨a1, c1, rfl, hx1⟩ := h1'
  have h2' := h2
  obtain ⟨a2, c2, rfl, hx2⟩ := h2'
  have hcl : 0 < cs.length := by rw [e1]; exact Nat.mul_pos (by omega) (by omega)
  obtain ⟨bx, off, rfl, hx⟩ : ∃ bx off, a1 = some ⟨bx, off, none⟩ ∧ RowR w bx off cs.length (fun i => cs.getD i (0, 0)) := by
    rcases hx1 with hx1 | ⟨bx, off, hx1, hx⟩
    · rw [hx1] at hcl; simp at hcl
    · exact ⟨bx, off, hx1, hx⟩
  obtain ⟨by', off2, hy, hya⟩ : ∃ by' off2, RowR w by' off2 bs.length (fun i => bs.getD i (0, 0)) ∧ (0 < bs.length → a2 = some ⟨by', off2, none⟩) := by
    rcases hx2 with hx2 | ⟨by', off2, hx2, hx⟩
    · exact ⟨0, 0, fun i hi => by rw [hx2] at hi; simp at hi, fun h => by rw [hx2] at h; simp at h⟩
    · exact ⟨by', off2, hx, fun _ => hx2⟩
  have hbx := hx.lt hcl
  have hc1 : cs.length ≤ c1 := k1 _ _ _ rfl
  have hc2 : bs.length ≤ c2 := k2 _ _ _ rfl
  clear k1 k2
  have hyl : 0 < bs.length → by' < w.heap.size := fun h => hy.lt h
  have HX := hide hx
  have HY := hide hy
  have HYA := hide hya
  have HYL := hide hyl
  have E1 := hide e1
  have E2 := hide e2
  have E4 := hide e4
  have E5 := hide e5
  have hmul : (R' : Int) * (W' : Int) = (N' : Int) := by rw [e4, Int.natCast_mul]
  have HMU := hide hmul
  have hmn : min (R' : Int) (R : Int) = ((min R' R : Nat) : Int) := by omega
  have HMN := hide hmn
  subst eR
  subst eW
  clear hx hx1 hx2 hy hya hyl e1 e2 e4 e5 hmul hmn h1 h2
  have hb0 : Below w.heap.size w ((w.alloc (.cells #[.int .i64 (R : Int), .int .i64 (W : Int), .slice (some ⟨bx, off, none⟩) cs.length c1, .slice a2 bs.length c2] 35)).alloc (.cells #[.int .i64 0, .int .i64 0, .slice none 0 0, .slice none 0 0] 35)) := (by repeat' (first | with_reducible exact Below.refl _ _ | with_reducible assumption | with_reducible refine Below.drew ?_ | with_reducible refine Below.alloc ?_ ?_ _ | with_reducible refine Below.setCell ?_ ?_ _ | (simp; done) | (simp; omega) | omega))
  go_enter Tryz.func132, Tryz.ntmps132
  go_wp2_with fail
  refine (l3New_calls (R' : Int) (W' : Int) N' HMU.out p12 (by omega) _).mono ?_
  rintro e w1 ⟨bo, co, rfl, hco, o1, o2, hro, hb1⟩
  have A0 : w1.cell? ⟨w.heap.size, 0, none⟩ = some (.int .i64 (R : Int)) := cellb hb1 (by simp [go_sem])
  have A1 : w1.cell? ⟨w.heap.size, 1, none⟩ = some (.int .i64 (W : Int)) := cellb hb1 (by simp [go_sem])
  have A2 : w1.cell? ⟨w.heap.size, 2, none⟩ = some (.slice (some ⟨bx, off, none⟩) cs.length c1) := cellb hb1 (by simp [go_sem])
  have A3 : w1.cell? ⟨w.heap.size, 3, none⟩ = some (.slice a2 bs.length c2) := cellb hb1 (by simp [go_sem])
  have R0 : w1.cell? ⟨w.heap.size + 1, 0, none⟩ = some (.int .i64 0) := cellb hb1 (by simp [go_sem])
  have Z0 : w1.frozen? ⟨w.heap.size + 1, 0, none⟩ = false := by rw [hb1.frozen (p := ⟨w.heap.size + 1, 0, none⟩) (by simp)]; simp [go_sem]
  have R1 : w1.cell? ⟨w.heap.size + 1, 1, none⟩ = some (.int .i64 0) := cellb hb1 (by simp [go_sem])
  have Z1 : w1.frozen? ⟨w.heap.size + 1, 1, none⟩ = false := by rw [hb1.frozen (p := ⟨w.heap.size + 1, 1, none⟩) (by simp)]; simp [go_sem]
  have R2 : w1.cell? ⟨w.heap.size + 1, 2, none⟩ = some (.slice none 0 0) := cellb hb1 (by simp [go_sem])
  have Z2 : w1.frozen? ⟨w.heap.size + 1, 2, none⟩ = false := by rw [hb1.frozen (p := ⟨w.heap.size + 1, 2, none⟩) (by simp)]; simp [go_sem]
  have R3 : w1.cell? ⟨w.heap.size + 1, 3, none⟩ = some (.slice none 0 0) := cellb hb1 (by simp [go_sem])
  have Z3 : w1.frozen? ⟨w.heap.size + 1, 3, none⟩ = false := by rw [hb1.frozen (p := ⟨w.heap.size + 1, 3, none⟩) (by simp)]; simp [go_sem]
  have hs1 : w.heap.size + 2 ≤ w1.heap.size := by have := hb1.size; simp at this; omega
  have o1' : w.heap.size + 2 ≤ bo := by simpa using o1
  have b1 : Below w.heap.size w w1 := hb0.trans (hb1.mono (by simp; omega))
  have HRO := hide hro
  clear hb1 hb0 hro o1
  have hb3 : Below w1.heap.size w1 (w1.alloc (.cells #[.int .i64 (R' : Int), .int .i64 (W' : Int), .slice (some ⟨bo, 0, none⟩) N' co, .slice none 0 0] 35)) := (by repeat' (first | with_reducible exact Below.refl _ _ | with_reducible assumption | with_reducible refine Below.drew ?_ | with_reducible refine Below.alloc ?_ ?_ _ | with_reducible refine Below.setCell ?_ ?_ _ | (simp; done) | (simp; omega) | omega))
  have O0 : (w1.alloc (.cells #[.int .i64 (R' : Int), .int .i64 (W' : Int), .slice (some ⟨bo, 0, none⟩) N' co, .slice none 0 0] 35)).cell? ⟨w1.heap.size, 0, none⟩ = some (.int .i64 (R' : Int)) := by simp [go_sem]
  have O1 : (w1.alloc (.cells #[.int .i64 (R' : Int), .int .i64 (W' : Int), .slice (some ⟨bo, 0, none⟩) N' co, .slice none 0 0] 35)).cell? ⟨w1.heap.size, 1, none⟩ = some (.int .i64 (W' : Int)) := by simp [go_sem]
  have O2 : (w1.alloc (.cells #[.int .i64 (R' : Int), .int .i64 (W' : Int), .slice (some ⟨bo, 0, none⟩) N' co, .slice none 0 0] 35)).cell? ⟨w1.heap.size, 2, none⟩ = some (.slice (some ⟨bo, 0, none⟩) N' co) := by simp [go_sem]
  have O3 : (w1.alloc (.cells #[.int .i64 (R' : Int), .int .i64 (W' : Int), .slice (some ⟨bo, 0, none⟩) N' co, .slice none 0 0] 35)).cell? ⟨w1.heap.size, 3, none⟩ = some (.slice none 0 0) := by simp [go_sem]
  have ZO : (w1.alloc (.cells #[.int .i64 (R' : Int), .int .i64 (W' : Int), .slice (some ⟨bo, 0, none⟩) N' co, .slice none 0 0] 35)).frozen? ⟨w1.heap.size, 3, none⟩ = false := by simp [go_sem]
  have hs3 : (w1.alloc (.cells #[.int .i64 (R' : Int), .int .i64 (W' : Int), .slice (some ⟨bo, 0, none⟩) N' co, .slice none 0 0] 35)).heap.size = w1.heap.size + 1 := by simp
  go_wp2
  generalize (w1.alloc (.cells #[.int .i64 (R' : Int), .int .i64 (W' : Int), .slice (some ⟨bo, 0, none⟩) N' co, .slice none 0 0] 35)) = w3 at *
  replace A0 := cellb hb3 A0
  replace A1 := cellb hb3 A1
  replace A2 := cellb hb3 A2
  replace A3 := cellb hb3 A3
  replace R0 := cellb hb3 R0
  replace R1 := cellb hb3 R1
  replace R2 := cellb hb3 R2
  replace R3 := cellb hb3 R3
  replace Z0 : w3.frozen? ⟨w.heap.size + 1, 0, none⟩ = false := by rw [hb3.frozen (p := ⟨w.heap.size + 1, 0, none⟩) (by simp; omega)]; exact Z0
  replace Z1 : w3.frozen? ⟨w.heap.size + 1, 1, none⟩ = false := by rw [hb3.frozen (p := ⟨w.heap.size + 1, 1, none⟩) (by simp; omega)]; exact Z1
  replace Z2 : w3.frozen? ⟨w.heap.size + 1, 2, none⟩ = false := by rw [hb3.frozen (p := ⟨w.heap.size + 1, 2, none⟩) (by simp; omega)]; exact Z2
  replace Z3 : w3.frozen? ⟨w.heap.size + 1, 3, none⟩ = false := by rw [hb3.frozen (p := ⟨w.heap.size + 1, 3, none⟩) (by simp; omega)]; exact Z3
  have b3 := b1.trans (hb3.mono b1.size)
  replace HRO := hide (HRO.out.below hb3 o2)
  clear hb3 b1
  have obn : w1.heap.size ≠ bo := by omega
  go_loopw [8] (fun i wr => ∃ k : Nat, k ≤ min R' R ∧ i = .int .i64 k ∧ Hid (Touch bo 0 (N' * 2) w3 wr) ∧ Hid (Row wr bo 0 N' (fitF W W' k (fun i => cs.getD i (0, 0)) (32, 0)))) (fun i _ => R' - (intOf i).toNat)
  case atStart => exact ⟨0, Nat.zero_le _, rfl, hide (Touch.refl _ _ _ _), hide (HRO.out.congr (fun i _ => fitF_zero W W' _ (32, 0) i))⟩
  case round =>
    obtain ⟨k, hk, rfl, ht, hrow⟩ := hrel
    have B0 := ht.out.cellAt A0 (by omega)
    have B1 := ht.out.cellAt A1 (by omega)
    have B2 := ht.out.cellAt A2 (by omega)
    have P1 := ht.out.cellAt O1 (by omega)
    have P2 := ht.out.cellAt O2 (by omega)
    have hsr : w3.heap.size ≤ wr.heap.size := ht.out.size
    go_wp2_with fail
    refine (l1Min_calls _ _ wr).mono ?_
    rintro e w' ⟨rfl, hw⟩
    rw [hw, HMN.out]
    clear hw w'
    by_cases hlt : k < min R' R
    · have hltI : (k : Int) < ((min R' R : Nat) : Int) := by omega
      have hKW : k * W' + W' ≤ N' := by
        have h := Nat.mul_le_mul_right W' (show k + 1 ≤ R' by omega)
        rw [Nat.add_mul, Nat.one_mul, ← E4.out] at h
        exact h
      have hKm : k * W + W ≤ cs.length := by
        have h := Nat.mul_le_mul_right W (show k + 1 ≤ R by omega)
        rw [Nat.add_mul, Nat.one_mul, ← E1.out] at h
        exact h
      have XR := hide ((HX.out.below b3 (by omega)).touch ht.out (.inl (by omega)))
      go_wp2_with fail
      refine (l3RowOf_off w.heap.size bx off cs.length c1 (k * W) W (k * W + W) (k : Int) (W : Int) _ wr B1 B2 XR.out hc1 (by rw [Int.natCast_mul]) rfl rfl hKm (by omega) (by omega) (by omega) (by omega)).mono ?_
      rintro e w4 ⟨v, rfl, ov, hb4⟩
      obtain ⟨br, cr, rfl, hcr, _, u1, u2, hrv⟩ := own_row ov (by omega)
      have rv := hide (hrv.congr (fun i hi => mkL_get _ _ _ hi))
      have hs4 : wr.heap.size ≤ w4.heap.size := hb4.size
      have T4 := hide (ht.out.trans (Touch.of_below hb4 (Nat.le_refl _) (by omega)))
      have R4 := hide (hrow.out.below hb4 (by omega))
      clear hrv ov hb4 ht hrow XR B0 B1 B2 P1 P2
      go_wp2_with fail
      refine (l3Fit_calls br 0 W cr W' _ w4 rv.out.read p7 p8 (by omega)).mono ?_
      rintro e w5 ⟨bn, cn, rfl, hcn, v1, v2, hrn, hb5⟩
      have hs5 : w4.heap.size ≤ w5.heap.size := hb5.size
      have T5 := hide (T4.out.trans (Touch.of_below hb5 (Nat.le_refl _) (by omega)))
      have R5 := hide (R4.out.below hb5 (by omega))
      have RN := hide hrn
      clear hrn hb5 T4 R4 rv
      have P1 := T5.out.cellAt O1 (by omega)
      have P2 := T5.out.cellAt O2 (by omega)
      go_wp2_with fail
      refine (l3Row_calls w1.heap.size bo N' co (k * W') W' (k * W' + W') bn W' cn W' (k : Int) (W' : Int) _ _ w5 P1 P2 R5.out hco obn RN.out.read (by rw [Int.natCast_mul]) rfl rfl hKW (by omega) (by omega) (by omega) (by omega) (by omega)).mono ?_
      rintro e w6 ⟨⟨u6, rfl⟩, hr6, ht6⟩
      have R6 := hide (hr6.congr (fun i _ => fitF_step2 (show 0 < W' by omega) i))
      have T6 := hide (T5.out.trans ht6)
      clear hr6 ht6 T5 R5 RN P1 P2
      go_wp2
      go_roundw
      case rel => exact ⟨k + 1, by omega, by go_num, T6, R6⟩
      case measure => simp [intOf]; omega
    · obtain rfl : k = min R' R := by omega
      have hge : ¬ (((min R' R : Nat) : Int) < ((min R' R : Nat) : Int)) := by omega
      obtain ⟨wo, hwo⟩ : ∃ wo, wo = wr := ⟨_, rfl⟩
      subst hwo
      replace A0 := ht.out.cellAt A0 (by omega)
      replace A1 := ht.out.cellAt A1 (by omega)
      replace A2 := ht.out.cellAt A2 (by omega)
      replace A3 := ht.out.cellAt A3 (by omega)
      replace R0 := ht.out.cellAt R0 (by omega)
      replace R1 := ht.out.cellAt R1 (by omega)
      replace R2 := ht.out.cellAt R2 (by omega)
      replace R3 := ht.out.cellAt R3 (by omega)
      replace O0 := ht.out.cellAt O0 (by omega)
      replace O1 := ht.out.cellAt O1 (by omega)
      replace O2 := ht.out.cellAt O2 (by omega)
      replace O3 := ht.out.cellAt O3 (by omega)
      replace Z0 := ht.out.frozenAt (by omega) Z0
      replace Z1 := ht.out.frozenAt (by omega) Z1
      replace Z2 := ht.out.frozenAt (by omega) Z2
      replace Z3 := ht.out.frozenAt (by omega) Z3
      replace ZO := ht.out.frozenAt (by omega) ZO
      have br' : Below w.heap.size w wo := b3.trans (ht.out.below (by omega) (by omega))
      clear B0 B1 B2 P1 P2 ht HRO b3
      go_wp2
      go_loopw [9] (fun i wr => ∃ (k : Nat) (v : Value), k ≤ Hb ∧ i = .int .i64 ((k * W : Nat) : Int) ∧ Hid (Touch w1.heap.size 3 4 wo wr) ∧ wr.cell? ⟨w1.heap.size, 3, none⟩ = some v ∧ Hid (wr.ownsRow wo.heap.size 193 2 v (k * W') (pvs (mkL (k * W') (fitF W W' Hb (fun i => bs.getD i (0, 0)) (32, 0)))))) (fun i _ => bs.length - (intOf i).toNat)
      case atStart => exact ⟨0, .slice none 0 0, Nat.zero_le _, by rw [Nat.zero_mul]; rfl, hide (Touch.refl _ _ _ _), O3, hide (by rw [Nat.zero_mul]; exact World.ownsRow_nil _ _ _ _)⟩
      case round =>
        obtain ⟨k, v, hk, rfl, ht, C3, hown⟩ := hrel
        have B1 := ht.out.cellAt A1 (by omega)
        have B3 := ht.out.cellAt A3 (by omega)
        have hsq : wo.heap.size ≤ wr.heap.size := ht.out.size
        by_cases hlt : k < Hb
        · obtain ⟨av, cv, rfl, hcv⟩ := own_room2 hown.out
          have hKm : k * W + W ≤ bs.length := by
            have h := Nat.mul_le_mul_right W (show k + 1 ≤ Hb by omega)
            rw [Nat.add_mul, Nat.one_mul, ← E2.out] at h
            exact h
          have hKW : k * W' + W' ≤ M' := by
            have h := Nat.mul_le_mul_right W' (show k + 1 ≤ Hb by omega)
            rw [Nat.add_mul, Nat.one_mul, ← E5.out] at h
            exact h
          obtain rfl := HYA.out (by omega)
          have hyb := HYL.out (by omega)
          obtain ⟨q, hq⟩ : ∃ q, q = k * W := ⟨_, rfl⟩
          have hqs : (k + 1) * W = q + W := by rw [hq, Nat.add_mul, Nat.one_mul]
          rw [← hq] at hKm ⊢
          have hqI : (q : Int) < (bs.length : Int) := by omega
          obtain ⟨u, hu⟩ : ∃ u, u = q + W := ⟨_, rfl⟩
          have z1 : IntKind.i64.wrap ((q : Int) + (W : Int)) = (u : Int) := by rw [wrap_small (by omega) (by omega)]; omega
          have z2 : (q : Int) ≤ (u : Int) := by omega
          have z3 : (u : Int) ≤ (c2 : Int) := by omega
          have z4 : ¬ c2 = q := by omega
          have z5 : ¬ q = c2 := by omega
          have z6 : u - q = W := by omega
          have z7 : q ≤ u := by omega
          have z8 : u ≤ c2 := by omega
          have HU := hide hu
          clear hu
          have HQ := hide hq
          have HQS := hide hqs
          clear hq hqs
          have YR := hide (((HY.out.below br' hyb).touch ht.out (.inl (by omega))).sub q W hKm)
          have ZB := ht.out.frozenAt (by omega) ZO
          go_wp2_with fail
          refine till_region [14] (S := (fun w' => w'.cell? ⟨w1.heap.size, 3, none⟩ = some (.slice av (k * W') cv) ∧ w'.cell? ⟨w.heap.size, 3, none⟩ = some (.slice (some ⟨by', off2, none⟩) bs.length c2) ∧ w'.cell? ⟨w.heap.size, 1, none⟩ = some (.int .i64 (W : Int)))) (by kernel_rfl) ?_ (fun hHeld => ?_)
          · (try dsimp only); exact ⟨C3, B3, B1⟩
          refine till_take (i := 0) (oi := ⟨_, _, _, _, _, _⟩) (v := ?_) rfl (by kernel_rfl) (by kernel_rfl) (by kernel_rfl) (by kernel_rfl) (fun _ _ _ h => h) (Or.inl ⟨by rfl, ?_⟩) hHeld ?_
          rotate_left
          · (intro w hSw; (try dsimp only at hSw); go_simp; try (with_reducible rfl))
          try simp only [Act.put, List.setIfInBounds_toArray, List.set_cons_zero, List.set_cons_succ]
          refine till_take (i := 1) (oi := ⟨_, _, _, _, _, _⟩) (v := ?_) rfl (by kernel_rfl) (by kernel_rfl) (by kernel_rfl) (by kernel_rfl) (fun _ _ _ h => h) (Or.inl ⟨by rfl, ?_⟩) hHeld ?_
          rotate_left
          · (intro w hSw; (try dsimp only at hSw); go_simp; try (with_reducible rfl))
          try simp only [Act.put, List.setIfInBounds_toArray, List.set_cons_zero, List.set_cons_succ]
          refine till_take (i := 2) (oi := ⟨_, _, _, _, _, _⟩) (v := ?_) rfl (by kernel_rfl) (by kernel_rfl) (by kernel_rfl) (by kernel_rfl) (fun _ _ _ h => h) (Or.inl ⟨by rfl, ?_⟩) hHeld ?_
          rotate_left
          · (intro w hSw; (try dsimp only at hSw); go_simp; try (with_reducible rfl))
          try simp only [Act.put, List.setIfInBounds_toArray, List.set_cons_zero, List.set_cons_succ]
          refine till_take (i := 3) (oi := ⟨_, _, _, _, _, _⟩) (v := ?_) rfl (by kernel_rfl) (by kernel_rfl) (by kernel_rfl) (by kernel_rfl) (fun _ _ _ h => h) (Or.inl ⟨by rfl, ?_⟩) hHeld ?_
          rotate_left
          · (intro w hSw; (try dsimp only at hSw); go_simp; try (with_reducible rfl))
          try simp only [Act.put, List.setIfInBounds_toArray, List.set_cons_zero, List.set_cons_succ]
          refine till_take (i := 4) (oi := ⟨_, _, _, _, _, _⟩) (v := ?_) rfl (by kernel_rfl) (by kernel_rfl) (by kernel_rfl) (by kernel_rfl) (fun _ _ _ h => h) (Or.inl ⟨by rfl, ?_⟩) hHeld ?_
          rotate_left
          · (intro w hSw; (try dsimp only at hSw); go_simp; try (with_reducible rfl))
          try simp only [Act.put, List.setIfInBounds_toArray, List.set_cons_zero, List.set_cons_succ]
          refine till_take (i := 5) (oi := ⟨_, _, _, _, _, _⟩) (v := ?_) rfl (by kernel_rfl) (by kernel_rfl) (by kernel_rfl) (by kernel_rfl) (fun _ _ _ h => h) (Or.inl ⟨by rfl, ?_⟩) hHeld ?_
          rotate_left
          · (intro w hSw; (try dsimp only at hSw); go_simp; try (with_reducible rfl))
          try simp only [Act.put, List.setIfInBounds_toArray, List.set_cons_zero, List.set_cons_succ]
          refine till_take (i := 6) (oi := ⟨_, _, _, _, _, _⟩) (v := ?_) rfl (by kernel_rfl) (by kernel_rfl) (by kernel_rfl) (by kernel_rfl) (fun _ _ _ h => h) (Or.inl ⟨by rfl, ?_⟩) hHeld ?_
          rotate_left
          · (intro w hSw; (try dsimp only at hSw); go_simp; try (with_reducible rfl))
          try simp only [Act.put, List.setIfInBounds_toArray, List.set_cons_zero, List.set_cons_succ]
          refine till_take (i := 7) (oi := ⟨_, _, _, _, _, _⟩) (v := ?_) rfl (by kernel_rfl) (by kernel_rfl) (by kernel_rfl) (by kernel_rfl) (fun _ _ _ h => h) (Or.inl ⟨by rfl, ?_⟩) hHeld ?_
          rotate_left
          · (intro w hSw; (try dsimp only at hSw); go_simp; try (with_reducible rfl))
          try simp only [Act.put, List.setIfInBounds_toArray, List.set_cons_zero, List.set_cons_succ]
          refine till_take (i := 8) (oi := ⟨_, _, _, _, _, _⟩) (v := ?_) rfl (by kernel_rfl) (by kernel_rfl) (by kernel_rfl) (by kernel_rfl) (fun _ _ _ h => h) (Or.inl ⟨by rfl, ?_⟩) hHeld ?_
          rotate_left
          · (intro w hSw; (try dsimp only at hSw); go_simp; try (with_reducible rfl))
          try simp only [Act.put, List.setIfInBounds_toArray, List.set_cons_zero, List.set_cons_succ]
          refine till_take (i := 9) (oi := ⟨_, _, _, _, _, _⟩) (v := ?_) rfl (by kernel_rfl) (by kernel_rfl) (by kernel_rfl) (by kernel_rfl) (fun _ _ _ h => h) (Or.inl ⟨by rfl, ?_⟩) hHeld ?_
          rotate_left
          · (intro w hSw; (try dsimp only at hSw); go_simp; try (with_reducible rfl))
          try simp only [Act.put, List.setIfInBounds_toArray, List.set_cons_zero, List.set_cons_succ]
          refine till_take (i := 10) (oi := ⟨_, _, _, _, _, _⟩) (v := ?_) rfl (by kernel_rfl) (by kernel_rfl) (by kernel_rfl) (by kernel_rfl) (fun _ _ _ h => h) (Or.inl ⟨by rfl, ?_⟩) hHeld ?_
          rotate_left
          · (intro w hSw; (try dsimp only at hSw); go_simp; try (with_reducible rfl))
          try simp only [Act.put, List.setIfInBounds_toArray, List.set_cons_zero, List.set_cons_succ]
          refine till_ready (rs := [11]) (by kernel_rfl) (by simp) ?_
          refine (EachTill.cons (o := ⟨_, _, _, _, _, _⟩) rfl (fun K hK => ?_) EachTill.nil)
          go_simp
          go_at_call 193
          (try rw [z6])
          refine (l3Fit_calls by' (off2 + q * 2) W _ W' (fun i => bs.getD (q + i) (0, 0)) wr.drew (show RowR wr.drew _ _ _ _ from YR.out) p7 p8 (by omega)).mono ?_
          rintro e w5 ⟨bn, cn, rfl, hcn, v1, v2, hrn, hb5⟩
          replace hb5 : Below wr.heap.size wr w5 := (below_drewN (Below.refl _ _) 1).trans hb5
          replace v1 : wr.heap.size ≤ bn := v1
          have hs5 : wr.heap.size ≤ w5.heap.size := hb5.size
          have K3 := cellb hb5 C3
          have K4 := cellb hb5 B3
          have K5 := cellb hb5 B1
          have K6 : w5.frozen? ⟨w1.heap.size, 3, none⟩ = false := by rw [hb5.frozen (p := ⟨w1.heap.size, 3, none⟩) (by simp; omega)]; exact ZB
          have T5 := hide (ht.out.later (hb5.mono hsq) (by omega))
          have O5 := hide (own_below hown.out hb5)
          have RN := hide hrn
          clear hrn hb5 ht hown YR
          try go_wp2_with fail
          refine hK.out _ _ ?_ ?_
          · (try dsimp only); exact ⟨K3, K4, K5⟩
          clear hHeld hK K
          intro hHeld
          try simp only [Act.put, List.setIfInBounds_toArray, List.set_cons_zero, List.set_cons_succ]
          refine till_ready (rs := [12]) (by kernel_rfl) (by simp) ?_
          refine (EachTill.cons (o := ⟨_, _, _, _, _, _⟩) rfl (fun K hK => ?_) EachTill.nil)
          refine step_append_pread rfl (.tmp 37) (.tmp 47) 33 rfl wo.heap.size 193 i0 (.agg #[.int .i64 0, .int .i64 0]) 16 Tryz.underlying33 hi hz0 hz1 hz2 rfl _ (k * W') _ rfl O5.out (some ⟨bn, 0, none⟩) (mkL W' (fun x => if x < min W W' then bs.getD (q + x) (0, 0) else (32, 0))) W' cn rfl (by rw [mkL_length]) (pread_of_row RN.out.read) (by unfold maxLen; omega) (by omega) (by omega) ?_
          intro v6 w6 o6 g6
          have hb6 : Below wo.heap.size w5 w6 := (Below.refl _ _).grown g6 (by omega) (fun j hj => (O5.out.lt j hj).1)
          have hs6 : w5.heap.size ≤ w6.heap.size := hb6.size
          replace K3 := cellk hb6 (by omega) K3
          replace K4 := cellk hb6 (by omega) K4
          replace K5 := cellk hb6 (by omega) K5
          replace K6 : w6.frozen? ⟨w1.heap.size, 3, none⟩ = false := by rw [hb6.frozen (p := ⟨w1.heap.size, 3, none⟩) (by simp; omega)]; exact K6
          have T6 := hide (T5.out.later hb6 (by omega))
          have O6 := hide o6
          obtain ⟨a6, c6, rfl, hc6⟩ := own_room2 o6
          clear o6 g6 hb6 T5 O5 RN
          refine hK.out _ _ ?_ ?_
          · (try dsimp only); exact ⟨K3, K4, K5⟩
          clear hHeld hK K
          intro hHeld
          try simp only [Act.put, List.setIfInBounds_toArray, List.set_cons_zero, List.set_cons_succ]
          refine till_take (i := 13) (oi := ⟨_, _, _, _, _, _⟩) (v := ?_) rfl (by kernel_rfl) (by kernel_rfl) (by kernel_rfl) (by kernel_rfl) (fun _ _ _ h => h) (Or.inl ⟨by rfl, ?_⟩) hHeld ?_
          rotate_left
          · (intro w hSw; (try dsimp only at hSw); go_simp; try (with_reducible rfl))
          try simp only [Act.put, List.setIfInBounds_toArray, List.set_cons_zero, List.set_cons_succ]
          refine till_ready (rs := [14]) (by kernel_rfl) (by simp) ?_
          refine (EachTill.last (o := ⟨_, _, _, _, _, _⟩) rfl rfl (fun K hK => ?_) EachTill.nil)
          go_simp
          have T9 := hide (T6.out.setCell (o := 3) (by omega) (by omega) (.slice a6 (k * W' + W') c6))
          have C9 := World.cell?_setCell_same w6 ⟨w1.heap.size, 3, none⟩ (.slice a6 (k * W' + W') c6) K3
          have O9 : Hid ((w6.setCell ⟨w1.heap.size, 3, none⟩ (.slice a6 (k * W' + W') c6)).ownsRow wo.heap.size 193 2 (.slice a6 (k * W' + W') c6) ((k + 1) * W') (pvs (mkL ((k + 1) * W') (fitF W W' Hb (fun i => bs.getD i (0, 0)) (32, 0))))) := hide (by
            have h := own_setCell (b := w1.heap.size) (o := 3) (u := .slice a6 (k * W' + W') c6) O6.out (fun e => by have := (O6.out.lt _ e.symm).1; omega)
            rw [HQ.out, fitF_more (by omega) hlt] at h
            rw [show (k + 1) * W' = k * W' + W' by rw [Nat.add_mul, Nat.one_mul]] at h ⊢
            exact h)
          generalize (w6.setCell ⟨w1.heap.size, 3, none⟩ (.slice a6 (k * W' + W') c6)) = w9 at *
          have B9 := T9.out.cellAt A1 (by omega)
          clear T6 O6 K3 K4 K5 K6
          refine hK.out _ _ ?_ ?_
          · (try dsimp only); skip
          clear hHeld hK K
          intro hHeld
          try simp only [Act.put, List.setIfInBounds_toArray, List.set_cons_zero, List.set_cons_succ]
          refine till_done (by kernel_rfl) ?_ _
          clear hHeld
          have hend : (u : Int) = (((k + 1) * W : Nat) : Int) := by rw [HQS.out, HU.out]
          have HEND := hide hend
          clear hend
          go_wp2
          go_roundw
          case rel => exact ⟨k + 1, _, by omega, by first | (rw [HEND.out]; done) | (rw [HEND.out]) | (rw [← HEND.out]; go_num), T9, C9, O9⟩
          case measure => simp [intOf]; omega
        · obtain rfl : k = Hb := by omega
          have hle : bs.length = k * W := E2.out
          obtain ⟨q, hq⟩ : ∃ q, q = k * W := ⟨_, rfl⟩
          rw [← hq]
          have hge : ¬ ((q : Int) < (bs.length : Int)) := by omega
          clear hle hq
          obtain ⟨av, cv, rfl, hcv⟩ := own_room2 hown.out
          replace R0 := ht.out.cellAt R0 (by omega)
          replace R1 := ht.out.cellAt R1 (by omega)
          replace R2 := ht.out.cellAt R2 (by omega)
          replace R3 := ht.out.cellAt R3 (by omega)
          replace O0 := ht.out.cellAt O0 (by omega)
          replace O1 := ht.out.cellAt O1 (by omega)
          replace O2 := ht.out.cellAt O2 (by omega)
          replace Z0 := ht.out.frozenAt (by omega) Z0
          replace Z1 := ht.out.frozenAt (by omega) Z1
          replace Z2 := ht.out.frozenAt (by omega) Z2
          replace Z3 := ht.out.frozenAt (by omega) Z3
          have bq : Below w.heap.size w wr := br'.trans (ht.out.below (by omega) (by omega))
          have RQ := hide (hrow.out.touch ht.out (by omega))
          have TQ := hide ht.out
          clear ht O3 B1
          have hr := res4 (w := wr) (r := w.heap.size + 1) (.int .i64 (R' : Int)) (.int .i64 (W' : Int)) (.slice (some ⟨bo, 0, none⟩) N' co) (.slice av (k * W') cv) R0 R1 R2 R3
          go_wp2
          refine bodyPost_ret (v := .agg #[.int .i64 (R' : Int), .int .i64 (W' : Int), .slice (some ⟨bo, 0, none⟩) N' co, .slice av (k * W') cv]) (by simp only [results, Tryz.results132]; simp [go_sem, hr.1, hr.2.1, hr.2.2.1, hr.2.2.2]) rfl ⟨_, _, rfl, ?_, bq.trans (show Below w.heap.size wr _ from (by repeat' (first | with_reducible exact Below.refl _ _ | with_reducible assumption | with_reducible refine Below.drew ?_ | with_reducible refine Below.alloc ?_ ?_ _ | with_reducible refine Below.setCell ?_ ?_ _ | (simp; done) | (simp; omega) | omega)))⟩
          rw [E5.out]
          refine (gown_of (w := wr) (base := w.heap.size + 2) (m := wo.heap.size) RQ.out (by omega) (by omega) (by rw [mkL_length]; exact hown.out) (by omega) (by omega) (by simp [World.setCell]) (fun j _ => ?_) (by omega)).mono (by omega) (Nat.le_refl _)
          by_cases hj : j < w.heap.size + 2
          · exact .inr hj
          · left
            simp only [World.setCell, Array.getElem?_modify]
            repeat rw [if_neg (by omega)]
end Go.Proofs.YtdekegjplegkeaaGreat

namespace Go.Proofs.YtdekegjplegkeaaGreat
set_option maxRecDepth 20000
open Go.ChangeShapes Go.WideShapes Go.ChangeAt Go.RowKit
set_option linter.unusedVariables false
set_option linter.unusedSimpArgs false
set_option maxRecDepth 20000

theorem scr_tabs {s : Scr} (h : scrCode s = 0) : (s.tabs.length : Int) = s.wd := by
  unfold scrCode at h
  by_cases hg : gridCode s.r s.wd s.cs s.bs = 0
  · rw [if_pos hg] at h
    cases hr : rangeB s with
    | false => rw [hr] at h; simp at h
    | true =>
      cases hf : sformB s with
      | false => rw [hr, hf] at h; simp at h
      | true =>
        unfold sformB tabsB at hf
        simp only [Bool.and_eq_true, decide_eq_true_eq] at hf
        exact hf.2.1
  · rw [if_neg hg] at h; exact absurd h hg
theorem step_append_bools {P : Program} {ops : Array Oper} {o : Oper} {a : Act} {w : World} {K : Act → World → Prop} {Q : Exit → Act → World → Prop} {E : Prop}
    (hg : o.guard = none) (s x : Operand) (t : TypeId) (hop : o.op = Op.call { callee := Callee.builtin Builtin.append, args := #[s, x], argTypes := #[t, t] })
    (base : Nat) (e : TypeId) (i : TypeInfo) (z : Value) (bytes : Nat) (h1 : P.underlying t = some (.slice e)) (h2 : P.info? e = some i) (h3 : i.zero = some z) (h4 : i.size = 1) (h5 : i.bytes = bytes) (h6 : z.cells.size = 1)
    (v : Value) (n : Nat) (xs : List Bool) (hs : a.eval s = v) (hown : w.ownsRow base e 1 v n (boolsV xs))
    (ax : Option Addr) (ys : List Bool) (m c : Nat) (hx : a.eval x = .slice ax m c) (hm : m = ys.length) (hr : BRead w (.slice ax m c) ys)
    (b1 : n + m ≤ maxLen) (b2 : (n + m) * bytes ≤ 140737488355328) (hbase : base ≤ w.heap.size)
    (hK : ∀ v' w', w'.ownsRow base e 1 v' (n + m) (boolsV (xs ++ ys)) → w.grownBy w' v.ownBlock → K (a.put o.dst v') w') :
    if Region.wanted o (yielded ops a.tmps) = true then Oper.wp P o a w K Q else E := by
  have hw : Region.wanted o (yielded ops a.tmps) = true := by simp [Region.wanted, hg]
  rw [if_pos hw]
  obtain ⟨v', w', hrun, r1, r2⟩ := run_append_bools w base t o.type e i z bytes h1 h2 h3 h4 h5 h6 v n xs hown ax ys m c hm hr b1 b2 hbase
  unfold Oper.wp
  simp [execOp, hop, resolve, invoke, builtin, hs, hx, hrun, Result.andThen]
  exact hK v' w' r1 r2
theorem bread_pre {w : World} {a : Option Addr} {n c k : Nat} {xs : List Bool} (h : BRead w (.slice a n c) xs) (hk : k ≤ xs.length) : BRead w (.slice a k c) (xs.take k) := by
  obtain ⟨a', c', hv, h⟩ := h
  injection hv with e1 e2 e3
  subst e1 e3
  refine ⟨_, _, by rw [List.length_take, Nat.min_eq_left hk], ?_⟩
  rcases h with h | ⟨b, off, ha, hc⟩
  · left; rw [h]; simp
  · right
    refine ⟨b, off, ha, fun i hi => ?_⟩
    rw [List.length_take] at hi
    rw [hc i (by omega)]
    simp [List.getD_eq_getElem?_getD, List.getElem?_take, show i < k by omega]
theorem tabs_join {tb : List Bool} {m n k : Nat} (hk : min n m = k) (hm : tb.length = m) : tb.take k ++ tabsL (n - k) (fun i => stopB (k + i)) = tabsW tb n := by
  apply List.ext_getElem?
  intro i
  unfold tabsW
  by_cases h1 : i < k
  · rw [List.getElem?_append_left (by rw [List.length_take]; omega), List.getElem?_take, if_pos h1]
    have h2 : i < n := by omega
    simp [tabsL, h2, List.getD_eq_getElem?_getD, show i < tb.length by omega]
  · rw [List.getElem?_append_right (by rw [List.length_take]; omega), List.length_take, show min k tb.length = k by omega]
    by_cases h2 : i < n
    · simp [tabsL, h2, show i - k < n - k by omega, show k + (i - k) = i by omega, show ¬ i < tb.length by omega]
    · simp [tabsL, h2, show ¬ i - k < n - k by omega]
set_option maxHeartbeats 8000000 in
theorem specResizeScreen_calls (s : Scr) (v1 v2 v3 v4 : Value) (rows width : Int) (w : World) (hn1 : s.cs.length ≤ 1048576) (hn2 : s.bs.length ≤ 1048576) (hn3 : s.tabs.length ≤ 1048576) (hn4 : s.sets.length ≤ 1048576) (k1 : Capped v1) (k2 : Capped v2) (k3 : Capped v3) (h : SRead w s v1 v2 v3 v4) :
    Calls Tryz.prog 78 #[.agg (scrA s v1 v2 v3 v4), .int .i64 rows, .int .i64 width] w fun e w' => ∃ u1 u2 u3 u4, e = .returned (.agg (resA (rzRes s rows width).code (rzRes s rows width).s u1 u2 u3 u4)) ∧ SOwn w.heap.size w'.heap.size w' u1 u2 u3 u4 (rzRes s rows width).s ∧ Below w.heap.size w w' := by
  have bel0 : Below w.heap.size w ((w.alloc (.cells (scrA s v1 v2 v3 v4) 37)).alloc (.cells #[.int .i64 0, .int .i64 0, .int .i64 0, .slice none 0 0, .slice none 0 0, .int .i64 0, .int .i64 0, .bool false, .int .i64 0, .int .i64 0, .int .i64 0, .bool false, .bool false, .bool false, .slice none 0 0, .int .i64 0, .int .i64 0, .int .i64 0, .slice none 0 0, .int .i64 0, .int .i64 0] 39)) := (by repeat' (first | with_reducible exact Below.refl _ _ | with_reducible assumption | with_reducible refine Below.drew ?_ | with_reducible refine Below.alloc ?_ ?_ _ | with_reducible refine Below.setCell ?_ ?_ _ | (simp; done) | (simp; omega) | omega))
  have hA := (Blk.new w (scrA s v1 v2 v3 v4) 37).alloc (.cells #[.int .i64 0, .int .i64 0, .int .i64 0, .slice none 0 0, .slice none 0 0, .int .i64 0, .int .i64 0, .bool false, .int .i64 0, .int .i64 0, .int .i64 0, .bool false, .bool false, .bool false, .slice none 0 0, .int .i64 0, .int .i64 0, .int .i64 0, .slice none 0 0, .int .i64 0, .int .i64 0] 39)
  have hR : Blk ((w.alloc (.cells (scrA s v1 v2 v3 v4) 37)).alloc (.cells #[.int .i64 0, .int .i64 0, .int .i64 0, .slice none 0 0, .slice none 0 0, .int .i64 0, .int .i64 0, .bool false, .int .i64 0, .int .i64 0, .int .i64 0, .bool false, .bool false, .bool false, .slice none 0 0, .int .i64 0, .int .i64 0, .int .i64 0, .slice none 0 0, .int .i64 0, .int .i64 0] 39)) (w.heap.size + 1) (resA 0 scr0 (.slice none 0 0) (.slice none 0 0) (.slice none 0 0) (.slice none 0 0)) := Blk.new_at (by simp) _ _
  unfold rzRes
  by_cases hc : scrCode s = 0
  · rw [if_pos hc]
    cases hz : sizeB rows width with
    | false =>
      rw [if_neg (by simp)]
      go_enter Tryz.func78, Tryz.ntmps78
      go_wp2_with fail
      go_at_call 43
      refine (l5Fault_o s _ _ _ _ w.heap.size 0 _ hn1 hn2 hn3 hn4 hA.seg (h.below bel0)).mono ?_
      rintro e w1 ⟨rfl, hb⟩
      replace hA := hA.belowb hb
      replace hR := hR.belowb hb
      have bel1 := bel0.trans (hb.mono bel0.size)
      have z1 : w.heap.size + 2 ≤ w1.heap.size := by have := hb.size; simp at this; omega
      clear hb bel0
      rw [hc]
      go_wp2_with (first | fail | (go_at_call 131; refine (l3Size_calls _ _ _).mono ?_; rintro e w' ⟨rfl, hw⟩; rw [hw, hz]; clear hw w'))
      go_at_call 44
      refine (l5Bad_calls 3 _).mono ?_
      rintro e w2 ⟨rfl, hb⟩
      replace hR := hR.belowb hb
      have z2 : w1.heap.size ≤ w2.heap.size := hb.size
      have bel2 := bel1.trans (hb.mono bel1.size)
      clear hb bel1
      go_wp2_with (first | (refine wpList_store_blk rfl _ _ _ rfl (w.heap.size + 1) 0 (resA 0 scr0 (.slice none 0 0) (.slice none 0 0) (.slice none 0 0) (.slice none 0 0)) (resA 3 scr0 (.slice none 0 0) (.slice none 0 0) (.slice none 0 0) (.slice none 0 0)) (.agg (resA 3 scr0 (.slice none 0 0) (.slice none 0 0) (.slice none 0 0) (.slice none 0 0))) rfl rfl hR rfl (by kernel_rfl) rfl rfl ?_; (try simp only [Act.put, List.setIfInBounds_toArray, List.set_cons_zero, List.set_cons_succ]); clear hR; intro w9 hR hu))
      exact bodyPost_ret (results_blk hR _ _ rfl rfl Tryz.underlying39 rfl (by kernel_rfl)) rfl ⟨_, _, _, _, rfl, sown_zero _ _ (by have := hu.size; omega) _, bel2.trans (hu.below (by omega))⟩
    | true =>
      rw [if_pos rfl]
      have hG := rz_grid_code hc
      have hfine := gfine_of_code hG
      obtain ⟨n1, n2, hq, n8, n9, n10⟩ := hfine.short
      obtain ⟨R, W, R', W', Hb, N', M', eR, eW, rfl, rfl, p1, p2, p3, p4, p5, p6, p7, p8, p9, p10, p11, p12, e1, e2, e3, e4, e5⟩ := resize_nats hfine hz
      have eW' : s.wd.toNat = W := by omega
      have eR' : s.r.toNat = R := by omega
      have htl : s.tabs.length = W := by
        have := scr_tabs hc
        omega
      obtain ⟨G, hG'⟩ : ∃ G, rzGrid s (R' : Int) (W' : Int) = G := ⟨_, rfl⟩
      have e' : rzGrid s (R' : Int) (W' : Int) = ⟨0, (R' : Int), (W' : Int), mkL N' (fitF W W' (min R' R) (fun i => s.cs.getD i (0, 0)) (32, 0)), mkL M' (fitF W W' Hb (fun i => s.bs.getD i (0, 0)) (32, 0))⟩ := by
        unfold rzGrid
        rw [resizeRes_def, gres_ok hG hz]
        simp only [eW', eR', Int.toNat_natCast, e3, ← e4, ← e5]
      rw [hG'] at e'
      have HGL : mkL N' (fitF W W' (min R' R) (fun i => s.cs.getD i (0, 0)) (32, 0)) = G.cs := by rw [e']
      have HBL : mkL M' (fitF W W' Hb (fun i => s.bs.getD i (0, 0)) (32, 0)) = G.bs := by rw [e']
      have hfin : rzScr s (R' : Int) (W' : Int) = goTo { s with r := (R' : Int), wd := (W' : Int), cs := G.cs, bs := G.bs, top := 0, bot := (R' : Int) - 1, tabs := tabsW s.tabs W' } s.y s.x := by
        unfold rzScr rzStart
        rw [hG']
        rfl
      rw [hfin]
      have HRZ := fun (w1 : World) (b1 : Below w.heap.size w w1) => l3Resize_calls R W R' W' Hb N' M' s.r s.wd s.cs s.bs _ _ w1 (h.g1.below b1) (h.g2.below b1) k1 k2 eR eW p1 p2 p3 p4 p5 p6 p7 p8 p9 p10 p11 p12 n9 n10 e1 e2 e4 e5
      rw [HGL, HBL] at HRZ
      have hwr : IntKind.i64.wrap ((R' : Int) - 1) = (R' : Int) - 1 := wrap_small (by omega) (by omega)
      obtain ⟨k, hk⟩ : ∃ k, min W' W = k := ⟨_, rfl⟩
      have hm : min (W' : Int) s.wd = (k : Int) := by omega
      have hkw : k ≤ W' := by omega
      have hkl : k ≤ s.tabs.length := by omega
      have htk : (s.tabs.take k).length = k := by rw [List.length_take]; omega
      have hjoin := tabs_join (tb := s.tabs) (n := W') hk htl
      obtain ⟨b3, o3, c3, rfl⟩ : ∃ b3 o3 c3, v3 = .slice (some ⟨b3, o3, none⟩) s.tabs.length c3 := by
        obtain ⟨a3, c3, rfl, h3⟩ := h.g3
        rcases h3 with h3 | ⟨b3, o3, rfl, _⟩
        · rw [h3] at htl; simp at htl; omega
        · exact ⟨_, _, _, rfl⟩
      have hk3 : s.tabs.length ≤ c3 := k3 _ _ _ rfl
      have hkc : (k : Int) ≤ (c3 : Int) := by omega
      have hkc' : k ≤ c3 := by omega
      have hk0 : (0 : Int) ≤ (k : Int) := by omega
      have HM := hide hm
      have HT := hide htl
      have HK := hide hk
      have HL := hide htk
      have HJ := hide hjoin
      have HW := hide eW
      clear hfine eW' eR' htl e' HGL HBL hfin hG hG' e1 e2 e3 e4 e5 n1 n2 hq n8 n9 n10 eR hk hm htk hjoin k1 k2 k3 eW
      go_enter Tryz.func78, Tryz.ntmps78
      go_wp2_with fail
      go_at_call 43
      refine (l5Fault_o s _ _ _ _ w.heap.size 0 _ hn1 hn2 hn3 hn4 hA.seg (h.below bel0)).mono ?_
      rintro e w1 ⟨rfl, hb⟩
      replace hA := hA.belowb hb
      replace hR := hR.belowb hb
      have bel1 := bel0.trans (hb.mono bel0.size)
      have z1 : w.heap.size + 2 ≤ w1.heap.size := by have := hb.size; simp at this; omega
      clear hb bel0
      rw [hc]
      go_wp2_with (first | fail | (go_at_call 131; refine (l3Size_calls _ _ _).mono ?_; rintro e w' ⟨rfl, hw⟩; rw [hw, hz]; clear hw w') | (refine wpList_load_at rfl 37 _ rfl (w.heap.size) 0 rfl _ (scrA s v1 v2 (.slice (some ⟨b3, o3, none⟩) s.tabs.length c3) v4) hA rfl _ Tryz.underlying37 rfl (by kernel_rfl) ?_; (try simp only [Act.put, List.setIfInBounds_toArray, List.set_cons_zero, List.set_cons_succ])))
      go_at_call 46
      refine (l5Copy_calls s _ _ _ _ _ hn1 hn2 hn3 hn4 (h.below bel1)).mono ?_
      rintro e w2 ⟨u1, u2, u3, u4, rfl, ⟨g1, g2, g3, g4, q1, q2, q3, q4, q5, oc1, -, oc2, -, oT, oS⟩, hb⟩
      obtain ⟨b1, d1, rfl, _⟩ := own_room2 oc1
      obtain ⟨b2, d2, rfl, _⟩ := own_room2 oc2
      obtain ⟨b5, d5, rfl, _⟩ := id oT
      obtain ⟨b4, d4, rfl, _⟩ := id oS
      replace hA := hA.belowb hb
      replace hR := hR.belowb hb
      have bel2 := bel1.trans (hb.mono bel1.size)
      have z2 : w1.heap.size ≤ w2.heap.size := hb.size
      clear hb bel1 hc oc1 oc2 oT
      have f1 := scrA_4 s v1 v2 (.slice (some ⟨b3, o3, none⟩) s.tabs.length c3) v4
      have f2 := scrA_5 s v1 v2 (.slice (some ⟨b3, o3, none⟩) s.tabs.length c3) v4
      go_wp2_with (first | fail | (refine wpList_store_blk rfl _ _ _ rfl (w2.heap.size) 0 (scrA scr0 (.slice none 0 0) (.slice none 0 0) (.slice none 0 0) (.slice none 0 0)) (scrA s (.slice b1 s.cs.length d1) (.slice b2 s.bs.length d2) (.slice b5 s.tabs.length d5) (.slice b4 s.sets.length d4)) (.agg (scrA s (.slice b1 s.cs.length d1) (.slice b2 s.bs.length d2) (.slice b5 s.tabs.length d5) (.slice b4 s.sets.length d4))) rfl rfl (Blk.new w2 _ _) rfl (by kernel_rfl) rfl rfl ?_; (try simp only [Act.put, List.setIfInBounds_toArray, List.set_cons_zero, List.set_cons_succ]); intro w3 hB hu; replace hA := (hA.alloc (.cells #[.int .i64 0, .int .i64 0, .slice none 0 0, .slice none 0 0, .int .i64 0, .int .i64 0, .bool false, .int .i64 0, .int .i64 0, .int .i64 0, .bool false, .bool false, .bool false, .slice none 0 0, .int .i64 0, .int .i64 0, .int .i64 0, .slice none 0 0, .int .i64 0, .int .i64 0] 37)).upd hu (by omega); replace hR := (hR.alloc (.cells #[.int .i64 0, .int .i64 0, .slice none 0 0, .slice none 0 0, .int .i64 0, .int .i64 0, .bool false, .int .i64 0, .int .i64 0, .int .i64 0, .bool false, .bool false, .bool false, .slice none 0 0, .int .i64 0, .int .i64 0, .int .i64 0, .slice none 0 0, .int .i64 0, .int .i64 0] 37)).upd hu (by omega); have hS := oS.of_blocks (w' := w3) (fun q q1 q2 => (hu.block q (by omega)).trans (Below.heap_alloc _ _ _ (by omega))); have bel3 := (bel2.trans ((Below.refl _ w2).alloc (by omega) (.cells #[.int .i64 0, .int .i64 0, .slice none 0 0, .slice none 0 0, .int .i64 0, .int .i64 0, .bool false, .int .i64 0, .int .i64 0, .int .i64 0, .bool false, .bool false, .bool false, .slice none 0 0, .int .i64 0, .int .i64 0, .int .i64 0, .slice none 0 0, .int .i64 0, .int .i64 0] 37))).trans (hu.below (by omega)); have z3 : w3.heap.size = w2.heap.size + 1 := (by have := hu.size; simp at this; omega); have z3' : w2.heap.size + 1 ≤ w3.heap.size := (by omega); clear hu bel2 oS) | (refine wpList_load_at rfl 35 _ rfl (w.heap.size) 0 rfl _ (grdZ s v1 v2) hA (scrA_grdZ s v1 v2 _ v4) _ Tryz.underlying35 rfl (by kernel_rfl) ?_; (try simp only [Act.put, List.setIfInBounds_toArray, List.set_cons_zero, List.set_cons_succ])))
      go_at_call 132
      refine (HRZ w3 bel3).mono ?_
      clear HRZ
      rintro e w4 ⟨x5, x6, rfl, hg, hb⟩
      obtain ⟨a1, c1, a2, c2, rfl, rfl⟩ := hg.forms
      replace hA := hA.belowb hb
      replace hR := hR.belowb hb
      replace hB := hB.belowb hb
      replace hS := hS.below hb (by omega)
      have bel4 := bel3.trans (hb.mono (by omega))
      have z4 : w3.heap.size ≤ w4.heap.size := hb.size
      clear hb bel3
      go_wp2_with (first | fail | (refine wpList_store_blk rfl _ _ _ rfl (w2.heap.size) 0 (scrA s (.slice b1 s.cs.length d1) (.slice b2 s.bs.length d2) (.slice b5 s.tabs.length d5) (.slice b4 s.sets.length d4)) (scrA { s with r := (R' : Int), wd := (W' : Int), cs := G.cs, bs := G.bs } (.slice a1 G.cs.length c1) (.slice a2 G.bs.length c2) (.slice b5 s.tabs.length d5) (.slice b4 s.sets.length d4)) (.agg #[.int .i64 (R' : Int), .int .i64 (W' : Int), .slice a1 G.cs.length c1, .slice a2 G.bs.length c2]) rfl rfl hB rfl (by kernel_rfl) rfl rfl ?_; (try simp only [Act.put, List.setIfInBounds_toArray, List.set_cons_zero, List.set_cons_succ]); clear hB; intro w5 hB hu; replace hA := hA.upd hu (by omega); replace hR := hR.upd hu (by omega); replace hg := hg.of_blocks (w' := w5) (fun q q1 q2 => hu.block q (by omega)); replace hS := hS.of_blocks (w' := w5) (fun q q1 q2 => hu.block q (by omega)); have bel5 := bel4.trans (hu.below (by omega)); have z5 : w4.heap.size ≤ w5.heap.size := Nat.le_of_eq hu.size.symm; clear hu bel4) | (refine wpList_store_blk rfl _ _ _ rfl (w2.heap.size) 8 (scrA { s with r := (R' : Int), wd := (W' : Int), cs := G.cs, bs := G.bs } (.slice a1 G.cs.length c1) (.slice a2 G.bs.length c2) (.slice b5 s.tabs.length d5) (.slice b4 s.sets.length d4)) (scrA { s with r := (R' : Int), wd := (W' : Int), cs := G.cs, bs := G.bs, top := 0 } (.slice a1 G.cs.length c1) (.slice a2 G.bs.length c2) (.slice b5 s.tabs.length d5) (.slice b4 s.sets.length d4)) (.int .i64 0) rfl rfl hB rfl (by kernel_rfl) rfl rfl ?_; (try simp only [Act.put, List.setIfInBounds_toArray, List.set_cons_zero, List.set_cons_succ]); clear hB; intro w6 hB hu; replace hA := hA.upd hu (by omega); replace hR := hR.upd hu (by omega); replace hg := hg.of_blocks (w' := w6) (fun q q1 q2 => hu.block q (by omega)); replace hS := hS.of_blocks (w' := w6) (fun q q1 q2 => hu.block q (by omega)); have bel6 := bel5.trans (hu.below (by omega)); have z6 : w5.heap.size ≤ w6.heap.size := Nat.le_of_eq hu.size.symm; clear hu bel5) | (refine wpList_store_blk rfl _ _ _ rfl (w2.heap.size) 9 (scrA { s with r := (R' : Int), wd := (W' : Int), cs := G.cs, bs := G.bs, top := 0 } (.slice a1 G.cs.length c1) (.slice a2 G.bs.length c2) (.slice b5 s.tabs.length d5) (.slice b4 s.sets.length d4)) (scrA { s with r := (R' : Int), wd := (W' : Int), cs := G.cs, bs := G.bs, top := 0, bot := (R' : Int) - 1 } (.slice a1 G.cs.length c1) (.slice a2 G.bs.length c2) (.slice b5 s.tabs.length d5) (.slice b4 s.sets.length d4)) (.int .i64 ((R' : Int) - 1)) rfl rfl hB rfl (by kernel_rfl) rfl rfl ?_; (try simp only [Act.put, List.setIfInBounds_toArray, List.set_cons_zero, List.set_cons_succ]); clear hB; intro w7 hB hu; replace hA := hA.upd hu (by omega); replace hR := hR.upd hu (by omega); replace hg := hg.of_blocks (w' := w7) (fun q q1 q2 => hu.block q (by omega)); replace hS := hS.of_blocks (w' := w7) (fun q q1 q2 => hu.block q (by omega)); have bel7 := bel6.trans (hu.below (by omega)); have z7 : w6.heap.size ≤ w7.heap.size := Nat.le_of_eq hu.size.symm; clear hu bel6))
      have hT3 : BRead w7 (.slice (some ⟨b3, o3, none⟩) s.tabs.length c3) s.tabs := h.g3.below bel7
      have hmk : ∀ w', Below w7.heap.size w7 w' → (Below w7.heap.size w7 w' ∧ w'.cell? ⟨w.heap.size, 13, none⟩ = some (.slice (some ⟨b3, o3, none⟩) s.tabs.length c3) ∧ w'.cell? ⟨w.heap.size, 1, none⟩ = some (.int .i64 s.wd)) := fun w' hb => ⟨hb, (hA.belowb hb).at 13 (scrA_13 ..), (hA.belowb hb).at 1 (scrA_1 ..)⟩
      obtain ⟨ib, hb', hb0, hb1, hb2⟩ := info_parts info_boolO
      clear h
      refine till_region [19] (S := (fun w' => Below w7.heap.size w7 w' ∧ w'.cell? ⟨w.heap.size, 13, none⟩ = some (.slice (some ⟨b3, o3, none⟩) s.tabs.length c3) ∧ w'.cell? ⟨w.heap.size, 1, none⟩ = some (.int .i64 s.wd))) (by kernel_rfl) ?_ (fun hHeld => ?_)
      · (try dsimp only); exact hmk _ (Below.drew (Below.refl _ w7))
      refine till_take (i := 1) (oi := ⟨_, _, _, _, _, _⟩) (v := ?_) rfl (by kernel_rfl) (by kernel_rfl) (by kernel_rfl) (by kernel_rfl) (fun _ _ _ h => h) (Or.inl ⟨by rfl, ?_⟩) hHeld ?_
      rotate_left
      · (intro w hSw; (try dsimp only at hSw); go_simp; try (with_reducible rfl))
      try simp only [Act.put, List.setIfInBounds_toArray, List.set_cons_zero, List.set_cons_succ]
      refine till_take (i := 2) (oi := ⟨_, _, _, _, _, _⟩) (v := ?_) rfl (by kernel_rfl) (by kernel_rfl) (by kernel_rfl) (by kernel_rfl) (fun _ _ _ h => h) (Or.inl ⟨by rfl, ?_⟩) hHeld ?_
      rotate_left
      · (intro w hSw; (try dsimp only at hSw); go_simp; try (with_reducible rfl))
      try simp only [Act.put, List.setIfInBounds_toArray, List.set_cons_zero, List.set_cons_succ]
      refine till_take (i := 3) (oi := ⟨_, _, _, _, _, _⟩) (v := ?_) rfl (by kernel_rfl) (by kernel_rfl) (by kernel_rfl) (by kernel_rfl) (fun _ _ _ h => h) (Or.inl ⟨by rfl, ?_⟩) hHeld ?_
      rotate_left
      · (intro w hSw; (try dsimp only at hSw); go_simp; try (with_reducible rfl))
      try simp only [Act.put, List.setIfInBounds_toArray, List.set_cons_zero, List.set_cons_succ]
      refine till_take (i := 4) (oi := ⟨_, _, _, _, _, _⟩) (v := ?_) rfl (by kernel_rfl) (by kernel_rfl) (by kernel_rfl) (by kernel_rfl) (fun _ _ _ h => h) (Or.inl ⟨by rfl, ?_⟩) hHeld ?_
      rotate_left
      · (intro w hSw; (try dsimp only at hSw); go_simp; try (with_reducible rfl))
      try simp only [Act.put, List.setIfInBounds_toArray, List.set_cons_zero, List.set_cons_succ]
      refine till_take (i := 5) (oi := ⟨_, _, _, _, _, _⟩) (v := ?_) rfl (by kernel_rfl) (by kernel_rfl) (by kernel_rfl) (by kernel_rfl) (fun _ _ _ h => h) (Or.inl ⟨by rfl, ?_⟩) hHeld ?_
      rotate_left
      · (intro w hSw; (try dsimp only at hSw); go_simp; try (with_reducible rfl))
      try simp only [Act.put, List.setIfInBounds_toArray, List.set_cons_zero, List.set_cons_succ]
      refine till_take (i := 6) (oi := ⟨_, _, _, _, _, _⟩) (v := ?_) rfl (by kernel_rfl) (by kernel_rfl) (by kernel_rfl) (by kernel_rfl) (fun _ _ _ h => h) (Or.inl ⟨by rfl, ?_⟩) hHeld ?_
      rotate_left
      · (intro w hSw; (try dsimp only at hSw); go_simp; try (with_reducible rfl))
      try simp only [Act.put, List.setIfInBounds_toArray, List.set_cons_zero, List.set_cons_succ]
      refine till_take (i := 10) (oi := ⟨_, _, _, _, _, _⟩) (v := ?_) rfl (by kernel_rfl) (by kernel_rfl) (by kernel_rfl) (by kernel_rfl) (fun _ _ _ h => h) (Or.inl ⟨by rfl, ?_⟩) hHeld ?_
      rotate_left
      · (intro w hSw; (try dsimp only at hSw); go_simp; try (with_reducible rfl))
      try simp only [Act.put, List.setIfInBounds_toArray, List.set_cons_zero, List.set_cons_succ]
      refine till_take (i := 11) (oi := ⟨_, _, _, _, _, _⟩) (v := ?_) rfl (by kernel_rfl) (by kernel_rfl) (by kernel_rfl) (by kernel_rfl) (fun _ _ _ h => h) (Or.inl ⟨by rfl, ?_⟩) hHeld ?_
      rotate_left
      · (intro w hSw; (try dsimp only at hSw); go_simp; try (with_reducible rfl))
      try simp only [Act.put, List.setIfInBounds_toArray, List.set_cons_zero, List.set_cons_succ]
      refine till_take (i := 12) (oi := ⟨_, _, _, _, _, _⟩) (v := ?_) rfl (by kernel_rfl) (by kernel_rfl) (by kernel_rfl) (by kernel_rfl) (fun _ _ _ h => h) (Or.inl ⟨by rfl, ?_⟩) hHeld ?_
      rotate_left
      · (intro w hSw; (try dsimp only at hSw); go_simp; try (with_reducible rfl))
      try simp only [Act.put, List.setIfInBounds_toArray, List.set_cons_zero, List.set_cons_succ]
      refine till_take (i := 13) (oi := ⟨_, _, _, _, _, _⟩) (v := ?_) rfl (by kernel_rfl) (by kernel_rfl) (by kernel_rfl) (by kernel_rfl) (fun _ _ _ h => h) (Or.inl ⟨by rfl, ?_⟩) hHeld ?_
      rotate_left
      · (intro w hSw; (try dsimp only at hSw); go_simp; try (with_reducible rfl))
      try simp only [Act.put, List.setIfInBounds_toArray, List.set_cons_zero, List.set_cons_succ]
      refine till_take (i := 15) (oi := ⟨_, _, _, _, _, _⟩) (v := ?_) rfl (by kernel_rfl) (by kernel_rfl) (by kernel_rfl) (by kernel_rfl) (fun _ _ _ h => h) (Or.inl ⟨by rfl, ?_⟩) hHeld ?_
      rotate_left
      · (intro w hSw; (try dsimp only at hSw); go_simp; try (with_reducible rfl))
      try simp only [Act.put, List.setIfInBounds_toArray, List.set_cons_zero, List.set_cons_succ]
      refine till_ready (rs := [0, 7]) (by kernel_rfl) (by simp) ?_
      refine (EachTill.cons (o := ⟨_, _, _, _, _, _⟩) rfl (fun K hK => ?_) (EachTill.cons (o := ⟨_, _, _, _, _, _⟩) rfl (fun K hK => ?_) EachTill.nil))
      · skip
        go_simp
        refine hK.out _ _ ?_ ?_
        · (try dsimp only); exact hmk _ (hHeld.1.alloc hHeld.1.size _)
        clear hHeld hK K
        intro hHeld
        try simp only [Act.put, List.setIfInBounds_toArray, List.set_cons_zero, List.set_cons_succ]
        refine till_ready (rs := [7]) (by kernel_rfl) (by simp) ?_
        refine (EachTill.cons (o := ⟨_, _, _, _, _, _⟩) rfl (fun K hK => ?_) EachTill.nil)
        go_simp
        go_at_call 133
        refine (l1Min_calls _ _ _).mono ?_
        rintro e w' ⟨rfl, hw⟩
        rw [hw, HM.out]
        clear hw w'
        refine hK.out _ _ ?_ ?_
        · (try dsimp only); exact hHeld
        clear hHeld hK K
        intro hHeld
        try simp only [Act.put, List.setIfInBounds_toArray, List.set_cons_zero, List.set_cons_succ]
        refine till_take (i := 8) (oi := ⟨_, _, _, _, _, _⟩) (v := ?_) rfl (by kernel_rfl) (by kernel_rfl) (by kernel_rfl) (by kernel_rfl) (fun _ _ _ h => h) (Or.inl ⟨by rfl, ?_⟩) hHeld ?_
        rotate_left
        · (intro w hSw; (try dsimp only at hSw); go_simp; try (with_reducible rfl))
        try simp only [Act.put, List.setIfInBounds_toArray, List.set_cons_zero, List.set_cons_succ]
        refine till_ready (rs := [9]) (by kernel_rfl) (by simp) ?_
        refine (EachTill.cons (o := ⟨_, _, _, _, _, _⟩) rfl (fun K hK => ?_) EachTill.nil)
        have hV := hHeld.1
        have own0 : (w7.drew.alloc (.cells #[] 4)).ownsRow w7.heap.size 4 1 (.slice (some ⟨w7.heap.size, 0, none⟩) 0 0) 0 (boolsV []) := World.ownsRow_lit (base := w7.heap.size) (e := 4) (size := 1) w7.drew #[] 0 (Nat.le_refl _) (by simp) rfl
        refine step_append_bools rfl (.tmp 31) (.tmp 39) 25 rfl w7.heap.size 4 ib (.bool false) 1 Tryz.underlying25 hb' hb0 hb1 hb2 rfl _ 0 [] rfl own0 (some ⟨b3, o3, none⟩) (s.tabs.take k) k c3 rfl HL.out.symm (bread_pre (hT3.below hV) hkl) (by unfold maxLen; omega) (by omega) hV.size ?_
        intro vo w8 own1 gr
        replace hV : Below w7.heap.size w7 w8 := hV.grown gr hV.size (fun q hq => by have := (own0.lt q hq).1; omega)
        clear gr own0
        refine hK.out _ _ ?_ ?_
        · (try dsimp only); exact hmk _ hV
        clear hHeld hK K
        intro hHeld
        try simp only [Act.put, List.setIfInBounds_toArray, List.set_cons_zero, List.set_cons_succ]
        refine till_ready (rs := [14]) (by kernel_rfl) (by simp) ?_
        refine (EachTill.cons (o := ⟨_, _, _, _, _, _⟩) rfl (fun K hK => ?_) EachTill.nil)
        go_simp
        go_at_call 133
        refine (l1Min_calls _ _ _).mono ?_
        rintro e w' ⟨rfl, hw⟩
        rw [hw, HM.out]
        clear hw w'
        refine hK.out _ _ ?_ ?_
        · (try dsimp only); exact hmk _ hV
        clear hHeld hK K
        intro hHeld
        try simp only [Act.put, List.setIfInBounds_toArray, List.set_cons_zero, List.set_cons_succ]
        refine till_ready (rs := [16]) (by kernel_rfl) (by simp) ?_
        refine (EachTill.cons (o := ⟨_, _, _, _, _, _⟩) rfl (fun K hK => ?_) EachTill.nil)
        go_simp
        go_at_call 134
        refine (l5Tabs_calls k W' hkw (by omega) _).mono ?_
        rintro e w9 ⟨ut, rfl, own2, hb9⟩
        replace own1 := own_below own1 hb9
        replace hV := hV.trans (hb9.mono hV.size)
        have z9 : w8.heap.size ≤ w9.heap.size := hb9.size
        clear hb9
        obtain ⟨at2, ct2, rfl⟩ := own_formT own2
        refine hK.out _ _ ?_ ?_
        · (try dsimp only); exact hmk _ hV
        clear hHeld hK K
        intro hHeld
        try simp only [Act.put, List.setIfInBounds_toArray, List.set_cons_zero, List.set_cons_succ]
        refine till_ready (rs := [17]) (by kernel_rfl) (by simp) ?_
        refine (EachTill.cons (o := ⟨_, _, _, _, _, _⟩) rfl (fun K hK => ?_) EachTill.nil)
        have hr2 : BRead w9 (.slice at2 (W' - k) ct2) (tabsL (W' - k) (fun i => stopB (k + i))) := (own_bools own2 (Nat.le_refl _)).read
        refine step_append_bools rfl (.tmp 40) (.tmp 47) 25 rfl w7.heap.size 4 ib (.bool false) 1 Tryz.underlying25 hb' hb0 hb1 hb2 rfl _ (0 + k) ([] ++ s.tabs.take k) rfl own1 at2 _ (W' - k) ct2 rfl (tabsL_length _ _).symm hr2 (by unfold maxLen; omega) (by omega) hV.size ?_
        intro vp w10 own3 gr
        replace hV : Below w7.heap.size w7 w10 := hV.grown gr hV.size (fun q hq => by have := (own1.lt q hq).1; omega)
        rw [List.nil_append, HJ.out] at own3
        rw [show 0 + k + (W' - k) = W' by omega] at own3
        obtain ⟨at', ct, rfl⟩ := own_formT own3
        have hT : BoolsAt w7.heap.size w10.heap.size w10 (.slice at' W' ct) (tabsW s.tabs W') := own_bools own3 (Nat.le_refl _)
        have z10 : w7.heap.size ≤ w10.heap.size := hV.size
        clear gr own1 own2 own3 hr2
        refine hK.out _ _ ?_ ?_
        · (try dsimp only); exact hmk _ hV
        clear hHeld hK K
        intro hHeld
        try simp only [Act.put, List.setIfInBounds_toArray, List.set_cons_zero, List.set_cons_succ]
        refine till_take (i := 18) (oi := ⟨_, _, _, _, _, _⟩) (v := ?_) rfl (by kernel_rfl) (by kernel_rfl) (by kernel_rfl) (by kernel_rfl) (fun _ _ _ h => h) (Or.inl ⟨by rfl, ?_⟩) hHeld ?_
        rotate_left
        · (intro w hSw; (try dsimp only at hSw); go_simp; try (with_reducible rfl))
        try simp only [Act.put, List.setIfInBounds_toArray, List.set_cons_zero, List.set_cons_succ]
        refine till_ready (rs := [19]) (by kernel_rfl) (by simp) ?_
        refine (EachTill.last (o := ⟨_, _, _, _, _, _⟩) rfl rfl (fun K hK => ?_) EachTill.nil)
        have hB9 := hB.belowb hHeld.1
        have hW9 := hHeld
        refine wp_store_any _ _ _ rfl w2.heap.size 13 (scrA { s with r := (R' : Int), wd := (W' : Int), cs := G.cs, bs := G.bs, top := 0, bot := (R' : Int) - 1 } (.slice a1 G.cs.length c1) (.slice a2 G.bs.length c2) (.slice b5 s.tabs.length d5) (.slice b4 s.sets.length d4)) (scrA { s with r := (R' : Int), wd := (W' : Int), cs := G.cs, bs := G.bs, top := 0, bot := (R' : Int) - 1, tabs := tabsW s.tabs W' } (.slice a1 G.cs.length c1) (.slice a2 G.bs.length c2) (.slice at' W' ct) (.slice b4 s.sets.length d4)) (.slice at' W' ct) rfl rfl hB9 rfl (by kernel_rfl) rfl rfl ?_
        intro w11 hB' hu
        refine hK.out _ _ ?_ ?_
        · first | trivial | (dsimp only)
        clear hHeld hK K
        intro hHeld
        try simp only [Act.put, List.setIfInBounds_toArray, List.set_cons_zero, List.set_cons_succ]
        refine till_done (by kernel_rfl) ?_ _
        clear hHeld
        have hg11 := hg.of_blocks (w' := w11) (fun q q1 q2 => (hu.block q (by omega)).trans (hW9.1.block q (by omega)))
        have hS11 := hS.of_blocks (w' := w11) (fun q q1 q2 => (hu.block q (by omega)).trans (hW9.1.block q (by omega)))
        have hT11 := BoolsAt.of_blocks (w' := w11) hT (fun q q1 q2 => hu.block q (by omega))
        have hA11 := (hA.belowb hW9.1).upd hu (by omega)
        have hR11 := (hR.belowb hW9.1).upd hu (by omega)
        have bel11 := (bel7.trans (hW9.1.mono (by omega))).trans (hu.below (by omega))
        have z11 : w7.heap.size ≤ w11.heap.size := by have := hu.size; have := hW9.1.size; omega
        have z12 : w10.heap.size ≤ w11.heap.size := Nat.le_of_eq hu.size.symm
        clear hu hW9 hg hS hT hA hR bel7 hmk hT3
        have cA := hA11.cells
        go_wp2_with fail
        go_at_call 135
        obtain ⟨O, hO0⟩ : ∃ O : Nat → Prop, ∀ k, ¬ O k := ⟨fun _ => False, fun _ h => h⟩
        refine (l5Go_calls { s with r := (R' : Int), wd := (W' : Int), cs := G.cs, bs := G.bs, top := 0, bot := (R' : Int) - 1, tabs := tabsW s.tabs W' } _ _ _ _ w2.heap.size 0 O s.y s.x _ (by show (1 : Int) ≤ (R' : Int); omega) (by show (R' : Int) ≤ 6; omega) (by show (2 : Int) ≤ (W' : Int); omega) (by show (W' : Int) ≤ 12; omega) hB'.seg).mono ?_
        rintro e w12 ⟨⟨_, rfl⟩, hC, tt⟩
        replace hR11 := hR11.of_block (tt.block _ (by omega) (by omega) (hO0 _))
        replace hg11 := hg11.of_blocks (w' := w12) (fun q q1 q2 => tt.block q (by omega) (by omega) (hO0 _))
        replace hS11 := hS11.of_blocks (w' := w12) (fun q q1 q2 => tt.block q (by omega) (by omega) (hO0 _))
        replace hT11 := BoolsAt.of_blocks (w' := w12) hT11 (fun q q1 q2 => tt.block q (by omega) (by omega) (hO0 _))
        have bel12 := bel11.trans (tt.below (fun k _ => hO0 k) (by omega) (by omega))
        have z13 : w11.heap.size ≤ w12.heap.size := tt.size
        clear tt bel11 hA11 cA
        go_wp2_with (first | (refine wpList_load_seg rfl 37  _ rfl w2.heap.size 0 0 (scrA (goTo { s with r := (R' : Int), wd := (W' : Int), cs := G.cs, bs := G.bs, top := 0, bot := (R' : Int) - 1, tabs := tabsW s.tabs W' } s.y s.x) (.slice a1 G.cs.length c1) (.slice a2 G.bs.length c2) (.slice at' W' ct) (.slice b4 s.sets.length d4)) (scrA (goTo { s with r := (R' : Int), wd := (W' : Int), cs := G.cs, bs := G.bs, top := 0, bot := (R' : Int) - 1, tabs := tabsW s.tabs W' } s.y s.x) (.slice a1 G.cs.length c1) (.slice a2 G.bs.length c2) (.slice at' W' ct) (.slice b4 s.sets.length d4)) hC rfl rfl _ Tryz.underlying37 rfl (by kernel_rfl) ?_; (try simp only [Act.put, List.setIfInBounds_toArray, List.set_cons_zero, List.set_cons_succ])) | (refine wpList_build_at rfl 39 _ rfl (resA 0 (goTo { s with r := (R' : Int), wd := (W' : Int), cs := G.cs, bs := G.bs, top := 0, bot := (R' : Int) - 1, tabs := tabsW s.tabs W' } s.y s.x) (.slice a1 G.cs.length c1) (.slice a2 G.bs.length c2) (.slice at' W' ct) (.slice b4 s.sets.length d4)) (by first | rfl | kernel_rfl) ?_; (try simp only [Act.put, List.setIfInBounds_toArray, List.set_cons_zero, List.set_cons_succ])) | (refine wpList_store_blk rfl _ _ _ rfl (w.heap.size + 1) 0 (resA 0 scr0 (.slice none 0 0) (.slice none 0 0) (.slice none 0 0) (.slice none 0 0)) (resA 0 (goTo { s with r := (R' : Int), wd := (W' : Int), cs := G.cs, bs := G.bs, top := 0, bot := (R' : Int) - 1, tabs := tabsW s.tabs W' } s.y s.x) (.slice a1 G.cs.length c1) (.slice a2 G.bs.length c2) (.slice at' W' ct) (.slice b4 s.sets.length d4)) (.agg (resA 0 (goTo { s with r := (R' : Int), wd := (W' : Int), cs := G.cs, bs := G.bs, top := 0, bot := (R' : Int) - 1, tabs := tabsW s.tabs W' } s.y s.x) (.slice a1 G.cs.length c1) (.slice a2 G.bs.length c2) (.slice at' W' ct) (.slice b4 s.sets.length d4))) rfl rfl hR11 rfl (by kernel_rfl) rfl rfl ?_; (try simp only [Act.put, List.setIfInBounds_toArray, List.set_cons_zero, List.set_cons_succ]); intro w13 hR13 hu))
        exact bodyPost_ret (results_blk hR13 _ _ rfl rfl Tryz.underlying39 rfl (by kernel_rfl)) rfl ⟨_, _, _, _, rfl, ⟨w3.heap.size, w4.heap.size, w7.heap.size, w10.heap.size, g4, w2.heap.size, by omega, by have := hu.size; omega, by omega, by have := hu.size; omega, by omega, by have := hu.size; omega, by omega, by omega, by omega, hg11.of_blocks (fun q q1 q2 => hu.block q (by omega)), BoolsAt.of_blocks hT11 (fun q q1 q2 => hu.block q (by omega)), hS11.of_blocks (fun q q1 q2 => hu.block q (by omega))⟩, bel12.trans (hu.below (by omega))⟩
      · skip
        go_simp
        go_at_call 133
        refine (l1Min_calls _ _ _).mono ?_
        rintro e w' ⟨rfl, hw⟩
        rw [hw, HM.out]
        clear hw w'
        refine hK.out _ _ ?_ ?_
        · (try dsimp only); exact hHeld
        clear hHeld hK K
        intro hHeld
        try simp only [Act.put, List.setIfInBounds_toArray, List.set_cons_zero, List.set_cons_succ]
        refine till_take (i := 8) (oi := ⟨_, _, _, _, _, _⟩) (v := ?_) rfl (by kernel_rfl) (by kernel_rfl) (by kernel_rfl) (by kernel_rfl) (fun _ _ _ h => h) (Or.inl ⟨by rfl, ?_⟩) hHeld ?_
        rotate_left
        · (intro w hSw; (try dsimp only at hSw); go_simp; try (with_reducible rfl))
        try simp only [Act.put, List.setIfInBounds_toArray, List.set_cons_zero, List.set_cons_succ]
        refine till_ready (rs := [0]) (by kernel_rfl) (by simp) ?_
        refine (EachTill.cons (o := ⟨_, _, _, _, _, _⟩) rfl (fun K hK => ?_) EachTill.nil)
        go_simp
        refine hK.out _ _ ?_ ?_
        · (try dsimp only); exact hmk _ (hHeld.1.alloc hHeld.1.size _)
        clear hHeld hK K
        intro hHeld
        try simp only [Act.put, List.setIfInBounds_toArray, List.set_cons_zero, List.set_cons_succ]
        refine till_ready (rs := [9]) (by kernel_rfl) (by simp) ?_
        refine (EachTill.cons (o := ⟨_, _, _, _, _, _⟩) rfl (fun K hK => ?_) EachTill.nil)
        have hV := hHeld.1
        have own0 : (w7.drew.alloc (.cells #[] 4)).ownsRow w7.heap.size 4 1 (.slice (some ⟨w7.heap.size, 0, none⟩) 0 0) 0 (boolsV []) := World.ownsRow_lit (base := w7.heap.size) (e := 4) (size := 1) w7.drew #[] 0 (Nat.le_refl _) (by simp) rfl
        refine step_append_bools rfl (.tmp 31) (.tmp 39) 25 rfl w7.heap.size 4 ib (.bool false) 1 Tryz.underlying25 hb' hb0 hb1 hb2 rfl _ 0 [] rfl own0 (some ⟨b3, o3, none⟩) (s.tabs.take k) k c3 rfl HL.out.symm (bread_pre (hT3.below hV) hkl) (by unfold maxLen; omega) (by omega) hV.size ?_
        intro vo w8 own1 gr
        replace hV : Below w7.heap.size w7 w8 := hV.grown gr hV.size (fun q hq => by have := (own0.lt q hq).1; omega)
        clear gr own0
        refine hK.out _ _ ?_ ?_
        · (try dsimp only); exact hmk _ hV
        clear hHeld hK K
        intro hHeld
        try simp only [Act.put, List.setIfInBounds_toArray, List.set_cons_zero, List.set_cons_succ]
        refine till_ready (rs := [14]) (by kernel_rfl) (by simp) ?_
        refine (EachTill.cons (o := ⟨_, _, _, _, _, _⟩) rfl (fun K hK => ?_) EachTill.nil)
        go_simp
        go_at_call 133
        refine (l1Min_calls _ _ _).mono ?_
        rintro e w' ⟨rfl, hw⟩
        rw [hw, HM.out]
        clear hw w'
        refine hK.out _ _ ?_ ?_
        · (try dsimp only); exact hmk _ hV
        clear hHeld hK K
        intro hHeld
        try simp only [Act.put, List.setIfInBounds_toArray, List.set_cons_zero, List.set_cons_succ]
        refine till_ready (rs := [16]) (by kernel_rfl) (by simp) ?_
        refine (EachTill.cons (o := ⟨_, _, _, _, _, _⟩) rfl (fun K hK => ?_) EachTill.nil)
        go_simp
        go_at_call 134
        refine (l5Tabs_calls k W' hkw (by omega) _).mono ?_
        rintro e w9 ⟨ut, rfl, own2, hb9⟩
        replace own1 := own_below own1 hb9
        replace hV := hV.trans (hb9.mono hV.size)
        have z9 : w8.heap.size ≤ w9.heap.size := hb9.size
        clear hb9
        obtain ⟨at2, ct2, rfl⟩ := own_formT own2
        refine hK.out _ _ ?_ ?_
        · (try dsimp only); exact hmk _ hV
        clear hHeld hK K
        intro hHeld
        try simp only [Act.put, List.setIfInBounds_toArray, List.set_cons_zero, List.set_cons_succ]
        refine till_ready (rs := [17]) (by kernel_rfl) (by simp) ?_
        refine (EachTill.cons (o := ⟨_, _, _, _, _, _⟩) rfl (fun K hK => ?_) EachTill.nil)
        have hr2 : BRead w9 (.slice at2 (W' - k) ct2) (tabsL (W' - k) (fun i => stopB (k + i))) := (own_bools own2 (Nat.le_refl _)).read
        refine step_append_bools rfl (.tmp 40) (.tmp 47) 25 rfl w7.heap.size 4 ib (.bool false) 1 Tryz.underlying25 hb' hb0 hb1 hb2 rfl _ (0 + k) ([] ++ s.tabs.take k) rfl own1 at2 _ (W' - k) ct2 rfl (tabsL_length _ _).symm hr2 (by unfold maxLen; omega) (by omega) hV.size ?_
        intro vp w10 own3 gr
        replace hV : Below w7.heap.size w7 w10 := hV.grown gr hV.size (fun q hq => by have := (own1.lt q hq).1; omega)
        rw [List.nil_append, HJ.out] at own3
        rw [show 0 + k + (W' - k) = W' by omega] at own3
        obtain ⟨at', ct, rfl⟩ := own_formT own3
        have hT : BoolsAt w7.heap.size w10.heap.size w10 (.slice at' W' ct) (tabsW s.tabs W') := own_bools own3 (Nat.le_refl _)
        have z10 : w7.heap.size ≤ w10.heap.size := hV.size
        clear gr own1 own2 own3 hr2
        refine hK.out _ _ ?_ ?_
        · (try dsimp only); exact hmk _ hV
        clear hHeld hK K
        intro hHeld
        try simp only [Act.put, List.setIfInBounds_toArray, List.set_cons_zero, List.set_cons_succ]
        refine till_take (i := 18) (oi := ⟨_, _, _, _, _, _⟩) (v := ?_) rfl (by kernel_rfl) (by kernel_rfl) (by kernel_rfl) (by kernel_rfl) (fun _ _ _ h => h) (Or.inl ⟨by rfl, ?_⟩) hHeld ?_
        rotate_left
        · (intro w hSw; (try dsimp only at hSw); go_simp; try (with_reducible rfl))
        try simp only [Act.put, List.setIfInBounds_toArray, List.set_cons_zero, List.set_cons_succ]
        refine till_ready (rs := [19]) (by kernel_rfl) (by simp) ?_
        refine (EachTill.last (o := ⟨_, _, _, _, _, _⟩) rfl rfl (fun K hK => ?_) EachTill.nil)
        have hB9 := hB.belowb hHeld.1
        have hW9 := hHeld
        refine wp_store_any _ _ _ rfl w2.heap.size 13 (scrA { s with r := (R' : Int), wd := (W' : Int), cs := G.cs, bs := G.bs, top := 0, bot := (R' : Int) - 1 } (.slice a1 G.cs.length c1) (.slice a2 G.bs.length c2) (.slice b5 s.tabs.length d5) (.slice b4 s.sets.length d4)) (scrA { s with r := (R' : Int), wd := (W' : Int), cs := G.cs, bs := G.bs, top := 0, bot := (R' : Int) - 1, tabs := tabsW s.tabs W' } (.slice a1 G.cs.length c1) (.slice a2 G.bs.length c2) (.slice at' W' ct) (.slice b4 s.sets.length d4)) (.slice at' W' ct) rfl rfl hB9 rfl (by kernel_rfl) rfl rfl ?_
        intro w11 hB' hu
        refine hK.out _ _ ?_ ?_
        · first | trivial | (dsimp only)
        clear hHeld hK K
        intro hHeld
        try simp only [Act.put, List.setIfInBounds_toArray, List.set_cons_zero, List.set_cons_succ]
        refine till_done (by kernel_rfl) ?_ _
        clear hHeld
        have hg11 := hg.of_blocks (w' := w11) (fun q q1 q2 => (hu.block q (by omega)).trans (hW9.1.block q (by omega)))
        have hS11 := hS.of_blocks (w' := w11) (fun q q1 q2 => (hu.block q (by omega)).trans (hW9.1.block q (by omega)))
        have hT11 := BoolsAt.of_blocks (w' := w11) hT (fun q q1 q2 => hu.block q (by omega))
        have hA11 := (hA.belowb hW9.1).upd hu (by omega)
        have hR11 := (hR.belowb hW9.1).upd hu (by omega)
        have bel11 := (bel7.trans (hW9.1.mono (by omega))).trans (hu.below (by omega))
        have z11 : w7.heap.size ≤ w11.heap.size := by have := hu.size; have := hW9.1.size; omega
        have z12 : w10.heap.size ≤ w11.heap.size := Nat.le_of_eq hu.size.symm
        clear hu hW9 hg hS hT hA hR bel7 hmk hT3
        have cA := hA11.cells
        go_wp2_with fail
        go_at_call 135
        obtain ⟨O, hO0⟩ : ∃ O : Nat → Prop, ∀ k, ¬ O k := ⟨fun _ => False, fun _ h => h⟩
        refine (l5Go_calls { s with r := (R' : Int), wd := (W' : Int), cs := G.cs, bs := G.bs, top := 0, bot := (R' : Int) - 1, tabs := tabsW s.tabs W' } _ _ _ _ w2.heap.size 0 O s.y s.x _ (by show (1 : Int) ≤ (R' : Int); omega) (by show (R' : Int) ≤ 6; omega) (by show (2 : Int) ≤ (W' : Int); omega) (by show (W' : Int) ≤ 12; omega) hB'.seg).mono ?_
        rintro e w12 ⟨⟨_, rfl⟩, hC, tt⟩
        replace hR11 := hR11.of_block (tt.block _ (by omega) (by omega) (hO0 _))
        replace hg11 := hg11.of_blocks (w' := w12) (fun q q1 q2 => tt.block q (by omega) (by omega) (hO0 _))
        replace hS11 := hS11.of_blocks (w' := w12) (fun q q1 q2 => tt.block q (by omega) (by omega) (hO0 _))
        replace hT11 := BoolsAt.of_blocks (w' := w12) hT11 (fun q q1 q2 => tt.block q (by omega) (by omega) (hO0 _))
        have bel12 := bel11.trans (tt.below (fun k _ => hO0 k) (by omega) (by omega))
        have z13 : w11.heap.size ≤ w12.heap.size := tt.size
        clear tt bel11 hA11 cA
        go_wp2_with (first | (refine wpList_load_seg rfl 37  _ rfl w2.heap.size 0 0 (scrA (goTo { s with r := (R' : Int), wd := (W' : Int), cs := G.cs, bs := G.bs, top := 0, bot := (R' : Int) - 1, tabs := tabsW s.tabs W' } s.y s.x) (.slice a1 G.cs.length c1) (.slice a2 G.bs.length c2) (.slice at' W' ct) (.slice b4 s.sets.length d4)) (scrA (goTo { s with r := (R' : Int), wd := (W' : Int), cs := G.cs, bs := G.bs, top := 0, bot := (R' : Int) - 1, tabs := tabsW s.tabs W' } s.y s.x) (.slice a1 G.cs.length c1) (.slice a2 G.bs.length c2) (.slice at' W' ct) (.slice b4 s.sets.length d4)) hC rfl rfl _ Tryz.underlying37 rfl (by kernel_rfl) ?_; (try simp only [Act.put, List.setIfInBounds_toArray, List.set_cons_zero, List.set_cons_succ])) | (refine wpList_build_at rfl 39 _ rfl (resA 0 (goTo { s with r := (R' : Int), wd := (W' : Int), cs := G.cs, bs := G.bs, top := 0, bot := (R' : Int) - 1, tabs := tabsW s.tabs W' } s.y s.x) (.slice a1 G.cs.length c1) (.slice a2 G.bs.length c2) (.slice at' W' ct) (.slice b4 s.sets.length d4)) (by first | rfl | kernel_rfl) ?_; (try simp only [Act.put, List.setIfInBounds_toArray, List.set_cons_zero, List.set_cons_succ])) | (refine wpList_store_blk rfl _ _ _ rfl (w.heap.size + 1) 0 (resA 0 scr0 (.slice none 0 0) (.slice none 0 0) (.slice none 0 0) (.slice none 0 0)) (resA 0 (goTo { s with r := (R' : Int), wd := (W' : Int), cs := G.cs, bs := G.bs, top := 0, bot := (R' : Int) - 1, tabs := tabsW s.tabs W' } s.y s.x) (.slice a1 G.cs.length c1) (.slice a2 G.bs.length c2) (.slice at' W' ct) (.slice b4 s.sets.length d4)) (.agg (resA 0 (goTo { s with r := (R' : Int), wd := (W' : Int), cs := G.cs, bs := G.bs, top := 0, bot := (R' : Int) - 1, tabs := tabsW s.tabs W' } s.y s.x) (.slice a1 G.cs.length c1) (.slice a2 G.bs.length c2) (.slice at' W' ct) (.slice b4 s.sets.length d4))) rfl rfl hR11 rfl (by kernel_rfl) rfl rfl ?_; (try simp only [Act.put, List.setIfInBounds_toArray, List.set_cons_zero, List.set_cons_succ]); intro w13 hR13 hu))
        exact bodyPost_ret (results_blk hR13 _ _ rfl rfl Tryz.underlying39 rfl (by kernel_rfl)) rfl ⟨_, _, _, _, rfl, ⟨w3.heap.size, w4.heap.size, w7.heap.size, w10.heap.size, g4, w2.heap.size, by omega, by have := hu.size; omega, by omega, by have := hu.size; omega, by omega, by have := hu.size; omega, by omega, by omega, by omega, hg11.of_blocks (fun q q1 q2 => hu.block q (by omega)), BoolsAt.of_blocks hT11 (fun q q1 q2 => hu.block q (by omega)), hS11.of_blocks (fun q q1 q2 => hu.block q (by omega))⟩, bel12.trans (hu.below (by omega))⟩
  · rw [if_neg hc]
    obtain ⟨code, hcd⟩ : ∃ c, scrCode s = c := ⟨_, rfl⟩
    rw [hcd]
    have hne : (code != 0) = true := by rw [← hcd]; simpa using hc
    have HC := hide hcd
    clear hc hcd
    go_enter Tryz.func78, Tryz.ntmps78
    go_wp2_with fail
    go_at_call 43
    refine (l5Fault_o s _ _ _ _ w.heap.size 0 _ hn1 hn2 hn3 hn4 hA.seg (h.below bel0)).mono ?_
    rintro e w1 ⟨rfl, hb⟩
    replace hA := hA.belowb hb
    replace hR := hR.belowb hb
    have bel1 := bel0.trans (hb.mono bel0.size)
    have z1 : w.heap.size + 2 ≤ w1.heap.size := by have := hb.size; simp at this; omega
    clear hb bel0
    rw [HC.out]
    go_wp2_with fail
    go_at_call 44
    refine (l5Bad_calls code _).mono ?_
    rintro e w2 ⟨rfl, hb⟩
    replace hR := hR.belowb hb
    have z2 : w1.heap.size ≤ w2.heap.size := hb.size
    have bel2 := bel1.trans (hb.mono bel1.size)
    clear hb bel1
    go_wp2_with (first | (refine wpList_store_blk rfl _ _ _ rfl (w.heap.size + 1) 0 (resA 0 scr0 (.slice none 0 0) (.slice none 0 0) (.slice none 0 0) (.slice none 0 0)) (resA code scr0 (.slice none 0 0) (.slice none 0 0) (.slice none 0 0) (.slice none 0 0)) (.agg (resA code scr0 (.slice none 0 0) (.slice none 0 0) (.slice none 0 0) (.slice none 0 0))) rfl rfl hR rfl (by kernel_rfl) rfl rfl ?_; (try simp only [Act.put, List.setIfInBounds_toArray, List.set_cons_zero, List.set_cons_succ]); clear hR; intro w9 hR hu))
    exact bodyPost_ret (results_blk hR _ _ rfl rfl Tryz.underlying39 rfl (by kernel_rfl)) rfl ⟨_, _, _, _, rfl, sown_zero _ _ (by have := hu.size; omega) _, bel2.trans (hu.below (by omega))⟩
end Go.Proofs.YtdekegjplegkeaaGreat
