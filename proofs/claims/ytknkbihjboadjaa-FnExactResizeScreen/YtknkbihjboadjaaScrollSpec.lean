/-
  What ScrollGrid answers, of the model: one row at a time (spec.l3Scroll), so many times (spec.l3Many).
-/
import Derived.Test.YtknkbihjboadjaaKeepFns
namespace Go.Proofs.Ytknkbihjboadjaa
set_option maxRecDepth 20000
open Go.ChangeShapes Go.WideShapes Go.ChangeAt Go.RowKit
set_option linter.unusedVariables false
set_option linter.unusedSimpArgs false
set_option maxRecDepth 20000

theorem l1Min_calls (a b : Int) (w : World) : Calls Try.prog 31 #[.int .i64 a, .int .i64 b] w fun e w' => e = .returned (.int .i64 (min a b)) ∧ w' = w := by
  by_cases h : a < b
  · go_enter Try.func31, Try.ntmps31
    go_wp2
    go_ret
    exact ⟨by rw [show min a b = a by omega]; rfl, rfl⟩
  · go_enter Try.func31, Try.ntmps31
    go_wp2
    go_ret
    exact ⟨by rw [show min a b = b by omega]; rfl, rfl⟩
def upF (T W y : Nat) (f : Nat → Int × Int) (i : Nat) : Int × Int := if T * W ≤ i ∧ i < y * W then f (i + W) else f i
def dnF (B W y : Nat) (f : Nat → Int × Int) (i : Nat) : Int × Int := if (y + 1) * W ≤ i ∧ i < (B + 1) * W then f (i - W) else f i
theorem upF_first (T W : Nat) (f : Nat → Int × Int) (i : Nat) : f i = upF T W T f i := by
  unfold upF
  rw [if_neg (by omega)]
theorem upF_step {T W y : Nat} {f : Nat → Int × Int} (h : T ≤ y) (i : Nat) : (if y * W ≤ i ∧ i < y * W + W then upF T W y f ((y + 1) * W + (i - y * W)) else upF T W y f i) = upF T W (y + 1) f i := by
  have h1 : (y + 1) * W = y * W + W := by rw [Nat.add_mul, Nat.one_mul]
  have h2 : T * W ≤ y * W := Nat.mul_le_mul_right W h
  unfold upF
  rw [h1]
  by_cases e : y * W ≤ i ∧ i < y * W + W
  · rw [if_pos e, if_neg (by omega), if_pos (by omega), show y * W + W + (i - y * W) = i + W by omega]
  · rw [if_neg e]
    by_cases e2 : T * W ≤ i ∧ i < y * W
    · rw [if_pos e2, if_pos (by omega)]
    · rw [if_neg e2, if_neg (by omega)]
theorem upF_last {T B W : Nat} {f : Nat → Int × Int} {bl : Int × Int} (h : T ≤ B) (i : Nat) : (if B * W ≤ i ∧ i < B * W + W then bl else upF T W B f i) = scrollF (T * W) ((B + 1 - T) * W) (W : Int) f bl i := by
  have h2 : T * W ≤ B * W := Nat.mul_le_mul_right W h
  unfold upF scrollF slideF
  rw [Nat.sub_mul, Nat.add_mul, Nat.one_mul]
  by_cases e : B * W ≤ i ∧ i < B * W + W
  · rw [if_pos e, if_pos (by omega), if_neg (by omega)]
  · rw [if_neg e]
    by_cases e2 : T * W ≤ i ∧ i < B * W
    · rw [if_pos e2, if_pos (by omega), if_pos (by omega)]
      dsimp only
      rw [show T * W + (((i - T * W : Nat) : Int) + (W : Int)).toNat = i + W by omega]
    · rw [if_neg e2, if_neg (by omega)]
theorem dnF_first (B W : Nat) (f : Nat → Int × Int) (i : Nat) : f i = dnF B W B f i := by
  unfold dnF
  rw [if_neg (by omega)]
theorem dnF_step {B W y : Nat} {f : Nat → Int × Int} (h : 0 < y) (hB : y ≤ B) (i : Nat) : (if y * W ≤ i ∧ i < y * W + W then dnF B W y f ((y - 1) * W + (i - y * W)) else dnF B W y f i) = dnF B W (y - 1) f i := by
  have h1 : y * W = (y - 1) * W + W := by
    obtain ⟨z, rfl⟩ : ∃ z, y = z + 1 := ⟨y - 1, by omega⟩
    rw [Nat.add_sub_cancel, Nat.add_mul, Nat.one_mul]
  have h2 : (y + 1) * W ≤ (B + 1) * W := Nat.mul_le_mul_right W (by omega)
  have h3 : (y + 1) * W = y * W + W := by rw [Nat.add_mul, Nat.one_mul]
  unfold dnF
  rw [show y - 1 + 1 = y by omega]
  by_cases e : y * W ≤ i ∧ i < y * W + W
  · rw [if_pos e, if_neg (by omega), if_pos (by omega), show (y - 1) * W + (i - y * W) = i - W by omega]
  · rw [if_neg e]
    by_cases e2 : (y + 1) * W ≤ i ∧ i < (B + 1) * W
    · rw [if_pos e2, if_pos (by omega)]
    · rw [if_neg e2, if_neg (by omega)]
theorem dnF_last {T B W : Nat} {f : Nat → Int × Int} {bl : Int × Int} (h : T ≤ B) (i : Nat) : (if T * W ≤ i ∧ i < T * W + W then bl else dnF B W T f i) = scrollF (T * W) ((B + 1 - T) * W) (-(W : Int)) f bl i := by
  have h2 : T * W ≤ B * W := Nat.mul_le_mul_right W h
  unfold dnF scrollF slideF
  rw [Nat.sub_mul, Nat.add_mul, Nat.one_mul, Nat.add_mul, Nat.one_mul]
  by_cases e : T * W ≤ i ∧ i < T * W + W
  · rw [if_pos e, if_pos (by omega), if_neg (by omega)]
  · rw [if_neg e]
    by_cases e2 : T * W + W ≤ i ∧ i < B * W + W
    · rw [if_pos e2, if_pos (by omega), if_pos (by omega)]
      dsimp only
      rw [show T * W + (((i - T * W : Nat) : Int) + -(W : Int)).toNat = i - W by omega]
    · rw [if_neg e2, if_neg (by omega)]
theorem rep_get (n : Nat) (x : Int × Int) (i : Nat) (h : i < n) : (List.replicate n x).getD i (0, 0) = x := by simp [List.getD_eq_getElem?_getD, h]

theorem scrollB_zero {W T : Nat} {f : Nat → Int × Int} {bs : List (Int × Int)} (h : bs.length ≤ 5 * W) : scrollB W T 0 f bs = bs := by
  unfold scrollB
  split
  · rw [lastL_short (by rw [List.length_append, mkL_length]; omega)]
    simp [mkL]
  · rfl
theorem scrollB_length {W T Hb k : Nat} {f : Nat → Int × Int} {bs : List (Int × Int)} (hb : bs.length = Hb * W) (h5 : Hb ≤ 5) : ∃ H, H ≤ 5 ∧ (scrollB W T k f bs).length = H * W := by
  unfold scrollB
  split
  · rw [lastL_length, List.length_append, mkL_length, hb, ← Nat.add_mul]
    rcases Nat.lt_or_ge (Hb + k) 5 with h | h
    · exact ⟨Hb + k, by omega, by have := Nat.mul_le_mul_right W (show Hb + k ≤ 5 by omega); omega⟩
    · exact ⟨5, by omega, by have := Nat.mul_le_mul_right W (show 5 ≤ Hb + k by omega); omega⟩
  · exact ⟨Hb, h5, hb⟩
theorem scroll_first {W L k : Nat} {f : Nat → Int × Int} {bl : Int × Int} (h : k * W + W ≤ L) (i : Nat) (hi : i < W) : scrollF (0 * W) L ((k * W : Nat) : Int) f bl i = f (k * W + i) := by
  unfold scrollF slideF
  rw [Nat.zero_mul, if_pos (by omega), if_pos (by omega)]
  dsimp only
  rw [show 0 + (((i - 0 : Nat) : Int) + ((k * W : Nat) : Int)).toNat = k * W + i by omega]

end Go.Proofs.Ytknkbihjboadjaa
