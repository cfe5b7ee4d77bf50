/-
  What a grid without a fault is behind a scroll: each cell; what was kept at the top; no fault.
-/
import Derived.Test.YtbndncfkkhjkoaaScrollSpec
import Derived.Test.YtbndncfkkhjkoaaLawKit3
namespace Go.Proofs.Ytbndncfkkhjkoaa
set_option maxRecDepth 20000
open Go.ChangeShapes Go.WideShapes Go.ChangeAt Go.RowKit
set_option linter.unusedVariables false
set_option linter.unusedSimpArgs false

theorem scroll_cell {R W T B : Nat} {n : Int} {f : Nat → Int × Int} {bl : Int × Int} (hTB : T ≤ B) (hBR : B < R) (j i : Nat) (hj : j < R) (hi : i < W) : scrollF (T * W) ((B + 1 - T) * W) (n * (W : Int)) f bl (j * W + i) =
    if T ≤ j ∧ j ≤ B then (if (T : Int) ≤ (j : Int) + n ∧ (j : Int) + n ≤ (B : Int) then f (((j : Int) + n).toNat * W + i) else bl) else f (j * W + i) := by
  have hL : (B + 1 - T) * W = B * W + W - T * W := by rw [Nat.sub_mul, Nat.add_mul, Nat.one_mul]
  have hTW : T * W ≤ B * W := Nat.mul_le_mul_right W hTB
  unfold scrollF slideF
  rw [hL]
  by_cases e : T ≤ j ∧ j ≤ B
  · have h1 : T * W ≤ j * W := Nat.mul_le_mul_right W e.1
    have h2 : j * W ≤ B * W := Nat.mul_le_mul_right W e.2
    rw [if_pos e, if_pos (by omega)]
    have hJ : ((j : Int) + n) * (W : Int) = ((j * W : Nat) : Int) + n * (W : Int) := by rw [Int.add_mul, Int.natCast_mul]
    by_cases e2 : (T : Int) ≤ (j : Int) + n ∧ (j : Int) + n ≤ (B : Int)
    · obtain ⟨J, hJn⟩ : ∃ J : Nat, (j : Int) + n = (J : Int) := ⟨((j : Int) + n).toNat, by omega⟩
      have h3 : T * W ≤ J * W := Nat.mul_le_mul_right W (by omega)
      have h4 : J * W ≤ B * W := Nat.mul_le_mul_right W (by omega)
      rw [hJn, ← Int.natCast_mul] at hJ
      rw [if_pos e2, if_pos (by omega), hJn, Int.toNat_natCast]
      dsimp only
      rw [show T * W + (((j * W + i - T * W : Nat) : Int) + n * (W : Int)).toNat = J * W + i by omega]
    · rw [if_neg e2]
      have hor : (j : Int) + n + 1 ≤ (T : Int) ∨ (B : Int) + 1 ≤ (j : Int) + n := by omega
      rcases hor with g | g
      · have h3 := Int.mul_le_mul_of_nonneg_right g (show (0 : Int) ≤ (W : Int) by omega)
        rw [Int.add_mul, Int.one_mul, hJ, ← Int.natCast_mul] at h3
        rw [if_neg (by omega)]
      · have h3 := Int.mul_le_mul_of_nonneg_right g (show (0 : Int) ≤ (W : Int) by omega)
        rw [Int.add_mul, Int.one_mul, hJ, ← Int.natCast_mul] at h3
        rw [if_neg (by omega)]
  · rw [if_neg e]
    have hout : ¬ (T * W ≤ j * W + i ∧ j * W + i < T * W + (B * W + W - T * W)) := by
      rcases Nat.lt_or_ge j T with g | g
      · have h := Nat.mul_le_mul_right W (show j + 1 ≤ T by omega)
        rw [Nat.add_mul, Nat.one_mul] at h
        omega
      · have h := Nat.mul_le_mul_right W (show B + 1 ≤ j by omega)
        rw [Nat.add_mul, Nat.one_mul] at h
        omega
    rw [if_neg hout]
theorem allC_app {xs ys : List (Int × Int)} (h1 : allC xs 0 = true) (h2 : allC ys 0 = true) : allC (xs ++ ys) 0 = true := by
  unfold allC at *
  rw [List.drop_zero] at *
  rw [List.all_append, h1, h2]
  rfl
theorem allC_drop {xs : List (Int × Int)} (h : allC xs 0 = true) (k : Nat) : allC (xs.drop k) 0 = true := by
  unfold allC at *
  rw [List.drop_zero] at *
  rw [List.all_eq_true] at *
  exact fun p hp => h p (List.mem_of_mem_drop hp)
theorem last_row {W k Hb : Nat} {f : Nat → Int × Int} {bs : List (Int × Int)} (hW : 0 < W) (hk : 0 < k) (hb : bs.length = Hb * W) : W ≤ (lastL (5 * W) (bs ++ mkL (k * W) f)).length ∧ ∀ i, i < W → (lastL (5 * W) (bs ++ mkL (k * W) f)).getD ((lastL (5 * W) (bs ++ mkL (k * W) f)).length - W + i) (0, 0) = f ((k - 1) * W + i) := by
  have hkW : k * W = (k - 1) * W + W := by
    obtain ⟨z, rfl⟩ : ∃ z, k = z + 1 := ⟨k - 1, by omega⟩
    rw [Nat.add_sub_cancel, Nat.add_mul, Nat.one_mul]
  have hl := lastL_length (5 * W) (bs ++ mkL (k * W) f)
  rw [List.length_append, mkL_length] at hl
  refine ⟨by omega, fun i hi => ?_⟩
  rw [hl]
  unfold lastL
  rw [List.getD_eq_getElem?_getD, List.getElem?_drop, List.length_append, mkL_length, List.getElem?_append_right (by omega), ← List.getD_eq_getElem?_getD, show bs.length + k * W - 5 * W + (min (bs.length + k * W) (5 * W) - W + i) - bs.length = (k - 1) * W + i by omega, mkL_get _ _ _ (by omega)]
theorem scroll_facts {r wd : Int} {cs bs : List (Int × Int)} {top bot n at' : Int} (h : (scrollRes r wd cs bs top bot n at').code = 0) : ∃ R W T B : Nat, r = (R : Int) ∧ wd = (W : Int) ∧ top = (T : Int) ∧ bot = (B : Int) ∧ R ≤ 6 ∧ 2 ≤ W ∧ W ≤ 12 ∧ T ≤ B ∧ B < R ∧ (-9 ≤ n ∧ n ≤ 9) ∧ cs.length = R * W ∧
    (scrollRes r wd cs bs top bot n at').rows = r ∧ (scrollRes r wd cs bs top bot n at').wd = wd ∧ (scrollRes r wd cs bs top bot n at').cs.length = cs.length ∧ gridCode r wd (scrollRes r wd cs bs top bot n at').cs (scrollRes r wd cs bs top bot n at').bs = 0 ∧
    (∀ j i, j < R → i < W → (scrollRes r wd cs bs top bot n at').cs.getD (j * W + i) (0, 0) = if T ≤ j ∧ j ≤ B then (if (T : Int) ≤ (j : Int) + n ∧ (j : Int) + n ≤ (B : Int) then cs.getD (((j : Int) + n).toNat * W + i) (0, 0) else (32, at')) else cs.getD (j * W + i) (0, 0)) ∧
    (¬ (T = 0 ∧ 0 < n) → (scrollRes r wd cs bs top bot n at').bs.length = bs.length) ∧
    (T = 0 ∧ 0 < n → W ≤ (scrollRes r wd cs bs top bot n at').bs.length ∧ ∀ i, i < W → (scrollRes r wd cs bs top bot n at').bs.getD ((scrollRes r wd cs bs top bot n at').bs.length - W + i) (0, 0) = cs.getD (min (n.toNat - 1) B * W + i) (0, 0)) := by
  rw [scrollRes_def] at h ⊢
  obtain ⟨hf, hok, he⟩ := gres_zero h
  rw [he]
  unfold scrollOk at hok
  simp only [Bool.and_eq_true, decide_eq_true_eq] at hok
  obtain ⟨⟨t0, t1⟩, ⟨b0, b1⟩, hn, hat⟩ := hok
  obtain ⟨T, B, W, rfl, rfl, rfl, q1, q2, q3, q4, q5, q6, Hb, q7, q8⟩ := scroll_nats hf ⟨t0, t1⟩ ⟨b0, b1⟩
  obtain ⟨R, W', rfl, eW, n1, n2, n3, n4, n5, n6, n7, n8, n9, n10⟩ := hf.nats
  obtain rfl : W = W' := by omega
  dsimp only
  rw [Int.toNat_natCast, Int.toNat_natCast, show ((B : Int) + 1 - (T : Int)).toNat = B + 1 - T by omega]
  refine ⟨R, W, T, B, rfl, rfl, rfl, rfl, n2, n3, n4, q1, by omega, hn, n5, rfl, rfl, mkL_length _ _, ?_, ?_, ?_, ?_⟩
  · obtain ⟨H, h5, hH⟩ := scrollB_length (T := T) (k := (max 0 (min n ((B : Int) + 1))).toNat) (f := fun i => cs.getD i (0, 0)) q8 q7
    have hHW := Nat.mul_le_mul_right W h5
    refine code_of_gfine ⟨hf.size, by rw [mkL_length]; exact hf.cells, by rw [hH]; omega, by rw [hH, Int.natCast_mul]; exact Int.mul_emod_left _ _, allC_mk (fun i hi => ?_), ?_⟩
    · unfold scrollF slideF
      split
      · rename_i g
        split
        · rename_i g2
          refine allC_get hf.ok1 _ ?_
          rw [Nat.sub_mul] at g g2
          omega
        · exact cellB_blank hat
      · exact allC_get hf.ok1 _ hi
    · unfold scrollB
      split
      · unfold lastL
        refine allC_drop (allC_app hf.ok2 (allC_mk (fun i hi => allC_get hf.ok1 _ ?_))) _
        have := Nat.mul_le_mul_right W (show (max 0 (min n ((B : Int) + 1))).toNat ≤ B + 1 by omega)
        omega
      · exact hf.ok2
  · intro j i hj hi
    have hjW : j * W + W ≤ R * W := by have h := Nat.mul_le_mul_right W (show j + 1 ≤ R by omega); rw [Nat.add_mul, Nat.one_mul] at h; exact h
    rw [mkL_get _ _ _ (by omega)]
    exact scroll_cell q1 (by omega) j i hj hi
  · intro hno
    by_cases hT : T = 0
    · rw [show (max 0 (min n ((B : Int) + 1))).toNat = 0 by omega, scrollB_zero (by rw [q8]; exact Nat.mul_le_mul_right W q7)]
    · rw [scrollB_low hT]
  · rintro ⟨rfl, hn0⟩
    unfold scrollB
    rw [if_pos rfl]
    have hk : (max 0 (min n ((B : Int) + 1))).toNat - 1 = min (n.toNat - 1) B := by omega
    have h := last_row (W := W) (k := (max 0 (min n ((B : Int) + 1))).toNat) (f := fun i => cs.getD i (0, 0)) (by omega) (by omega) q8
    rw [hk] at h
    exact h

end Go.Proofs.Ytbndncfkkhjkoaa
