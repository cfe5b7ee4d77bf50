/-
  What a shift and a resize of a grid without a fault are: each cell; no fault; the same size is the same grid.
-/
import Derived.Test.YtbndncfkkhjkoabShiftFns
import Derived.Test.YtbndncfkkhjkoabResizeTop
import Derived.Test.YtbndncfkkhjkoabLawKit3
namespace Go.Proofs.Ytbndncfkkhjkoab
set_option maxRecDepth 20000
open Go.ChangeShapes Go.WideShapes Go.ChangeAt Go.RowKit
set_option linter.unusedVariables false
set_option linter.unusedSimpArgs false

theorem shift_facts {r wd : Int} {cs bs : List (Int × Int)} {y x n at' : Int} (h : (shiftRes r wd cs bs y x n at').code = 0) : ∃ R W Y X : Nat, r = (R : Int) ∧ wd = (W : Int) ∧ y = (Y : Int) ∧ x = (X : Int) ∧ R ≤ 6 ∧ 2 ≤ W ∧ W ≤ 12 ∧ Y < R ∧ X < W ∧ (-12 ≤ n ∧ n ≤ 12) ∧ cs.length = R * W ∧
    (shiftRes r wd cs bs y x n at').rows = r ∧ (shiftRes r wd cs bs y x n at').wd = wd ∧ (shiftRes r wd cs bs y x n at').cs.length = cs.length ∧ gridCode r wd (shiftRes r wd cs bs y x n at').cs (shiftRes r wd cs bs y x n at').bs = 0 ∧
    (∀ j i, j < R → i < W → (shiftRes r wd cs bs y x n at').cs.getD (j * W + i) (0, 0) = if j = Y ∧ X ≤ i then (if (X : Int) ≤ (i : Int) - n ∧ (i : Int) - n < W then cs.getD (j * W + ((i : Int) - n).toNat) (0, 0) else (32, at')) else cs.getD (j * W + i) (0, 0)) := by
  rw [shiftRes_def] at h ⊢
  obtain ⟨hf, hok, he⟩ := gres_zero h
  rw [he]
  obtain ⟨R, W, rfl, rfl, n1, n2, n3, n4, n5, n6, n7, n8, n9, n10⟩ := hf.nats
  unfold shiftOk placeB at hok
  simp only [Bool.and_eq_true, decide_eq_true_eq] at hok
  obtain ⟨⟨⟨y0, y1⟩, x0, x1⟩, hn, hat⟩ := hok
  obtain ⟨Y, rfl⟩ : ∃ Y : Nat, y = Y := ⟨y.toNat, by omega⟩
  obtain ⟨X, rfl⟩ : ∃ X : Nat, x = X := ⟨x.toNat, by omega⟩
  have hK : ((Y : Int) * (W : Int)).toNat = Y * W := by rw [← Int.natCast_mul, Int.toNat_natCast]
  have hYW : Y * W + W ≤ R * W := by have h := Nat.mul_le_mul_right W (show Y + 1 ≤ R by omega); rw [Nat.add_mul, Nat.one_mul] at h; exact h
  dsimp only
  rw [hK, Int.toNat_natCast, Int.toNat_natCast]
  refine ⟨R, W, Y, X, rfl, rfl, rfl, rfl, n2, n3, n4, by omega, by omega, hn, n5, rfl, rfl, mkL_length _ _, ?_, ?_⟩
  · refine code_of_gfine ⟨hf.size, by rw [mkL_length]; exact hf.cells, hf.back, hf.rest, allC_mk (fun i hi => ?_), hf.ok2⟩
    unfold shiftF
    split
    · split
      · exact allC_get hf.ok1 _ (by omega)
      · exact cellB_blank hat
    · exact allC_get hf.ok1 _ hi
  · intro j i hj hi
    have hjW : j * W + W ≤ R * W := by have h := Nat.mul_le_mul_right W (show j + 1 ≤ R by omega); rw [Nat.add_mul, Nat.one_mul] at h; exact h
    rw [mkL_get _ _ _ (by omega)]
    unfold shiftF
    by_cases e : j = Y
    · subst e
      by_cases e2 : X ≤ i
      · rw [if_pos (show j * W + X ≤ j * W + i ∧ j * W + i < j * W + W by omega), show j * W + i - j * W = i by omega, if_pos (show j = j ∧ X ≤ i from ⟨rfl, e2⟩)]
      · rw [if_neg (by omega), if_neg (by omega)]
    · have hout : ¬ (Y * W + X ≤ j * W + i ∧ j * W + i < Y * W + W) := by
        rcases Nat.lt_or_gt_of_ne e with g | g
        · have h := Nat.mul_le_mul_right W (show j + 1 ≤ Y by omega)
          rw [Nat.add_mul, Nat.one_mul] at h
          omega
        · have h := Nat.mul_le_mul_right W (show Y + 1 ≤ j by omega)
          rw [Nat.add_mul, Nat.one_mul] at h
          omega
      rw [if_neg hout, if_neg (fun h => e h.1)]
theorem fitF_all {m K : Nat} {f : Nat → Int × Int} {bl : Int × Int} (hm : 0 < m) : mkL (K * m) (fitF m m K f bl) = mkL (K * m) f := by
  refine mkL_congr (fun i hi => ?_)
  unfold fitF
  rw [if_pos ⟨hi, Nat.mod_lt _ hm⟩, show i / m * m + i % m = i by have := Nat.div_add_mod i m; rw [Nat.mul_comm] at this; exact this]
theorem fitF_cell {m m' K : Nat} {f : Nat → Int × Int} {at' : Int} (hm' : 0 < m') (hat : atB at' = true) (h : ∀ i, i < K * m → cellB (f i) = true) (i : Nat) : cellB (fitF m m' K f (32, at') i) = true := by
  unfold fitF
  split
  · rename_i g
    refine h _ ?_
    have h1 : i / m' < K := Nat.div_lt_of_lt_mul (by rw [Nat.mul_comm]; exact g.1)
    have h2 := Nat.mul_le_mul_right m (show i / m' + 1 ≤ K by omega)
    rw [Nat.add_mul, Nat.one_mul] at h2
    omega
  · exact cellB_blank hat
theorem resize_facts {r wd : Int} {cs bs : List (Int × Int)} {rows width : Int} (h : (resizeRes r wd cs bs rows width).code = 0) : gridCode (resizeRes r wd cs bs rows width).rows (resizeRes r wd cs bs rows width).wd (resizeRes r wd cs bs rows width).cs (resizeRes r wd cs bs rows width).bs = 0 ∧ resizeRes r wd cs bs r wd = ⟨0, r, wd, cs, bs⟩ := by
  rw [resizeRes_def] at h ⊢
  obtain ⟨hf, hok, he⟩ := gres_zero h
  rw [he]
  obtain ⟨R, W, R', W', Hb, N', M', rfl, rfl, rfl, rfl, p1, p2, p3, p4, p5, p6, p7, p8, p9, p10, p11, p12, e1, e2, e3, e4, e5⟩ := resize_nats hf hok
  simp only [Int.toNat_natCast, e3]
  constructor
  · refine code_of_gfine ⟨hok, by rw [mkL_length, Int.natCast_mul], ?_, ?_, allC_mk (fun i hi => ?_), allC_mk (fun i hi => ?_)⟩
    · rw [mkL_length]
      have h := Nat.mul_le_mul_right W' p9
      omega
    · rw [mkL_length, Int.natCast_mul]
      exact Int.mul_emod_left _ _
    · refine fitF_cell (by omega) rfl (fun i hi => allC_get hf.ok1 _ ?_) i
      have h := Nat.mul_le_mul_right W (show min R' R ≤ R by omega)
      omega
    · exact fitF_cell (by omega) rfl (fun i hi => allC_get hf.ok2 _ (by omega)) i
  · rw [resizeRes_def, gres_ok (code_of_gfine hf) hf.size]
    simp only [Int.toNat_natCast, e3, Nat.min_self]
    rw [fitF_all (by omega), fitF_all (by omega), ← e1, ← e2, mkL_self, mkL_self]

end Go.Proofs.Ytbndncfkkhjkoab
