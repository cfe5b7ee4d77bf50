/-
  What a grid without a fault is behind a cell that was put, and behind cells that were erased: each cell; no fault.
-/
import Derived.Test.YtbndncfkkhjkoaaPutCellFns
import Derived.Test.YtbndncfkkhjkoaaEraseFns
import Derived.Test.YtbndncfkkhjkoaaLawKit3
namespace Go.Proofs.Ytbndncfkkhjkoaa
set_option maxRecDepth 20000
open Go.ChangeShapes Go.WideShapes Go.ChangeAt Go.RowKit
set_option linter.unusedVariables false
set_option linter.unusedSimpArgs false

theorem erase_facts {r wd : Int} {cs bs : List (Int × Int)} {f t at' : Int} (h : (eraseRes r wd cs bs f t at').code = 0) : (eraseRes r wd cs bs f t at').cs.length = cs.length ∧ ∀ k, k < cs.length → (eraseRes r wd cs bs f t at').cs.getD k (0, 0) = if f ≤ (k : Int) ∧ (k : Int) < t then (32, at') else cs.getD k (0, 0) := by
  rw [eraseRes_def] at h ⊢
  obtain ⟨hf, hok, he⟩ := gres_zero h
  rw [he]
  refine ⟨mkL_length _ _, fun k hk => ?_⟩
  rw [mkL_get _ _ _ hk]
  rfl
theorem putc_facts {r wd : Int} {cs bs : List (Int × Int)} {y x c g : Int} (h : (putcRes r wd cs bs y x c g).code = 0) : ∃ R W Y X K : Nat, r = (R : Int) ∧ wd = (W : Int) ∧ y = (Y : Int) ∧ x = (X : Int) ∧ (Y : Int) * (W : Int) = ((Y * W : Nat) : Int) ∧ K = Y * W + X ∧ K < cs.length ∧ Y * W ≤ 100 ∧ X ≤ 20 ∧
    (putcRes r wd cs bs y x c g).rows = r ∧ (putcRes r wd cs bs y x c g).wd = wd ∧ (putcRes r wd cs bs y x c g).cs.length = cs.length ∧ (putcRes r wd cs bs y x c g).bs = bs ∧ gridCode r wd (putcRes r wd cs bs y x c g).cs bs = 0 ∧
    (∀ k, k < cs.length → (putcRes r wd cs bs y x c g).cs.getD k (0, 0) = if k = K then (c, g) else cs.getD k (0, 0)) := by
  rw [putcRes_def] at h ⊢
  obtain ⟨hf, hok, he⟩ := gres_zero h
  rw [he]
  obtain ⟨R, W, rfl, rfl, n1, n2, n3, n4, n5, n6, n7, n8, n9, n10⟩ := hf.nats
  unfold placeB at hok
  simp only [Bool.and_eq_true, decide_eq_true_eq] at hok
  obtain ⟨⟨⟨y0, y1⟩, x0, x1⟩, hcb⟩ := hok
  obtain ⟨Y, rfl⟩ : ∃ Y : Nat, y = Y := ⟨y.toNat, by omega⟩
  obtain ⟨X, rfl⟩ : ∃ X : Nat, x = X := ⟨x.toNat, by omega⟩
  have hYW : Y * W + W ≤ R * W := by have h := Nat.mul_le_mul_right W (show Y + 1 ≤ R by omega); rw [Nat.add_mul, Nat.one_mul] at h; exact h
  have hK : ((Y : Int) * (W : Int) + (X : Int)).toNat = Y * W + X := by rw [← Int.natCast_mul]; omega
  refine ⟨R, W, Y, X, Y * W + X, rfl, rfl, rfl, rfl, (Int.natCast_mul _ _).symm, rfl, by omega, by omega, by omega, rfl, rfl, mkL_length _ _, rfl, ?_, ?_⟩
  · refine code_of_gfine ⟨hf.size, by rw [mkL_length]; exact hf.cells, hf.back, hf.rest, allC_mk (fun i hi => ?_), hf.ok2⟩
    unfold putcF
    split
    · exact hcb
    · exact allC_get hf.ok1 _ hi
  · intro k hk
    dsimp only
    rw [mkL_get _ _ _ hk, hK]
    rfl

end Go.Proofs.Ytbndncfkkhjkoaa
