/-
  What ShiftCells answers, of the program and of the model.
-/
import Derived.Test.YtknkbihjboadjaaGridRes
import Derived.Test.YtknkbihjboadjaaSlideFns
import Derived.Test.YtknkbihjboadjaaRowFns3
import Derived.Deep.RegionHeld3
import Derived.Deep.RegionHeld
namespace Go.Proofs.Ytknkbihjboadjaa
set_option maxRecDepth 20000
open Go.ChangeShapes Go.WideShapes Go.ChangeAt Go.RowKit
set_option linter.unusedVariables false
set_option linter.unusedSimpArgs false
set_option maxRecDepth 20000

def shiftOk (r wd y x n at' : Int) : Bool := placeB r wd y x && (decide (-12 ≤ n ∧ n ≤ 12) && atB at')
/-- Of a row of m cells from place K on the cells from X on, shifted by n to the right. -/
def shiftF (K X m : Nat) (n : Int) (f : Nat → Int × Int) (bl : Int × Int) (i : Nat) : Int × Int := if K + X ≤ i ∧ i < K + m then (if (X : Int) ≤ ((i - K : Nat) : Int) - n ∧ ((i - K : Nat) : Int) - n < m then f (K + (((i - K : Nat) : Int) - n).toNat) else bl) else f i
def shiftRes (r wd : Int) (cs bs : List (Int × Int)) (y x n at' : Int) : GRes := gres r wd cs bs (shiftOk r wd y x n at') ⟨0, r, wd, mkL cs.length (shiftF (y * wd).toNat x.toNat wd.toNat n (fun i => cs.getD i (0, 0)) (32, at')), bs⟩
theorem shiftRes_def (r wd : Int) (cs bs : List (Int × Int)) (y x n at' : Int) : shiftRes r wd cs bs y x n at' = gres r wd cs bs (shiftOk r wd y x n at') ⟨0, r, wd, mkL cs.length (shiftF (y * wd).toNat x.toNat wd.toNat n (fun i => cs.getD i (0, 0)) (32, at')), bs⟩ := rfl
theorem shiftRes_len (r wd : Int) (cs bs : List (Int × Int)) (y x n at' : Int) : (shiftRes r wd cs bs y x n at').cs.length ≤ 72 ∧ (shiftRes r wd cs bs y x n at').bs.length ≤ 60 := gres_len (fun h => by obtain ⟨_, _, _, h1, h2, h3⟩ := h.short; exact ⟨by rw [mkL_length]; exact h2, h3⟩)
/-- A place of a grid without a fault, as naturals. -/
theorem place_nats {r wd y x : Int} {cs bs : List (Int × Int)} (h : GFine r wd cs bs) (hp : placeB r wd y x = true) : ∃ K X m : Nat, y * wd = (K : Int) ∧ x = (X : Int) ∧ wd = (m : Int) ∧ K + m ≤ cs.length ∧ X < m ∧ 2 ≤ m ∧ m ≤ 12 ∧ 0 ≤ y ∧ y ≤ 1000 := by
  obtain ⟨R, W, rfl, rfl, n1, n2, n3, n4, n5, n6, n7, n8, n9, n10⟩ := h.nats
  unfold placeB at hp
  simp at hp
  obtain ⟨⟨p1, p2⟩, p3, p4⟩ := hp
  obtain ⟨Y, rfl⟩ : ∃ Y : Nat, y = Y := ⟨y.toNat, by omega⟩
  obtain ⟨X, rfl⟩ : ∃ X : Nat, x = X := ⟨x.toNat, by omega⟩
  have h1 : (Y + 1) * W ≤ R * W := Nat.mul_le_mul_right W (by omega)
  rw [Nat.add_mul] at h1
  exact ⟨Y * W, X, W, by rw [Int.natCast_mul], rfl, rfl, by omega, by omega, by omega, by omega, by omega, by omega⟩
theorem fine_bounds {r wd : Int} {cs bs : List (Int × Int)} (h : GFine r wd cs bs) : 1 ≤ r ∧ r ≤ 6 ∧ 2 ≤ wd ∧ wd ≤ 12 := by
  obtain ⟨s1, s2, s3, s4, _⟩ := size_mul h.size
  exact ⟨s1, s2, s3, s4⟩

end Go.Proofs.Ytknkbihjboadjaa
