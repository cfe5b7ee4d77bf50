/-
  A result of two or three cells, stored and read back.
-/
import Derived.Test.YtknkbihjboadjaaDoorMem
namespace Go.Proofs.YtknkbihjboadjaaDoor
set_option maxRecDepth 20000
open Go.ChangeShapes Go.WideShapes Go.ChangeAt Go.RowKit

theorem res2 {w : World} {r : Nat} {u0 u1 : Value} (x y : Value) (h0 : w.cell? ⟨r, 0, none⟩ = some u0) (h1 : w.cell? ⟨r, 1, none⟩ = some u1) :
    ((w.setCell ⟨r, 0, none⟩ x).setCell ⟨r, 1, none⟩ y).cell? ⟨r, 0, none⟩ = some x ∧ ((w.setCell ⟨r, 0, none⟩ x).setCell ⟨r, 1, none⟩ y).cell? ⟨r, 1, none⟩ = some y := by
  have g1 : (w.setCell ⟨r, 0, none⟩ x).cell? ⟨r, 1, none⟩ = some u1 := by rw [World.cell?_setCell_other _ _ _ _ (addr_ne (by omega))]; exact h1
  refine ⟨?_, World.cell?_setCell_same _ _ _ g1⟩
  rw [World.cell?_setCell_other _ _ _ _ (addr_ne (by omega))]; exact World.cell?_setCell_same _ _ _ h0
theorem res3 {w : World} {r : Nat} {u0 u1 u2 : Value} (x y z : Value) (h0 : w.cell? ⟨r, 0, none⟩ = some u0) (h1 : w.cell? ⟨r, 1, none⟩ = some u1) (h2 : w.cell? ⟨r, 2, none⟩ = some u2) :
    (((w.setCell ⟨r, 0, none⟩ x).setCell ⟨r, 1, none⟩ y).setCell ⟨r, 2, none⟩ z).cell? ⟨r, 0, none⟩ = some x ∧ (((w.setCell ⟨r, 0, none⟩ x).setCell ⟨r, 1, none⟩ y).setCell ⟨r, 2, none⟩ z).cell? ⟨r, 1, none⟩ = some y ∧ (((w.setCell ⟨r, 0, none⟩ x).setCell ⟨r, 1, none⟩ y).setCell ⟨r, 2, none⟩ z).cell? ⟨r, 2, none⟩ = some z := by
  obtain ⟨e0, e1⟩ := res2 x y h0 h1
  have g2 : ((w.setCell ⟨r, 0, none⟩ x).setCell ⟨r, 1, none⟩ y).cell? ⟨r, 2, none⟩ = some u2 := by
    rw [World.cell?_setCell_other _ _ _ _ (addr_ne (by omega)), World.cell?_setCell_other _ _ _ _ (addr_ne (by omega))]; exact h2
  refine ⟨?_, ?_, World.cell?_setCell_same _ _ _ g2⟩
  · rw [World.cell?_setCell_other _ _ _ _ (addr_ne (by omega))]; exact e0
  · rw [World.cell?_setCell_other _ _ _ _ (addr_ne (by omega))]; exact e1

end Go.Proofs.YtknkbihjboadjaaDoor
