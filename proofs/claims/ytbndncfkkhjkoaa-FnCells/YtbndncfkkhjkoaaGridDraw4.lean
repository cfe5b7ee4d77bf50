/-
  Draws of chapter 3's laws: DrawShiftCells, DrawResizeGrid, DrawNewGrid, DrawPutCell, walked.
-/
import Derived.Test.YtbndncfkkhjkoaaGridDraw3
import Derived.Test.YtbndncfkkhjkoaaCapped
namespace Go.Proofs.Ytbndncfkkhjkoaa
set_option maxRecDepth 20000
open Go.ChangeShapes Go.WideShapes Go.ChangeAt Go.RowKit
set_option linter.unusedVariables false
set_option linter.unusedSimpArgs false
set_option maxRecDepth 20000

theorem GV.within {w0 w W W' : World} {B bx n cx : Nat} {code : Value} {p q : Int} {v : Value} {bs : List (Int × Int)} (h : GV w0 w W B bx n cx code p v bs) (hs : Src w0 W' B code q) (hw : Within B (B + 1) W W') : GV w0 w W' B bx n cx code q v bs := by
  have l := h.lo
  have sz := hw.size
  obtain ⟨f, hf⟩ := h.row
  exact ⟨hs, h.wi.trans hw, ⟨f, hf.block (hw.block bx (by omega) (by omega))⟩, own_block h.own (fun k hk => hw.block k (h.own.lt k hk).2 (by have := (h.ap k hk).1; omega)), h.ap, by omega⟩
theorem GV.below {w0 w W W' : World} {B bx n cx : Nat} {code : Value} {p : Int} {v : Value} {bs : List (Int × Int)} (h : GV w0 w W B bx n cx code p v bs) (hb : Below W.heap.size W W') : GV w0 w W' B bx n cx code p v bs := h.within (h.src.below hb) (Within.of_below hb (Nat.le_refl _))
/-- The lists of a grid that was drawn, behind stores into an older block. -/
theorem GV.lists {w0 w W W' : World} {B bx n cx b p' q' : Nat} {code : Value} {p : Int} {v : Value} {bs : List (Int × Int)} (h : GV w0 w W B bx n cx code p v bs) (t : Touch b p' q' W W') (hb : b < w.heap.size) : ∃ cs : List (Int × Int), cs.length = n ∧ n ≤ 24 ∧ bs.length ≤ 40 ∧ PRead W' (.slice (some ⟨bx, 0, none⟩) n cx) cs ∧ PRead W' v bs ∧ Capped (.slice (some ⟨bx, 0, none⟩) n cx) ∧ Capped v := by
  have l := h.lo
  obtain ⟨f, hf⟩ := h.row
  obtain ⟨av, cv, rfl, hcv⟩ := own_room2 h.own
  have p2 : PairsAt w.heap.size W.heap.size W (.slice av bs.length cv) bs := own_pairs h.own (Nat.le_refl _)
  refine ⟨mkL n f, mkL_length _ _, by omega, by omega, pread_of_row (hf.touch t (by omega)).read, ?_, Capped.of (by omega), Capped.of hcv⟩
  exact (p2.of_blocks fun i h1 h2 => t.block i h2 (by omega)).read
theorem Src.fresh (w W : World) (B : Nat) (code : Value) (h0 : W.cell? ⟨B, 0, none⟩ = some code) (h1 : W.cell? ⟨B, 1, none⟩ = some (.int .i64 0)) (hf : ∀ o, W.frozen? ⟨B, o, none⟩ = false) (hb : Below w.heap.size w W) (hB : w.heap.size ≤ B) : Src w W B code 0 := ⟨h0, h1, hf, hb, hB⟩

end Go.Proofs.Ytbndncfkkhjkoaa
