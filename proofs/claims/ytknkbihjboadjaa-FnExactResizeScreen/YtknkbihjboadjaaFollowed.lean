/-
  A sheet followed by the rows of another, walked: impl's followedBy, that ranges over the iterator of rows.
-/
import Derived.Test.YtknkbihjboadjaaRangeRows
import Derived.Test.YtknkbihjboadjaaGridRes
import Derived.Test.YtknkbihjboadjaaGrow
import Derived.Test.YtknkbihjboadjaaResMem
import Derived.Maps.OwnIn
namespace Go.Proofs.Ytknkbihjboadjaa
set_option maxRecDepth 20000
open Go.ChangeShapes Go.WideShapes Go.ChangeAt Go.RowKit Go.Shelf
attribute [local go_sem] Oper.semAt_some
set_option linter.unusedVariables false
set_option linter.unusedSimpArgs false
set_option maxRecDepth 100000

/-- The cells of the rows that have come. -/
def rowsL (m H : Nat) (f : Nat → Int × Int) (pre : List Nat) : List (Int × Int) := pre.flatMap fun y => mkL m (fun i => f ((y % H) * m + i))
theorem rowsL_snoc (m H : Nat) (f : Nat → Int × Int) (pre : List Nat) (x : Nat) : rowsL m H f (pre ++ [x]) = rowsL m H f pre ++ mkL m (fun i => f ((x % H) * m + i)) := by simp [rowsL]
theorem cvs_mk (m : Nat) (g : Nat → Int × Int) : cvs m g = pvs (mkL m g) := by simp [cvs, pvs, mkL, List.flatMap_map]
theorem mkL_add (n k : Nat) (f : Nat → Int × Int) : mkL (n + k) f = mkL n f ++ mkL k (fun i => f (n + i)) := by
  simp [mkL, List.range_add]
theorem rowsL_range (m H : Nat) (f : Nat → Int × Int) : ∀ k, k ≤ H → rowsL m H f (List.range k) = mkL (k * m) f
  | 0, _ => by simp [rowsL, mkL]
  | k + 1, h => by
    rw [List.range_succ, rowsL_snoc, rowsL_range m H f k (by omega), Nat.add_mul, Nat.one_mul, mkL_add, Nat.mod_eq_of_lt (by omega : k < H)]

/-- Between two rounds: the box of the sheet that is appended to (sb), the result's box, the row that is owned. -/
structure FolI (w : World) (wd : Int) (base k m H : Nat) (bs : List (Int × Int)) (f : Nat → Int × Int) (v0 : Value) (pre : List Nat) (W : World) : Prop where
  c0 : W.cell? ⟨w.heap.size, 0, none⟩ = some (.int .i64 wd)
  f1 : W.frozen? ⟨w.heap.size, 1, none⟩ = false
  r0 : W.cell? ⟨w.heap.size + 2, 0, none⟩ = some (.int .i64 0)
  r1 : W.cell? ⟨w.heap.size + 2, 1, none⟩ = some (.slice none 0 0)
  z0 : W.frozen? ⟨w.heap.size + 2, 0, none⟩ = false
  z1 : W.frozen? ⟨w.heap.size + 2, 1, none⟩ = false
  size : w.heap.size + 4 ≤ W.heap.size
  ex : ∃ v, W.cell? ⟨w.heap.size, 1, none⟩ = some v ∧ W.ownsRow base 99 2 v (k + pre.length * m) (pvs (bs ++ rowsL m H f pre)) ∧ GrowTo w W v0 v ∧ (∀ j, v.ownBlock = some j → j < w.heap.size ∨ w.heap.size + 4 ≤ j)

theorem FolI.own {w : World} {wd : Int} {base k m H : Nat} {bs : List (Int × Int)} {f : Nat → Int × Int} {v0 : Value} {B : Nat} (hB : w.heap.size ≤ B) : OwnFrom B (fun pre W => FolI w wd base k m H bs f v0 pre W) := by
  intro pre W W' row h hg hr
  have hr' : ∀ r, row = some r → ∃ o : Obj, W.heap[r]? = some o ∧ o.isCells = false := fun r e => (hr r e).2
  obtain ⟨v, h1, h2, h3, h4⟩ := h.ex
  refine ⟨cell_kept h.c0 hg hr', (frozen_kept h1 hg hr').trans h.f1, cell_kept h.r0 hg hr', cell_kept h.r1 hg hr', (frozen_kept h.r0 hg hr').trans h.z0, (frozen_kept h.r1 hg hr').trans h.z1, Nat.le_trans h.size hg.size, v, cell_kept h1 hg hr', ?_, ?_, h4⟩
  · refine own_block h2 fun j hj => ?_
    obtain ⟨_, h2'⟩ := h2
    rcases h2' with ⟨rfl, _⟩ | ⟨g, cap, cur, rfl, _, hgc, _⟩
    · cases hj
    · have : g = j := by simpa [Value.ownBlock] using hj
      subst this
      exact grownBy_keeps_cells hg hr' hgc rfl
  · refine ⟨⟨hg.os.trans h3.grown.os, hg.tape.trans h3.grown.tape, hg.output.trans h3.grown.output, Nat.le_trans h3.grown.size hg.size, fun j hj hne => ?_⟩, h3.spot⟩
    refine (hg.block j (Nat.lt_of_lt_of_le hj h3.grown.size) (fun e => ?_)).trans (h3.grown.block j hj hne)
    have := (hr j e.symm).1
    omega


end Go.Proofs.Ytknkbihjboadjaa
