/-
  The program's table fewSyms: what its text lays is what a walk reads.
-/
import Derived.Test.YtcfechnkgefhcaaDoorRows
import Derived.Test.YtcfechnkgefhcaaDoorLaidRows
import Derived.Test.YtcfechnkgefhcaaDoorMem
import Derived.Below
import Derived.ChangeVars
import Derived.LaidMore
import Derived.LaidLaws
import Derived.LaidSub
namespace Go.Proofs.YtcfechnkgefhcaaDoor
set_option maxRecDepth 20000
open Go.ChangeShapes Go.WideShapes Go.ChangeAt Go.RowKit
set_option linter.unusedVariables false
set_option linter.unusedSimpArgs false
set_option maxRecDepth 20000

theorem few_below {P : Program} {w w' : World} {n : String} {cs : Array Value} (hb : Below w.heap.size w w') (h : w.var? P n = some cs) : w'.var? P n = some cs := by
  unfold World.var? at h ⊢
  cases hg : P.globalNamed n with
  | none => rw [hg] at h; simp at h
  | some g =>
    rw [hg] at h
    simp only [Option.bind_some] at h ⊢
    have hlt : g < w.heap.size := by
      rcases hq : w.heap[g]? with _ | o
      · rw [hq] at h; simp at h
      · exact (Array.getElem?_eq_some_iff.1 hq).1
    rw [hb.block g hlt]
    exact h
def few_zs : List (List Int) := [[0, 0], [3, 1], [3, 2], [3, 4], [4, 0]]
def few_arr : Array Value := #[.int .i64 0, .int .i64 0, .int .i64 3, .int .i64 1, .int .i64 3, .int .i64 2, .int .i64 3, .int .i64 4, .int .i64 4, .int .i64 0]
theorem few_named : Tryd.prog.globalNamed "loop.example/g00523/impl.fewSyms" = some 1 := by kernel_rfl
theorem few_type : (Tryd.prog.globals[1]?).map (·.type) = some 109 := by kernel_rfl
theorem few_reads {H : Type} (enc : TypeId × Value → H) (W : World) (sp : Nat → Bool) : DataW.trod enc Tryd.prog W 0 sp true 3 109 few_arr.toList = some (rowsData few_zs, []) := by kernel_rfl
theorem few_cells {W : World} (h : W.var? Tryd.prog "loop.example/g00523/impl.fewSyms" = some few_arr) (i : Nat) (hi : i < 10) : W.cell? ⟨1, i, none⟩ = some (.int .i64 (([0, 0, 3, 1, 3, 2, 3, 4, 4, 0] : List Int).getD i 0)) := by
  rw [World.var?_cell few_named h i]
  have hc : i = 0 ∨ i = 1 ∨ i = 2 ∨ i = 3 ∨ i = 4 ∨ i = 5 ∨ i = 6 ∨ i = 7 ∨ i = 8 ∨ i = 9 := by omega
  rcases hc with rfl | rfl | rfl | rfl | rfl | rfl | rfl | rfl | rfl | rfl <;> rfl
theorem few_met {W : World} (h : laidMet Tryd.prog [("loop.example/g00523/impl.fewSyms", rowsData few_zs)] W) : W.var? Tryd.prog "loop.example/g00523/impl.fewSyms" = some few_arr := by
  obtain ⟨ps, ⟨g', t', cs', fuel', p', q', hg', ht', hvar', hd', _, _⟩, _⟩ := h
  obtain rfl := Option.some.inj (few_named.symm.trans hg')
  obtain rfl := Option.some.inj (few_type.symm.trans ht')
  have hc := cells_of_rows (n := 5) (m := 2) Tryd.underlying109 Tryd.underlying26 (by kernel_rfl) (by kernel_rfl) (by omega) rfl (by simp [few_zs]) (fun j hj => by
    have hjj : j = 0 ∨ j = 1 := by omega
    rcases hjj with rfl | rfl
    · exact ⟨_, rfl, rfl, Tryd.underlying2, by kernel_rfl⟩
    · exact ⟨_, rfl, rfl, Tryd.underlying2, by kernel_rfl⟩) hd'
  rw [hvar']
  congr 1
  apply Array.ext'
  exact hc
end Go.Proofs.YtcfechnkgefhcaaDoor
