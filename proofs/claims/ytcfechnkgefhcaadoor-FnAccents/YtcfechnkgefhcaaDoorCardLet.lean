/-
  The program's table letters: what its text lays is what a walk reads.
-/
import Derived.Test.YtcfechnkgefhcaaDoorRows
import Derived.Test.YtcfechnkgefhcaaDoorLaidRows
import Derived.Test.YtcfechnkgefhcaaDoorMem
import Derived.Below
import Derived.ChangeVars
import Derived.LaidMore
import Derived.LaidLaws
import Derived.LaidSub
namespace Go.Proofs.YtcfechnkgefhcaaDoor
set_option maxRecDepth 20000
open Go.ChangeShapes Go.WideShapes Go.ChangeAt Go.RowKit
set_option linter.unusedVariables false
set_option linter.unusedSimpArgs false
set_option maxRecDepth 20000

theorem let_below {P : Program} {w w' : World} {n : String} {cs : Array Value} (hb : Below w.heap.size w w') (h : w.var? P n = some cs) : w'.var? P n = some cs := by
  unfold World.var? at h ⊢
  cases hg : P.globalNamed n with
  | none => rw [hg] at h; simp at h
  | some g =>
    rw [hg] at h
    simp only [Option.bind_some] at h ⊢
    have hlt : g < w.heap.size := by
      rcases hq : w.heap[g]? with _ | o
      · rw [hq] at h; simp at h
      · exact (Array.getElem?_eq_some_iff.1 hq).1
    rw [hb.block g hlt]
    exact h
def let_zs : List (List Int) := [[1, 97, 224], [1, 101, 232], [1, 111, 242], [2, 97, 225], [2, 101, 233], [2, 111, 243], [3, 97, 228], [3, 111, 246], [3, 117, 252]]
def let_arr : Array Value := #[.int .i64 1, .int .i64 97, .int .i64 224, .int .i64 1, .int .i64 101, .int .i64 232, .int .i64 1, .int .i64 111, .int .i64 242, .int .i64 2, .int .i64 97, .int .i64 225, .int .i64 2, .int .i64 101, .int .i64 233, .int .i64 2, .int .i64 111, .int .i64 243, .int .i64 3, .int .i64 97, .int .i64 228, .int .i64 3, .int .i64 111, .int .i64 246, .int .i64 3, .int .i64 117, .int .i64 252]
theorem let_named : Tryd.prog.globalNamed "loop.example/g00523/impl.letters" = some 0 := by kernel_rfl
theorem let_type : (Tryd.prog.globals[0]?).map (·.type) = some 93 := by kernel_rfl
theorem let_reads {H : Type} (enc : TypeId × Value → H) (W : World) (sp : Nat → Bool) : DataW.trod enc Tryd.prog W 0 sp true 3 93 let_arr.toList = some (rowsData let_zs, []) := by kernel_rfl
theorem let_cells {W : World} (h : W.var? Tryd.prog "loop.example/g00523/impl.letters" = some let_arr) (i : Nat) (hi : i < 27) : W.cell? ⟨0, i, none⟩ = some (.int .i64 (([1, 97, 224, 1, 101, 232, 1, 111, 242, 2, 97, 225, 2, 101, 233, 2, 111, 243, 3, 97, 228, 3, 111, 246, 3, 117, 252] : List Int).getD i 0)) := by
  rw [World.var?_cell let_named h i]
  have hc : i = 0 ∨ i = 1 ∨ i = 2 ∨ i = 3 ∨ i = 4 ∨ i = 5 ∨ i = 6 ∨ i = 7 ∨ i = 8 ∨ i = 9 ∨ i = 10 ∨ i = 11 ∨ i = 12 ∨ i = 13 ∨ i = 14 ∨ i = 15 ∨ i = 16 ∨ i = 17 ∨ i = 18 ∨ i = 19 ∨ i = 20 ∨ i = 21 ∨ i = 22 ∨ i = 23 ∨ i = 24 ∨ i = 25 ∨ i = 26 := by omega
  rcases hc with rfl | rfl | rfl | rfl | rfl | rfl | rfl | rfl | rfl | rfl | rfl | rfl | rfl | rfl | rfl | rfl | rfl | rfl | rfl | rfl | rfl | rfl | rfl | rfl | rfl | rfl | rfl <;> rfl
theorem let_met {W : World} (h : laidMet Tryd.prog [("loop.example/g00523/impl.letters", rowsData let_zs)] W) : W.var? Tryd.prog "loop.example/g00523/impl.letters" = some let_arr := by
  obtain ⟨ps, ⟨g', t', cs', fuel', p', q', hg', ht', hvar', hd', _, _⟩, _⟩ := h
  obtain rfl := Option.some.inj (let_named.symm.trans hg')
  obtain rfl := Option.some.inj (let_type.symm.trans ht')
  have hc := cells_of_rows (n := 9) (m := 3) Tryd.underlying93 Tryd.underlying92 (by kernel_rfl) (by kernel_rfl) (by omega) rfl (by simp [let_zs]) (fun j hj => by
    have hjj : j = 0 ∨ j = 1 ∨ j = 2 := by omega
    rcases hjj with rfl | rfl | rfl
    · exact ⟨_, rfl, rfl, Tryd.underlying2, by kernel_rfl⟩
    · exact ⟨_, rfl, rfl, Tryd.underlying2, by kernel_rfl⟩
    · exact ⟨_, rfl, rfl, Tryd.underlying2, by kernel_rfl⟩) hd'
  rw [hvar']
  congr 1
  apply Array.ext'
  exact hc
end Go.Proofs.YtcfechnkgefhcaaDoor
