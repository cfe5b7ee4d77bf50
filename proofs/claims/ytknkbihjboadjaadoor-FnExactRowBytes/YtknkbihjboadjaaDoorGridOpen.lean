/-
  A grid that came in, opened: its numbers and its two lists of cells; a cell that came in.
-/
import Derived.Test.YtknkbihjboadjaaDoorRows
import Derived.Test.YtknkbihjboadjaaDoorPairMem
import Derived.WalkKit
import Derived.ProofKit
import Derived.OpenShut
import Derived.Below
import Derived.Deep.SlicePairs
import Derived.Lib.SmallJoins
namespace Go.Proofs.YtknkbihjboadjaaDoor
set_option maxRecDepth 20000
open Go.ChangeShapes Go.WideShapes Go.ChangeAt Go.RowKit Go.Joins
set_option linter.unusedVariables false
set_option linter.unusedSimpArgs false

theorem grid_cells : Tryd.prog.cellsOf 24 = 4 := by kernel_rfl
theorem cell_cells2 : Tryd.prog.cellsOf 103 = 2 := by kernel_rfl
theorem int_cells1 : Tryd.prog.cellsOf 2 = 1 := by kernel_rfl

set_option maxRecDepth 100000 in
theorem open_cells {H : Type} {enc : TypeId × Value → H} {W : World} {m0 : Nat} {x : Value} {d : DataW H} {p : List MemPlace}
    (h : DataW.trod enc Tryd.prog W 0 (fun _ => true) true m0 22 [x] = some (d, p)) : ∃ ps : List (Int × Int), PRead W x ps ∧ ps.length ≤ maxLen := by
  rcases Go.Deep.open_slice_pairs Tryd.underlying22 Tryd.underlying103 cell_cells2 rfl rfl int_cells1 int_cells1 h with ⟨e1, _⟩ | ⟨a, len, cap, mm, n, V0, V1, D0, D1, P0, P1, e1, _, hl, hm, hmm, _, hc⟩
  · simp at e1
    subst e1
    exact ⟨[], PRead.nil _ _ _, by simp⟩
  · simp at e1
    subst e1
    have hlm : len ≤ mm := by rw [hmm]; split <;> omega
    have each : ∀ i, i < len → ∃ q : Int × Int, V0 i = .int .i64 q.1 ∧ V1 i = .int .i64 q.2 := by
      intro i hi
      obtain ⟨_, _, t0, t1⟩ := hc i (by omega)
      obtain ⟨x, ex, _, _⟩ := DataW.trod_int Tryd.underlying2 t0
      obtain ⟨y, ey, _, _⟩ := DataW.trod_int Tryd.underlying2 t1
      simp at ex ey
      exact ⟨(x, y), ex, ey⟩
    obtain ⟨q, hq⟩ := Go.Deep.choose_lt each
    have hlen : ((List.range len).map q).length = len := by simp
    refine ⟨(List.range len).map q, ⟨_, _, by rw [hlen], ?_⟩, by omega⟩
    by_cases h0 : len = 0
    · left; subst h0; rfl
    · right
      obtain ⟨b, off, spot⟩ := a
      have hc0 := (hc 0 (by omega)).1
      have hspot : spot = none := by simpa [Addr.add] using World.cell?_spot hc0
      subst hspot
      refine ⟨b, off, rfl, fun i hi => ?_⟩
      rw [hlen] at hi
      have hg : ((List.range len).map q).getD i (0, 0) = q i := by simp [List.getD_eq_getElem?_getD, hi]
      obtain ⟨g0, g1, _, _⟩ := hc i (by omega)
      rw [hg, ← (hq i hi).1, ← (hq i hi).2]
      refine ⟨?_, ?_⟩
      · rw [show ((⟨b, off, none⟩ : Addr).add (i * 2)) = ⟨b, off + i * 2, none⟩ from by simp [Addr.add]] at g0; exact g0
      · rw [show ((⟨b, off, none⟩ : Addr).add (i * 2 + 1)) = ⟨b, off + i * 2 + 1, none⟩ from by simp [Addr.add]; omega] at g1; exact g1

set_option maxRecDepth 100000 in
theorem open_grid {H : Type} {enc : TypeId × Value → H} {W : World} {base : Nat} {v : Value} {d : DataW H} {p : List MemPlace}
    (hv : Value.okWide Tryd.prog W .any base 24 v) (h : DataW.Trod enc Tryd.prog W 0 (fun _ => true) true 24 v d p) :
    ∃ (r wd : Int) (x y : Value) (cs bs : List (Int × Int)), v = .agg #[.int .i64 r, .int .i64 wd, x, y] ∧ PRead W x cs ∧ PRead W y bs ∧ cs.length ≤ maxLen ∧ bs.length ≤ maxLen := by
  obtain ⟨v0, v1, v2, v3, y0, y1, y2, y3, m, rfl, _, _, hy0, hy1, hy2, hy3⟩ := open_agg4 Tryd.underlying24 (by kernel_rfl) grid_cells hv h
  obtain ⟨r, e0, _, _⟩ := DataW.trod_int Tryd.underlying2 hy0
  simp at e0
  subst e0
  obtain ⟨wd, e1, _, _⟩ := DataW.trod_int Tryd.underlying2 hy1
  simp at e1
  subst e1
  obtain ⟨cs, h2, h2'⟩ := open_cells hy2
  obtain ⟨bs, h3, h3'⟩ := open_cells hy3
  exact ⟨r, wd, _, _, cs, bs, rfl, h2, h3, h2', h3'⟩

set_option maxRecDepth 100000 in
theorem open_cell {H : Type} {enc : TypeId × Value → H} {W : World} {base : Nat} {v : Value} {d : DataW H} {p : List MemPlace}
    (hv : Value.okWide Tryd.prog W .any base 103 v) (h : DataW.Trod enc Tryd.prog W 0 (fun _ => true) true 103 v d p) :
    ∃ (c g : Int), v = .agg #[.int .i64 c, .int .i64 g] := by
  obtain ⟨v0, v1, y0, y1, m, rfl, _, _, hy0, hy1⟩ := open_agg2 Tryd.underlying103 (by kernel_rfl) cell_cells2 hv h
  obtain ⟨c, e0, _, _⟩ := DataW.trod_int Tryd.underlying2 hy0
  obtain ⟨g, e1, _, _⟩ := DataW.trod_int Tryd.underlying2 hy1
  simp at e0 e1
  subst e0
  subst e1
  exact ⟨c, g, rfl⟩

end Go.Proofs.YtknkbihjboadjaaDoor
