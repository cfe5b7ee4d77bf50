/-
  A font that came in, opened: its fallback and its pairs.
-/
import Derived.Test.YtlkabmgindbbmahRows
import Derived.Test.YtlkabmgindbbmahPairMem
import Derived.WalkKit
import Derived.ProofKit
import Derived.OpenShut
import Derived.Below
import Derived.Deep.SlicePairs
import Derived.Lib.SmallJoins
namespace Go.Proofs.Ytlkabmgindbbmah
open Go.ChangeShapes Go.WideShapes Go.ChangeAt Go.RowKit Go.Joins
set_option linter.unusedVariables false
set_option linter.unusedSimpArgs false

theorem font_cells : Try.prog.cellsOf 24 = 2 := by kernel_rfl
theorem pair_cells2 : Try.prog.cellsOf 26 = 2 := by kernel_rfl
theorem int_cells1 : Try.prog.cellsOf 2 = 1 := by kernel_rfl

set_option maxRecDepth 100000 in
theorem open_font {H : Type} {enc : TypeId × Value → H} {W : World} {base : Nat} {v : Value} {d : DataW H} {p : List MemPlace}
    (hv : Value.okWide Try.prog W .any base 24 v) (h : DataW.Trod enc Try.prog W 0 (fun _ => true) true 24 v d p) :
    ∃ (fb : Int) (x : Value) (ps : List (Int × Int)), v = .agg #[.int .i64 fb, x] ∧ PRead W x ps ∧ ps.length ≤ maxLen := by
  obtain ⟨v0, v1, y0, y1, m, rfl, _, _, hy0, hy1⟩ := open_agg2 Try.underlying24 (by kernel_rfl) font_cells hv h
  obtain ⟨fb, e0, _, _⟩ := DataW.trod_int Try.underlying2 hy0
  simp at e0
  subst e0
  rcases Go.Deep.open_slice_pairs Try.underlying22 Try.underlying26 pair_cells2 rfl rfl int_cells1 int_cells1 hy1 with ⟨e1, _⟩ | ⟨a, len, cap, mm, n, V0, V1, D0, D1, P0, P1, e1, _, hl, hm, hmm, _, hc⟩
  · simp at e1
    subst e1
    exact ⟨fb, _, [], rfl, PRead.nil _ _ _, by simp⟩
  · simp at e1
    subst e1
    have hlm : len ≤ mm := by rw [hmm]; split <;> omega
    have each : ∀ i, i < len → ∃ q : Int × Int, V0 i = .int .i64 q.1 ∧ V1 i = .int .i64 q.2 := by
      intro i hi
      obtain ⟨_, _, t0, t1⟩ := hc i (by omega)
      obtain ⟨x, ex, _, _⟩ := DataW.trod_int Try.underlying2 t0
      obtain ⟨y, ey, _, _⟩ := DataW.trod_int Try.underlying2 t1
      simp at ex ey
      exact ⟨(x, y), ex, ey⟩
    obtain ⟨q, hq⟩ := Go.Deep.choose_lt each
    have hlen : ((List.range len).map q).length = len := by simp
    refine ⟨fb, _, (List.range len).map q, rfl, ⟨_, _, by rw [hlen], ?_⟩, by omega⟩
    by_cases h0 : len = 0
    · left; subst h0; rfl
    · right
      obtain ⟨b, off, spot⟩ := a
      have hc0 := (hc 0 (by omega)).1
      have hspot : spot = none := by simpa [Addr.add] using World.cell?_spot hc0
      subst hspot
      refine ⟨b, off, rfl, fun i hi => ?_⟩
      rw [hlen] at hi
      have hg : ((List.range len).map q).getD i (0, 0) = q i := by simp [List.getD_eq_getElem?_getD, hi]
      obtain ⟨g0, g1, _, _⟩ := hc i (by omega)
      rw [hg, ← (hq i hi).1, ← (hq i hi).2]
      refine ⟨?_, ?_⟩
      · rw [show ((⟨b, off, none⟩ : Addr).add (i * 2)) = ⟨b, off + i * 2, none⟩ from by simp [Addr.add]] at g0; exact g0
      · rw [show ((⟨b, off, none⟩ : Addr).add (i * 2 + 1)) = ⟨b, off + i * 2 + 1, none⟩ from by simp [Addr.add]; omega] at g1; exact g1

end Go.Proofs.Ytlkabmgindbbmah
