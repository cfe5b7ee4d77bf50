/-
  Syms, binds and lists of binds that came in, opened.
-/
import Derived.Test.YtcfechnkgefhcaaDoorRows
import Derived.Test.YtcfechnkgefhcaaDoorBindMem
import Derived.WalkKit
import Derived.ProofKit
import Derived.OpenShut
import Derived.Below
import Derived.Deep.SlicePairs
import Derived.Lib.SmallJoins
namespace Go.Proofs.YtcfechnkgefhcaaDoor
set_option maxRecDepth 20000
open Go.ChangeShapes Go.WideShapes Go.ChangeAt Go.RowKit Go.Joins Go.Deep
set_option linter.unusedVariables false
set_option linter.unusedSimpArgs false

theorem int_cell1 : Tryd.prog.cellsOf 2 = 1 := by kernel_rfl
theorem open_num {H : Type} {enc : TypeId × Value → H} {W : World} {v : Value} {d : DataW H} {p : List MemPlace}
    (h : DataW.Trod enc Tryd.prog W 0 (fun _ => true) true 2 v d p) (hv : v.cells.toList = [v]) : ∃ c, v = .int .i64 c := by
  obtain ⟨m, h⟩ := h
  rw [hv] at h
  obtain ⟨c, e, _, _⟩ := DataW.trod_int Tryd.underlying2 h
  simp at e
  exact ⟨c, e⟩
theorem lsym_cells : Tryd.prog.cellsOf 52 = 2 := by kernel_rfl
theorem trod_symcells {H : Type} {enc : TypeId × Value → H} {w : World} {n : Nat} {cs : List Value} {y : DataW H × List MemPlace}
    (h : DataW.trod enc Tryd.prog w 0 (fun _ => true) true n 52 cs = some y) : ∃ kd vl : Int, cs = [.int .i64 kd, .int .i64 vl] := by
  obtain ⟨y0, y1, m, _, hl, h0, h1⟩ : ∃ y0 y1 m, True ∧ cs.length = Tryd.prog.cellsOf 52 ∧ _ ∧ _ := by
    obtain ⟨xs, k, hk, hxy, hl, hxl, hf⟩ := DataW.trod_struct Tryd.underlying52 h
    match xs, hxl with
    | [y0, y1], _ => exact ⟨y0, y1, k, trivial, hl, hf 0 _ rfl, hf 1 _ rfl⟩
  rw [lsym_cells] at hl
  match cs, hl with
  | [a, b], _ =>
    replace h0 : DataW.trod enc Tryd.prog w 0 (fun _ => true) true m 2 (([a, b].drop 0).take (Tryd.prog.cellsOf 2)) = some y0 := h0
    replace h1 : DataW.trod enc Tryd.prog w 0 (fun _ => true) true m 2 (([a, b].drop 1).take (Tryd.prog.cellsOf 2)) = some y1 := h1
    rw [int_cell1] at h0 h1
    obtain ⟨kd, e0, _, _⟩ := DataW.trod_int Tryd.underlying2 h0
    obtain ⟨vl, e1, _, _⟩ := DataW.trod_int Tryd.underlying2 h1
    simp at e0 e1
    exact ⟨kd, vl, by rw [e0, e1]⟩
theorem open_sym {H : Type} {enc : TypeId × Value → H} {W : World} {base : Nat} {v : Value} {d : DataW H} {p : List MemPlace}
    (hv : Value.okWide Tryd.prog W .any base 52 v) (h : DataW.Trod enc Tryd.prog W 0 (fun _ => true) true 52 v d p) :
    ∃ kd vl : Int, v = .agg #[.int .i64 kd, .int .i64 vl] := by
  obtain ⟨cs, rfl, hsz⟩ := okWide_struct Tryd.underlying52 hv
  obtain ⟨fuel, hf⟩ := h
  obtain ⟨kd, vl, e⟩ := trod_symcells hf
  refine ⟨kd, vl, ?_⟩
  simp [Value.cells] at e
  rw [← e]
theorem lbind_cells : Tryd.prog.cellsOf 61 = 4 := by kernel_rfl
theorem trod_bindcells {H : Type} {enc : TypeId × Value → H} {w : World} {n : Nat} {cs : List Value} {y : DataW H × List MemPlace}
    (h : DataW.trod enc Tryd.prog w 0 (fun _ => true) true n 61 cs = some y) : ∃ q : Bd, cs = bcs q := by
  obtain ⟨y0, y1, y2, m, _, hl, h0, h1, h2⟩ : ∃ y0 y1 y2 m, True ∧ cs.length = Tryd.prog.cellsOf 61 ∧ _ ∧ _ ∧ _ := by
    obtain ⟨xs, k, hk, hxy, hl, hxl, hf⟩ := DataW.trod_struct Tryd.underlying61 h
    match xs, hxl with
    | [y0, y1, y2], _ => exact ⟨y0, y1, y2, k, trivial, hl, hf 0 _ rfl, hf 1 _ rfl, hf 2 _ rfl⟩
  rw [lbind_cells] at hl
  match cs, hl with
  | [a, b, c, d], _ =>
    replace h0 : DataW.trod enc Tryd.prog w 0 (fun _ => true) true m 2 (([a, b, c, d].drop 0).take (Tryd.prog.cellsOf 2)) = some y0 := h0
    replace h1 : DataW.trod enc Tryd.prog w 0 (fun _ => true) true m 2 (([a, b, c, d].drop 1).take (Tryd.prog.cellsOf 2)) = some y1 := h1
    replace h2 : DataW.trod enc Tryd.prog w 0 (fun _ => true) true m 52 (([a, b, c, d].drop 2).take (Tryd.prog.cellsOf 52)) = some y2 := h2
    rw [int_cell1] at h0 h1
    rw [lsym_cells] at h2
    obtain ⟨k, e0, _, _⟩ := DataW.trod_int Tryd.underlying2 h0
    obtain ⟨m, e1, _, _⟩ := DataW.trod_int Tryd.underlying2 h1
    obtain ⟨kd, vl, e2⟩ := trod_symcells h2
    simp at e0 e1 e2
    exact ⟨(k, m, kd, vl), by rw [e0, e1, e2.1, e2.2]; rfl⟩
theorem open_bind {H : Type} {enc : TypeId × Value → H} {W : World} {base : Nat} {v : Value} {d : DataW H} {p : List MemPlace}
    (hv : Value.okWide Tryd.prog W .any base 61 v) (h : DataW.Trod enc Tryd.prog W 0 (fun _ => true) true 61 v d p) :
    ∃ q : Bd, v = .agg (bcs q).toArray := by
  obtain ⟨cs, rfl, hsz⟩ := okWide_struct Tryd.underlying61 hv
  obtain ⟨fuel, hf⟩ := h
  obtain ⟨q, e⟩ := trod_bindcells hf
  refine ⟨q, ?_⟩
  simp [Value.cells] at e
  rw [← e]
set_option maxRecDepth 100000 in
theorem open_binds {H : Type} {enc : TypeId × Value → H} {W : World} {v : Value} {d : DataW H} {p : List MemPlace}
    (hv : v.cells.toList = [v]) (h : DataW.Trod enc Tryd.prog W 0 (fun _ => true) true 55 v d p) :
    ∃ ps : List Bd, QRead W v ps ∧ ps.length ≤ maxLen := by
  obtain ⟨fuel, hf⟩ := h
  rw [hv] at hf
  rcases Go.Deep.open_slice Tryd.underlying55 hf with ⟨e1, _⟩ | ⟨a, len, cap, mm, n, D, Pl, e1, _, hl, hm, hmm, _, hx⟩
  · simp at e1
    subst e1
    exact ⟨[], QRead.nil _ _ _, by simp⟩
  · simp at e1
    subst e1
    have hlm : len ≤ mm := by rw [hmm]; split <;> omega
    have each : ∀ i, i < len → ∃ q : Bd, ∀ j, j < 4 → W.cell? ((a.add (i * 4)).add j) = (bcs q)[j]? := by
      intro i hi
      obtain ⟨cs', h1, h2⟩ := hx i (by omega)
      rw [lbind_cells] at h1
      obtain ⟨_, hlen, hcell⟩ := World.cells?_some h1
      obtain ⟨q, hq⟩ := trod_bindcells h2
      subst hq
      exact ⟨q, fun j hj => by rw [hcell j hj]⟩
    obtain ⟨q, hq⟩ := Go.Deep.choose_lt each
    have hlen : ((List.range len).map q).length = len := by simp
    refine ⟨(List.range len).map q, ⟨_, _, by rw [hlen], ?_⟩, by omega⟩
    by_cases h0 : len = 0
    · left; subst h0; rfl
    · right
      obtain ⟨b, off, spot⟩ := a
      have hc0 := hq 0 (by omega) 0 (by omega)
      have hspot : spot = none := by
        have hc1 : W.cell? ((((⟨b, off, spot⟩ : Addr)).add (0 * 4)).add 0) = some (.int .i64 (q 0).1) := hc0
        simpa [Addr.add] using World.cell?_spot hc1
      subst hspot
      refine ⟨b, off, rfl, fun i hi => ?_⟩
      rw [hlen] at hi
      have hg : ((List.range len).map q).getD i b0 = q i := by simp [List.getD_eq_getElem?_getD, hi]
      rw [hg]
      have hj := hq i hi
      refine ⟨?_, ?_, ?_, ?_⟩
      · have := hj 0 (by omega); rw [Addr.add_lit, Addr.add_lit] at this; exact this
      · have := hj 1 (by omega); rw [Addr.add_lit, Addr.add_lit] at this; exact this
      · have := hj 2 (by omega); rw [Addr.add_lit, Addr.add_lit] at this; exact this
      · have := hj 3 (by omega); rw [Addr.add_lit, Addr.add_lit] at this; exact this
end Go.Proofs.YtcfechnkgefhcaaDoor
