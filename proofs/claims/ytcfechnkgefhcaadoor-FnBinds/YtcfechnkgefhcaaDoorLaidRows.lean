/-
  A package-level array of structs of integers that reads as a table holds the table's numbers, cell for cell.
-/
import Derived.Test.YtcfechnkgefhcaaDoorMem
import Derived.Lib.LaidTab
import Derived.ChangeVars
namespace Go.Proofs.YtcfechnkgefhcaaDoor
set_option maxRecDepth 20000
open Go.ChangeShapes Go.WideShapes Go.ChangeAt Go.RowKit
set_option linter.unusedVariables false
set_option linter.unusedSimpArgs false

def rowData {H : Type} (z : List Int) : DataW H := .agg (z.map fun x => .lit (.int .i64 x))
def rowsData {H : Type} (zs : List (List Int)) : DataW H := .agg (zs.map rowData)
def rowCells (zs : List (List Int)) : List Value := zs.flatMap fun z => z.map (Value.int .i64)
theorem rowCells_length {m : Nat} : ∀ (zs : List (List Int)), (∀ z ∈ zs, z.length = m) → (rowCells zs).length = zs.length * m
  | [], _ => by simp [rowCells]
  | z :: zs, h => by
    have ih := rowCells_length zs (fun y hy => h y (List.mem_cons_of_mem _ hy))
    have hz := h z List.mem_cons_self
    simp only [rowCells, List.flatMap_cons, List.length_append, List.length_map] at ih ⊢
    rw [ih, hz, List.length_cons, Nat.succ_mul]
    omega
theorem rowCells_at {m : Nat} : ∀ (zs : List (List Int)) (i j : Nat) (z : List Int), (∀ z ∈ zs, z.length = m) → zs[i]? = some z → j < m → (rowCells zs)[i * m + j]? = (z[j]?).map (Value.int .i64)
  | [], i, j, z, _, h, _ => by simp at h
  | y :: zs, 0, j, z, hl, h, hj => by
    simp at h
    subst h
    have hz := hl y List.mem_cons_self
    simp only [rowCells, List.flatMap_cons, Nat.zero_mul, Nat.zero_add]
    rw [List.getElem?_append_left (by rw [List.length_map]; omega), List.getElem?_map]
  | y :: zs, i + 1, j, z, hl, h, hj => by
    have hz := hl y List.mem_cons_self
    have ih := rowCells_at zs i j z (fun y hy => hl y (List.mem_cons_of_mem _ hy)) (by simpa using h) hj
    have e : (i + 1) * m + j = m + (i * m + j) := by rw [Nat.succ_mul]; omega
    rw [show rowCells (y :: zs) = y.map (Value.int .i64) ++ rowCells zs from rfl, List.getElem?_append_right (by rw [List.length_map, e]; omega), List.length_map, hz, e, Nat.add_sub_cancel_left]
    exact ih

theorem cells_of_row {H : Type} {enc : TypeId × Value → H} {P : Program} {w : World} {base : Nat} {sp : Nat → Bool} {held : Bool} {fuel : Nat} {e : TypeId} {fs : Array Field} {m : Nat} {cs : List Value} {z : List Int} {p : List MemPlace}
    (he : P.underlying e = some (.struct fs)) (hce : P.cellsOf e = m) (hz : z.length = m)
    (hfs : ∀ j, j < m → ∃ f, fs.toList[j]? = some f ∧ f.offset = j ∧ P.underlying f.type = some (.int .i64) ∧ P.cellsOf f.type = 1)
    (h : DataW.trod enc P w base sp held fuel e cs = some (rowData z, p)) : cs = z.map (Value.int .i64) := by
  cases fuel with
  | zero => simp [DataW.trod] at h
  | succ fuel =>
    simp only [DataW.trod, he, hce] at h
    split at h
    · rename_i hl
      obtain ⟨xs, hm, hx⟩ := Option.map_eq_some_iff.1 h
      have hxs : xs.map (·.1) = z.map fun z => (DataW.lit (.int .i64 z) : DataW H) := by
        have := congrArg Prod.fst hx
        simpa [rowData] using this
      apply List.ext_getElem?
      intro j
      by_cases hj : j < m
      · obtain ⟨f, hf, hoff, hu, hc1⟩ := hfs j hj
        obtain ⟨b, hb, hfb⟩ := Lib.mapM_at hm j f hf
        rw [hoff, hc1] at hfb
        obtain ⟨q, hc, rfl, _⟩ := DataW.trod_int hu hfb
        have h1 : cs[j]? = some (.int .i64 q) := by
          have := congrArg (·[0]?) hc
          simpa [List.getElem?_take, List.getElem?_drop] using this
        have h2 : (xs.map (·.1))[j]? = some (DataW.lit (.int .i64 q) : DataW H) := by simp [hb]
        rw [hxs] at h2
        simp only [List.getElem?_map, Option.map_eq_some_iff, DataW.lit.injEq, Lit.int.injEq, true_and] at h2
        obtain ⟨q', hq', rfl⟩ := h2
        rw [h1, List.getElem?_map, hq']
        rfl
      · rw [List.getElem?_eq_none (by omega), List.getElem?_eq_none (by simp; omega)]
    · cases h

theorem cells_of_rows {H : Type} {enc : TypeId × Value → H} {P : Program} {w : World} {base : Nat} {sp : Nat → Bool} {held : Bool} {fuel : Nat} {t e : TypeId} {n m : Nat} {fs : Array Field} {cs : List Value} {zs : List (List Int)} {p : List MemPlace}
    (ht : P.underlying t = some (.array n e)) (he : P.underlying e = some (.struct fs)) (hce : P.cellsOf e = m) (hct : P.cellsOf t = n * m) (hm0 : 0 < m) (hzl : zs.length = n) (hz : ∀ z ∈ zs, z.length = m)
    (hfs : ∀ j, j < m → ∃ f, fs.toList[j]? = some f ∧ f.offset = j ∧ P.underlying f.type = some (.int .i64) ∧ P.cellsOf f.type = 1)
    (h : DataW.trod enc P w base sp held fuel t cs = some (rowsData zs, p)) : cs = rowCells zs := by
  cases fuel with
  | zero => simp [DataW.trod] at h
  | succ fuel =>
    simp only [DataW.trod, ht, hce, hct] at h
    split at h
    · rename_i hl
      obtain ⟨xs, hm, hx⟩ := Option.map_eq_some_iff.1 h
      have hxs : xs.map (·.1) = zs.map fun z => (rowData z : DataW H) := by
        have := congrArg Prod.fst hx
        simpa [rowsData] using this
      apply List.ext_getElem?
      intro q
      by_cases hq : q < n * m
      · have hi : q / m < n := Nat.div_lt_of_lt_mul (by rw [Nat.mul_comm]; exact hq)
        have hj : q % m < m := Nat.mod_lt _ hm0
        have eq : q = q / m * m + q % m := by rw [Nat.mul_comm]; exact (Nat.div_add_mod q m).symm
        obtain ⟨b, hb, hf⟩ := Lib.mapM_at hm (q / m) (q / m) (by simp [hi])
        have h2 : (xs.map (·.1))[q / m]? = some b.1 := by simp [hb]
        rw [hxs] at h2
        simp only [List.getElem?_map, Option.map_eq_some_iff] at h2
        obtain ⟨z, hzi, hzb⟩ := h2
        have hzm : z.length = m := hz z (List.mem_of_getElem? hzi)
        have hrow := cells_of_row he hce hzm hfs (show DataW.trod enc P w base sp held fuel e ((cs.drop (q / m * m)).take m) = some (rowData z, b.2) by rw [hf, hzb])
        have hl2 := rowCells_at zs (q / m) (q % m) z hz hzi hj
        rw [← eq] at hl2
        rw [hl2]
        have h3 := congrArg (·[q % m]?) hrow
        simp only [List.getElem?_take_of_lt hj, List.getElem?_drop, List.getElem?_map] at h3
        rw [← eq] at h3
        exact h3
      · rw [List.getElem?_eq_none (by omega), List.getElem?_eq_none (by rw [rowCells_length zs hz, hzl]; omega)]
    · cases h

end Go.Proofs.YtcfechnkgefhcaaDoor
