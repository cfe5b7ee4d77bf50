/-
  A whole block of memory (Blk): its cells, its loads (of the whole, of a part), its stores (of a part).
-/
import Derived.Test.YtcfechnkgefhcaaDoorMem
import Derived.Laws.Tables
import Derived.Laws.Rows
import Derived.Laws.IdiomCopy
import Derived.BigFrame
namespace Go.Proofs.YtcfechnkgefhcaaDoor
set_option maxRecDepth 20000
open Go.ChangeShapes Go.WideShapes Go.ChangeAt Go.RowKit
set_option linter.unusedVariables false
set_option linter.unusedSimpArgs false

/-- The block b holds the cells cs. -/
def Blk (w : World) (b : Nat) (cs : Array Value) : Prop := ∃ t, w.heap[b]? = some (.cells cs t (0, 0))

theorem Blk.cells {w : World} {b : Nat} {cs : Array Value} (h : Blk w b cs) : ∀ i, w.cell? ⟨b, i, none⟩ = cs[i]? := by
  obtain ⟨t, h⟩ := h; intro i; exact cell_of_row w b i cs t _ h
theorem Blk.at {w : World} {b : Nat} {cs : Array Value} (h : Blk w b cs) (i : Nat) {v : Value} (hv : cs[i]? = some v) : w.cell? ⟨b, i, none⟩ = some v := (h.cells i).trans hv
theorem Blk.froz {w : World} {b : Nat} {cs : Array Value} (h : Blk w b cs) : ∀ i, w.frozen? ⟨b, i, none⟩ = false := by
  obtain ⟨t, h⟩ := h; intro i; simp [World.frozen?, h]
theorem Blk.lt {w : World} {b : Nat} {cs : Array Value} (h : Blk w b cs) : b < w.heap.size := by
  obtain ⟨t, h⟩ := h
  rcases Nat.lt_or_ge b w.heap.size with h' | h'
  · exact h'
  · rw [Array.getElem?_eq_none h'] at h; cases h
theorem Blk.new (w : World) (cs : Array Value) (t : TypeId) : Blk (w.alloc (.cells cs t)) w.heap.size cs := ⟨t, heap_alloc_new w _⟩
theorem Blk.new_at {w : World} {b : Nat} (hb : b = w.heap.size) (cs : Array Value) (t : TypeId) : Blk (w.alloc (.cells cs t)) b cs := by subst hb; exact Blk.new w cs t
theorem Blk.of_block {w w' : World} {b : Nat} {cs : Array Value} (h : Blk w b cs) (e : w'.heap[b]? = w.heap[b]?) : Blk w' b cs := by
  obtain ⟨t, h⟩ := h; exact ⟨t, e.trans h⟩
theorem Blk.alloc {w : World} {b : Nat} {cs : Array Value} (h : Blk w b cs) (o : Obj) : Blk (w.alloc o) b cs := h.of_block (Below.heap_alloc w o b h.lt)
theorem Blk.below {B : Nat} {w w' : World} {b : Nat} {cs : Array Value} (h : Blk w b cs) (hb : Below B w w') (hB : b < B) : Blk w' b cs := h.of_block (hb.block b hB)
theorem Blk.belowb {w w' : World} {b : Nat} {cs : Array Value} (h : Blk w b cs) (hb : Below w.heap.size w w') : Blk w' b cs := h.below hb h.lt
theorem Blk.within {lo hi : Nat} {w w' : World} {b : Nat} {cs : Array Value} (h : Blk w b cs) (hb : Within lo hi w w') (hB : b < lo ∨ hi ≤ b) : Blk w' b cs := h.of_block (hb.block b h.lt hB)
theorem Blk.drewN {w : World} {b : Nat} {cs : Array Value} (h : Blk w b cs) (n : Nat) : Blk (w.drewN n) b cs := h
theorem Blk.drew {w : World} {b : Nat} {cs : Array Value} (h : Blk w b cs) : Blk w.drew b cs := h
theorem Blk.set {w : World} {b : Nat} {cs cs' : Array Value} (h : Blk w b cs) (i : Nat) (v : Value) (hA : cs.setIfInBounds i v = cs') : Blk (w.setCell ⟨b, i, none⟩ v) b cs' := by
  obtain ⟨t, h⟩ := h
  refine ⟨t, ?_⟩
  rw [setCell_eq_setRow w b i cs t (0, 0) v h, ← hA]
  exact setRow_heap w b cs _ t _ h
theorem Blk.set_other {w : World} {b : Nat} {cs : Array Value} (h : Blk w b cs) (p : Addr) (hp : b ≠ p.block) (v : Value) : Blk (w.setCell p v) b cs := h.of_block (Below.heap_setCell w p v b hp)
theorem heap_setCells (b : Nat) : ∀ (vs : List Value) (o : Nat) (w : World) (k : Nat), k ≠ b → (w.setCells b o vs).heap[k]? = w.heap[k]?
  | [], _, _, _, _ => rfl
  | v :: r, o, w, k, hk => by rw [World.setCells, heap_setCells b r (o + 1) _ k hk]; exact Below.heap_setCell w _ v k hk
theorem size_setCells (b : Nat) : ∀ (vs : List Value) (o : Nat) (w : World), (w.setCells b o vs).heap.size = w.heap.size
  | [], _, _ => rfl
  | v :: r, o, w => by rw [World.setCells, size_setCells b r (o + 1) _]; simp [World.setCell]
theorem Below.setCells {B : Nat} {a : World} (b : Nat) (hb : B ≤ b) : ∀ (vs : List Value) (o : Nat) (w : World), Below B a w → Below B a (w.setCells b o vs)
  | [], _, _, h => h
  | v :: r, o, w, h => by rw [World.setCells]; exact Below.setCells b hb r (o + 1) _ (h.setCell hb v)
theorem Blk.sets {b : Nat} {cs : Array Value} : ∀ (vs : List Value) (o : Nat) (w : World), Blk w b cs → o + vs.length ≤ cs.size → Blk (w.setCells b o vs) b (cs.toList.take o ++ vs ++ cs.toList.drop (o + vs.length)).toArray
  | [], o, w, h, _ => by simpa [World.setCells] using h
  | v :: r, o, w, h, hl => by
    simp only [List.length_cons] at hl
    have h1 : Blk (w.setCell ⟨b, o, none⟩ v) b (cs.setIfInBounds o v) := h.set o v rfl
    have h2 := Blk.sets r (o + 1) _ h1 (by simp; omega)
    rw [World.setCells]
    have e : ((cs.setIfInBounds o v).toList.take (o + 1) ++ r ++ (cs.setIfInBounds o v).toList.drop (o + 1 + r.length)).toArray = (cs.toList.take o ++ (v :: r) ++ cs.toList.drop (o + (v :: r).length)).toArray := by
      congr 1
      apply List.ext_getElem?
      intro k
      simp only [Array.toList_setIfInBounds, List.getElem?_append, List.length_take, List.length_set, Array.length_toList, List.length_append, List.length_cons, List.getElem?_drop, List.getElem?_take, List.getElem?_set, List.getElem?_cons]
      by_cases hk : k < o
      · simp [hk, show k < o + 1 by omega, show min (o + 1) cs.size = o + 1 by omega, show min o cs.size = o by omega, show ¬ o = k by omega, show k < o + 1 + r.length by omega, show k < o + (r.length + 1) by omega]
      · by_cases hk2 : k = o
        · subst hk2
          simp [show min (k + 1) cs.size = k + 1 by omega, show min k cs.size = k by omega, show k < k + 1 + r.length by omega, show k < k + (r.length + 1) by omega, show k < cs.size by omega]
        · by_cases hk3 : k < o + 1 + r.length
          · simp [show min (o + 1) cs.size = o + 1 by omega, show min o cs.size = o by omega, show ¬ k < o + 1 by omega, show ¬ k < o by omega, hk3, show k < o + (r.length + 1) by omega, show ¬ k - o = 0 by omega, show k - (o + 1) = k - o - 1 by omega]
          · simp [show min (o + 1) cs.size = o + 1 by omega, show min o cs.size = o by omega, hk3, show ¬ k < o + (r.length + 1) by omega, show o + 1 + r.length + (k - (o + 1 + r.length)) = o + (r.length + 1) + (k - (o + (r.length + 1))) by omega]
            intro e; omega
    rw [← e]
    exact h2
theorem Blk.sets' {w : World} {b o : Nat} {cs cs' : Array Value} {vs : List Value} (h : Blk w b cs) (hl : o + vs.length ≤ cs.size) (e : (cs.toList.take o ++ vs ++ cs.toList.drop (o + vs.length)).toArray = cs') : Blk (w.setCells b o vs) b cs' := by
  rw [← e]; exact Blk.sets vs o w h hl

/-- Of the blocks that were there none but g has turned, and no new one has come. -/
structure Upd (g : Nat) (w w' : World) : Prop where
  os : w'.os = w.os
  tape : w'.tape = w.tape
  output : w'.output = w.output
  size : w'.heap.size = w.heap.size
  block : ∀ k, k ≠ g → w'.heap[k]? = w.heap[k]?
theorem Upd.refl (g : Nat) (w : World) : Upd g w w := ⟨rfl, rfl, rfl, rfl, fun _ _ => rfl⟩
theorem Upd.trans {g : Nat} {a b c : World} (h : Upd g a b) (k : Upd g b c) : Upd g a c :=
  ⟨k.os.trans h.os, k.tape.trans h.tape, k.output.trans h.output, k.size.trans h.size, fun i hi => (k.block i hi).trans (h.block i hi)⟩
theorem Upd.setCell (w : World) (p : Addr) (v : Value) : Upd p.block w (w.setCell p v) := ⟨rfl, rfl, rfl, by simp [World.setCell], fun k hk => Below.heap_setCell w p v k hk⟩
theorem fields_setCells (b : Nat) : ∀ (vs : List Value) (o : Nat) (w : World), (w.setCells b o vs).os = w.os ∧ (w.setCells b o vs).tape = w.tape ∧ (w.setCells b o vs).output = w.output
  | [], _, _ => ⟨rfl, rfl, rfl⟩
  | v :: r, o, w => by rw [World.setCells]; exact fields_setCells b r (o + 1) _
theorem Upd.setCells (b o : Nat) (vs : List Value) (w : World) : Upd b w (w.setCells b o vs) :=
  ⟨(fields_setCells b vs o w).1, (fields_setCells b vs o w).2.1, (fields_setCells b vs o w).2.2, size_setCells b vs o w, fun k hk => heap_setCells b vs o w k hk⟩
theorem Upd.below {g B : Nat} {w w' : World} (h : Upd g w w') (hB : B ≤ g) : Below B w w' := ⟨h.os, h.tape, h.output, Nat.le_of_eq h.size.symm, fun k hk => h.block k (by omega)⟩
theorem Upd.within {g lo hi : Nat} {w w' : World} (h : Upd g w w') (h1 : lo ≤ g) (h2 : g < hi) : Within lo hi w w' := ⟨h.os, h.tape, h.output, Nat.le_of_eq h.size.symm, fun k _ hk => h.block k (by omega)⟩
theorem Blk.upd {g : Nat} {w w' : World} {b : Nat} {cs : Array Value} (h : Blk w b cs) (hu : Upd g w w') (hb : b ≠ g) : Blk w' b cs := h.of_block (hu.block b hb)

section
variable {P : Program}
/-- A struct that lies in a block from place o on, loaded. -/
theorem run_loadVar_at {w : World} {g o : Nat} {ty : TypeId} {cs vs : Array Value} {d : TypeDesc} (h : Blk w g cs) (hv : (cs.toList.drop o).take vs.size = vs.toList)
    (hu : P.underlying ty = some d) (hd : (match d with | .struct _ | .array _ _ => true | _ => false) = true) (hi : (P.info? ty).map (·.size) = some vs.size) :
    (loadVar ty ⟨g, o, none⟩).run P w = .ok (.agg vs) w := by
  have hl : (loadCells ⟨g, o, none⟩ vs.toList.length).run P w = .ok vs.toList.toArray w :=
    run_loadCells_list (P := P) w ⟨g, o, none⟩ vs.toList (fun j v hj => by
      have hadd : (⟨g, o, none⟩ : Addr).add j = ⟨g, o + j, none⟩ := by unfold Addr.add; split <;> simp_all
      rw [hadd, h.cells]
      rw [← hv, List.getElem?_take, List.getElem?_drop] at hj
      split at hj
      · rw [← Array.getElem?_toList]; exact hj
      · cases hj)
  cases hq : P.info? ty with
  | none => simp [hq] at hi
  | some i =>
    have hs : i.size = vs.size := by simpa [hq] using hi
    have hagg : (isAgg ty).run P w = .ok true w := by
      unfold isAgg
      rw [Sem.run_bind, run_underlying hu w]
      cases d <;> simp_all
    simp only [Array.length_toList, Array.toArray_toList] at hl
    simp [loadVar, Sem.run_bind, hagg, sizeOf, typeInfo, hq, hs, hl]

theorem wpList_load_at {ops : Array Oper} {rest : List Oper} {o : Oper} {a : Act} {w : World} {Q : Exit → Act → World → Prop} (hw : Region.wanted o (yielded ops a.tmps) = true) (ty : TypeId) (x : Operand) (ho : o.op = .load ty x)
    (g off : Nat) (hx : a.eval x = .pointer (some ⟨g, off, none⟩)) (cs vs : Array Value) (hg : Blk w g cs) (hv : (cs.toList.drop off).take vs.size = vs.toList) (d : TypeDesc)
    (hu : P.underlying ty = some d) (hd : (match d with | .struct _ | .array _ _ => true | _ => false) = true) (hi : (P.info? ty).map (·.size) = some vs.size)
    (h : wpList P ops Q rest (a.put o.dst (.agg vs)) w) : wpList P ops Q (o :: rest) a w :=
  BigFrame.wpList_want hw fun K hK => by
    unfold Oper.wp execOp
    simp only [ho, hx, Instr.loadAt, Instr.sureAddr, Sem.run_bind, Sem.run_pure, Result.andThen_ok, run_loadVar_at hg hv hu hd hi]
    exact hK _ _ h

/-- A struct stored into a block from place o on. -/
theorem run_storeVar_at {w : World} {g o : Nat} {ty : TypeId} {cs vs : Array Value} (h : Blk w g cs) (hl : o + vs.size ≤ cs.size) (hi : (P.info? ty).map (·.size) = some vs.size) (h1 : vs.all (·.oneCell') = true) :
    (storeVar ty ⟨g, o, none⟩ (.agg vs)).run P w = .ok () (w.setCells g o vs.toList) := by
  have hs := run_storeCells_cells (P := P) g o vs.toList 0 w (fun j hj => by
      simp at hj
      rw [h.cells, Array.getElem?_eq_getElem (by omega)]; rfl) (fun j hj => h.froz _) (fun v hv => (Array.all_eq_true_iff_forall_mem.1 h1) v (by simpa using hv))
  cases hq : P.info? ty with
  | none => simp [hq] at hi
  | some i =>
    have hz : vs.size = i.size := by simp [hq] at hi; omega
    simp [storeVar, sizeOf, typeInfo, hq, Value.cells, hz, hs]

theorem wpList_store_at {ops : Array Oper} {rest : List Oper} {o : Oper} {a : Act} {w : World} {Q : Exit → Act → World → Prop} (hw : Region.wanted o (yielded ops a.tmps) = true) (ty : TypeId) (x y : Operand) (ho : o.op = .store ty x y)
    (g off : Nat) (cs vs : Array Value) (hx : a.eval x = .pointer (some ⟨g, off, none⟩)) (hy : a.eval y = .agg vs) (hg : Blk w g cs) (hl : off + vs.size ≤ cs.size) (hi : (P.info? ty).map (·.size) = some vs.size)
    (h1 : vs.all (·.oneCell') = true)
    (h : wpList P ops Q rest (a.put o.dst undef) (w.setCells g off vs.toList)) : wpList P ops Q (o :: rest) a w :=
  BigFrame.wpList_want hw fun K hK => by
    unfold Oper.wp execOp
    simp only [ho, hx, hy, Instr.storeAt, Instr.sureAddr, Sem.run_bind, Sem.run_pure, Result.andThen_ok, run_storeVar_at hg hl hi h1]
    exact hK _ _ h
/-- A store (of one cell, of a struct) into a block from place o on: what becomes of the world is told, not how. -/
theorem run_storeVar_any {w : World} {g o : Nat} {ty : TypeId} {cs : Array Value} {v : Value} (h : Blk w g cs) (hl : o + v.cells.size ≤ cs.size) (hi : (P.info? ty).map (·.size) = some v.cells.size) (h1 : v.cells.toList.all (·.oneCell') = true) :
    (storeVar ty ⟨g, o, none⟩ v).run P w = .ok () (w.setCells g o v.cells.toList) := by
  have hs := run_storeCells_cells (P := P) g o v.cells.toList 0 w (fun j hj => by
      simp at hj
      rw [h.cells, Array.getElem?_eq_getElem (by omega)]; rfl) (fun j hj => h.froz _) (fun x hx => List.all_eq_true.1 h1 x hx)
  cases hq : P.info? ty with
  | none => simp [hq] at hi
  | some i =>
    have hz : v.cells.size = i.size := by simp [hq] at hi; omega
    simp [storeVar, sizeOf, typeInfo, hq, hz, hs]
theorem wpList_store_blk {ops : Array Oper} {rest : List Oper} {o : Oper} {a : Act} {w : World} {Q : Exit → Act → World → Prop} (hw : Region.wanted o (yielded ops a.tmps) = true) (ty : TypeId) (x y : Operand) (ho : o.op = .store ty x y)
    (g off : Nat) (cs cs' : Array Value) (v : Value) (hx : a.eval x = .pointer (some ⟨g, off, none⟩)) (hy : a.eval y = v) (hg : Blk w g cs) (hl : Nat.ble (off + v.cells.size) cs.size = true) (hi : (P.info? ty).map (·.size) = some v.cells.size)
    (h1 : v.cells.toList.all (·.oneCell') = true) (hc : (cs.toList.take off ++ v.cells.toList ++ cs.toList.drop (off + v.cells.toList.length)).toArray = cs')
    (h : ∀ w', Blk w' g cs' → Upd g w w' → wpList P ops Q rest (a.put o.dst undef) w') : wpList P ops Q (o :: rest) a w :=
  BigFrame.wpList_want hw fun K hK => by
    have hl' := Nat.le_of_ble_eq_true hl
    unfold Oper.wp execOp
    simp only [ho, hx, hy, Instr.storeAt, Instr.sureAddr, Sem.run_bind, Sem.run_pure, Result.andThen_ok, run_storeVar_any hg hl' hi h1]
    exact hK _ _ (h _ (hg.sets' (by simpa using hl') hc) (Upd.setCells g off _ w))

/-- A struct literal. -/
theorem wpList_build_at {ops : Array Oper} {rest : List Oper} {o : Oper} {a : Act} {w : World} {Q : Exit → Act → World → Prop} (hw : Region.wanted o (yielded ops a.tmps) = true) (t : TypeId) (parts : Array (Nat × Operand)) (ho : o.op = .build t parts)
    (cs : Array Value) (hf : P.built t (parts.map fun (i, x) => (i, a.eval x)).toList = some cs)
    (h : wpList P ops Q rest (a.put o.dst (.agg cs)) w) : wpList P ops Q (o :: rest) a w :=
  BigFrame.wpList_want hw fun K hK => wp_build t parts ho (by rw [hf]; rfl) (by rw [hf]; exact hK _ _ h)

/-- What a function answers out of a block. -/
theorem results_blk {fn : Func} {p : Tmp} {ty : TypeId} {w : World} {g : Nat} {cs : Array Value} (hg : Blk w g cs) (tmps : Array Value) (d : TypeDesc) (h : fn.results = #[.cell p ty])
    (hp : tmps.getD p undef = .pointer (some ⟨g, 0, none⟩)) (hu : P.underlying ty = some d) (hd : (match d with | .struct _ | .array _ _ => true | _ => false) = true) (hi : (P.info? ty).map (·.size) = some cs.size) :
    (results fn tmps).run P w = .ok (.agg cs) w := by
  obtain ⟨t, hg⟩ := hg
  exact results_cell_row h tmps w g t cs (0, 0) d hp hg hu hd hi
end

end Go.Proofs.YtcfechnkgefhcaaDoor
