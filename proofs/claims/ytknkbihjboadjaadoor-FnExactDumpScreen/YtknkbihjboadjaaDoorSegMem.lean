/-
  A part of a block (Seg): its cells from a place on; its loads and stores; what has turned (Turn).
-/
import Derived.Test.YtknkbihjboadjaaDoorBlk
import Derived.Test.YtknkbihjboadjaaDoorRowMem
namespace Go.Proofs.YtknkbihjboadjaaDoor
set_option maxRecDepth 20000
open Go.ChangeShapes Go.WideShapes Go.ChangeAt Go.RowKit
set_option linter.unusedVariables false
set_option linter.unusedSimpArgs false

/-- From cell o on the block b holds the cells cs; others may lie ahead of them and behind them. -/
def Seg (w : World) (b o : Nat) (cs : Array Value) : Prop := ∃ all t, w.heap[b]? = some (.cells all t (0, 0)) ∧ o + cs.size ≤ all.size ∧ ∀ i, i < cs.size → all[o + i]? = cs[i]?

theorem Blk.seg {w : World} {b : Nat} {cs : Array Value} (h : Blk w b cs) : Seg w b 0 cs := by
  obtain ⟨t, h⟩ := h
  exact ⟨cs, t, h, by omega, fun i _ => by rw [Nat.zero_add]⟩
theorem Seg.part {w : World} {b o : Nat} {cs ds : Array Value} (h : Seg w b o cs) (k : Nat) (hk : Nat.ble (k + ds.size) cs.size = true) (e : (cs.toList.drop k).take ds.size = ds.toList) : Seg w b (o + k) ds := by
  obtain ⟨all, t, hh, hl, hc⟩ := h
  have hk' := Nat.le_of_ble_eq_true hk
  refine ⟨all, t, hh, by omega, fun i hi => ?_⟩
  rw [Nat.add_assoc, hc (k + i) (by omega), ← Array.getElem?_toList, ← Array.getElem?_toList, ← e, List.getElem?_take, if_pos hi, List.getElem?_drop]
theorem Seg.at {w : World} {b o : Nat} {cs : Array Value} (h : Seg w b o cs) (i : Nat) {v : Value} (hv : cs[i]? = some v) : w.cell? ⟨b, o + i, none⟩ = some v := by
  obtain ⟨all, t, hh, hl, hc⟩ := h
  have hi : i < cs.size := by
    rcases Nat.lt_or_ge i cs.size with g | g
    · exact g
    · rw [Array.getElem?_eq_none g] at hv; cases hv
  rw [cell_of_row w b (o + i) all t _ hh, hc i hi, hv]
theorem Seg.at0 {w : World} {b o : Nat} {cs : Array Value} (h : Seg w b o cs) {v : Value} (hv : cs[0]? = some v) : w.cell? ⟨b, o, none⟩ = some v := h.at 0 hv
theorem Seg.froz {w : World} {b o : Nat} {cs : Array Value} (h : Seg w b o cs) : ∀ i, w.frozen? ⟨b, i, none⟩ = false := by
  obtain ⟨all, t, hh, _⟩ := h; intro i; simp [World.frozen?, hh]
theorem Seg.lt {w : World} {b o : Nat} {cs : Array Value} (h : Seg w b o cs) : b < w.heap.size := by
  obtain ⟨all, t, hh, _⟩ := h
  exact Blk.lt ⟨t, hh⟩
theorem Seg.of_block {w w' : World} {b o : Nat} {cs : Array Value} (h : Seg w b o cs) (e : w'.heap[b]? = w.heap[b]?) : Seg w' b o cs := by
  obtain ⟨all, t, hh, r⟩ := h; exact ⟨all, t, e.trans hh, r⟩
theorem Seg.alloc {w : World} {b o : Nat} {cs : Array Value} (h : Seg w b o cs) (x : Obj) : Seg (w.alloc x) b o cs := h.of_block (Below.heap_alloc w x b h.lt)
theorem Seg.below {B : Nat} {w w' : World} {b o : Nat} {cs : Array Value} (h : Seg w b o cs) (hb : Below B w w') (hB : b < B) : Seg w' b o cs := h.of_block (hb.block b hB)
theorem Seg.belowb {w w' : World} {b o : Nat} {cs : Array Value} (h : Seg w b o cs) (hb : Below w.heap.size w w') : Seg w' b o cs := h.below hb h.lt
theorem Seg.within {lo hi : Nat} {w w' : World} {b o : Nat} {cs : Array Value} (h : Seg w b o cs) (hb : Within lo hi w w') (hB : b < lo ∨ hi ≤ b) : Seg w' b o cs := h.of_block (hb.block b h.lt hB)
theorem Seg.drewN {w : World} {b o : Nat} {cs : Array Value} (h : Seg w b o cs) (n : Nat) : Seg (w.drewN n) b o cs := h
theorem Seg.drew {w : World} {b o : Nat} {cs : Array Value} (h : Seg w b o cs) : Seg w.drew b o cs := h
theorem Seg.touch {c p q : Nat} {w w' : World} {b o : Nat} {cs : Array Value} (h : Seg w b o cs) (t : Touch c p q w w') (hb : b ≠ c) : Seg w' b o cs := h.of_block (t.block b h.lt hb)
theorem Seg.upd {g : Nat} {w w' : World} {b o : Nat} {cs : Array Value} (h : Seg w b o cs) (hu : Upd g w w') (hb : b ≠ g) : Seg w' b o cs := h.of_block (hu.block b hb)

/-- Of the blocks that were there only b (its cells p to q - 1) and those of O have turned. -/
structure Turn (O : Nat → Prop) (b p q : Nat) (w w' : World) : Prop where
  os : w'.os = w.os
  tape : w'.tape = w.tape
  output : w'.output = w.output
  size : w.heap.size ≤ w'.heap.size
  block : ∀ k, k < w.heap.size → k ≠ b → ¬ O k → w'.heap[k]? = w.heap[k]?
  self : ∀ all t, w.heap[b]? = some (.cells all t (0, 0)) → ∃ all', w'.heap[b]? = some (.cells all' t (0, 0)) ∧ all'.size = all.size ∧ ∀ i, i < p ∨ q ≤ i → all'[i]? = all[i]?
theorem Turn.refl (O : Nat → Prop) (b p q : Nat) (w : World) : Turn O b p q w w := ⟨rfl, rfl, rfl, Nat.le_refl _, fun _ _ _ _ => rfl, fun all t h => ⟨all, h, rfl, fun _ _ => rfl⟩⟩
theorem Turn.trans {O : Nat → Prop} {b p q : Nat} {x y z : World} (h : Turn O b p q x y) (k : Turn O b p q y z) : Turn O b p q x z := by
  refine ⟨k.os.trans h.os, k.tape.trans h.tape, k.output.trans h.output, Nat.le_trans h.size k.size, fun i hi hb ho => (k.block i (Nat.lt_of_lt_of_le hi h.size) hb ho).trans (h.block i hi hb ho), fun all t e => ?_⟩
  obtain ⟨a1, e1, s1, c1⟩ := h.self all t e
  obtain ⟨a2, e2, s2, c2⟩ := k.self a1 t e1
  exact ⟨a2, e2, s2.trans s1, fun i hi => (c2 i hi).trans (c1 i hi)⟩
theorem Turn.mono {O : Nat → Prop} {b p q p' q' : Nat} {w w' : World} (h : Turn O b p q w w') (h1 : p' ≤ p) (h2 : q ≤ q') : Turn O b p' q' w w' := by
  refine ⟨h.os, h.tape, h.output, h.size, h.block, fun all t e => ?_⟩
  obtain ⟨a1, e1, s1, c1⟩ := h.self all t e
  exact ⟨a1, e1, s1, fun i hi => c1 i (by omega)⟩
theorem Turn.grow {O O' : Nat → Prop} {b p q : Nat} {w w' : World} (h : Turn O b p q w w') (hO : ∀ k, k < w.heap.size → O k → O' k) : Turn O' b p q w w' :=
  ⟨h.os, h.tape, h.output, h.size, fun k hk hb ho => h.block k hk hb (fun x => ho (hO k hk x)), h.self⟩
theorem Turn.of_below {O : Nat → Prop} {b p q : Nat} {w w' : World} (hb : b < w.heap.size) (h : Below w.heap.size w w') : Turn O b p q w w' :=
  ⟨h.os, h.tape, h.output, h.size, fun k hk _ _ => h.block k hk, fun all t e => ⟨all, (h.block b hb).trans e, rfl, fun _ _ => rfl⟩⟩
theorem Turn.of_touch {O : Nat → Prop} {b p q c p' q' : Nat} {w w' : World} (hb : b < w.heap.size) (hc : O c) (hbc : b ≠ c) (h : Touch c p' q' w w') : Turn O b p q w w' :=
  ⟨h.os, h.tape, h.output, h.size, fun k hk _ ho => h.block k hk (fun e => ho (e ▸ hc)), fun all t e => ⟨all, (h.block b hb hbc).trans e, rfl, fun _ _ => rfl⟩⟩
theorem Turn.below {O : Nat → Prop} {b p q B : Nat} {w w' : World} (h : Turn O b p q w w') (hO : ∀ k, k < B → ¬ O k) (hb : B ≤ b) (hB : B ≤ w.heap.size) : Below B w w' :=
  ⟨h.os, h.tape, h.output, h.size, fun k hk => h.block k (by omega) (by omega) (hO k hk)⟩
theorem Seg.turn {O : Nat → Prop} {c p q : Nat} {w w' : World} {b o : Nat} {cs : Array Value} (h : Seg w b o cs) (t : Turn O c p q w w') (hb : b ≠ c) (hO : ¬ O b) : Seg w' b o cs := h.of_block (t.block b h.lt hb hO)
theorem Seg.turn_self {O : Nat → Prop} {p q : Nat} {w w' : World} {b o : Nat} {cs : Array Value} (h : Seg w b o cs) (t : Turn O b p q w w') (hp : o + cs.size ≤ p ∨ q ≤ o) : Seg w' b o cs := by
  obtain ⟨all, ty, hh, hl, hc⟩ := h
  obtain ⟨a1, e1, s1, c1⟩ := t.self all ty hh
  exact ⟨a1, ty, e1, by omega, fun i hi => (c1 (o + i) (by omega)).trans (hc i hi)⟩

theorem Seg.set {O : Nat → Prop} {w : World} {b o : Nat} {cs : Array Value} (h : Seg w b o cs) (i : Nat) (hi : i < cs.size) (v : Value) : Seg (w.setCell ⟨b, o + i, none⟩ v) b o (cs.setIfInBounds i v) ∧ Turn O b o (o + cs.size) w (w.setCell ⟨b, o + i, none⟩ v) := by
  obtain ⟨all, t, hh, hl, hc⟩ := h
  have e : (w.setCell ⟨b, o + i, none⟩ v).heap[b]? = some (.cells (all.setIfInBounds (o + i) v) t (0, 0)) := by
    rw [setCell_eq_setRow w b (o + i) all t (0, 0) v hh]
    exact setRow_heap w b all _ t _ hh
  refine ⟨⟨_, t, e, by simpa using hl, fun k hk => ?_⟩, rfl, rfl, rfl, by simp [World.setCell], fun k hk hkb _ => Below.heap_setCell w _ v k hkb, fun all' t' e' => ?_⟩
  · simp only [Array.size_setIfInBounds] at hk
    rw [Array.getElem?_setIfInBounds, Array.getElem?_setIfInBounds]
    by_cases hki : i = k
    · subst hki; simp [show o + i < all.size by omega, hi]
    · rw [if_neg (by omega), if_neg hki]; exact hc k hk
  · rw [hh] at e'
    injection e' with e'
    injection e' with a1 a2 a3
    subst a1; subst a2
    refine ⟨_, e, by simp, fun k hk => ?_⟩
    rw [Array.getElem?_setIfInBounds, if_neg (by omega)]
/-- Cells laid one behind the other over those of an array from a place on. -/
def laidAt (cs : Array Value) : Nat → List Value → Array Value
  | _, [] => cs
  | k, v :: r => laidAt (cs.setIfInBounds k v) (k + 1) r
theorem laidAt_size : ∀ (vs : List Value) (cs : Array Value) (k : Nat), (laidAt cs k vs).size = cs.size
  | [], _, _ => rfl
  | v :: r, cs, k => by rw [laidAt, laidAt_size r]; simp
theorem Seg.sets {O : Nat → Prop} {b o : Nat} : ∀ (vs : List Value) (k : Nat) (w : World) (cs : Array Value), Seg w b o cs → k + vs.length ≤ cs.size → Seg (w.setCells b (o + k) vs) b o (laidAt cs k vs) ∧ Turn O b o (o + cs.size) w (w.setCells b (o + k) vs)
  | [], k, w, cs, h, _ => ⟨h, Turn.refl _ _ _ _ _⟩
  | v :: r, k, w, cs, h, hl => by
    simp only [List.length_cons] at hl
    obtain ⟨h1, t1⟩ := h.set (O := O) k (by omega) v
    obtain ⟨h2, t2⟩ := Seg.sets (O := O) r (k + 1) _ _ h1 (by simp; omega)
    rw [World.setCells, laidAt, Nat.add_assoc o k 1]
    rw [show (cs.setIfInBounds k v).size = cs.size by simp] at t2
    exact ⟨h2, t1.trans t2⟩

section
variable {P : Program}
/-- A struct that lies in a part of a block from its place k on, loaded. -/
theorem run_loadVar_seg {w : World} {g o k : Nat} {ty : TypeId} {cs vs : Array Value} {d : TypeDesc} (h : Seg w g o cs) (hv : (cs.toList.drop k).take vs.size = vs.toList)
    (hu : P.underlying ty = some d) (hd : (match d with | .struct _ | .array _ _ => true | _ => false) = true) (hi : (P.info? ty).map (·.size) = some vs.size) :
    (loadVar ty ⟨g, o + k, none⟩).run P w = .ok (.agg vs) w := by
  have hl : (loadCells ⟨g, o + k, none⟩ vs.toList.length).run P w = .ok vs.toList.toArray w :=
    run_loadCells_list (P := P) w ⟨g, o + k, none⟩ vs.toList (fun j v hj => by
      have hadd : (⟨g, o + k, none⟩ : Addr).add j = ⟨g, o + k + j, none⟩ := by unfold Addr.add; split <;> simp_all
      rw [hadd, Nat.add_assoc]
      refine h.at (k + j) ?_
      rw [← hv, List.getElem?_take, List.getElem?_drop] at hj
      split at hj
      · rw [← Array.getElem?_toList]; exact hj
      · cases hj)
  cases hq : P.info? ty with
  | none => simp [hq] at hi
  | some i =>
    have hs : i.size = vs.size := by simpa [hq] using hi
    have hagg : (isAgg ty).run P w = .ok true w := by
      unfold isAgg
      rw [Sem.run_bind, run_underlying hu w]
      cases d <;> simp_all
    simp only [Array.length_toList, Array.toArray_toList] at hl
    simp [loadVar, Sem.run_bind, hagg, sizeOf, typeInfo, hq, hs, hl]
theorem wpList_load_seg {ops : Array Oper} {rest : List Oper} {q : Oper} {a : Act} {w : World} {Q : Exit → Act → World → Prop} (hw : Region.wanted q (yielded ops a.tmps) = true) (ty : TypeId) (x : Operand) (ho : q.op = .load ty x)
    (g o k : Nat) (cs vs : Array Value) (hg : Seg w g o cs) (hx : a.eval x = .pointer (some ⟨g, o + k, none⟩)) (hv : (cs.toList.drop k).take vs.size = vs.toList) (d : TypeDesc)
    (hu : P.underlying ty = some d) (hd : (match d with | .struct _ | .array _ _ => true | _ => false) = true) (hi : (P.info? ty).map (·.size) = some vs.size)
    (h : wpList P ops Q rest (a.put q.dst (.agg vs)) w) : wpList P ops Q (q :: rest) a w :=
  BigFrame.wpList_want hw fun K hK => by
    unfold Oper.wp execOp
    simp only [ho, hx, Instr.loadAt, Instr.sureAddr, Sem.run_bind, Sem.run_pure, Result.andThen_ok, run_loadVar_seg hg hv hu hd hi]
    exact hK _ _ h
/-- A store (of one cell, of a struct) into a part of a block. -/
theorem run_storeVar_seg {w : World} {g o k : Nat} {ty : TypeId} {cs : Array Value} {v : Value} (h : Seg w g o cs) (hl : k + v.cells.size ≤ cs.size) (hi : (P.info? ty).map (·.size) = some v.cells.size) (h1 : v.cells.toList.all (·.oneCell') = true) :
    (storeVar ty ⟨g, o + k, none⟩ v).run P w = .ok () (w.setCells g (o + k) v.cells.toList) := by
  have hs := run_storeCells_cells (P := P) g (o + k) v.cells.toList 0 w (fun j hj => by
      simp at hj
      have hj' : k + j < cs.size := by omega
      have := h.at (k + j) (Array.getElem?_eq_getElem hj')
      rw [Nat.add_zero, Nat.add_assoc, this]; rfl) (fun j hj => h.froz _) (fun x hx => List.all_eq_true.1 h1 x hx)
  cases hq : P.info? ty with
  | none => simp [hq] at hi
  | some i =>
    have hz : v.cells.size = i.size := by simp [hq] at hi; omega
    simp [storeVar, sizeOf, typeInfo, hq, hz, hs]
theorem wpList_store_seg {ops : Array Oper} {rest : List Oper} {q : Oper} {a : Act} {w : World} {Q : Exit → Act → World → Prop} (hw : Region.wanted q (yielded ops a.tmps) = true) (O : Nat → Prop) (ty : TypeId) (x y : Operand) (ho : q.op = .store ty x y)
    (g o k : Nat) (cs : Array Value) (v : Value) (hg : Seg w g o cs) (hx : a.eval x = .pointer (some ⟨g, o + k, none⟩)) (hy : a.eval y = v) (hl : Nat.ble (k + v.cells.size) cs.size = true) (hi : (P.info? ty).map (·.size) = some v.cells.size)
    (h1 : v.cells.toList.all (·.oneCell') = true)
    (h : ∀ w', Seg w' g o (laidAt cs k v.cells.toList) → Turn O g o (o + cs.size) w w' → wpList P ops Q rest (a.put q.dst undef) w') : wpList P ops Q (q :: rest) a w :=
  BigFrame.wpList_want hw fun K hK => by
    have hl' := Nat.le_of_ble_eq_true hl
    unfold Oper.wp execOp
    simp only [ho, hx, hy, Instr.storeAt, Instr.sureAddr, Sem.run_bind, Sem.run_pure, Result.andThen_ok, run_storeVar_seg hg hl' hi h1]
    obtain ⟨h2, t2⟩ := hg.sets (O := O) v.cells.toList k w cs (by simpa using hl')
    exact hK _ _ (h _ h2 t2)
end

end Go.Proofs.YtknkbihjboadjaaDoor
