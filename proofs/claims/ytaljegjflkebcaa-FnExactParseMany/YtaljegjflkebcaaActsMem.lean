/-
  A list of actions of the call's own: its row, each action's numbers, the parser's numbers, all apart.
-/
import Derived.Test.YtaljegjflkebcaaStepMath
import Derived.Test.YtaljegjflkebcaaParMem
namespace Go.Proofs.Ytaljegjflkebcaa
open Go.ChangeShapes Go.WideShapes Go.ChangeAt Go.RowKit
set_option linter.unusedVariables false
set_option linter.unusedSimpArgs false

def cells5 (a : Axn) (u : Value) : List Value := [.int .i64 a.kd, .int .i64 a.ch, .int .i64 a.st, .bool a.pv, u]
def cellsOf : List Axn → List Value → List Value
  | a :: al, u :: us => cells5 a u ++ cellsOf al us
  | _, _ => []
theorem cellsOf_snoc : ∀ (al : List Axn) (us : List Value) (a : Axn) (u : Value), us.length = al.length → cellsOf (al ++ [a]) (us ++ [u]) = cellsOf al us ++ cells5 a u
  | [], [], a, u, _ => by simp [cellsOf]
  | b :: al, y :: us, a, u, h => by
    simp only [List.cons_append, cellsOf, List.append_assoc]
    rw [cellsOf_snoc al us a u (by simpa using h)]
  | [], y :: us, a, u, h => by simp at h
  | b :: al, [], a, u, h => by simp at h
theorem cellsOf_get : ∀ (al : List Axn) (us : List Value) (i j : Nat), us.length = al.length → i < al.length → j < 5 → (cellsOf al us)[5 * i + j]? = (cells5 (al.getD i Axn.zero) (us.getD i (.slice none 0 0)))[j]?
  | [], us, i, j, _, h, _ => by simp at h
  | b :: al, [], i, j, h, _, _ => by simp at h
  | b :: al, y :: us, 0, j, h, _, hj => by
    simp only [cellsOf, Nat.mul_zero, Nat.zero_add, List.getD_cons_zero]
    rw [List.getElem?_append_left (by simpa [cells5] using hj)]
  | b :: al, y :: us, i + 1, j, h, hi, hj => by
    simp only [cellsOf, List.getD_cons_succ]
    rw [List.getElem?_append_right (by simp [cells5]; omega)]
    have e : 5 * (i + 1) + j - (cells5 b y).length = 5 * i + j := by simp [cells5]; omega
    rw [e]
    exact cellsOf_get al us i j (by simpa using h) (by simpa using hi) hj

/-- Two lists whose blocks, where they have one, are not the same. -/
def Apart (x y : Value) : Prop := ∀ k, x.ownBlock = some k → y.ownBlock ≠ some k
theorem Apart.symm {x y : Value} (h : Apart x y) : Apart y x := fun k h1 h2 => h k h2 h1
theorem Apart.nil (y : Value) : Apart (.slice none 0 0) y := fun k h => by cases h

structure Acts (base : Nat) (w : World) (v x : Value) (us : List Value) (al : List Axn) (ns : List Int) : Prop where
  len : us.length = al.length
  row : w.ownsRow base 32 5 v al.length (cellsOf al us)
  each : ∀ i, i < al.length → w.ownsRow base 2 1 (us.getD i (.slice none 0 0)) (al.getD i Axn.zero).ns.length (intsV (al.getD i Axn.zero).ns)
  par : w.ownsRow base 2 1 x ns.length (intsV ns)
  xv : Apart x v
  xu : ∀ u ∈ us, Apart x u
  vu : ∀ u ∈ us, Apart v u
  uu : us.Pairwise Apart

theorem Acts.ltu {base : Nat} {w : World} {v x : Value} {us : List Value} {al : List Axn} {ns : List Int} (h : Acts base w v x us al ns) {u : Value} (hu : u ∈ us) {k : Nat} (hk : u.ownBlock = some k) : base ≤ k ∧ k < w.heap.size := by
  obtain ⟨i, hi, rfl⟩ := List.getElem_of_mem hu
  have h1 := h.each i (by rw [← h.len]; exact hi)
  rw [show us.getD i (.slice none 0 0) = us[i] from by simp [List.getD_eq_getElem?_getD, hi]] at h1
  exact h1.lt k hk
/-- What holds stays where the blocks of its own read as they did. -/
theorem Acts.keep {base : Nat} {w w' : World} {v x : Value} {us : List Value} {al : List Axn} {ns : List Int} (h : Acts base w v x us al ns)
    (hv : ∀ k, v.ownBlock = some k → w'.heap[k]? = w.heap[k]?) (hx : ∀ k, x.ownBlock = some k → w'.heap[k]? = w.heap[k]?) (hu : ∀ u ∈ us, ∀ k, u.ownBlock = some k → w'.heap[k]? = w.heap[k]?) : Acts base w' v x us al ns :=
  ⟨h.len, own_block h.row hv, fun i hi => own_block (h.each i hi) (hu _ (by rw [List.getD_eq_getElem?_getD, List.getElem?_eq_getElem (by rw [h.len]; exact hi)]; exact List.getElem_mem _)), own_block h.par hx, h.xv, h.xu, h.vu, h.uu⟩
theorem Acts.blocks {base : Nat} {w w' : World} {v x : Value} {us : List Value} {al : List Axn} {ns : List Int} (h : Acts base w v x us al ns) (hb : ∀ k, base ≤ k → k < w.heap.size → w'.heap[k]? = w.heap[k]?) : Acts base w' v x us al ns :=
  h.keep (fun k hk => hb k (h.row.lt k hk).1 (h.row.lt k hk).2) (fun k hk => hb k (h.par.lt k hk).1 (h.par.lt k hk).2) (fun u hu k hk => hb k (h.ltu hu hk).1 (h.ltu hu hk).2)
theorem Acts.alloc {base : Nat} {w : World} {v x : Value} {us : List Value} {al : List Axn} {ns : List Int} (h : Acts base w v x us al ns) (o : Obj) : Acts base (w.alloc o) v x us al ns :=
  h.blocks fun k _ hk => Below.heap_alloc _ _ _ hk
theorem Acts.drewN {base m : Nat} {w : World} {v x : Value} {us : List Value} {al : List Axn} {ns : List Int} (h : Acts base w v x us al ns) : Acts base (w.drewN m) v x us al ns := h.blocks fun k _ hk => rfl
theorem Acts.drew {base : Nat} {w : World} {v x : Value} {us : List Value} {al : List Axn} {ns : List Int} (h : Acts base w v x us al ns) : Acts base w.drew v x us al ns := h.blocks fun k _ hk => rfl
theorem Acts.start (base : Nat) (w : World) {x : Value} {ns : List Int} (h : w.ownsRow base 2 1 x ns.length (intsV ns)) : Acts base w (.slice none 0 0) x [] [] ns :=
  ⟨rfl, World.ownsRow_nil _ _ _ _, fun i hi => by simp at hi, h, (Apart.nil _).symm, fun u hu => by simp at hu, fun u hu => by simp at hu, List.Pairwise.nil⟩
theorem Acts.below {base B : Nat} {w w' : World} {v x : Value} {us : List Value} {al : List Axn} {ns : List Int} (h : Acts base w v x us al ns) (hb : Below B w w') (hB : w.heap.size ≤ B) : Acts base w' v x us al ns :=
  h.blocks fun k _ hk => hb.block k (by omega)

/-- A block that none of them has. -/
structure Free (b : Nat) (v x : Value) (us : List Value) : Prop where
  fv : some b ≠ v.ownBlock
  fx : some b ≠ x.ownBlock
  fu : ∀ u ∈ us, some b ≠ u.ownBlock
theorem Acts.put {base b o : Nat} {w : World} {v x : Value} {us : List Value} {al : List Axn} {ns : List Int} {z : Value} (h : Acts base w v x us al ns) (hf : Free b v x us) : Acts base (w.setCell ⟨b, o, none⟩ z) v x us al ns :=
  h.keep (fun k hk => Below.heap_setCell _ _ _ _ (fun e => hf.fv (by rw [hk, e]))) (fun k hk => Below.heap_setCell _ _ _ _ (fun e => hf.fx (by rw [hk, e]))) (fun u hu k hk => Below.heap_setCell _ _ _ _ (fun e => hf.fu u hu (by rw [hk, e])))
theorem Acts.free {base b : Nat} {w : World} {v x : Value} {us : List Value} {al : List Axn} {ns : List Int} (h : Acts base w v x us al ns) (hb : b < base ∨ w.heap.size ≤ b) : Free b v x us :=
  ⟨fun e => by have := h.row.lt b e.symm; omega, fun e => by have := h.par.lt b e.symm; omega, fun u hu e => by have := h.ltu hu e.symm; omega⟩

theorem from_apart {w : World} {x u y : Value} (hf : From w x u) (ha : Apart x y) (hy : ∀ k, y.ownBlock = some k → k < w.heap.size) : Apart u y := fun k hk hy' => by
  rcases hf k hk with h | h
  · exact ha k h hy'
  · have := hy k hy'; omega
/-- The parser steps: of the old blocks its own alone may have turned. -/
theorem Acts.step {base : Nat} {w w' : World} {v x x' : Value} {us : List Value} {al : List Axn} {ns ns' : List Int} (h : Acts base w v x us al ns) (hg : w.grownBy w' x.ownBlock) (hx : w'.ownsRow base 2 1 x' ns'.length (intsV ns')) (hf : From w x x') : Acts base w' v x' us al ns' := by
  have kv : ∀ k, v.ownBlock = some k → w'.heap[k]? = w.heap[k]? := fun k hk => hg.block k (h.row.lt k hk).2 (fun e => h.xv k e.symm hk)
  have ku : ∀ u ∈ us, ∀ k, u.ownBlock = some k → w'.heap[k]? = w.heap[k]? := fun u hu k hk => hg.block k (h.ltu hu hk).2 (fun e => h.xu u hu k e.symm hk)
  exact ⟨h.len, own_block h.row kv, fun i hi => own_block (h.each i hi) (ku _ (by rw [List.getD_eq_getElem?_getD, List.getElem?_eq_getElem (by rw [h.len]; exact hi)]; exact List.getElem_mem _)), hx,
    from_apart hf h.xv (fun k hk => (h.row.lt k hk).2), fun u hu => from_apart hf (h.xu u hu) (fun k hk => (h.ltu hu hk).2), h.vu, h.uu⟩
theorem Free.step {base b : Nat} {w : World} {v x x' : Value} {us : List Value} (hf : From w x x') (h : Free b v x us) (hb : b < w.heap.size) : Free b v x' us :=
  ⟨h.fv, fun e => by rcases hf b e.symm with k | k; exact h.fx k.symm; omega, h.fu⟩
/-- One action more. -/
theorem Acts.more {base : Nat} {w w' : World} {v v' x u : Value} {us : List Value} {al : List Axn} {ns : List Int} {a : Axn} (h : Acts base w v x us al ns) (hu : w.ownsRow base 2 1 u a.ns.length (intsV a.ns)) (hr : w'.ownsRow base 32 5 v' (al.length + 1) (cellsOf al us ++ cells5 a u)) (hg : GrowTo w w' v v')
    (ux : Apart u x) (uv : Apart u v) (uus : ∀ y ∈ us, Apart u y) : Acts base w' v' x (us ++ [u]) (al ++ [a]) ns := by
  have kx : ∀ k, x.ownBlock = some k → w'.heap[k]? = w.heap[k]? := fun k hk => hg.block (h.par.lt k hk).2 (fun e => h.xv k hk e.symm)
  have ku : ∀ y ∈ us, ∀ k, y.ownBlock = some k → w'.heap[k]? = w.heap[k]? := fun y hy k hk => hg.block (h.ltu hy hk).2 (fun e => h.vu y hy k e.symm hk)
  have k1 : ∀ k, u.ownBlock = some k → w'.heap[k]? = w.heap[k]? := fun k hk => hg.block (hu.lt k hk).2 (fun e => uv k hk e.symm)
  have va : ∀ y : Value, (∀ k, y.ownBlock = some k → k < w.heap.size) → Apart v y → Apart v' y := fun y hy ha k hk hk' => by
    rcases hg.spot with e | ⟨q, e, hq⟩
    · exact ha k (e ▸ hk) hk'
    · rw [e] at hk; injection hk with hk; have := hy k hk'; omega
  refine ⟨by simp [h.len], ?_, fun i hi => ?_, own_block h.par kx, (va x (fun k hk => (h.par.lt k hk).2) h.xv.symm).symm, fun y hy => ?_, fun y hy => ?_, ?_⟩
  · rw [cellsOf_snoc _ _ _ _ h.len, List.length_append]; exact hr
  · rcases Nat.lt_or_ge i al.length with hl | hl
    · rw [show (us ++ [u]).getD i (.slice none 0 0) = us.getD i (.slice none 0 0) from by simp [List.getD_eq_getElem?_getD, List.getElem?_append_left (show i < us.length by rw [h.len]; exact hl)], show (al ++ [a]).getD i Axn.zero = al.getD i Axn.zero from by simp [List.getD_eq_getElem?_getD, List.getElem?_append_left hl]]
      exact own_block (h.each i hl) (ku _ (by rw [List.getD_eq_getElem?_getD, List.getElem?_eq_getElem (by rw [h.len]; exact hl)]; exact List.getElem_mem _))
    · have e : i = al.length := by simp at hi; omega
      subst e
      rw [show (us ++ [u]).getD al.length (.slice none 0 0) = u from by rw [← h.len]; simp, show (al ++ [a]).getD al.length Axn.zero = a from by simp]
      exact own_block hu k1
  · rcases List.mem_append.1 hy with hy | hy
    · exact h.xu y hy
    · obtain rfl : y = u := by simpa using hy
      exact ux.symm
  · rcases List.mem_append.1 hy with hy | hy
    · exact va y (fun k hk => (h.ltu hy hk).2) (h.vu y hy)
    · obtain rfl : y = u := by simpa using hy
      exact va y (fun k hk => (hu.lt k hk).2) uv.symm
  · rw [List.pairwise_append]
    exact ⟨h.uu, by simp, fun y hy z hz => by rw [show z = u by simpa using hz]; exact (uus y hy).symm⟩
theorem Free.more {b : Nat} {w w' : World} {v v' x u : Value} {us : List Value} (h : Free b v x us) (hg : GrowTo w w' v v') (hb : b < w.heap.size) (hu : some b ≠ u.ownBlock) : Free b v' x (us ++ [u]) :=
  ⟨hg.apart hb h.fv, h.fx, fun y hy => by
    rcases List.mem_append.1 hy with hy | hy
    · exact h.fu y hy
    · obtain rfl : y = u := by simpa using hy
      exact hu⟩
theorem Acts.base {base base' : Nat} {w : World} {v x : Value} {us : List Value} {al : List Axn} {ns : List Int} (h : Acts base w v x us al ns) (hb : base' ≤ base) : Acts base' w v x us al ns :=
  ⟨h.len, own_base h.row hb, fun i hi => own_base (h.each i hi) hb, own_base h.par hb, h.xv, h.xu, h.vu, h.uu⟩
theorem row_form {w : World} {base n size : Nat} {e : TypeId} {v : Value} {xs : List Value} (h : w.ownsRow base e size v n xs) : ∃ a cap, v = .slice a n cap := by
  rcases h.2 with ⟨rfl, h0⟩ | ⟨g, cap, cur, rfl, _⟩
  · subst h0; exact ⟨none, 0, rfl⟩
  · exact ⟨_, cap, rfl⟩

/-- What a parser hears of the first k characters: the parser then, the actions. -/
def hear1 (s : Par × List Axn) (c : Int) : Par × List Axn := ((stepPA s.1 c).1, if (stepPA s.1 c).2.kd = 0 then s.2 else s.2 ++ [(stepPA s.1 c).2])
def hearTo (p : Par) (cs : List Int) (k : Nat) : Par × List Axn := (cs.take k).foldl hear1 (p, [])
theorem hearTo_succ (p : Par) (cs : List Int) (k : Nat) (h : k < cs.length) : hearTo p cs (k + 1) = hear1 (hearTo p cs k) (cs.getD k 0) := by
  unfold hearTo
  rw [List.take_succ_eq_append_getElem h, List.foldl_append]
  simp [h]
theorem digitL_fine {ns : List Int} {c : Int} (h : ∀ x ∈ ns, 0 ≤ x ∧ x ≤ 999) (hc : 48 ≤ c) : ∀ x ∈ digitL ns c, 0 ≤ x ∧ x ≤ 999 := by
  intro x hx
  unfold digitL at hx
  rcases List.mem_or_eq_of_mem_set hx with h1 | h1
  · exact h x h1
  · subst h1
    have : 0 ≤ ns.getD (ns.length - 1) 0 := by
      rcases Nat.lt_or_ge (ns.length - 1) ns.length with hl | hl
      · rw [List.getD_eq_getElem?_getD, List.getElem?_eq_getElem hl]; exact (h _ (List.getElem_mem _)).1
      · rw [List.getD_eq_getElem?_getD, List.getElem?_eq_none hl]; simp
    omega

end Go.Proofs.Ytaljegjflkebcaa
