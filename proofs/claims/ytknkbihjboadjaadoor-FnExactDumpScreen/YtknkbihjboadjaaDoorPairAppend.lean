/-
  Pairs cut at a place; an append of pairs that may be none to a row of the call's own.
-/
import Derived.Test.YtknkbihjboadjaaDoorPairMem
import Derived.Test.YtknkbihjboadjaaDoorAppendStep
import Derived.OwnWalk
import Derived.Laws.OwnMore
import Derived.Deep.Upon
namespace Go.Proofs.YtknkbihjboadjaaDoor
set_option maxRecDepth 20000
open Go.ChangeShapes Go.WideShapes Go.ChangeAt Go.RowKit
set_option linter.unusedVariables false
set_option linter.unusedSimpArgs false

theorem pread_high {w : World} {a : Option Addr} {n cap : Nat} {xs : List (Int × Int)} (h : PRead w (.slice a n cap) xs) (k : Nat) (hk : k ≤ xs.length) : PRead w (.slice a k cap) (xs.take k) := by
  obtain ⟨a', cap', he, h⟩ := h
  simp at he
  obtain ⟨rfl, rfl, rfl⟩ := he
  have hkl : (xs.take k).length = k := by rw [List.length_take]; omega
  refine ⟨a, cap, by rw [hkl], ?_⟩
  by_cases h0 : k = 0
  · left; simp [h0]
  rcases h with h | ⟨b, off, rfl, h⟩
  · left; rw [h]; simp
  · right
    refine ⟨b, off, rfl, fun i hi => ?_⟩
    rw [hkl] at hi
    have hg : (xs.take k).getD i (0, 0) = xs.getD i (0, 0) := by simp [List.getD_eq_getElem?_getD, List.getElem?_take_of_lt hi]
    rw [hg]
    exact h i (by omega)
theorem pread_low {w : World} {a : Option Addr} {n cap : Nat} {xs : List (Int × Int)} (h : PRead w (.slice a n cap) xs) (hc : n ≤ cap) (k : Nat) (hk : k ≤ xs.length) : PRead w (.slice (if cap = k then a else a.map (·.add (k * 2))) (n - k) (cap - k)) (xs.drop k) := by
  obtain ⟨a', cap', he, h⟩ := h
  simp at he
  obtain ⟨rfl, rfl, rfl⟩ := he
  refine ⟨_, _, by rw [List.length_drop], ?_⟩
  by_cases h0 : k = xs.length
  · left; simp [h0]
  have hne : cap ≠ k := by omega
  rw [if_neg hne]
  rcases h with h | ⟨b, off, rfl, h⟩
  · left; rw [h]; simp
  · right
    refine ⟨b, off + k * 2, by simp [Addr.add], fun i hi => ?_⟩
    rw [List.length_drop] at hi
    have hg : (xs.drop k).getD i (0, 0) = xs.getD (k + i) (0, 0) := by simp [List.getD_eq_getElem?_getD, List.getElem?_drop]
    rw [hg, show off + k * 2 + i * 2 = off + (k + i) * 2 from by omega]
    exact h (k + i) (by omega)
theorem pairs_low {lo hi : Nat} {w : World} {a : Option Addr} {n cap : Nat} {xs : List (Int × Int)} (h : PairsAt lo hi w (.slice a n cap) xs) (hc : n ≤ cap) (k : Nat) (hk : k ≤ xs.length) : PairsAt lo hi w (.slice (if cap = k then a else a.map (·.add (k * 2))) (n - k) (cap - k)) (xs.drop k) := by
  obtain ⟨a', cap', he, h⟩ := h
  simp at he
  obtain ⟨rfl, rfl, rfl⟩ := he
  refine ⟨_, _, by rw [List.length_drop], ?_⟩
  by_cases h0 : k = xs.length
  · left; simp [h0]
  have hne : cap ≠ k := by omega
  rw [if_neg hne]
  rcases h with h | ⟨b, off, rfl, h1, h2, h⟩
  · left; rw [h]; simp
  · right
    refine ⟨b, off + k * 2, by simp [Addr.add], h1, h2, fun i hi => ?_⟩
    rw [List.length_drop] at hi
    have hg : (xs.drop k).getD i (0, 0) = xs.getD (k + i) (0, 0) := by simp [List.getD_eq_getElem?_getD, List.getElem?_drop]
    rw [hg, show off + k * 2 + i * 2 = off + (k + i) * 2 from by omega]
    exact h (k + i) (by omega)
theorem own_room2 {w : World} {base n : Nat} {e : TypeId} {v : Value} {xs : List Value} (h : w.ownsRow base e 2 v n xs) : ∃ a cap, v = .slice a n cap ∧ n ≤ cap := by
  rcases h.2 with ⟨hv, h0⟩ | ⟨g, cap, cur, hv, hrest⟩
  · exact ⟨none, 0, by rw [hv, h0], by omega⟩
  · exact ⟨_, cap, hv, by omega⟩

/-- The run of such an append. -/
theorem run_append_pread {P : Program} (w : World) (base : Nat) (t ty e : TypeId) (i : TypeInfo) (z : Value) (bytes : Nat) (h1 : P.underlying t = some (.slice e)) (h2 : P.info? e = some i) (h3 : i.zero = some z) (h4 : i.size = 2) (h5 : i.bytes = bytes) (h6 : z.cells.size = 2)
    (v : Value) (n : Nat) (xs : List (Int × Int)) (hown : w.ownsRow base e 2 v n (pvs xs))
    (ax : Option Addr) (ys : List (Int × Int)) (m c : Nat) (hm : m = ys.length) (hr : PRead w (.slice ax m c) ys)
    (b1 : n + m ≤ maxLen) (b2 : (n + m) * bytes ≤ 140737488355328) (hbase : base ≤ w.heap.size) :
    ∃ v' w', (Builtin.append_ #[t, t] ty #[v, .slice ax m c]).run P w = .ok v' w' ∧ w'.ownsRow base e 2 v' (n + m) (pvs (xs ++ ys)) ∧ w.grownBy w' v.ownBlock := by
  subst hm
  by_cases h0 : ys = []
  · subst h0
    obtain ⟨av, cv, rfl, hle⟩ := own_room2 hown
    have hsrc : Go.Src P i.size t (.slice ax 0 c) 0 [] w := by
      cases ax with
      | none => exact Go.Src.ofNil w h1 c
      | some ad => exact Go.Src.ofSlice w h1 ad 0 c [] (by simp) (by simp) (by simp)
    exact ⟨_, _, run_append_nothing (P := P) w t t ty e i h1 h2 av n cv hle _ hsrc, by simpa using hown, ⟨rfl, rfl, rfl, Nat.le_refl _, fun _ _ _ => rfl⟩⟩
  · obtain ⟨a', c', he, hr⟩ := hr
    simp at he
    obtain ⟨rfl, rfl⟩ := he
    rcases hr with hr | ⟨b, off, rfl, hr⟩
    · exact absurd hr h0
    · obtain ⟨v', w', hrun, r1, r2, _⟩ := run_append_own (P := P) w base t ty e i z 2 bytes h1 h2 h3 h4 h5 h6 (by omega) v n (pvs xs) hown ⟨b, off, none⟩ ys.length c (pvs ys) (by rw [pvs_length]) (pairs_news hr) (pvs_one _) b1 b2 hbase
      exact ⟨v', w', hrun, by rw [pvs_append]; exact r1, r2⟩

theorem wpList_append_pread {P : Program} (w : World) {ops : Array Oper} {rest : List Oper} {o : Oper} {a : Act} {Q : Exit → Act → World → Prop} (hgd : o.guard = none) (s x : Operand) (t : TypeId)
    (hop : o.op = .call { callee := .builtin .append, args := #[s, x], argTypes := #[t, t] })
    (base : Nat) (e : TypeId) (i : TypeInfo) (z : Value) (bytes : Nat) (h1 : P.underlying t = some (.slice e)) (h2 : P.info? e = some i) (h3 : i.zero = some z) (h4 : i.size = 2) (h5 : i.bytes = bytes) (h6 : z.cells.size = 2)
    (v : Value) (n : Nat) (xs : List (Int × Int)) (hs : a.eval s = v) (hown : w.ownsRow base e 2 v n (pvs xs))
    (ax : Option Addr) (ys : List (Int × Int)) (m c : Nat) (hx : a.eval x = .slice ax m c) (hm : m = ys.length) (hr : PRead w (.slice ax m c) ys)
    (b1 : n + m ≤ maxLen) (b2 : (n + m) * bytes ≤ 140737488355328) (hbase : base ≤ w.heap.size)
    (hK : ∀ v' w', w'.ownsRow base e 2 v' (n + m) (pvs (xs ++ ys)) → w.grownBy w' v.ownBlock → wpList P ops Q rest (a.put o.dst v') w') : wpList P ops Q (o :: rest) a w := by
  refine wpList_plain hgd fun K hK' => ?_
  obtain ⟨v', w', hrun, r1, r2⟩ := run_append_pread w base t o.type e i z bytes h1 h2 h3 h4 h5 h6 v n xs hown ax ys m c hm hr b1 b2 hbase
  unfold Oper.wp
  simp [execOp, hop, resolve, invoke, builtin, hs, hx, hrun, Result.andThen]
  exact hK' _ _ (hK v' w' r1 r2)

theorem step_append_pread {P : Program} {ops : Array Oper} {o : Oper} {a : Act} {w : World} {K : Act → World → Prop} {Q : Exit → Act → World → Prop} {E : Prop}
    (hg : o.guard = none) (s x : Operand) (t : TypeId) (hop : o.op = Op.call { callee := Callee.builtin Builtin.append, args := #[s, x], argTypes := #[t, t] })
    (base : Nat) (e : TypeId) (i : TypeInfo) (z : Value) (bytes : Nat) (h1 : P.underlying t = some (.slice e)) (h2 : P.info? e = some i) (h3 : i.zero = some z) (h4 : i.size = 2) (h5 : i.bytes = bytes) (h6 : z.cells.size = 2)
    (v : Value) (n : Nat) (xs : List (Int × Int)) (hs : a.eval s = v) (hown : w.ownsRow base e 2 v n (pvs xs))
    (ax : Option Addr) (ys : List (Int × Int)) (m c : Nat) (hx : a.eval x = .slice ax m c) (hm : m = ys.length) (hr : PRead w (.slice ax m c) ys)
    (b1 : n + m ≤ maxLen) (b2 : (n + m) * bytes ≤ 140737488355328) (hbase : base ≤ w.heap.size)
    (hK : ∀ v' w', w'.ownsRow base e 2 v' (n + m) (pvs (xs ++ ys)) → w.grownBy w' v.ownBlock → K (a.put o.dst v') w') :
    if Region.wanted o (yielded ops a.tmps) = true then Oper.wp P o a w K Q else E := by
  have hw : Region.wanted o (yielded ops a.tmps) = true := by simp [Region.wanted, hg]
  rw [if_pos hw]
  obtain ⟨v', w', hrun, r1, r2⟩ := run_append_pread w base t o.type e i z bytes h1 h2 h3 h4 h5 h6 v n xs hown ax ys m c hm hr b1 b2 hbase
  unfold Oper.wp
  simp [execOp, hop, resolve, invoke, builtin, hs, hx, hrun, Result.andThen]
  exact hK v' w' r1 r2

/-- A pair in its place, by the place. -/
theorem ins_at {p : Int × Int} : ∀ (l : List (Int × Int)) (k : Nat), (∀ j, j < k → (l.getD j (0, 0)).1 < p.1) → k ≤ l.length → (k < l.length → ¬ (l.getD k (0, 0)).1 < p.1) → ins p l = l.take k ++ p :: l.drop k
  | [], k, _, hk, _ => by simp at hk; subst hk; rfl
  | q :: l, 0, _, _, h => by
    have := h (by simp)
    simp at this
    have hnl : ¬ q.1 < p.1 := by omega
    simp [ins, hnl]
  | q :: l, k + 1, hj, hk, h => by
    have h0 := hj 0 (by omega)
    simp at h0
    have ih := ins_at l k (fun j hj' => by have := hj (j + 1) (by omega); simpa using this) (by simpa using hk) (fun hk' => by have := h (by simpa using hk'); simpa using this)
    simp only [ins, h0, if_true, List.take_succ_cons, List.drop_succ_cons, List.cons_append]
    rw [ih]

end Go.Proofs.YtknkbihjboadjaaDoor
