/-
  An append of integers that may be none to a row of the call's own.
-/
import Derived.Test.YtbeidafmnbjibabDoorMem
import Derived.Test.YtbeidafmnbjibabDoorStepMath
import Derived.OwnWalk
import Derived.Laws.OwnMore
import Derived.Deep.Upon
namespace Go.Proofs.YtbeidafmnbjibabDoor
open Go.ChangeShapes Go.WideShapes Go.ChangeAt Go.RowKit
set_option linter.unusedVariables false
set_option linter.unusedSimpArgs false

theorem run_append_ints {P : Program} (w : World) (base : Nat) (t ty e : TypeId) (i : TypeInfo) (z : Value) (bytes : Nat) (h1 : P.underlying t = some (.slice e)) (h2 : P.info? e = some i) (h3 : i.zero = some z) (h4 : i.size = 1) (h5 : i.bytes = bytes) (h6 : z.cells.size = 1)
    (v : Value) (n : Nat) (xs : List Int) (hown : w.ownsRow base e 1 v n (intsV xs))
    (ax : Option Addr) (ys : List Int) (m c : Nat) (hm : m = ys.length) (hr : ReadAt .i64 w (.slice ax m c) ys)
    (b1 : n + m ≤ maxLen) (b2 : (n + m) * bytes ≤ 140737488355328) (hbase : base ≤ w.heap.size) :
    ∃ v' w', (Builtin.append_ #[t, t] ty #[v, .slice ax m c]).run P w = .ok v' w' ∧ w'.ownsRow base e 1 v' (n + m) (intsV (xs ++ ys)) ∧ w.grownBy w' v.ownBlock := by
  subst hm
  by_cases h0 : ys = []
  · subst h0
    have hle : ∃ av cv, v = .slice av n cv ∧ n ≤ cv := by
      rcases hown.2 with ⟨hv, h0⟩ | ⟨g, cap, cur, hv, hrest⟩
      · exact ⟨none, 0, by rw [hv, h0], by omega⟩
      · exact ⟨_, cap, hv, by omega⟩
    obtain ⟨av, cv, rfl, hle⟩ := hle
    have hsrc : Go.Src P i.size t (.slice ax 0 c) 0 [] w := by
      cases ax with
      | none => exact Go.Src.ofNil w h1 c
      | some ad => exact Go.Src.ofSlice w h1 ad 0 c [] (by simp) (by simp) (by simp)
    exact ⟨_, _, run_append_nothing (P := P) w t t ty e i h1 h2 av n cv hle _ hsrc, by simpa using hown, ⟨rfl, rfl, rfl, Nat.le_refl _, fun _ _ _ => rfl⟩⟩
  · obtain ⟨a', c', he, hr⟩ := hr
    simp at he
    obtain ⟨rfl, rfl⟩ := he
    rcases hr with hr | ⟨b, off, rfl, hr⟩
    · exact absurd hr h0
    · obtain ⟨v', w', hrun, r1, r2, _⟩ := run_append_own (P := P) w base t ty e i z 1 bytes h1 h2 h3 h4 h5 h6 (by omega) v n (intsV xs) hown ⟨b, off, none⟩ ys.length c (intsV ys) (by simp [intsV]) (ints_news hr) (ints_one_cell _ _) b1 b2 hbase
      exact ⟨v', w', hrun, by rw [intsV_append]; exact r1, r2⟩

theorem wpList_append_ints {P : Program} (w : World) {ops : Array Oper} {rest : List Oper} {o : Oper} {a : Act} {Q : Exit → Act → World → Prop} (hgd : o.guard = none) (s x : Operand) (t : TypeId)
    (hop : o.op = .call { callee := .builtin .append, args := #[s, x], argTypes := #[t, t] })
    (base : Nat) (e : TypeId) (i : TypeInfo) (z : Value) (bytes : Nat) (h1 : P.underlying t = some (.slice e)) (h2 : P.info? e = some i) (h3 : i.zero = some z) (h4 : i.size = 1) (h5 : i.bytes = bytes) (h6 : z.cells.size = 1)
    (v : Value) (n : Nat) (xs : List Int) (hs : a.eval s = v) (hown : w.ownsRow base e 1 v n (intsV xs))
    (ax : Option Addr) (ys : List Int) (m c : Nat) (hx : a.eval x = .slice ax m c) (hm : m = ys.length) (hr : ReadAt .i64 w (.slice ax m c) ys)
    (b1 : n + m ≤ maxLen) (b2 : (n + m) * bytes ≤ 140737488355328) (hbase : base ≤ w.heap.size)
    (hK : ∀ v' w', w'.ownsRow base e 1 v' (n + m) (intsV (xs ++ ys)) → w.grownBy w' v.ownBlock → wpList P ops Q rest (a.put o.dst v') w') : wpList P ops Q (o :: rest) a w := by
  refine wpList_plain hgd fun K hK' => ?_
  obtain ⟨v', w', hrun, r1, r2⟩ := run_append_ints w base t o.type e i z bytes h1 h2 h3 h4 h5 h6 v n xs hown ax ys m c hm hr b1 b2 hbase
  unfold Oper.wp
  simp [execOp, hop, resolve, invoke, builtin, hs, hx, hrun, Result.andThen]
  exact hK' _ _ (hK v' w' r1 r2)

end Go.Proofs.YtbeidafmnbjibabDoor
