/-
  A grid that is turned in place (GSt), and spec.l3Keep: a row that left at the top is kept.
-/
import Derived.Test.YtknkbihjboadjaaScrollFns
import Derived.Test.YtknkbihjboadjaaNewFns
import Derived.Test.YtknkbihjboadjaaRowFns3
import Derived.Test.YtknkbihjboadjaaUntil
namespace Go.Proofs.Ytknkbihjboadjaa
set_option maxRecDepth 20000
open Go.ChangeShapes Go.WideShapes Go.ChangeAt Go.RowKit
set_option linter.unusedVariables false
set_option linter.unusedSimpArgs false
set_option maxRecDepth 20000

/-- A copied grid in its box pb: its cells lie in block bx, the row of those that left is owned. -/
structure GSt (B0 pb bx N cx : Nat) (r wd : Int) (f : Nat → Int × Int) (bs : List (Int × Int)) (w : World) : Prop where
  s0 : w.cell? ⟨pb, 0, none⟩ = some (.int .i64 r)
  s1 : w.cell? ⟨pb, 1, none⟩ = some (.int .i64 wd)
  s2 : w.cell? ⟨pb, 2, none⟩ = some (.slice (some ⟨bx, 0, none⟩) N cx)
  z3 : w.frozen? ⟨pb, 3, none⟩ = false
  row : Row w bx 0 N f
  lo : B0 ≤ pb ∧ B0 ≤ bx ∧ pb ≠ bx ∧ pb < w.heap.size ∧ bx < w.heap.size
  ex : ∃ v, w.cell? ⟨pb, 3, none⟩ = some v ∧ w.ownsRow B0 99 2 v bs.length (pvs bs) ∧ (∀ k, v.ownBlock = some k → k ≠ pb ∧ k ≠ bx)
theorem GSt.congr {B0 pb bx N cx : Nat} {r wd : Int} {f g : Nat → Int × Int} {bs : List (Int × Int)} {w : World} (h : GSt B0 pb bx N cx r wd f bs w) (e : ∀ i, i < N → f i = g i) : GSt B0 pb bx N cx r wd g bs w := ⟨h.s0, h.s1, h.s2, h.z3, h.row.congr e, h.lo, h.ex⟩
theorem GSt.below {B0 pb bx N cx : Nat} {r wd : Int} {f : Nat → Int × Int} {bs : List (Int × Int)} {w w' : World} (h : GSt B0 pb bx N cx r wd f bs w) (hb : Below w.heap.size w w') : GSt B0 pb bx N cx r wd f bs w' := by
  obtain ⟨v, c, o, a⟩ := h.ex
  have l := h.lo
  have hs := hb.size
  exact ⟨cellb hb h.s0, cellb hb h.s1, cellb hb h.s2, (hb.frozen (p := ⟨pb, 3, none⟩) l.2.2.2.1).trans h.z3, h.row.below hb l.2.2.2.2, ⟨l.1, l.2.1, l.2.2.1, by omega, by omega⟩, v, cellb hb c, own_below o hb, a⟩
theorem GSt.touch {B0 pb bx N cx p q : Nat} {r wd : Int} {f g : Nat → Int × Int} {bs : List (Int × Int)} {w w' : World} (h : GSt B0 pb bx N cx r wd f bs w) (t : Touch bx p q w w') (hr : Row w' bx 0 N g) : GSt B0 pb bx N cx r wd g bs w' := by
  obtain ⟨v, c, o, a⟩ := h.ex
  have l := h.lo
  have hs := t.size
  exact ⟨t.cellAt h.s0 (by omega), t.cellAt h.s1 (by omega), t.cellAt h.s2 (by omega), t.frozenAt (by omega) h.z3, hr, ⟨l.1, l.2.1, l.2.2.1, by omega, by omega⟩, v, t.cellAt c (by omega), own_touch o t (fun k hk => (a k hk).2), a⟩
theorem GSt.base {B0 pb bx N cx : Nat} {r wd : Int} {f : Nat → Int × Int} {bs : List (Int × Int)} {w : World} (h : GSt B0 pb bx N cx r wd f bs w) : B0 ≤ w.heap.size := by have := h.lo; omega
/-- A new value is laid into the box. -/
theorem GSt.keep {B0 pb bx N cx : Nat} {r wd : Int} {f : Nat → Int × Int} {bs bs' : List (Int × Int)} {w w' : World} {v v' : Value} (h : GSt B0 pb bx N cx r wd f bs w) (g : GrowTo w w' v v') (c : w.cell? ⟨pb, 3, none⟩ = some v) (a : ∀ k, v.ownBlock = some k → k ≠ pb ∧ k ≠ bx) (o : w'.ownsRow B0 99 2 v' bs'.length (pvs bs')) : GSt B0 pb bx N cx r wd f bs' (w'.setCell ⟨pb, 3, none⟩ v') := by
  have l := h.lo
  have n1 : some pb ≠ v.ownBlock := fun e => (a pb e.symm).1 rfl
  have n2 : some bx ≠ v.ownBlock := fun e => (a bx e.symm).2 rfl
  have a' : ∀ k, v'.ownBlock = some k → k ≠ pb ∧ k ≠ bx := by
    intro k hk
    rcases g.spot with e | ⟨q, e, hq⟩
    · exact a k (e.symm.trans hk)
    · rw [hk] at e
      injection e with e
      omega
  have hs := g.grown.size
  have d3 := g.cellAt c n1
  have t : Touch pb 3 4 w' (w'.setCell ⟨pb, 3, none⟩ v') := (Touch.refl _ _ _ _).setCell (by omega) (by omega) _
  refine ⟨t.cellAt (g.cellAt h.s0 n1) (by omega), t.cellAt (g.cellAt h.s1 n1) (by omega), t.cellAt (g.cellAt h.s2 n1) (by omega), t.frozenAt (by omega) ((g.frozen l.2.2.2.1 n1).trans h.z3), (h.row.block (g.block l.2.2.2.2 n2)).touch t (by omega), ⟨l.1, l.2.1, l.2.2.1, ?_, ?_⟩, v', World.cell?_setCell_same _ _ _ d3, own_setCell o (fun e => (a' pb e.symm).1 rfl), a'⟩
  · have := t.size; omega
  · have := t.size; omega

theorem spot_of_new {w : World} {base n : Nat} {e : TypeId} {v v0 : Value} {xs : List Value} (h : w.ownsRow base e 2 v n xs) (hn : 0 < n) : v.ownBlock = v0.ownBlock ∨ ∃ k, v.ownBlock = some k ∧ base ≤ k := by
  rcases h.2 with ⟨_, h0⟩ | ⟨g, cap, cur, rfl, hb, _⟩
  · omega
  · exact .inr ⟨g, rfl, hb⟩
end Go.Proofs.Ytknkbihjboadjaa
