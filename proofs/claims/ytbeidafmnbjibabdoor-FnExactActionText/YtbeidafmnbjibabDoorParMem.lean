/-
  Parsers and actions: their lists apart from each other.
-/
import Derived.Test.YtbeidafmnbjibabDoorMem
namespace Go.Proofs.YtbeidafmnbjibabDoor
open Go.ChangeShapes Go.WideShapes Go.ChangeAt Go.RowKit
set_option linter.unusedVariables false

theorem within_mono {lo hi lo' hi' : Nat} {w w' : World} (h : Within lo hi w w') (h1 : lo' ≤ lo) (h2 : hi ≤ hi') : Within lo' hi' w w' :=
  ⟨h.os, h.tape, h.output, h.size, fun k hk ho => h.block k hk (by omega)⟩

/-- Two lists of a call's own, in blocks of lo to hi - 1 that are apart. -/
structure TwoOwn (lo hi : Nat) (w : World) (x y : Value) (xs ys : List Int) : Prop where
  ex : ∃ l1 g1 l2 g2, lo ≤ l1 ∧ g1 ≤ hi ∧ lo ≤ l2 ∧ g2 ≤ hi ∧ (g1 ≤ l2 ∨ g2 ≤ l1) ∧ IntsAt .i64 l1 g1 w x xs ∧ IntsAt .i64 l2 g2 w y ys

theorem TwoOwn.read1 {lo hi : Nat} {w : World} {x y : Value} {xs ys : List Int} (h : TwoOwn lo hi w x y xs ys) : ReadAt .i64 w x xs := by obtain ⟨_, _, _, _, _, _, _, _, _, h1, _⟩ := h; exact h1.read
theorem TwoOwn.read2 {lo hi : Nat} {w : World} {x y : Value} {xs ys : List Int} (h : TwoOwn lo hi w x y xs ys) : ReadAt .i64 w y ys := by obtain ⟨_, _, _, _, _, _, _, _, _, _, h2⟩ := h; exact h2.read
theorem TwoOwn.mono {lo hi lo' hi' : Nat} {w : World} {x y : Value} {xs ys : List Int} (h : TwoOwn lo hi w x y xs ys) (h1 : lo' ≤ lo) (h2 : hi ≤ hi') : TwoOwn lo' hi' w x y xs ys := by
  obtain ⟨l1, g1, l2, g2, e1, e2, e3, e4, e5, p1, p2⟩ := h
  exact ⟨l1, g1, l2, g2, by omega, by omega, by omega, by omega, e5, p1, p2⟩
theorem TwoOwn.of_blocks {lo hi : Nat} {w w' : World} {x y : Value} {xs ys : List Int} (h : TwoOwn lo hi w x y xs ys) (hb : ∀ i, lo ≤ i → i < hi → w'.heap[i]? = w.heap[i]?) : TwoOwn lo hi w' x y xs ys := by
  obtain ⟨l1, g1, l2, g2, e1, e2, e3, e4, e5, p1, p2⟩ := h
  exact ⟨l1, g1, l2, g2, e1, e2, e3, e4, e5, p1.of_blocks fun i h1 h2 => hb i (by omega) (by omega), p2.of_blocks fun i h1 h2 => hb i (by omega) (by omega)⟩
theorem TwoOwn.below {lo hi B : Nat} {w w' : World} {x y : Value} {xs ys : List Int} (h : TwoOwn lo hi w x y xs ys) (hb : Below B w w') (hB : hi ≤ B) : TwoOwn lo hi w' x y xs ys :=
  h.of_blocks fun i _ h2 => hb.block i (by omega)
theorem TwoOwn.within {lo hi lo' hi' : Nat} {w w' : World} {x y : Value} {xs ys : List Int} (h : TwoOwn lo hi w x y xs ys) (hb : Within lo' hi' w w') (hw : hi ≤ w.heap.size) (hB : hi ≤ lo' ∨ hi' ≤ lo) : TwoOwn lo hi w' x y xs ys :=
  h.of_blocks fun i h1 h2 => hb.block i (by omega) (by omega)
theorem TwoOwn.forms {lo hi : Nat} {w : World} {x y : Value} {xs ys : List Int} (h : TwoOwn lo hi w x y xs ys) : ∃ a c d e, x = .slice a xs.length c ∧ y = .slice d ys.length e := by
  obtain ⟨a, c, e, _⟩ := h.read1
  obtain ⟨a', c', e', _⟩ := h.read2
  exact ⟨a, c, a', c', e, e'⟩
theorem TwoOwn.first {lo hi : Nat} {w : World} {x y : Value} {xs : List Int} (h1 : IntsAt .i64 lo hi w x xs) (hl : lo ≤ hi) (hy : ∃ a c, y = .slice a 0 c) : TwoOwn lo hi w x y xs [] := by
  obtain ⟨a, c, rfl⟩ := hy
  exact ⟨lo, hi, hi, hi, Nat.le_refl _, Nat.le_refl _, hl, Nat.le_refl _, .inl (Nat.le_refl _), h1, IntsAt.nil _ _ _ _ _ _⟩
theorem TwoOwn.second {lo hi : Nat} {w : World} {x y : Value} {ys : List Int} (h1 : IntsAt .i64 lo hi w y ys) (hl : lo ≤ hi) (hy : ∃ a c, x = .slice a 0 c) : TwoOwn lo hi w x y [] ys := by
  obtain ⟨a, c, rfl⟩ := hy
  exact ⟨lo, lo, lo, hi, Nat.le_refl _, hl, Nat.le_refl _, Nat.le_refl _, .inl (Nat.le_refl _), IntsAt.nil _ _ _ _ _ _, h1⟩

end Go.Proofs.YtbeidafmnbjibabDoor
