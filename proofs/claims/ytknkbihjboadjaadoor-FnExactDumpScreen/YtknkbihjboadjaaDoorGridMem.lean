/-
  The two lists of a grid in memory: read (PRead each), owned and apart (GOwn); results of four and five cells, stored and read back.
-/
import Derived.Test.YtknkbihjboadjaaDoorPairMem
import Derived.Test.YtknkbihjboadjaaDoorRowMem
namespace Go.Proofs.YtknkbihjboadjaaDoor
set_option maxRecDepth 20000
open Go.ChangeShapes Go.WideShapes Go.ChangeAt Go.RowKit
set_option linter.unusedVariables false
set_option linter.unusedSimpArgs false

/-- The two lists of a grid lie in blocks of lo to hi - 1 that are apart, and may be written. -/
structure GOwn (lo hi : Nat) (w : World) (x y : Value) (cs bs : List (Int × Int)) : Prop where
  ex : ∃ l1 h1 l2 h2, lo ≤ l1 ∧ h1 ≤ hi ∧ lo ≤ l2 ∧ h2 ≤ hi ∧ (h1 ≤ l2 ∨ h2 ≤ l1) ∧ PairsAt l1 h1 w x cs ∧ PairsAt l2 h2 w y bs

theorem GOwn.of {lo hi l1 h1 l2 h2 : Nat} {w : World} {x y : Value} {cs bs : List (Int × Int)} (p1 : PairsAt l1 h1 w x cs) (p2 : PairsAt l2 h2 w y bs) (a1 : lo ≤ l1) (a2 : h1 ≤ hi) (a3 : lo ≤ l2) (a4 : h2 ≤ hi) (a5 : h1 ≤ l2 ∨ h2 ≤ l1) : GOwn lo hi w x y cs bs :=
  ⟨l1, h1, l2, h2, a1, a2, a3, a4, a5, p1, p2⟩
theorem GOwn.read1 {lo hi : Nat} {w : World} {x y : Value} {cs bs : List (Int × Int)} (h : GOwn lo hi w x y cs bs) : PRead w x cs := by obtain ⟨l1, h1, l2, h2, _, _, _, _, _, p, q⟩ := h.ex; exact p.read
theorem GOwn.read2 {lo hi : Nat} {w : World} {x y : Value} {cs bs : List (Int × Int)} (h : GOwn lo hi w x y cs bs) : PRead w y bs := by obtain ⟨l1, h1, l2, h2, _, _, _, _, _, p, q⟩ := h.ex; exact q.read
theorem GOwn.mono {lo hi lo' hi' : Nat} {w : World} {x y : Value} {cs bs : List (Int × Int)} (h : GOwn lo hi w x y cs bs) (g1 : lo' ≤ lo) (g2 : hi ≤ hi') : GOwn lo' hi' w x y cs bs := by
  obtain ⟨l1, h1, l2, h2, a1, a2, a3, a4, a5, p, q⟩ := h.ex
  exact ⟨l1, h1, l2, h2, by omega, by omega, by omega, by omega, a5, p, q⟩
theorem GOwn.of_blocks {lo hi : Nat} {w w' : World} {x y : Value} {cs bs : List (Int × Int)} (h : GOwn lo hi w x y cs bs) (hb : ∀ i, lo ≤ i → i < hi → w'.heap[i]? = w.heap[i]?) : GOwn lo hi w' x y cs bs := by
  obtain ⟨l1, h1, l2, h2, a1, a2, a3, a4, a5, p, q⟩ := h.ex
  exact ⟨l1, h1, l2, h2, a1, a2, a3, a4, a5, p.of_blocks (fun i _ _ => hb i (by omega) (by omega)), q.of_blocks (fun i _ _ => hb i (by omega) (by omega))⟩
theorem GOwn.below {lo hi B : Nat} {w w' : World} {x y : Value} {cs bs : List (Int × Int)} (h : GOwn lo hi w x y cs bs) (hb : Below B w w') (hB : hi ≤ B) : GOwn lo hi w' x y cs bs :=
  h.of_blocks fun i _ h2 => hb.block i (by omega)
theorem GOwn.within {lo hi lo' hi' : Nat} {w w' : World} {x y : Value} {cs bs : List (Int × Int)} (h : GOwn lo hi w x y cs bs) (hb : Within lo' hi' w w') (hw : hi ≤ w.heap.size) (hB : hi ≤ lo' ∨ hi' ≤ lo) : GOwn lo hi w' x y cs bs :=
  h.of_blocks fun i h1 h2 => hb.block i (by omega) (by omega)
theorem GOwn.drewN {lo hi : Nat} {w : World} {x y : Value} {cs bs : List (Int × Int)} (h : GOwn lo hi w x y cs bs) (n : Nat) : GOwn lo hi (w.drewN n) x y cs bs := h.of_blocks fun i h1 h2 => rfl
theorem GOwn.nil (lo hi : Nat) (w : World) (h : lo ≤ hi) : GOwn lo hi w (.slice none 0 0) (.slice none 0 0) [] [] := ⟨lo, lo, lo, lo, by omega, by omega, by omega, by omega, by omega, PairsAt.nil _ _ _ _ _, PairsAt.nil _ _ _ _ _⟩
theorem GOwn.forms {lo hi : Nat} {w : World} {x y : Value} {cs bs : List (Int × Int)} (h : GOwn lo hi w x y cs bs) : ∃ a1 c1 a2 c2, x = .slice a1 cs.length c1 ∧ y = .slice a2 bs.length c2 := by
  obtain ⟨a1, c1, e1, _⟩ := h.read1
  obtain ⟨a2, c2, e2, _⟩ := h.read2
  exact ⟨a1, c1, a2, c2, e1, e2⟩

theorem within_mono {lo hi lo' hi' : Nat} {w w' : World} (h : Within lo hi w w') (h1 : lo' ≤ lo) (h2 : hi ≤ hi') : Within lo' hi' w w' := ⟨h.os, h.tape, h.output, h.size, fun k hk ho => h.block k hk (by omega)⟩

theorem setCells4 {w : World} {r : Nat} {x y z t : Value} : (((w.setCell ⟨r, 0, none⟩ x).setCell ⟨r, 1, none⟩ y).setCell ⟨r, 2, none⟩ z).setCell ⟨r, 3, none⟩ t = w.setCells r 0 [x, y, z, t] := rfl
theorem setCells5 {w : World} {r : Nat} {x y z t s : Value} : ((((w.setCell ⟨r, 0, none⟩ x).setCell ⟨r, 1, none⟩ y).setCell ⟨r, 2, none⟩ z).setCell ⟨r, 3, none⟩ t).setCell ⟨r, 4, none⟩ s = w.setCells r 0 [x, y, z, t, s] := rfl
theorem res4 {w : World} {r : Nat} {u0 u1 u2 u3 : Value} (x y z t : Value) (h0 : w.cell? ⟨r, 0, none⟩ = some u0) (h1 : w.cell? ⟨r, 1, none⟩ = some u1) (h2 : w.cell? ⟨r, 2, none⟩ = some u2) (h3 : w.cell? ⟨r, 3, none⟩ = some u3) :
    ((((w.setCell ⟨r, 0, none⟩ x).setCell ⟨r, 1, none⟩ y).setCell ⟨r, 2, none⟩ z).setCell ⟨r, 3, none⟩ t).cell? ⟨r, 0, none⟩ = some x ∧ ((((w.setCell ⟨r, 0, none⟩ x).setCell ⟨r, 1, none⟩ y).setCell ⟨r, 2, none⟩ z).setCell ⟨r, 3, none⟩ t).cell? ⟨r, 1, none⟩ = some y ∧
    ((((w.setCell ⟨r, 0, none⟩ x).setCell ⟨r, 1, none⟩ y).setCell ⟨r, 2, none⟩ z).setCell ⟨r, 3, none⟩ t).cell? ⟨r, 2, none⟩ = some z ∧ ((((w.setCell ⟨r, 0, none⟩ x).setCell ⟨r, 1, none⟩ y).setCell ⟨r, 2, none⟩ z).setCell ⟨r, 3, none⟩ t).cell? ⟨r, 3, none⟩ = some t := by
  rw [setCells4]
  have g := World.cell?_setCells_in r [x, y, z, t] 0 w (fun j hj => by
    have hj' : j < 4 := by simpa using hj
    match j, hj' with
    | 0, _ => rw [h0]; rfl
    | 1, _ => rw [h1]; rfl
    | 2, _ => rw [h2]; rfl
    | 3, _ => rw [h3]; rfl)
  exact ⟨g 0 (by simp), g 1 (by simp), g 2 (by simp), g 3 (by simp)⟩
theorem res5 {w : World} {r : Nat} {u0 u1 u2 u3 u4 : Value} (x y z t s : Value) (h0 : w.cell? ⟨r, 0, none⟩ = some u0) (h1 : w.cell? ⟨r, 1, none⟩ = some u1) (h2 : w.cell? ⟨r, 2, none⟩ = some u2) (h3 : w.cell? ⟨r, 3, none⟩ = some u3) (h4 : w.cell? ⟨r, 4, none⟩ = some u4) :
    (((((w.setCell ⟨r, 0, none⟩ x).setCell ⟨r, 1, none⟩ y).setCell ⟨r, 2, none⟩ z).setCell ⟨r, 3, none⟩ t).setCell ⟨r, 4, none⟩ s).cell? ⟨r, 0, none⟩ = some x ∧ (((((w.setCell ⟨r, 0, none⟩ x).setCell ⟨r, 1, none⟩ y).setCell ⟨r, 2, none⟩ z).setCell ⟨r, 3, none⟩ t).setCell ⟨r, 4, none⟩ s).cell? ⟨r, 1, none⟩ = some y ∧
    (((((w.setCell ⟨r, 0, none⟩ x).setCell ⟨r, 1, none⟩ y).setCell ⟨r, 2, none⟩ z).setCell ⟨r, 3, none⟩ t).setCell ⟨r, 4, none⟩ s).cell? ⟨r, 2, none⟩ = some z ∧ (((((w.setCell ⟨r, 0, none⟩ x).setCell ⟨r, 1, none⟩ y).setCell ⟨r, 2, none⟩ z).setCell ⟨r, 3, none⟩ t).setCell ⟨r, 4, none⟩ s).cell? ⟨r, 3, none⟩ = some t ∧
    (((((w.setCell ⟨r, 0, none⟩ x).setCell ⟨r, 1, none⟩ y).setCell ⟨r, 2, none⟩ z).setCell ⟨r, 3, none⟩ t).setCell ⟨r, 4, none⟩ s).cell? ⟨r, 4, none⟩ = some s := by
  rw [setCells5]
  have g := World.cell?_setCells_in r [x, y, z, t, s] 0 w (fun j hj => by
    have hj' : j < 5 := by simpa using hj
    match j, hj' with
    | 0, _ => rw [h0]; rfl
    | 1, _ => rw [h1]; rfl
    | 2, _ => rw [h2]; rfl
    | 3, _ => rw [h3]; rfl
    | 4, _ => rw [h4]; rfl)
  exact ⟨g 0 (by simp), g 1 (by simp), g 2 (by simp), g 3 (by simp), g 4 (by simp)⟩
theorem heap_setCells_other (r : Nat) : ∀ (vs : List Value) (o : Nat) (w : World) (k : Nat), k ≠ r → (w.setCells r o vs).heap[k]? = w.heap[k]?
  | [], _, _, _, _ => rfl
  | v :: vs, o, w, k, h => by rw [World.setCells, heap_setCells_other r vs (o + 1) _ k h]; exact Below.heap_setCell _ _ _ _ (by simp; omega)

end Go.Proofs.YtknkbihjboadjaaDoor
