/-
  Slices of booleans in memory: what is read of one (BRead), what a call owns (BoolsAt).
-/
import Derived.Test.YtknkbihjboadjaaDoorMem
namespace Go.Proofs.YtknkbihjboadjaaDoor
set_option maxRecDepth 20000
open Go.ChangeShapes Go.WideShapes Go.ChangeAt Go.RowKit
set_option linter.unusedVariables false
set_option linter.unusedSimpArgs false

/-- The slice v reads as the integers xs in the world w. -/
def BRead (w : World) (v : Value) (xs : List Bool) : Prop :=
  ∃ a cap, v = .slice a xs.length cap ∧ (xs = [] ∨ ∃ b off, a = some ⟨b, off, none⟩ ∧ ∀ i, i < xs.length → w.cell? ⟨b, off + i, none⟩ = some (.bool (xs.getD i false)))

/-- The same, and (where there is an element) its block is one of lo to hi - 1, and may be written. -/
def BoolsAt (lo hi : Nat) (w : World) (v : Value) (xs : List Bool) : Prop :=
  ∃ a cap, v = .slice a xs.length cap ∧ (xs = [] ∨ ∃ b off, a = some ⟨b, off, none⟩ ∧ lo ≤ b ∧ b < hi ∧ ∀ i, i < xs.length → w.cell? ⟨b, off + i, none⟩ = some (.bool (xs.getD i false)) ∧ w.frozen? ⟨b, off + i, none⟩ = false)

theorem BoolsAt.read {lo hi : Nat} {w : World} {v : Value} {xs : List Bool} (h : BoolsAt lo hi w v xs) : BRead w v xs := by
  obtain ⟨a, cap, hv, h⟩ := h
  refine ⟨a, cap, hv, ?_⟩
  rcases h with h | ⟨b, off, ha, _, _, hc⟩
  · exact .inl h
  · exact .inr ⟨b, off, ha, fun i hi => (hc i hi).1⟩

theorem BoolsAt.mono {lo hi lo' hi' : Nat} {w : World} {v : Value} {xs : List Bool} (h : BoolsAt lo hi w v xs) (h1 : lo' ≤ lo) (h2 : hi ≤ hi') : BoolsAt lo' hi' w v xs := by
  obtain ⟨a, cap, hv, h⟩ := h
  refine ⟨a, cap, hv, ?_⟩
  rcases h with h | ⟨b, off, ha, hl, hh, hc⟩
  · exact .inl h
  · exact .inr ⟨b, off, ha, by omega, by omega, hc⟩

theorem BoolsAt.of_blocks {lo hi : Nat} {w w' : World} {v : Value} {xs : List Bool} (h : BoolsAt lo hi w v xs) (hb : ∀ i, lo ≤ i → i < hi → w'.heap[i]? = w.heap[i]?) : BoolsAt lo hi w' v xs := by
  obtain ⟨a, cap, hv, h⟩ := h
  refine ⟨a, cap, hv, ?_⟩
  rcases h with h | ⟨b, off, ha, hl, hh, hc⟩
  · exact .inl h
  · refine .inr ⟨b, off, ha, hl, hh, fun i hi => ?_⟩
    have e := hb b hl hh
    rw [World.cell?_of_block (w := w) (a := ⟨b, off + i, none⟩) e, World.frozen?_of_block (w := w) (a := ⟨b, off + i, none⟩) e]
    exact hc i hi

theorem BoolsAt.below {lo hi B : Nat} {w w' : World} {v : Value} {xs : List Bool} (h : BoolsAt lo hi w v xs) (hb : Below B w w') (hB : hi ≤ B) : BoolsAt lo hi w' v xs :=
  h.of_blocks fun i _ h2 => hb.block i (by omega)
theorem BoolsAt.within {lo hi lo' hi' : Nat} {w w' : World} {v : Value} {xs : List Bool} (h : BoolsAt lo hi w v xs) (hb : Within lo' hi' w w') (hw : hi ≤ w.heap.size) (hB : hi ≤ lo' ∨ hi' ≤ lo) : BoolsAt lo hi w' v xs :=
  h.of_blocks fun i h1 h2 => hb.block i (by omega) (by omega)
theorem BoolsAt.drewN {lo hi : Nat} {w : World} {v : Value} {xs : List Bool} (h : BoolsAt lo hi w v xs) (n : Nat) : BoolsAt lo hi (w.drewN n) v xs :=
  h.of_blocks fun i h1 h2 => rfl
theorem BoolsAt.drew {lo hi : Nat} {w : World} {v : Value} {xs : List Bool} (h : BoolsAt lo hi w v xs) : BoolsAt lo hi w.drew v xs :=
  h.of_blocks fun i h1 h2 => rfl
theorem BoolsAt.alloc {lo hi : Nat} {w : World} {v : Value} {xs : List Bool} (h : BoolsAt lo hi w v xs) (hh : hi ≤ w.heap.size) (o : Obj) : BoolsAt lo hi (w.alloc o) v xs :=
  h.of_blocks fun i h1 h2 => Below.heap_alloc _ _ _ (by omega)
theorem BoolsAt.nil (lo hi : Nat) (w : World) (a : Option Addr) (cap : Nat) : BoolsAt lo hi w (.slice a 0 cap) [] := ⟨a, cap, rfl, .inl rfl⟩

theorem BRead.drewN {w : World} {v : Value} {xs : List Bool} (h : BRead w v xs) (n : Nat) : BRead (w.drewN n) v xs := h
theorem BRead.below {w w' : World} {v : Value} {xs : List Bool} (h : BRead w v xs) (hb : Below w.heap.size w w') : BRead w' v xs := by
  obtain ⟨a, cap, hv, h⟩ := h
  refine ⟨a, cap, hv, ?_⟩
  rcases h with h | ⟨b, off, ha, hc⟩
  · exact .inl h
  · exact .inr ⟨b, off, ha, fun i hi => cellb hb (hc i hi)⟩
theorem BRead.nil (w : World) (a : Option Addr) (cap : Nat) : BRead w (.slice a 0 cap) [] := ⟨a, cap, rfl, .inl rfl⟩

theorem bools_one_cell (xs : List Bool) : ∀ u ∈ xs.map (Value.bool), u.oneCell' = true := by
  intro u hu
  obtain ⟨n, _, rfl⟩ := List.mem_map.1 hu
  rfl
/-- What a call owns by appending, read as integers. -/
theorem own_bools {w : World} {base n hi : Nat} {e : TypeId} {v : Value} {xs : List Bool} (h : w.ownsRow base e 1 v n (xs.map (Value.bool))) (hh : w.heap.size ≤ hi) : BoolsAt base hi w v xs := by
  obtain ⟨hl, h⟩ := h
  simp at hl
  rcases h with ⟨rfl, h0⟩ | ⟨g, cap, cur, rfl, hb, hg, h1, h2, h3, h4⟩
  · obtain rfl : xs = [] := List.length_eq_zero_iff.1 (by omega)
    exact ⟨_, _, rfl, .inl rfl⟩
  · subst hl
    have hlt : g < w.heap.size := by
      rcases Nat.lt_or_ge g w.heap.size with h' | h'
      · exact h'
      · rw [Array.getElem?_eq_none h'] at hg; cases hg
    refine ⟨_, _, rfl, .inr ⟨g, 0, rfl, hb, by omega, fun i hi => ⟨?_, ?_⟩⟩⟩
    · simp only [World.cell?, hg, Nat.zero_add]
      have e1 : cur[i]? = (cur.toList.take (xs.length * 1))[i]? := by
        rw [List.getElem?_take_of_lt (by omega), Array.getElem?_toList]
      simp only [Option.isSome_none, Bool.false_eq_true, if_false]
      rw [e1, h4]
      simp [hi]
    · simp [World.frozen?, hg]

theorem bools_news {w : World} {b off : Nat} {xs : List Bool} (h : ∀ i, i < xs.length → w.cell? ⟨b, off + i, none⟩ = some (.bool (xs.getD i false))) : ∀ j u, (xs.map (Value.bool))[j]? = some u → w.cell? ((⟨b, off, none⟩ : Addr).add j) = some u := by
  intro j u hj
  have hlt : j < xs.length := by
    rcases Nat.lt_or_ge j xs.length with h' | h'
    · exact h'
    · rw [List.getElem?_eq_none (by simpa using h')] at hj; cases hj
  have := h j hlt
  rw [show ((⟨b, off, none⟩ : Addr).add j) = ⟨b, off + j, none⟩ from by simp [Addr.add], this]
  simp [hlt] at hj
  simp [hlt, hj]

theorem BRead.spot {w : World} {a : Option Addr} {n cap : Nat} {xs : List Bool} (h : BRead w (.slice a n cap) xs) (i : Nat) (hi : i < xs.length) : ∃ b off, a = some ⟨b, off, none⟩ ∧ w.cell? ⟨b, off + i, none⟩ = some (.bool (xs.getD i false)) := by
  obtain ⟨a', c, hv, h⟩ := h
  rcases h with h | ⟨b, off, ha, hc⟩
  · rw [h] at hi; simp at hi
  · injection hv with h1 h2 h3
    exact ⟨b, off, h1.trans ha, hc i hi⟩

/-- A slice of integers that came in, as the row's reading gives it. -/
theorem bread_take {w : World} {x : Addr} {len cap : Nat} {zs : List Bool} (hz : zs.length = cap) (hl : len ≤ cap) (hm : cap ≤ maxLen) (hcell : ∀ i, i < zs.length → w.cell? (x.add i) = some (.bool (zs.getD i false))) : ∃ ys, BRead w (.slice (some x) len cap) ys ∧ ys.length ≤ maxLen := by
  have hlen : (zs.take len).length = len := by rw [List.length_take]; omega
  refine ⟨zs.take len, ⟨_, _, by rw [hlen], ?_⟩, by omega⟩
  by_cases h0 : len = 0
  · exact .inl (List.length_eq_zero_iff.1 (by omega))
  · right
    obtain ⟨b, off, spot⟩ := x
    have hc := hcell 0 (by omega)
    have hspot : spot = none := by simpa [Addr.add] using World.cell?_spot hc
    subst hspot
    refine ⟨b, off, rfl, fun i hi => ?_⟩
    rw [hlen] at hi
    have := hcell i (by omega)
    rw [show ((⟨b, off, none⟩ : Addr).add i) = ⟨b, off + i, none⟩ from by simp [Addr.add]] at this
    rw [show (zs.take len).getD i false = zs.getD i false from by simp [List.getD_eq_getElem?_getD, List.getElem?_take_of_lt hi]]
    exact this

/-- The booleans that a mark lays. -/
def mk3 (k : Int) : Bool := decide (k % 3 = 0)
def marksT (k0 : Int) : Nat → List Bool
  | 0 => []
  | n + 1 => marksT k0 n ++ [mk3 (k0 + n)]
theorem marksT_length (k0 : Int) (n : Nat) : (marksT k0 n).length = n := by
  induction n with
  | zero => rfl
  | succ n ih => simp [marksT, ih]
theorem marksT_get (k0 : Int) (n i : Nat) (h : i < n) : (marksT k0 n).getD i false = mk3 (k0 + i) := by
  induction n with
  | zero => omega
  | succ n ih =>
    simp only [marksT]
    by_cases e : i < n
    · have := ih e
      simp only [List.getD_eq_getElem?_getD] at this ⊢
      rw [List.getElem?_append_left (by rw [marksT_length]; omega)]
      exact this
    · obtain rfl : i = n := by omega
      simp [List.getElem?_append_right, marksT_length]
theorem marksT_at (k0 : Int) (n : Nat) : ∀ i, i < (marksT k0 n).length → (marksT k0 n).getD i false = mk3 (k0 + i : Int) := fun i hi => marksT_get _ _ _ (by rwa [marksT_length] at hi)

end Go.Proofs.YtknkbihjboadjaaDoor
