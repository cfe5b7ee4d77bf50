/-
  Slices of integers in memory: what is read of one (ReadAt), what a call owns (IntsAt), what a change within some blocks leaves alone (Within).
-/
import Derived.WalkKit
import Derived.ProofKit
import Derived.OpenShut
import Derived.Below
import Derived.Deep.Draws
namespace Go.Proofs.YtcfechnkgefhcaaDoor
set_option maxRecDepth 20000
open Go.ChangeShapes Go.WideShapes Go.ChangeAt Go.RowKit
set_option linter.unusedVariables false
set_option linter.unusedSimpArgs false

theorem hide {p : Prop} (h : p) : Hid p := h
theorem unhide {p : Prop} (h : Hid p) : p := h

/-- The slice v reads as the integers xs in the world w. -/
def ReadAt (k : IntKind) (w : World) (v : Value) (xs : List Int) : Prop :=
  ∃ a cap, v = .slice a xs.length cap ∧ (xs = [] ∨ ∃ b off, a = some ⟨b, off, none⟩ ∧ ∀ i, i < xs.length → w.cell? ⟨b, off + i, none⟩ = some (.int k (xs.getD i 0)))

/-- The same, and (where there is an element) its block is one of lo to hi - 1, and may be written. -/
def IntsAt (k : IntKind) (lo hi : Nat) (w : World) (v : Value) (xs : List Int) : Prop :=
  ∃ a cap, v = .slice a xs.length cap ∧ (xs = [] ∨ ∃ b off, a = some ⟨b, off, none⟩ ∧ lo ≤ b ∧ b < hi ∧ ∀ i, i < xs.length → w.cell? ⟨b, off + i, none⟩ = some (.int k (xs.getD i 0)) ∧ w.frozen? ⟨b, off + i, none⟩ = false)

/-- Of the blocks that were there none but lo to hi - 1 has turned. -/
structure Within (lo hi : Nat) (w w' : World) : Prop where
  os : w'.os = w.os
  tape : w'.tape = w.tape
  output : w'.output = w.output
  size : w.heap.size ≤ w'.heap.size
  block : ∀ k, k < w.heap.size → (k < lo ∨ hi ≤ k) → w'.heap[k]? = w.heap[k]?

theorem Within.refl (lo hi : Nat) (w : World) : Within lo hi w w := ⟨rfl, rfl, rfl, Nat.le_refl _, fun _ _ _ => rfl⟩
theorem Within.trans {lo hi : Nat} {a b c : World} (h : Within lo hi a b) (k : Within lo hi b c) : Within lo hi a c :=
  ⟨k.os.trans h.os, k.tape.trans h.tape, k.output.trans h.output, Nat.le_trans h.size k.size, fun i hi ho => (k.block i (Nat.lt_of_lt_of_le hi h.size) ho).trans (h.block i hi ho)⟩
theorem Within.draws {lo hi : Nat} {a b : World} (h : Within lo hi a b) (n : Nat) : Within lo hi a (b.drewN n) := ⟨h.os, h.tape, h.output, h.size, h.block⟩
theorem Within.setCell {lo hi : Nat} {a w : World} (h : Within lo hi a w) {p : Addr} (h1 : lo ≤ p.block) (h2 : p.block < hi) (u : Value) : Within lo hi a (w.setCell p u) :=
  h.trans ⟨rfl, rfl, rfl, by simp [World.setCell], fun k _ hk => Below.heap_setCell _ _ _ _ (by omega)⟩
theorem Within.of_below {lo hi B : Nat} {w w' : World} (h : Below B w w') (hB : w.heap.size ≤ B) : Within lo hi w w' := ⟨h.os, h.tape, h.output, h.size, fun k hk _ => h.block k (by omega)⟩
theorem Within.below {lo hi B : Nat} {w w' : World} (h : Within lo hi w w') (hB : B ≤ lo) (hw : B ≤ w.heap.size) : Below B w w' :=
  ⟨h.os, h.tape, h.output, h.size, fun k hk => h.block k (by omega) (by omega)⟩
theorem Within.cell {lo hi : Nat} {w w' : World} (h : Within lo hi w w') {b o : Nat} {u : Value} (hs : b < w.heap.size) (hb : b < lo ∨ hi ≤ b) (hc : w.cell? ⟨b, o, none⟩ = some u) : w'.cell? ⟨b, o, none⟩ = some u :=
  (World.cell?_of_block (w := w) (a := ⟨b, o, none⟩) (h.block b hs hb)).trans hc
/-- A cell that was there is there. -/
theorem cellk {B : Nat} {w w' : World} (h : Below B w w') {b o : Nat} {u : Value} (hb : b < B) (hc : w.cell? ⟨b, o, none⟩ = some u) : w'.cell? ⟨b, o, none⟩ = some u := (h.cell (p := ⟨b, o, none⟩) hb).trans hc
theorem lt_of_cell {w : World} {b o : Nat} {u : Value} (hc : w.cell? ⟨b, o, none⟩ = some u) : b < w.heap.size := by
  unfold World.cell? at hc
  split at hc
  · rename_i c e f hb
    rcases Nat.lt_or_ge b w.heap.size with h | h
    · exact h
    · rw [Array.getElem?_eq_none h] at hb; cases hb
  · cases hc
/-- .. and so, where nothing old has turned, every cell that was there. -/
theorem cellb {w w' : World} (h : Below w.heap.size w w') {b o : Nat} {u : Value} (hc : w.cell? ⟨b, o, none⟩ = some u) : w'.cell? ⟨b, o, none⟩ = some u := cellk h (lt_of_cell hc) hc

theorem bcell {W w1 : World} (hb : Below W.heap.size W w1) : (∀ b o, b < W.heap.size → w1.cell? ⟨b, o, none⟩ = W.cell? ⟨b, o, none⟩) ∧ (∀ b o, b < W.heap.size → w1.frozen? ⟨b, o, none⟩ = W.frozen? ⟨b, o, none⟩) :=
  ⟨fun b o h => hb.cell (p := ⟨b, o, none⟩) h, fun b o h => hb.frozen (p := ⟨b, o, none⟩) h⟩
theorem below_drewN {B : Nat} {a w : World} (h : Below B a w) (n : Nat) : Below B a (w.drewN n) := h.trans ⟨rfl, rfl, rfl, Nat.le_refl _, fun _ _ => rfl⟩

theorem IntsAt.read {k : IntKind} {lo hi : Nat} {w : World} {v : Value} {xs : List Int} (h : IntsAt k lo hi w v xs) : ReadAt k w v xs := by
  obtain ⟨a, cap, hv, h⟩ := h
  refine ⟨a, cap, hv, ?_⟩
  rcases h with h | ⟨b, off, ha, _, _, hc⟩
  · exact .inl h
  · exact .inr ⟨b, off, ha, fun i hi => (hc i hi).1⟩

theorem IntsAt.mono {k : IntKind} {lo hi lo' hi' : Nat} {w : World} {v : Value} {xs : List Int} (h : IntsAt k lo hi w v xs) (h1 : lo' ≤ lo) (h2 : hi ≤ hi') : IntsAt k lo' hi' w v xs := by
  obtain ⟨a, cap, hv, h⟩ := h
  refine ⟨a, cap, hv, ?_⟩
  rcases h with h | ⟨b, off, ha, hl, hh, hc⟩
  · exact .inl h
  · exact .inr ⟨b, off, ha, by omega, by omega, hc⟩

theorem IntsAt.of_blocks {k : IntKind} {lo hi : Nat} {w w' : World} {v : Value} {xs : List Int} (h : IntsAt k lo hi w v xs) (hb : ∀ i, lo ≤ i → i < hi → w'.heap[i]? = w.heap[i]?) : IntsAt k lo hi w' v xs := by
  obtain ⟨a, cap, hv, h⟩ := h
  refine ⟨a, cap, hv, ?_⟩
  rcases h with h | ⟨b, off, ha, hl, hh, hc⟩
  · exact .inl h
  · refine .inr ⟨b, off, ha, hl, hh, fun i hi => ?_⟩
    have e := hb b hl hh
    rw [World.cell?_of_block (w := w) (a := ⟨b, off + i, none⟩) e, World.frozen?_of_block (w := w) (a := ⟨b, off + i, none⟩) e]
    exact hc i hi

theorem IntsAt.below {k : IntKind} {lo hi B : Nat} {w w' : World} {v : Value} {xs : List Int} (h : IntsAt k lo hi w v xs) (hb : Below B w w') (hB : hi ≤ B) : IntsAt k lo hi w' v xs :=
  h.of_blocks fun i _ h2 => hb.block i (by omega)
theorem IntsAt.within {k : IntKind} {lo hi lo' hi' : Nat} {w w' : World} {v : Value} {xs : List Int} (h : IntsAt k lo hi w v xs) (hb : Within lo' hi' w w') (hw : hi ≤ w.heap.size) (hB : hi ≤ lo' ∨ hi' ≤ lo) : IntsAt k lo hi w' v xs :=
  h.of_blocks fun i h1 h2 => hb.block i (by omega) (by omega)
theorem IntsAt.drewN {k : IntKind} {lo hi : Nat} {w : World} {v : Value} {xs : List Int} (h : IntsAt k lo hi w v xs) (n : Nat) : IntsAt k lo hi (w.drewN n) v xs :=
  h.of_blocks fun i h1 h2 => rfl
theorem IntsAt.drew {k : IntKind} {lo hi : Nat} {w : World} {v : Value} {xs : List Int} (h : IntsAt k lo hi w v xs) : IntsAt k lo hi w.drew v xs :=
  h.of_blocks fun i h1 h2 => rfl
theorem IntsAt.alloc {k : IntKind} {lo hi : Nat} {w : World} {v : Value} {xs : List Int} (h : IntsAt k lo hi w v xs) (hh : hi ≤ w.heap.size) (o : Obj) : IntsAt k lo hi (w.alloc o) v xs :=
  h.of_blocks fun i h1 h2 => Below.heap_alloc _ _ _ (by omega)
theorem IntsAt.nil (k : IntKind) (lo hi : Nat) (w : World) (a : Option Addr) (cap : Nat) : IntsAt k lo hi w (.slice a 0 cap) [] := ⟨a, cap, rfl, .inl rfl⟩

theorem ReadAt.drewN {k : IntKind} {w : World} {v : Value} {xs : List Int} (h : ReadAt k w v xs) (n : Nat) : ReadAt k (w.drewN n) v xs := h
theorem ReadAt.below {k : IntKind} {w w' : World} {v : Value} {xs : List Int} (h : ReadAt k w v xs) (hb : Below w.heap.size w w') : ReadAt k w' v xs := by
  obtain ⟨a, cap, hv, h⟩ := h
  refine ⟨a, cap, hv, ?_⟩
  rcases h with h | ⟨b, off, ha, hc⟩
  · exact .inl h
  · exact .inr ⟨b, off, ha, fun i hi => cellb hb (hc i hi)⟩
theorem ReadAt.nil (k : IntKind) (w : World) (a : Option Addr) (cap : Nat) : ReadAt k w (.slice a 0 cap) [] := ⟨a, cap, rfl, .inl rfl⟩

theorem addr_ne {b b' o o' : Nat} (h : b ≠ b' ∨ o ≠ o') : (⟨b, o, none⟩ : Addr) ≠ ⟨b', o', none⟩ := by
  intro e
  injection e with e1 e2
  omega

theorem new_row_cells (w : World) (C : Array Value) (t : TypeId) (cs : List Value) (hC : C.toList = cs) : ∀ j u, cs[j]? = some u → (w.alloc (.cells C t)).cell? ((⟨w.heap.size, 0, none⟩ : Addr).add j) = some u := by
  intro j u hj
  rw [show ((⟨w.heap.size, 0, none⟩ : Addr).add j) = ⟨w.heap.size, j, none⟩ from by simp [Addr.add]; omega, World.cell?_alloc_mark, ← Array.getElem?_toList, hC]
  exact hj
theorem new_row_at {w : World} {g : Nat} {C : Array Value} {t : TypeId} {cs : List Value} (hg : g = w.heap.size) (hC : C.toList = cs) : ∀ j u, cs[j]? = some u → (w.alloc (.cells C t)).cell? ((⟨g, 0, none⟩ : Addr).add j) = some u := by
  subst hg
  exact new_row_cells w C t cs hC
theorem ints_one_cell (k : IntKind) (xs : List Int) : ∀ u ∈ xs.map (Value.int k), u.oneCell' = true := by
  intro u hu
  obtain ⟨n, _, rfl⟩ := List.mem_map.1 hu
  rfl
theorem below_appended {base : Nat} {w w' : World} {v : Value} {o : Obj} (hb : base ≤ w.heap.size) (hg : (w.alloc o).grownBy w' v.ownBlock) (hlt : ∀ k, v.ownBlock = some k → base ≤ k ∧ k < w.heap.size) : Below base w w' :=
  ((Below.refl base w).alloc hb o).grown hg (by simp; omega) (fun k hk => (hlt k hk).1)

/-- What a call owns by appending, read as integers. -/
theorem own_ints {w : World} {base n hi : Nat} {e : TypeId} {k : IntKind} {v : Value} {xs : List Int} (h : w.ownsRow base e 1 v n (xs.map (Value.int k))) (hh : w.heap.size ≤ hi) : IntsAt k base hi w v xs := by
  obtain ⟨hl, h⟩ := h
  simp at hl
  rcases h with ⟨rfl, h0⟩ | ⟨g, cap, cur, rfl, hb, hg, h1, h2, h3, h4⟩
  · obtain rfl : xs = [] := List.length_eq_zero_iff.1 (by omega)
    exact ⟨_, _, rfl, .inl rfl⟩
  · subst hl
    have hlt : g < w.heap.size := by
      rcases Nat.lt_or_ge g w.heap.size with h' | h'
      · exact h'
      · rw [Array.getElem?_eq_none h'] at hg; cases hg
    refine ⟨_, _, rfl, .inr ⟨g, 0, rfl, hb, by omega, fun i hi => ⟨?_, ?_⟩⟩⟩
    · simp only [World.cell?, hg, Nat.zero_add]
      have e1 : cur[i]? = (cur.toList.take (xs.length * 1))[i]? := by
        rw [List.getElem?_take_of_lt (by omega), Array.getElem?_toList]
      simp only [Option.isSome_none, Bool.false_eq_true, if_false]
      rw [e1, h4]
      simp [hi]
    · simp [World.frozen?, hg]

theorem own_any {w : World} {base n cap g : Nat} {e : TypeId} {xs : List Value} (h : w.ownsRow base e 1 (.slice (some ⟨g, 0, none⟩) n cap) n xs) : ∀ j, j < n → (∃ u, w.cell? ⟨g, 0 + j, none⟩ = some u) ∧ w.frozen? ⟨g, 0 + j, none⟩ = false := by
  intro j hj
  have hl := h.1
  refine ⟨⟨xs[j]'(by omega), ?_⟩, ?_⟩
  · rw [Nat.zero_add, h.cellAt j (by omega)]
    exact List.getElem?_eq_getElem (by omega)
  · rw [Nat.zero_add]; exact h.frozenAt j

theorem own_below {w w' : World} {base n size : Nat} {e : TypeId} {v : Value} {xs : List Value} (h : w.ownsRow base e size v n xs) (hb : Below w.heap.size w w') : w'.ownsRow base e size v n xs :=
  h.kept (row := none) ⟨hb.os, hb.tape, hb.output, hb.size, fun k hk _ => hb.block k hk⟩ (by cases v.ownBlock <;> simp)
theorem ints_news {k : IntKind} {w : World} {b off : Nat} {xs : List Int} (h : ∀ i, i < xs.length → w.cell? ⟨b, off + i, none⟩ = some (.int k (xs.getD i 0))) : ∀ j u, (xs.map (Value.int k))[j]? = some u → w.cell? ((⟨b, off, none⟩ : Addr).add j) = some u := by
  intro j u hj
  have hlt : j < xs.length := by
    rcases Nat.lt_or_ge j xs.length with h' | h'
    · exact h'
    · rw [List.getElem?_eq_none (by simpa using h')] at hj; cases hj
  have := h j hlt
  rw [show ((⟨b, off, none⟩ : Addr).add j) = ⟨b, off + j, none⟩ from by simp [Addr.add], this]
  simp [hlt] at hj
  simp [hlt, hj]

/-- A slice of integers that came in, as the row's reading gives it. -/
theorem read_take {k : IntKind} {w : World} {x : Addr} {len cap : Nat} {zs : List Int} (hz : zs.length = cap) (hl : len ≤ cap) (hm : cap ≤ maxLen) (hcell : ∀ i, i < zs.length → w.cell? (x.add i) = some (.int k (zs.getD i 0))) : ∃ ys, ReadAt k w (.slice (some x) len cap) ys ∧ ys.length ≤ maxLen := by
  have hlen : (zs.take len).length = len := by rw [List.length_take]; omega
  refine ⟨zs.take len, ⟨_, _, by rw [hlen], ?_⟩, by omega⟩
  by_cases h0 : len = 0
  · exact .inl (List.length_eq_zero_iff.1 (by omega))
  · right
    obtain ⟨b, off, spot⟩ := x
    have hc := hcell 0 (by omega)
    have hspot : spot = none := by simpa [Addr.add] using World.cell?_spot hc
    subst hspot
    refine ⟨b, off, rfl, fun i hi => ?_⟩
    rw [hlen] at hi
    have := hcell i (by omega)
    rw [show ((⟨b, off, none⟩ : Addr).add i) = ⟨b, off + i, none⟩ from by simp [Addr.add]] at this
    rw [show (zs.take len).getD i 0 = zs.getD i 0 from by simp [List.getD_eq_getElem?_getD, List.getElem?_take_of_lt hi]]
    exact this

theorem read_cells {k : IntKind} {w : World} {g n cap : Nat} {xs : List Int} (h : ReadAt k w (.slice (some ⟨g, 0, none⟩) n cap) xs) : ∀ i, i < xs.length → w.cell? ⟨g, 0 + i, none⟩ = some (.int k (xs.getD i 0)) := by
  obtain ⟨a, c, hv, h⟩ := h
  intro i hi
  rcases h with h | ⟨b, off, ha, hc⟩
  · rw [h] at hi; simp at hi
  · injection hv with h1 h2 h3
    rw [ha] at h1
    injection h1 with h1
    injection h1 with h4 h5
    have := hc i hi
    rw [← h4, ← h5] at this
    exact this
theorem cell_add_below {w w' : World} {g o j : Nat} {u : Value} (hb : Below w.heap.size w w') (h : w.cell? ((⟨g, o, none⟩ : Addr).add j) = some u) : w'.cell? ((⟨g, o, none⟩ : Addr).add j) = some u := by
  have e : ((⟨g, o, none⟩ : Addr).add j) = ⟨g, o + j, none⟩ := by simp [Addr.add]; try omega
  rw [e] at h ⊢
  exact cellb hb h

theorem ReadAt.spot {k : IntKind} {w : World} {a : Option Addr} {n cap : Nat} {xs : List Int} (h : ReadAt k w (.slice a n cap) xs) (i : Nat) (hi : i < xs.length) : ∃ b off, a = some ⟨b, off, none⟩ ∧ w.cell? ⟨b, off + i, none⟩ = some (.int k (xs.getD i 0)) := by
  obtain ⟨a', c, hv, h⟩ := h
  rcases h with h | ⟨b, off, ha, hc⟩
  · rw [h] at hi; simp at hi
  · injection hv with h1 h2 h3
    exact ⟨b, off, h1.trans ha, hc i hi⟩

/-- The integers that a mark lays: k0, k0 + 1 and so on. -/
def marks (k0 : Int) : Nat → List Int
  | 0 => []
  | n + 1 => marks k0 n ++ [k0 + n]
theorem marks_length (k0 : Int) (n : Nat) : (marks k0 n).length = n := by
  induction n with
  | zero => rfl
  | succ n ih => simp [marks, ih]
theorem marks_get (k0 : Int) (n i : Nat) (h : i < n) : (marks k0 n).getD i 0 = k0 + i := by
  induction n with
  | zero => omega
  | succ n ih =>
    simp only [marks]
    by_cases e : i < n
    · have := ih e
      simp only [List.getD_eq_getElem?_getD] at this ⊢
      rw [List.getElem?_append_left (by rw [marks_length]; omega)]
      exact this
    · obtain rfl : i = n := by omega
      simp [List.getElem?_append_right, marks_length]

/-- .. and of bytes. -/
def marksB (k0 : Int) : Nat → List Int
  | 0 => []
  | n + 1 => marksB k0 n ++ [(k0 + n) % 256]
theorem marksB_length (k0 : Int) (n : Nat) : (marksB k0 n).length = n := by
  induction n with
  | zero => rfl
  | succ n ih => simp [marksB, ih]
theorem marksB_get (k0 : Int) (n i : Nat) (h : i < n) : (marksB k0 n).getD i 0 = (k0 + i) % 256 := by
  induction n with
  | zero => omega
  | succ n ih =>
    simp only [marksB]
    by_cases e : i < n
    · have := ih e
      simp only [List.getD_eq_getElem?_getD] at this ⊢
      rw [List.getElem?_append_left (by rw [marksB_length]; omega)]
      exact this
    · obtain rfl : i = n := by omega
      simp [List.getElem?_append_right, marksB_length]
theorem marksB_at (k0 : Int) (n : Nat) : ∀ i, i < (marksB k0 n).length → (marksB k0 n).getD i 0 = (k0 + i : Int) % 256 := fun i hi => marksB_get _ _ _ (by rwa [marksB_length] at hi)
theorem marks_at (k0 : Int) (n : Nat) : ∀ i, i < (marks k0 n).length → (marks k0 n).getD i 0 = (k0 + i : Int) := fun i hi => marks_get _ _ _ (by rwa [marks_length] at hi)

end Go.Proofs.YtcfechnkgefhcaaDoor
