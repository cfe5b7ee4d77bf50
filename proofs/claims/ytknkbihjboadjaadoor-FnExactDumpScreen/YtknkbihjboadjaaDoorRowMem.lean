/-
  Rows of cells (pairs of integers) that are written in place: what a row holds at each place (Row), what a change of some places of one block leaves alone (Touch), copy between such rows.
-/
import Derived.Test.YtknkbihjboadjaaDoorMem
import Derived.Laws.IdiomCopy
import Derived.Laws.CopyRow
import Derived.Deep.RegionLaw
namespace Go.Proofs.YtknkbihjboadjaaDoor
set_option maxRecDepth 20000
open Go.ChangeShapes Go.WideShapes Go.ChangeAt Go.RowKit
set_option linter.unusedVariables false
set_option linter.unusedSimpArgs false

/-- From place off of block b on there are n pairs, f i the one at i. -/
def RowR (w : World) (b off n : Nat) (f : Nat → Int × Int) : Prop :=
  ∀ i, i < n → w.cell? ⟨b, off + i * 2, none⟩ = some (.int .i64 (f i).1) ∧ w.cell? ⟨b, off + i * 2 + 1, none⟩ = some (.int .i64 (f i).2)
/-- .. and they may be written. -/
def Row (w : World) (b off n : Nat) (f : Nat → Int × Int) : Prop :=
  ∀ i, i < n → (w.cell? ⟨b, off + i * 2, none⟩ = some (.int .i64 (f i).1) ∧ w.cell? ⟨b, off + i * 2 + 1, none⟩ = some (.int .i64 (f i).2)) ∧ w.frozen? ⟨b, off + i * 2, none⟩ = false ∧ w.frozen? ⟨b, off + i * 2 + 1, none⟩ = false

theorem Row.read {w : World} {b off n : Nat} {f : Nat → Int × Int} (h : Row w b off n f) : RowR w b off n f := fun i hi => (h i hi).1
theorem Row.congr {w : World} {b off n : Nat} {f g : Nat → Int × Int} (h : Row w b off n f) (e : ∀ i, i < n → f i = g i) : Row w b off n g := fun i hi => by rw [← e i hi]; exact h i hi
theorem RowR.congr {w : World} {b off n : Nat} {f g : Nat → Int × Int} (h : RowR w b off n f) (e : ∀ i, i < n → f i = g i) : RowR w b off n g := fun i hi => by rw [← e i hi]; exact h i hi
theorem Row.sub {w : World} {b off n : Nat} {f : Nat → Int × Int} (h : Row w b off n f) (k m : Nat) (hk : k + m ≤ n) : Row w b (off + k * 2) m (fun i => f (k + i)) := fun i hi => by
  have := h (k + i) (by omega)
  rw [show off + (k + i) * 2 = off + k * 2 + i * 2 by omega] at this
  exact this
theorem RowR.sub {w : World} {b off n : Nat} {f : Nat → Int × Int} (h : RowR w b off n f) (k m : Nat) (hk : k + m ≤ n) : RowR w b (off + k * 2) m (fun i => f (k + i)) := fun i hi => by
  have := h (k + i) (by omega)
  rw [show off + (k + i) * 2 = off + k * 2 + i * 2 by omega] at this
  exact this
theorem Row.lt {w : World} {b off n : Nat} {f : Nat → Int × Int} (h : Row w b off n f) (hn : 0 < n) : b < w.heap.size := lt_of_cell (h 0 hn).1.1
theorem RowR.lt {w : World} {b off n : Nat} {f : Nat → Int × Int} (h : RowR w b off n f) (hn : 0 < n) : b < w.heap.size := lt_of_cell (h 0 hn).1
theorem Row.below {B : Nat} {w w' : World} {b off n : Nat} {f : Nat → Int × Int} (h : Row w b off n f) (hb : Below B w w') (hB : b < B) : Row w' b off n f := fun i hi => by
  rw [hb.cell (p := ⟨b, off + i * 2, none⟩) hB, hb.cell (p := ⟨b, off + i * 2 + 1, none⟩) hB, hb.frozen (p := ⟨b, off + i * 2, none⟩) hB, hb.frozen (p := ⟨b, off + i * 2 + 1, none⟩) hB]
  exact h i hi
theorem RowR.below {B : Nat} {w w' : World} {b off n : Nat} {f : Nat → Int × Int} (h : RowR w b off n f) (hb : Below B w w') (hB : b < B) : RowR w' b off n f := fun i hi => by
  rw [hb.cell (p := ⟨b, off + i * 2, none⟩) hB, hb.cell (p := ⟨b, off + i * 2 + 1, none⟩) hB]
  exact h i hi
theorem Row.block {w w' : World} {b off n : Nat} {f : Nat → Int × Int} (h : Row w b off n f) (e : w'.heap[b]? = w.heap[b]?) : Row w' b off n f := fun i hi => by
  rw [World.cell?_of_block (w := w) (a := ⟨b, off + i * 2, none⟩) e, World.cell?_of_block (w := w) (a := ⟨b, off + i * 2 + 1, none⟩) e, World.frozen?_of_block (w := w) (a := ⟨b, off + i * 2, none⟩) e, World.frozen?_of_block (w := w) (a := ⟨b, off + i * 2 + 1, none⟩) e]
  exact h i hi
theorem RowR.block {w w' : World} {b off n : Nat} {f : Nat → Int × Int} (h : RowR w b off n f) (e : w'.heap[b]? = w.heap[b]?) : RowR w' b off n f := fun i hi => by
  rw [World.cell?_of_block (w := w) (a := ⟨b, off + i * 2, none⟩) e, World.cell?_of_block (w := w) (a := ⟨b, off + i * 2 + 1, none⟩) e]
  exact h i hi

/-- Of what was there nothing has turned but the places p to q - 1 of block b. -/
structure Touch (b p q : Nat) (w w' : World) : Prop where
  os : w'.os = w.os
  tape : w'.tape = w.tape
  output : w'.output = w.output
  size : w.heap.size ≤ w'.heap.size
  block : ∀ k, k < w.heap.size → k ≠ b → w'.heap[k]? = w.heap[k]?
  cell : ∀ o, o < p ∨ q ≤ o → w'.cell? ⟨b, o, none⟩ = w.cell? ⟨b, o, none⟩
  frozen : ∀ o, w'.frozen? ⟨b, o, none⟩ = w.frozen? ⟨b, o, none⟩

theorem Touch.refl (b p q : Nat) (w : World) : Touch b p q w w := ⟨rfl, rfl, rfl, Nat.le_refl _, fun _ _ _ => rfl, fun _ _ => rfl, fun _ => rfl⟩
theorem Touch.trans {b p q : Nat} {a w c : World} (h : Touch b p q a w) (k : Touch b p q w c) : Touch b p q a c :=
  ⟨k.os.trans h.os, k.tape.trans h.tape, k.output.trans h.output, Nat.le_trans h.size k.size, fun i hi hb => (k.block i (Nat.lt_of_lt_of_le hi h.size) hb).trans (h.block i hi hb), fun o ho => (k.cell o ho).trans (h.cell o ho), fun o => (k.frozen o).trans (h.frozen o)⟩
theorem Touch.mono {b p q p' q' : Nat} {w w' : World} (h : Touch b p q w w') (h1 : p' ≤ p) (h2 : q ≤ q') : Touch b p' q' w w' :=
  ⟨h.os, h.tape, h.output, h.size, h.block, fun o ho => h.cell o (by omega), h.frozen⟩
theorem Touch.of_below {b p q B : Nat} {w w' : World} (h : Below B w w') (hB : w.heap.size ≤ B) (hb : b < w.heap.size) : Touch b p q w w' :=
  ⟨h.os, h.tape, h.output, h.size, fun k hk _ => h.block k (by omega), fun o _ => h.cell (p := ⟨b, o, none⟩) (by simp; omega), fun o => h.frozen (p := ⟨b, o, none⟩) (by simp; omega)⟩
theorem Touch.setCell {b p q o : Nat} {a w : World} (h : Touch b p q a w) (h1 : p ≤ o) (h2 : o < q) (u : Value) : Touch b p q a (w.setCell ⟨b, o, none⟩ u) :=
  h.trans ⟨rfl, rfl, rfl, by simp [World.setCell], fun k _ hk => Below.heap_setCell _ _ _ _ (by simp; omega), fun x hx => World.cell?_setCell_other _ _ _ _ (addr_ne (by omega)), fun x => World.frozen?_setCell _ _ _ _⟩
theorem Touch.within {b p q lo hi : Nat} {w w' : World} (h : Touch b p q w w') (h1 : lo ≤ b) (h2 : b < hi) : Within lo hi w w' :=
  ⟨h.os, h.tape, h.output, h.size, fun k hk ho => h.block k hk (by omega)⟩
theorem Touch.below {b p q B : Nat} {w w' : World} (h : Touch b p q w w') (h1 : B ≤ b) (h2 : B ≤ w.heap.size) : Below B w w' :=
  ⟨h.os, h.tape, h.output, h.size, fun k hk => h.block k (by omega) (by omega)⟩
theorem Touch.drewN {b p q : Nat} {a w : World} (h : Touch b p q a w) (n : Nat) : Touch b p q a (w.drewN n) := ⟨h.os, h.tape, h.output, h.size, h.block, h.cell, h.frozen⟩
theorem Touch.drew {b p q : Nat} {a w : World} (h : Touch b p q a w) : Touch b p q a w.drew := ⟨h.os, h.tape, h.output, h.size, h.block, h.cell, h.frozen⟩
theorem Touch.cellAt {b p q c o : Nat} {w w' : World} {u : Value} (h : Touch b p q w w') (hc : w.cell? ⟨c, o, none⟩ = some u) (ho : c ≠ b ∨ o < p ∨ q ≤ o) : w'.cell? ⟨c, o, none⟩ = some u := by
  by_cases e : c = b
  · subst e; rw [h.cell o (by omega)]; exact hc
  · exact (World.cell?_of_block (w := w) (a := ⟨c, o, none⟩) (h.block c (lt_of_cell hc) e)).trans hc
theorem Touch.frozenAt {b p q c o : Nat} {w w' : World} {x : Bool} (h : Touch b p q w w') (hs : c < w.heap.size) (hc : w.frozen? ⟨c, o, none⟩ = x) : w'.frozen? ⟨c, o, none⟩ = x := by
  by_cases e : c = b
  · subst e; rw [h.frozen o]; exact hc
  · exact (World.frozen?_of_block (w := w) (a := ⟨c, o, none⟩) (h.block c hs e)).trans hc

theorem Row.touch {b p q c off n : Nat} {w w' : World} {f : Nat → Int × Int} (h : Row w c off n f) (ht : Touch b p q w w') (ho : c ≠ b ∨ off + n * 2 ≤ p ∨ q ≤ off) : Row w' c off n f := fun i hi => by
  obtain ⟨⟨h1, h2⟩, h3, h4⟩ := h i hi
  have hs := lt_of_cell h1
  exact ⟨⟨ht.cellAt h1 (by omega), ht.cellAt h2 (by omega)⟩, ht.frozenAt hs h3, ht.frozenAt hs h4⟩
theorem RowR.touch {b p q c off n : Nat} {w w' : World} {f : Nat → Int × Int} (h : RowR w c off n f) (ht : Touch b p q w w') (ho : c ≠ b ∨ off + n * 2 ≤ p ∨ q ≤ off) : RowR w' c off n f := fun i hi => by
  obtain ⟨h1, h2⟩ := h i hi
  exact ⟨ht.cellAt h1 (by omega), ht.cellAt h2 (by omega)⟩
/-- A part of the row was turned. -/
theorem Row.join {b off n k m : Nat} {w w' : World} {f g : Nat → Int × Int} (h : Row w b off n f) (ht : Touch b (off + k * 2) (off + (k + m) * 2) w w') (hg : Row w' b (off + k * 2) m g) (hk : k + m ≤ n) :
    Row w' b off n (fun i => if k ≤ i ∧ i < k + m then g (i - k) else f i) := fun i hi => by
  obtain ⟨⟨h1, h2⟩, h3, h4⟩ := h i hi
  by_cases e : k ≤ i ∧ i < k + m
  · simp only [if_pos e]
    have := hg (i - k) (by omega)
    rw [show off + k * 2 + (i - k) * 2 = off + i * 2 by omega] at this
    exact this
  · simp only [if_neg e]
    have hs := lt_of_cell h1
    exact ⟨⟨ht.cellAt h1 (by omega), ht.cellAt h2 (by omega)⟩, ht.frozenAt hs h3, ht.frozenAt hs h4⟩
/-- A pair was stored. -/
theorem Row.store {b off n k : Nat} {w : World} {f : Nat → Int × Int} (h : Row w b off n f) (hk : k < n) (x y : Int) :
    Row ((w.setCell ⟨b, off + k * 2, none⟩ (.int .i64 x)).setCell ⟨b, off + k * 2 + 1, none⟩ (.int .i64 y)) b off n (fun i => if i = k then (x, y) else f i) := fun i hi => by
  obtain ⟨⟨h1, h2⟩, h3, h4⟩ := h k hk
  obtain ⟨⟨g1, g2⟩, g3, g4⟩ := h i hi
  have q : (w.setCell ⟨b, off + k * 2, none⟩ (.int .i64 x)).cell? ⟨b, off + k * 2 + 1, none⟩ = some (.int .i64 (f k).2) := by rw [World.cell?_setCell_other _ _ _ _ (addr_ne (by omega))]; exact h2
  simp only [World.frozen?_setCell]
  refine ⟨?_, g3, g4⟩
  by_cases e : i = k
  · subst e
    rw [if_pos rfl]
    exact ⟨by rw [World.cell?_setCell_other _ _ _ _ (addr_ne (by omega))]; exact World.cell?_setCell_same _ _ _ h1, World.cell?_setCell_same _ _ _ q⟩
  · rw [if_neg e, World.cell?_setCell_other _ _ _ _ (addr_ne (by omega)), World.cell?_setCell_other _ _ _ _ (addr_ne (by omega)), World.cell?_setCell_other _ _ _ _ (addr_ne (by omega)), World.cell?_setCell_other _ _ _ _ (addr_ne (by omega))]
    exact ⟨g1, g2⟩
theorem touch_store {b off k : Nat} (w : World) (u v : Value) {p q : Nat} (h1 : p ≤ off + k * 2) (h2 : off + k * 2 + 1 < q) : Touch b p q w ((w.setCell ⟨b, off + k * 2, none⟩ u).setCell ⟨b, off + k * 2 + 1, none⟩ v) :=
  ((Touch.refl b p q w).setCell h1 (by omega) u).setCell (by omega) h2 v

/-! ### copy -/
/-- The cells of the first n pairs. -/
def cvs (n : Nat) (f : Nat → Int × Int) : List Value := (List.range n).flatMap fun i => [.int .i64 (f i).1, .int .i64 (f i).2]
theorem cvs_succ (n : Nat) (f : Nat → Int × Int) : cvs (n + 1) f = cvs n f ++ [.int .i64 (f n).1, .int .i64 (f n).2] := by simp [cvs, List.range_succ]
theorem cvs_length (n : Nat) (f : Nat → Int × Int) : (cvs n f).length = n * 2 := by
  induction n with
  | zero => rfl
  | succ n ih => rw [cvs_succ]; simp [ih]; omega
theorem cvs_get (n : Nat) (f : Nat → Int × Int) : ∀ i, i < n → (cvs n f)[i * 2]? = some (.int .i64 (f i).1) ∧ (cvs n f)[i * 2 + 1]? = some (.int .i64 (f i).2) := by
  induction n with
  | zero => intro i hi; omega
  | succ n ih =>
    intro i hi
    rw [cvs_succ]
    by_cases e : i < n
    · rw [List.getElem?_append_left (by rw [cvs_length]; omega), List.getElem?_append_left (by rw [cvs_length]; omega)]
      exact ih i e
    · obtain rfl : i = n := by omega
      rw [List.getElem?_append_right (by rw [cvs_length]; omega), List.getElem?_append_right (by rw [cvs_length]; omega), cvs_length]
      simp [Nat.add_sub_cancel_left]
theorem cvs_one (n : Nat) (f : Nat → Int × Int) : ∀ u ∈ cvs n f, u.oneCell' = true := by
  intro u hu
  simp only [cvs, List.mem_flatMap] at hu
  obtain ⟨p, _, hp⟩ := hu
  simp at hp
  rcases hp with rfl | rfl <;> rfl
theorem rowr_cells {w : World} {b off n : Nat} {f : Nat → Int × Int} (h : RowR w b off n f) : ∀ j u, (cvs n f)[j]? = some u → w.cell? ((⟨b, off, none⟩ : Addr).add j) = some u := by
  intro j u hj
  have hlt : j < n * 2 := by
    rcases Nat.lt_or_ge j (n * 2) with h' | h'
    · exact h'
    · rw [List.getElem?_eq_none (by rw [cvs_length]; exact h')] at hj; cases hj
  have e : ((⟨b, off, none⟩ : Addr).add j) = ⟨b, off + j, none⟩ := by simp [Addr.add]
  rw [e]
  have hp := cvs_get n f (j / 2) (by omega)
  have hc := h (j / 2) (by omega)
  rcases Nat.mod_two_eq_zero_or_one j with h0 | h1
  · have ej : j / 2 * 2 = j := by omega
    rw [ej] at hp hc
    rw [hp.1] at hj
    rw [hc.1, hj]
  · have ej : j / 2 * 2 + 1 = j := by omega
    rw [ej] at hp
    rw [Nat.add_assoc, ej] at hc
    rw [hp.2] at hj
    rw [hc.2, hj]

theorem touch_setCells (b : Nat) : ∀ (vs : List Value) (o : Nat) (w : World) (p q : Nat), p ≤ o → o + vs.length ≤ q → Touch b p q w (w.setCells b o vs)
  | [], _, w, p, q, _, _ => Touch.refl _ _ _ _
  | v :: r, o, w, p, q, h1, h2 => by
    have h2' : o + 1 + r.length ≤ q := by simp at h2; omega
    rw [World.setCells]
    exact ((Touch.refl b p q w).setCell h1 (by omega) v).trans (touch_setCells b r (o + 1) _ p q (by omega) h2')

theorem run_copy2_none {P : Program} (w : World) (dT sT ty elem : TypeId) (d a : Option Addr) (dLen dCap sLen sCap : Nat) (hu : P.underlying dT = some (.slice elem)) (hs : (P.info? elem).map (·.size) = some 2) (hn : Nat.min sLen dLen = 0) :
    (Builtin.copy_ #[dT, sT] ty #[.slice d dLen dCap, .slice a sLen sCap]).run P w = .ok (goInt 0) w := by
  cases hq : P.info? elem with
  | none => simp [hq] at hs
  | some i =>
    have hl : ∀ (x : Addr), (loadCells x 0).run P w = .ok #[] w := fun x => by simpa using run_loadCells_list (P := P) w x [] (by simp)
    cases d <;> cases a <;> simp [Builtin.copy_, run_underlying hu, Builtin.lenOf, Builtin.firstCells, sizeOf, typeInfo, hq, hn, storeCells, hl]

theorem run_copy2_cells {P : Program} (w : World) (dT sT ty elem : TypeId) (b o dLen dCap : Nat) (a : Addr) (sLen sCap : Nat) (m : Nat) (cs : List Value)
    (hu : P.underlying dT = some (.slice elem)) (hs : (P.info? elem).map (·.size) = some 2) (hm : m = Nat.min sLen dLen) (hn : cs.length = m * 2)
    (hsrc : ∀ j v, cs[j]? = some v → w.cell? (a.add j) = some v) (hc : ∀ j, j < cs.length → (w.cell? ⟨b, o + j, none⟩).isSome = true) (hf : ∀ j, j < cs.length → w.frozen? ⟨b, o + j, none⟩ = false) (h1 : ∀ v ∈ cs, v.oneCell' = true) :
    (Builtin.copy_ #[dT, sT] ty #[.slice (some ⟨b, o, none⟩) dLen dCap, .slice (some a) sLen sCap]).run P w = .ok (goInt m) (w.setCells b o cs) := by
  have hl := run_loadCells_list (P := P) w a cs hsrc
  have hst := run_storeCells_cells (P := P) b o cs 0 w (by simpa using hc) (by simpa using hf) h1
  rw [hn] at hl
  cases hq : P.info? elem with
  | none => simp [hq] at hs
  | some i =>
    have hi : i.size = 2 := by simpa [hq] using hs
    simp [Builtin.copy_, run_underlying hu, Builtin.lenOf, Builtin.firstCells, sizeOf, typeInfo, hq, hi, ← hm, hl, hst]

/-- The run of a copy of m pairs. -/
theorem run_copy2 {P : Program} (w : World) (dT sT ty elem : TypeId) (hu : P.underlying dT = some (.slice elem)) (hs : (P.info? elem).map (·.size) = some 2)
    (dp sp : Option Addr) (dLen dCap sLen sCap m : Nat) (hm : m = Nat.min sLen dLen)
    (b off : Nat) (f : Nat → Int × Int) (hrow : Row w b off dLen f) (hdp : 0 < m → dp = some ⟨b, off, none⟩)
    (b' off' : Nat) (g : Nat → Int × Int) (hg : RowR w b' off' m g) (hsp : 0 < m → sp = some ⟨b', off', none⟩) :
    ∃ w', (Builtin.copy_ #[dT, sT] ty #[.slice dp dLen dCap, .slice sp sLen sCap]).run P w = .ok (goInt m) w' ∧ Row w' b off dLen (fun i => if i < m then g i else f i) ∧ Touch b off (off + m * 2) w w' := by
  have hmd : m ≤ dLen := by rw [hm]; exact Nat.min_le_right _ _
  by_cases h0 : m = 0
  · subst h0
    exact ⟨w, run_copy2_none w dT sT ty elem dp sp dLen dCap sLen sCap hu hs hm.symm, hrow.congr (fun i _ => by simp), Touch.refl _ _ _ _⟩
  · obtain rfl := hdp (by omega)
    obtain rfl := hsp (by omega)
    have hex : ∀ j, j < (cvs m g).length → (w.cell? ⟨b, off + j, none⟩).isSome = true ∧ w.frozen? ⟨b, off + j, none⟩ = false := by
      intro j hj
      rw [cvs_length] at hj
      obtain ⟨⟨r1, r2⟩, r3, r4⟩ := hrow (j / 2) (by omega)
      rcases Nat.mod_two_eq_zero_or_one j with e0 | e1
      · have ej : j / 2 * 2 = j := by omega
        rw [ej] at r1 r3
        exact ⟨by rw [r1]; rfl, r3⟩
      · have ej : off + j / 2 * 2 + 1 = off + j := by omega
        rw [ej] at r2 r4
        exact ⟨by rw [r2]; rfl, r4⟩
    have ht : Touch b off (off + m * 2) w (w.setCells b off (cvs m g)) := touch_setCells b _ off w _ _ (Nat.le_refl _) (by rw [cvs_length]; omega)
    refine ⟨_, run_copy2_cells w dT sT ty elem b off dLen dCap ⟨b', off', none⟩ sLen sCap m (cvs m g) hu hs hm (cvs_length _ _) (rowr_cells hg) (fun j hj => (hex j hj).1) (fun j hj => (hex j hj).2) (cvs_one _ _), ?_, ht⟩
    intro i hi
    obtain ⟨⟨r1, r2⟩, r3, r4⟩ := hrow i hi
    have hs1 := lt_of_cell r1
    refine ⟨?_, ht.frozenAt hs1 r3, ht.frozenAt hs1 r4⟩
    by_cases e : i < m
    · simp only [if_pos e]
      have c1 := World.cell?_setCells_in b (cvs m g) off w (fun j hj => (hex j hj).1) (i * 2) (by rw [cvs_length]; omega)
      have c2 := World.cell?_setCells_in b (cvs m g) off w (fun j hj => (hex j hj).1) (i * 2 + 1) (by rw [cvs_length]; omega)
      obtain ⟨q1, q2⟩ := cvs_get m g i e
      rw [List.getElem?_eq_getElem (by rw [cvs_length]; omega)] at q1 q2
      exact ⟨c1.trans q1, by rw [Nat.add_assoc]; exact c2.trans q2⟩
    · simp only [if_neg e]
      exact ⟨ht.cellAt r1 (by omega), ht.cellAt r2 (by omega)⟩

theorem wpList_copy2 {P : Program} {w : World} {ops : Array Oper} {rest : List Oper} {o : Oper} {a : Act} {Q : Exit → Act → World → Prop} (hgd : o.guard = none) (d s : Operand) (dT sT : TypeId)
    (ho : o.op = .call { callee := .builtin .copy, args := #[d, s], argTypes := #[dT, sT] }) (elem : TypeId) (hu : P.underlying dT = some (.slice elem)) (hsz : (P.info? elem).map (·.size) = some 2)
    (dp sp : Option Addr) (dLen dCap sLen sCap m : Nat) (hd : a.eval d = .slice dp dLen dCap) (hs : a.eval s = .slice sp sLen sCap) (hm : m = Nat.min sLen dLen)
    (b off : Nat) (f : Nat → Int × Int) (hrow : Row w b off dLen f) (hdp : 0 < m → dp = some ⟨b, off, none⟩)
    (b' off' : Nat) (g : Nat → Int × Int) (hg : RowR w b' off' m g) (hsp : 0 < m → sp = some ⟨b', off', none⟩)
    (h : ∀ w', Row w' b off dLen (fun i => if i < m then g i else f i) → Touch b off (off + m * 2) w w' → wpList P ops Q rest (a.put o.dst (goInt m)) w') :
    wpList P ops Q (o :: rest) a w := by
  refine wpList_plain hgd fun K hK => ?_
  obtain ⟨w', hrun, h1, h2⟩ := run_copy2 (P := P) w dT sT o.type elem hu hsz dp sp dLen dCap sLen sCap m hm b off f hrow hdp b' off' g hg hsp
  unfold Oper.wp
  simp [execOp, ho, resolve, invoke, builtin, hd, hs, hrun, Result.andThen]
  exact hK _ _ (h w' h1 h2)

theorem step_copy2 {P : Program} {ops : Array Oper} {o : Oper} {a : Act} {w : World} {K : Act → World → Prop} {Q : Exit → Act → World → Prop} {E : Prop} (hgd : o.guard = none) (d s : Operand) (dT sT : TypeId)
    (ho : o.op = .call { callee := .builtin .copy, args := #[d, s], argTypes := #[dT, sT] }) (elem : TypeId) (hu : P.underlying dT = some (.slice elem)) (hsz : (P.info? elem).map (·.size) = some 2)
    (dp sp : Option Addr) (dLen dCap sLen sCap m : Nat) (hd : a.eval d = .slice dp dLen dCap) (hs : a.eval s = .slice sp sLen sCap) (hm : m = Nat.min sLen dLen)
    (b off : Nat) (f : Nat → Int × Int) (hrow : Row w b off dLen f) (hdp : 0 < m → dp = some ⟨b, off, none⟩)
    (b' off' : Nat) (g : Nat → Int × Int) (hg : RowR w b' off' m g) (hsp : 0 < m → sp = some ⟨b', off', none⟩)
    (h : ∀ w', Row w' b off dLen (fun i => if i < m then g i else f i) → Touch b off (off + m * 2) w w' → K (a.put o.dst (goInt m)) w') :
    if Region.wanted o (yielded ops a.tmps) = true then Oper.wp P o a w K Q else E := by
  have hw : Region.wanted o (yielded ops a.tmps) = true := by simp [Region.wanted, hgd]
  rw [if_pos hw]
  obtain ⟨w', hrun, h1, h2⟩ := run_copy2 (P := P) w dT sT o.type elem hu hsz dp sp dLen dCap sLen sCap m hm b off f hrow hdp b' off' g hg hsp
  unfold Oper.wp
  simp [execOp, ho, resolve, invoke, builtin, hd, hs, hrun, Result.andThen]
  exact h w' h1 h2

end Go.Proofs.YtknkbihjboadjaaDoor
