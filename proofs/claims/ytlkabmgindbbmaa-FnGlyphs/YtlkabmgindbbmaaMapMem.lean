/-
  The map of a font's pairs in memory (MapAt): block b is a map that tells of each character what the sorted pairs ps tell.
-/
import Derived.Test.YtlkabmgindbbmaaRows
import Derived.Test.YtlkabmgindbbmaaPairMem
import Derived.DeepKeys4
import Derived.Maps.OwnSet
import Derived.Maps.RangeWalk
namespace Go.Proofs.Ytlkabmgindbbmaa
set_option maxRecDepth 20000
open Go.ChangeShapes Go.WideShapes Go.ChangeAt Go.RowKit Go.Maps
set_option linter.unusedVariables false
set_option linter.unusedSimpArgs false

/-- What the key of a character reads as. -/
def keyL (c : Int) : Lit := .string (keyBytes [.int .i64 c])
def wf64 (c : Int) : Prop := (Lit.int .i64 c).wf = true
theorem wf_small {c : Int} (h0 : -9223372036854775808 ≤ c) (h1 : c ≤ 9223372036854775807) : wf64 c := WalkArith.wf_i64 (by omega)

theorem key_law : Keyed Try.prog 98 := Keyed.of_law (deep_law (m := 2) (by omega) (by kernel_rfl) (by kernel_rfl) (by kernel_rfl))
theorem key_lits (c : Int) (m : Nat) (hw : wf64 c) : Try.prog.keyLits (m + 2) 98 [.int .i64 c] = some [.int .i64 c] := by
  have h1 : Try.prog.cellsOf 98 = 1 := by kernel_rfl
  have h2 : Try.prog.cellsOf 2 = 1 := by kernel_rfl
  unfold wf64 at hw
  simp [Program.keyLits, Try.underlying98, Try.underlying2, h1, h2, hw]
theorem keyOf_ck {c : Int} (hw : wf64 c) : keyOf Try.prog 98 (.agg #[.int .i64 c]) = some (keyL c) := by
  have h1 : Try.prog.keyType 98 = true := by kernel_rfl
  have h2 : (Value.agg #[.int .i64 c]).formed Try.prog 98 = true := by
    have h1 : Try.prog.cellsOf 98 = 1 := by kernel_rfl
    simp [Value.formed, Try.underlying98, h1]
  obtain ⟨m, hm⟩ : ∃ m, Try.prog.types.size = m + 1 := ⟨Try.prog.types.size - 1, by kernel_rfl⟩
  unfold keyOf
  rw [Try.underlying98]
  simp only [h1, h2, Bool.and_self, if_true, Value.cells]
  rw [hm, key_lits c m hw]
  rfl
theorem key_lits_inv (m : Nat) (ys : List Value) (L : List Lit) (hl : Try.prog.keyLits (m + 2) 98 ys = some L) : ∃ x, ys = [.int .i64 x] ∧ L = [.int .i64 x] ∧ wf64 x := by
  have h1 : Try.prog.cellsOf 98 = 1 := by kernel_rfl
  have h2 : Try.prog.cellsOf 2 = 1 := by kernel_rfl
  simp only [Program.keyLits, Try.underlying98, h1] at hl
  split at hl
  · rename_i hc
    obtain ⟨y, rfl⟩ := List.length_eq_one_iff.1 hc.1
    clear hc
    simp [Program.keyLits, Try.underlying2, h2] at hl
    cases y <;> simp at hl
    rename_i q a
    by_cases hq : q = IntKind.i64 ∧ (Lit.int IntKind.i64 a).wf = true
    · rw [if_pos hq] at hl
      obtain ⟨rfl, hw⟩ := hq
      simp at hl
      exact ⟨a, rfl, hl.symm, hw⟩
    · rw [if_neg hq] at hl
      cases hl
  · cases hl
theorem keyOf_inv {key : Value} {kl : Lit} (h : keyOf Try.prog 98 key = some kl) : ∃ x, key = .agg #[.int .i64 x] ∧ kl = keyL x ∧ wf64 x := by
  obtain ⟨xs, L, rfl, hl, rfl⟩ := keyOf_top (by rw [Try.underlying98]) h
  obtain ⟨m, hm⟩ : ∃ m, Try.prog.types.size + 1 = m + 2 := ⟨Try.prog.types.size - 1, by kernel_rfl⟩
  obtain ⟨x, hx, rfl, hw⟩ := key_lits_inv m xs.toList L (Eq.trans (congrArg (fun d => Try.prog.keyLits d 98 xs.toList) hm.symm) hl)
  obtain ⟨ys⟩ := xs
  simp at hx
  subst hx
  exact ⟨x, rfl, rfl, hw⟩
theorem keyL_inj {a b : Int} (ha : wf64 a) (hb : wf64 b) (h : keyL a = keyL b) : a = b := by
  have := key_law.inj (keyOf_ck ha) (by rw [h]; exact keyOf_ck hb)
  simpa using this
theorem keyL_ne {a b : Int} (ha : wf64 a) (hb : wf64 b) (h : a ≠ b) : keyL a ≠ keyL b := fun e => h (keyL_inj ha hb e)
theorem keyL_key (a : Int) : WideAt.IsKeyLit (keyL a) := trivial
theorem keyL_same {a b : Int} (ha : wf64 a) (hb : wf64 b) : (keyL a).sameKey (keyL b) = decide (a = b) := by
  by_cases e : a = b
  · subst e; simp [keyL, Lit.sameKey]
  · rw [sameKey_ne (keyL_ne ha hb e)]; simp [e]
theorem zero_elem (w : World) : (zeroValue 2).run Try.prog w = .ok (.int .i64 0) w := by kernel_rfl

/-- The datum D tells what ps tell. -/
structure Tells (D : DataW Unit) (ps : List (Int × Int)) : Prop where
  sorted : Sorted ps
  has : ∀ c, wf64 c → Maps.has D (keyL c) = (lk ps c).isSome
  at_ : ∀ c g, wf64 c → lk ps c = some g → ∀ z, D.atKey (keyL c) z = .lit (.int .i64 g)
  size : Maps.size D = ps.length
theorem Tells.nil : Tells (.map []) [] := ⟨List.Pairwise.nil, fun c _ => by simp [lk, Maps.has_eq], fun c g _ h => by simp [lk] at h, rfl⟩
theorem Tells.put {D : DataW Unit} {ps : List (Int × Int)} (h : Tells D ps) (ht : Tidy D) {p : Int × Int} (hp : wf64 p.1) : Tells (D.put (keyL p.1) (.lit (.int .i64 p.2))) (put ps p) := by
  refine ⟨h.sorted.put p, fun c hc => ?_, fun c g hc hl z => ?_, ?_⟩
  · by_cases e : c = p.1
    · subst e; rw [Maps.has_put_same ht.isMap (keyL_key _), lk_put_same]; rfl
    · rw [Maps.has_put_other (keyL_ne hc hp e), lk_put_other ps p e, h.has c hc]
  · by_cases e : c = p.1
    · subst e
      rw [Maps.atKey_put_same ht.isMap (keyL_key _)]
      rw [lk_put_same] at hl
      injection hl with hl
      rw [hl]
    · rw [Maps.atKey_put_other (keyL_ne hc hp e)]
      rw [lk_put_other ps p e] at hl
      exact h.at_ c g hc hl z
  · rw [Maps.size_put ht, h.has _ hp, h.size, put_length h.sorted]
theorem Tells.del {D : DataW Unit} {ps : List (Int × Int)} (h : Tells D ps) (ht : Tidy D) {c0 : Int} (hp : wf64 c0) : Tells (D.del (keyL c0)) (without ps c0) := by
  refine ⟨h.sorted.without c0, fun c hc => ?_, fun c g hc hl z => ?_, ?_⟩
  · by_cases e : c = c0
    · subst e; rw [Maps.has_del_same, lk_without_same]; rfl
    · rw [Maps.has_del_other (keyL_ne hc hp e), lk_without_other ps e, h.has c hc]
  · by_cases e : c = c0
    · subst e; rw [lk_without_same] at hl; cases hl
    · rw [Maps.atKey_del_other (keyL_ne hc hp e)]
      rw [lk_without_other ps e] at hl
      exact h.at_ c g hc hl z
  · have h1 := Maps.size_del (k := keyL c0) ht
    have h2 := without_length h.sorted c0
    rw [h.has _ hp, h.size] at h1
    split at h1 <;> split at h2 <;> simp_all <;> omega

/-- Block b is a map that tells what ps tell. -/
def MapAt (w : World) (b n : Nat) (ps : List (Int × Int)) : Prop := ∃ D : DataW Unit, w.ownsMap Try.prog 98 (plainElem Try.prog 2) b n D ∧ Tells D ps
theorem MapAt.lt {w : World} {b n : Nat} {ps : List (Int × Int)} (h : MapAt w b n ps) : b < w.heap.size := by obtain ⟨D, h, _⟩ := h; exact h.lt
theorem MapAt.sorted {w : World} {b n : Nat} {ps : List (Int × Int)} (h : MapAt w b n ps) : Sorted ps := by obtain ⟨D, _, h⟩ := h; exact h.sorted
theorem MapAt.below {w w' : World} {b n : Nat} {ps : List (Int × Int)} (h : MapAt w b n ps) (hb : Below w.heap.size w w') : MapAt w' b n ps := by
  obtain ⟨D, h, ht⟩ := h
  exact ⟨D, h.kept (row := none) ⟨hb.os, hb.tape, hb.output, hb.size, fun k hk _ => hb.block k hk⟩ (by simp), ht⟩
theorem MapAt.len {w : World} {b n : Nat} {ps : List (Int × Int)} (h : MapAt w b n ps) : ps.length ≤ n := by obtain ⟨D, h, ht⟩ := h; have := h.size_le; rw [ht.size] at this; exact this

/-! ### The keys that a range has met -/
structure Met (D : DataW Unit) (left : Lit → Bool) (ks : List Int) : Prop where
  nodup : ks.Nodup
  wf : ∀ c ∈ ks, wf64 c
  mem : ∀ c, wf64 c → (c ∈ ks ↔ (Maps.has D (keyL c) = true ∧ left (keyL c) = false))
theorem Met.start (D : DataW Unit) : Met D (Maps.has D) [] := ⟨List.nodup_nil, fun c h => by simp at h, fun c _ => by cases Maps.has D (keyL c) <;> simp⟩
theorem Met.step {D : DataW Unit} {left : Lit → Bool} {ks : List Int} (h : Met D left ks) {x : Int} {y : DataW Unit} (hx : wf64 x) (hlk : left (keyL x) = true) (hat : ∀ zd, D.atKey (keyL x) zd = y) : Met D (fun z => left z && !z.sameKey (keyL x)) (ks ++ [x]) := by
  have hhas : Maps.has D (keyL x) = true := has_true_of_atKey hat
  have hnew : x ∉ ks := fun hx' => by have := ((h.mem x hx).1 hx').2; rw [hlk] at this; cases this
  refine ⟨List.nodup_append.2 ⟨h.nodup, by simp, fun a ha b hb => by simp at hb; subst hb; exact fun e => hnew (e ▸ ha)⟩, fun c hc => ?_, fun c hc => ?_⟩
  · rcases List.mem_append.1 hc with hc | hc
    · exact h.wf c hc
    · simp at hc; subst hc; exact hx
  · by_cases e : c = x
    · subst e; simp [hhas, keyL_same hc hc]
    · simp [h.mem c hc, e, keyL_same hc hx]

/-- At the end: sorted, they are the characters of the pairs. -/
theorem Met.sorted {D : DataW Unit} {left : Lit → Bool} {ks : List Int} {ps : List (Int × Int)} (h : Met D left ks) (ht : Tells D ps) (hl : ∀ kl, left kl = false) (hp : ∀ p ∈ ps, wf64 p.1) : ks.mergeSort (fun x y => decide (x ≤ y)) = ps.map (·.1) := by
  have hnd : (ps.map (·.1)).Pairwise (fun a b : Int => a < b) := List.pairwise_map.2 ht.sorted
  have hperm : ks.Perm (ps.map (·.1)) := by
    refine (List.perm_ext_iff_of_nodup h.nodup (hnd.imp (fun {a b} hab e => by subst e; omega))).2 fun c => ?_
    constructor
    · intro hc
      have := ((h.mem c (h.wf c hc)).1 hc).1
      rw [ht.has c (h.wf c hc)] at this
      exact lk_isSome.1 this
    · intro hc
      have hw : wf64 c := by obtain ⟨p, hp', rfl⟩ := List.mem_map.1 hc; exact hp p hp'
      refine (h.mem c hw).2 ⟨?_, hl _⟩
      rw [ht.has c hw]
      exact lk_isSome.2 hc
  have tr : ∀ a b c : Int, decide (a ≤ b) = true → decide (b ≤ c) = true → decide (a ≤ c) = true := fun a b c h1 h2 => by simp at *; omega
  have to : ∀ a b : Int, (decide (a ≤ b) || decide (b ≤ a)) = true := fun a b => by simp; omega
  refine List.Perm.eq_of_pairwise (le := fun a b : Int => decide (a ≤ b) = true) (fun a b _ _ h1 h2 => by simp at h1 h2; omega) (List.pairwise_mergeSort tr to ks) (hnd.imp (fun {a b} h => by simp; omega)) ((List.mergeSort_perm ks _).trans hperm)
theorem length_le_of_subset : ∀ {l m : List Int}, l.Nodup → l ⊆ m → l.length ≤ m.length
  | [], m, _, _ => Nat.zero_le _
  | x :: l, m, hn, hs => by
    obtain ⟨h1, h2⟩ := List.nodup_cons.1 hn
    have hx : x ∈ m := hs List.mem_cons_self
    have ih := length_le_of_subset (l := l) (m := m.erase x) h2 (fun y hy => (List.mem_erase_of_ne (fun e => h1 (by rw [← e]; exact hy))).2 (hs (List.mem_cons_of_mem _ hy)))
    have := List.length_erase_of_mem hx
    have hp : 0 < m.length := List.length_pos_of_mem hx
    rw [List.length_cons]
    omega
theorem Met.length {D : DataW Unit} {left : Lit → Bool} {ks : List Int} {ps : List (Int × Int)} (h : Met D left ks) (ht : Tells D ps) : ks.length ≤ ps.length := by
  have hs : ks ⊆ ps.map (·.1) := fun c hc => by
    have := ((h.mem c (h.wf c hc)).1 hc).1
    rw [ht.has c (h.wf c hc)] at this
    exact lk_isSome.1 this
  have := length_le_of_subset h.nodup hs
  simpa using this

end Go.Proofs.Ytlkabmgindbbmaa
