/-
  Slices of pairs in memory: what is read of one (PRead), what a call owns (PairsAt); what a font without a fault is; sorted pairs, told apart by what they tell of a character.
-/
import Derived.Test.YtknkbihjboadjaaDoorMem
import Derived.Test.YtknkbihjboadjaaDoorChars
namespace Go.Proofs.YtknkbihjboadjaaDoor
set_option maxRecDepth 20000
open Go.ChangeShapes Go.WideShapes Go.ChangeAt Go.RowKit
set_option linter.unusedVariables false
set_option linter.unusedSimpArgs false

/-- The cells of pairs, in order. -/
def pvs (ps : List (Int × Int)) : List Value := ps.flatMap fun p => [.int .i64 p.1, .int .i64 p.2]
theorem pvs_append (a b : List (Int × Int)) : pvs (a ++ b) = pvs a ++ pvs b := by simp [pvs]
theorem pvs_length (a : List (Int × Int)) : (pvs a).length = a.length * 2 := by
  induction a with
  | nil => rfl
  | cons p ps ih => simp [pvs] at ih ⊢; omega
theorem pvs_get : ∀ (a : List (Int × Int)) (i : Nat), i < a.length → (pvs a)[i * 2]? = some (.int .i64 (a.getD i (0, 0)).1) ∧ (pvs a)[i * 2 + 1]? = some (.int .i64 (a.getD i (0, 0)).2)
  | [], i, h => by simp at h
  | p :: ps, 0, _ => by simp [pvs]
  | p :: ps, i + 1, h => by
    have ih := pvs_get ps i (by simpa using h)
    have e : pvs (p :: ps) = .int .i64 p.1 :: .int .i64 p.2 :: pvs ps := by simp [pvs]
    rw [e, show (i + 1) * 2 = i * 2 + 1 + 1 by omega]
    simpa using ih
theorem pvs_one (ps : List (Int × Int)) : ∀ u ∈ pvs ps, u.oneCell' = true := by
  intro u hu
  simp only [pvs, List.mem_flatMap] at hu
  obtain ⟨p, _, hp⟩ := hu
  simp at hp
  rcases hp with rfl | rfl <;> rfl

/-- The slice v reads as the pairs ps in the world w. -/
def PRead (w : World) (v : Value) (ps : List (Int × Int)) : Prop :=
  ∃ a cap, v = .slice a ps.length cap ∧ (ps = [] ∨ ∃ b off, a = some ⟨b, off, none⟩ ∧ ∀ i, i < ps.length → w.cell? ⟨b, off + i * 2, none⟩ = some (.int .i64 (ps.getD i (0, 0)).1) ∧ w.cell? ⟨b, off + i * 2 + 1, none⟩ = some (.int .i64 (ps.getD i (0, 0)).2))

/-- The same, and (where there is one) its block is one of lo to hi - 1, and may be written. -/
def PairsAt (lo hi : Nat) (w : World) (v : Value) (ps : List (Int × Int)) : Prop :=
  ∃ a cap, v = .slice a ps.length cap ∧ (ps = [] ∨ ∃ b off, a = some ⟨b, off, none⟩ ∧ lo ≤ b ∧ b < hi ∧ ∀ i, i < ps.length → (w.cell? ⟨b, off + i * 2, none⟩ = some (.int .i64 (ps.getD i (0, 0)).1) ∧ w.cell? ⟨b, off + i * 2 + 1, none⟩ = some (.int .i64 (ps.getD i (0, 0)).2)) ∧ w.frozen? ⟨b, off + i * 2, none⟩ = false ∧ w.frozen? ⟨b, off + i * 2 + 1, none⟩ = false)

theorem PairsAt.read {lo hi : Nat} {w : World} {v : Value} {xs : List (Int × Int)} (h : PairsAt lo hi w v xs) : PRead w v xs := by
  obtain ⟨a, cap, hv, h⟩ := h
  refine ⟨a, cap, hv, ?_⟩
  rcases h with h | ⟨b, off, ha, _, _, hc⟩
  · exact .inl h
  · exact .inr ⟨b, off, ha, fun i hi => (hc i hi).1⟩
theorem PairsAt.mono {lo hi lo' hi' : Nat} {w : World} {v : Value} {xs : List (Int × Int)} (h : PairsAt lo hi w v xs) (h1 : lo' ≤ lo) (h2 : hi ≤ hi') : PairsAt lo' hi' w v xs := by
  obtain ⟨a, cap, hv, h⟩ := h
  refine ⟨a, cap, hv, ?_⟩
  rcases h with h | ⟨b, off, ha, hl, hh, hc⟩
  · exact .inl h
  · exact .inr ⟨b, off, ha, by omega, by omega, hc⟩
theorem PairsAt.of_blocks {lo hi : Nat} {w w' : World} {v : Value} {xs : List (Int × Int)} (h : PairsAt lo hi w v xs) (hb : ∀ i, lo ≤ i → i < hi → w'.heap[i]? = w.heap[i]?) : PairsAt lo hi w' v xs := by
  obtain ⟨a, cap, hv, h⟩ := h
  refine ⟨a, cap, hv, ?_⟩
  rcases h with h | ⟨b, off, ha, hl, hh, hc⟩
  · exact .inl h
  · refine .inr ⟨b, off, ha, hl, hh, fun i hi => ?_⟩
    have e := hb b hl hh
    rw [World.cell?_of_block (w := w) (a := ⟨b, off + i * 2, none⟩) e, World.cell?_of_block (w := w) (a := ⟨b, off + i * 2 + 1, none⟩) e, World.frozen?_of_block (w := w) (a := ⟨b, off + i * 2, none⟩) e, World.frozen?_of_block (w := w) (a := ⟨b, off + i * 2 + 1, none⟩) e]
    exact hc i hi
theorem PairsAt.below {lo hi B : Nat} {w w' : World} {v : Value} {xs : List (Int × Int)} (h : PairsAt lo hi w v xs) (hb : Below B w w') (hB : hi ≤ B) : PairsAt lo hi w' v xs :=
  h.of_blocks fun i _ h2 => hb.block i (by omega)
theorem PairsAt.within {lo hi lo' hi' : Nat} {w w' : World} {v : Value} {xs : List (Int × Int)} (h : PairsAt lo hi w v xs) (hb : Within lo' hi' w w') (hw : hi ≤ w.heap.size) (hB : hi ≤ lo' ∨ hi' ≤ lo) : PairsAt lo hi w' v xs :=
  h.of_blocks fun i h1 h2 => hb.block i (by omega) (by omega)
theorem PairsAt.drewN {lo hi : Nat} {w : World} {v : Value} {xs : List (Int × Int)} (h : PairsAt lo hi w v xs) (n : Nat) : PairsAt lo hi (w.drewN n) v xs :=
  h.of_blocks fun i h1 h2 => rfl
theorem PairsAt.nil (lo hi : Nat) (w : World) (a : Option Addr) (cap : Nat) : PairsAt lo hi w (.slice a 0 cap) [] := ⟨a, cap, rfl, .inl rfl⟩
theorem PRead.nil (w : World) (a : Option Addr) (cap : Nat) : PRead w (.slice a 0 cap) [] := ⟨a, cap, rfl, .inl rfl⟩
theorem PRead.drewN {w : World} {v : Value} {xs : List (Int × Int)} (h : PRead w v xs) (n : Nat) : PRead (w.drewN n) v xs := h
theorem PRead.below {w w' : World} {v : Value} {xs : List (Int × Int)} (h : PRead w v xs) (hb : Below w.heap.size w w') : PRead w' v xs := by
  obtain ⟨a, cap, hv, h⟩ := h
  refine ⟨a, cap, hv, ?_⟩
  rcases h with h | ⟨b, off, ha, hc⟩
  · exact .inl h
  · exact .inr ⟨b, off, ha, fun i hi => ⟨cellb hb (hc i hi).1, cellb hb (hc i hi).2⟩⟩

/-- What a call owns by appending, read as pairs. -/
theorem own_pairs {w : World} {base n hi : Nat} {e : TypeId} {v : Value} {xs : List (Int × Int)} (h : w.ownsRow base e 2 v n (pvs xs)) (hh : w.heap.size ≤ hi) : PairsAt base hi w v xs := by
  obtain ⟨hl, h⟩ := h
  rw [pvs_length] at hl
  have hl' : xs.length = n := by omega
  rcases h with ⟨rfl, h0⟩ | ⟨g, cap, cur, rfl, hb, hg, h1, h2, h3, h4⟩
  · obtain rfl : xs = [] := List.length_eq_zero_iff.1 (by omega)
    exact ⟨_, _, rfl, .inl rfl⟩
  · subst hl'
    have hlt : g < w.heap.size := by
      rcases Nat.lt_or_ge g w.heap.size with h' | h'
      · exact h'
      · rw [Array.getElem?_eq_none h'] at hg; cases hg
    have hcell : ∀ j, j < xs.length * 2 → w.cell? ⟨g, 0 + j, none⟩ = (pvs xs)[j]? := by
      intro j hj
      simp only [World.cell?, hg, Nat.zero_add]
      have e1 : cur[j]? = (cur.toList.take (xs.length * 2))[j]? := by
        rw [List.getElem?_take_of_lt (by omega), Array.getElem?_toList]
      simp only [Option.isSome_none, Bool.false_eq_true, if_false]
      rw [e1, h4]
    refine ⟨_, _, rfl, .inr ⟨g, 0, rfl, hb, by omega, fun i hi => ⟨⟨?_, ?_⟩, ?_, ?_⟩⟩⟩
    · rw [hcell _ (by omega)]; exact (pvs_get xs i hi).1
    · rw [Nat.add_assoc, hcell _ (by omega)]; exact (pvs_get xs i hi).2
    · simp [World.frozen?, hg]
    · simp [World.frozen?, hg]

/-- A row of pairs, as its cells. -/
theorem pairs_news {w : World} {b off : Nat} {xs : List (Int × Int)} (h : ∀ i, i < xs.length → w.cell? ⟨b, off + i * 2, none⟩ = some (.int .i64 (xs.getD i (0, 0)).1) ∧ w.cell? ⟨b, off + i * 2 + 1, none⟩ = some (.int .i64 (xs.getD i (0, 0)).2)) : ∀ j u, (pvs xs)[j]? = some u → w.cell? ((⟨b, off, none⟩ : Addr).add j) = some u := by
  intro j u hj
  have hlt : j < xs.length * 2 := by
    rcases Nat.lt_or_ge j (xs.length * 2) with h' | h'
    · exact h'
    · rw [List.getElem?_eq_none (by rw [pvs_length]; exact h')] at hj; cases hj
  have e : ((⟨b, off, none⟩ : Addr).add j) = ⟨b, off + j, none⟩ := by simp [Addr.add]
  rw [e]
  have hp := pvs_get xs (j / 2) (by omega)
  have hc := h (j / 2) (by omega)
  rcases Nat.mod_two_eq_zero_or_one j with h0 | h1
  · have ej : j / 2 * 2 = j := by omega
    rw [ej] at hp hc
    rw [hp.1] at hj
    rw [hc.1, hj]
  · have ej : j / 2 * 2 + 1 = j := by omega
    rw [ej] at hp
    rw [Nat.add_assoc, ej] at hc
    rw [hp.2] at hj
    rw [hc.2, hj]

/-! ### Fonts -/
def glB (g : Int) : Bool := decide (0 ≤ g ∧ g ≤ 255)
def prB (p : Int × Int) : Bool := chB p.1 && glB p.2
/-- The fault of the pairs from place k on. -/
def pfault (ps : List (Int × Int)) (k : Nat) : Int :=
  if h : k < ps.length then
    if prB (ps.getD k (0, 0)) = false then 3
    else if 0 < k ∧ (ps.getD k (0, 0)).1 ≤ (ps.getD (k - 1) (0, 0)).1 then 1
    else pfault ps (k + 1)
  else 0
termination_by ps.length - k
def fontCode (fb : Int) (ps : List (Int × Int)) : Int :=
  if glB fb = false then 3 else if 20 < ps.length then 2 else pfault ps 0

theorem pfault_end {ps : List (Int × Int)} {k : Nat} (h : ¬ k < ps.length) : pfault ps k = 0 := by rw [pfault]; simp [h]
theorem pfault_range {ps : List (Int × Int)} {k : Nat} (h : k < ps.length) (h1 : prB (ps.getD k (0, 0)) = false) : pfault ps k = 3 := by rw [pfault]; simp only [h, h1, dif_pos, if_pos]
theorem pfault_form {ps : List (Int × Int)} {k : Nat} (h : k < ps.length) (h1 : prB (ps.getD k (0, 0)) = true) (h2 : 0 < k ∧ (ps.getD k (0, 0)).1 ≤ (ps.getD (k - 1) (0, 0)).1) : pfault ps k = 1 := by rw [pfault, dif_pos h, if_neg (by rw [h1]; simp), if_pos h2]
theorem pfault_next {ps : List (Int × Int)} {k : Nat} (h : k < ps.length) (h1 : prB (ps.getD k (0, 0)) = true) (h2 : ¬ (0 < k ∧ (ps.getD k (0, 0)).1 ≤ (ps.getD (k - 1) (0, 0)).1)) : pfault ps k = pfault ps (k + 1) := by rw [pfault, dif_pos h, if_neg (by rw [h1]; simp), if_neg h2]

/-- In the order of their characters, none twice. -/
def Sorted (ps : List (Int × Int)) : Prop := ps.Pairwise fun p q => p.1 < q.1
theorem getD_at {ps : List (Int × Int)} {i : Nat} (h : i < ps.length) : ps.getD i (0, 0) = ps[i] := by simp [List.getD_eq_getElem?_getD, h]

theorem pfault_zero {ps : List (Int × Int)} : ∀ (n k : Nat), ps.length - k = n → pfault ps k = 0 → (∀ i, k ≤ i → i < ps.length → prB (ps.getD i (0, 0)) = true) ∧ (∀ i, k ≤ i → 0 < i → i < ps.length → (ps.getD (i - 1) (0, 0)).1 < (ps.getD i (0, 0)).1)
  | 0, k, hn, _ => ⟨fun i h1 h2 => by omega, fun i h1 _ h2 => by omega⟩
  | n + 1, k, hn, h => by
    have hk : k < ps.length := by omega
    cases h1 : prB (ps.getD k (0, 0)) with
    | false => rw [pfault_range hk h1] at h; cases h
    | true =>
      by_cases h2 : 0 < k ∧ (ps.getD k (0, 0)).1 ≤ (ps.getD (k - 1) (0, 0)).1
      · rw [pfault_form hk h1 h2] at h; cases h
      · rw [pfault_next hk h1 h2] at h
        obtain ⟨r1, r2⟩ := pfault_zero n (k + 1) (by omega) h
        refine ⟨fun i hi1 hi2 => ?_, fun i hi1 hi0 hi2 => ?_⟩
        · by_cases e : i = k
          · subst e; exact h1
          · exact r1 i (by omega) hi2
        · by_cases e : i = k
          · subst e; omega
          · exact r2 i (by omega) hi0 hi2

theorem sorted_of_steps : ∀ (ps : List (Int × Int)), (∀ i, 0 < i → i < ps.length → (ps.getD (i - 1) (0, 0)).1 < (ps.getD i (0, 0)).1) → Sorted ps
  | [], _ => List.Pairwise.nil
  | [p], _ => by simp [Sorted]
  | p :: q :: ps, h => by
    have ih := sorted_of_steps (q :: ps) (fun i h0 h1 => by
      have := h (i + 1) (by omega) (by simpa using h1)
      obtain ⟨j, rfl⟩ : ∃ j, i = j + 1 := ⟨i - 1, by omega⟩
      simpa using this)
    have h0 := h 1 (by omega) (by simp)
    simp at h0
    refine List.Pairwise.cons (fun r hr => ?_) ih
    rcases List.mem_cons.1 hr with rfl | hr
    · exact h0
    · have := (List.pairwise_cons.1 ih).1 r hr
      omega

structure Fine (fb : Int) (ps : List (Int × Int)) : Prop where
  fb : glB fb = true
  len : ps.length ≤ 20
  ok : ∀ p ∈ ps, prB p = true
  sorted : Sorted ps

theorem fine_of_code {fb : Int} {ps : List (Int × Int)} (h : fontCode fb ps = 0) : Fine fb ps := by
  unfold fontCode at h
  cases h1 : glB fb with
  | false => rw [h1] at h; simp at h
  | true =>
    rw [if_neg (by rw [h1]; simp)] at h
    by_cases h2 : 20 < ps.length
    · rw [if_pos h2] at h; cases h
    · rw [if_neg h2] at h
      obtain ⟨r1, r2⟩ := pfault_zero _ 0 rfl h
      refine ⟨h1, by omega, fun p hp => ?_, sorted_of_steps ps (fun i h0 h1 => r2 i (by omega) h0 h1)⟩
      obtain ⟨i, hi, rfl⟩ := List.mem_iff_getElem.1 hp
      have := r1 i (by omega) hi
      rwa [getD_at hi] at this

theorem code_of_fine {fb : Int} {ps : List (Int × Int)} (h : Fine fb ps) : fontCode fb ps = 0 := by
  unfold fontCode
  have h20 := h.len
  rw [if_neg (by rw [h.fb]; simp), if_neg (by omega)]
  have step : ∀ (n k : Nat), ps.length - k = n → pfault ps k = 0 := by
    intro n
    induction n with
    | zero => intro k hk; exact pfault_end (by omega)
    | succ n ih =>
      intro k hk
      have hlt : k < ps.length := by omega
      rw [pfault_next hlt (by rw [getD_at hlt]; exact h.ok _ (List.getElem_mem hlt)) ?_]
      · exact ih (k + 1) (by omega)
      · rintro ⟨h0, h1⟩
        rw [getD_at hlt, getD_at (show k - 1 < ps.length by omega)] at h1
        have := List.pairwise_iff_getElem.1 h.sorted (k - 1) k (by omega) hlt (by omega)
        omega
  exact step _ 0 rfl

theorem prB_bounds {p : Int × Int} (h : prB p = true) : 0 ≤ p.1 ∧ p.1 ≤ 65535 ∧ 0 ≤ p.2 ∧ p.2 ≤ 255 := by
  unfold prB chB glB at h
  simp at h
  omega

/-! ### What pairs tell -/
def lk (ps : List (Int × Int)) (c : Int) : Option Int := (ps.find? (fun p => p.1 == c)).map (·.2)
def without (ps : List (Int × Int)) (c : Int) : List (Int × Int) := ps.filter (fun p => p.1 != c)
/-- A pair in its place. -/
def ins (p : Int × Int) : List (Int × Int) → List (Int × Int)
  | [] => [p]
  | q :: qs => if q.1 < p.1 then q :: ins p qs else p :: q :: qs
def put (ps : List (Int × Int)) (p : Int × Int) : List (Int × Int) := ins p (without ps p.1)

theorem Sorted.without {ps : List (Int × Int)} (h : Sorted ps) (c : Int) : Sorted (without ps c) := List.Pairwise.filter _ h
theorem mem_ins {p q : Int × Int} : ∀ {qs : List (Int × Int)}, q ∈ ins p qs ↔ q = p ∨ q ∈ qs
  | [] => by simp [ins]
  | r :: qs => by
    simp only [ins]
    split
    · simp [mem_ins (qs := qs)]; constructor <;> (rintro (h | h | h) <;> simp [h])
    · simp
theorem Sorted.ins {p : Int × Int} : ∀ {qs : List (Int × Int)}, Sorted qs → (∀ q ∈ qs, q.1 ≠ p.1) → Sorted (ins p qs)
  | [], _, _ => by simp [Proofs.YtknkbihjboadjaaDoor.ins, Sorted]
  | r :: qs, h, hn => by
    obtain ⟨h1, h2⟩ := List.pairwise_cons.1 h
    simp only [Proofs.YtknkbihjboadjaaDoor.ins]
    split
    · rename_i hlt
      refine List.Pairwise.cons (fun q hq => ?_) (Sorted.ins h2 (fun q hq => hn q (List.mem_cons_of_mem _ hq)))
      rcases mem_ins.1 hq with rfl | hq
      · exact hlt
      · exact h1 q hq
    · rename_i hge
      have hne := hn r List.mem_cons_self
      refine List.Pairwise.cons (fun q hq => ?_) h
      rcases List.mem_cons.1 hq with rfl | hq
      · omega
      · have := h1 q hq; omega
theorem without_ne {ps : List (Int × Int)} {c : Int} : ∀ q ∈ without ps c, q.1 ≠ c := fun q hq => by
  have := (List.mem_filter.1 hq).2
  simpa using this
theorem Sorted.put {ps : List (Int × Int)} (h : Sorted ps) (p : Int × Int) : Sorted (put ps p) := (h.without p.1).ins without_ne
theorem ins_length (p : Int × Int) : ∀ qs : List (Int × Int), (ins p qs).length = qs.length + 1
  | [] => rfl
  | r :: qs => by simp only [ins]; split <;> simp [ins_length p qs]

theorem lk_none {ps : List (Int × Int)} {c : Int} : lk ps c = none ↔ ∀ p ∈ ps, p.1 ≠ c := by
  unfold lk
  rw [Option.map_eq_none_iff, List.find?_eq_none]
  simp
theorem lk_some {ps : List (Int × Int)} (h : Sorted ps) {c g : Int} : lk ps c = some g ↔ (c, g) ∈ ps := by
  induction ps with
  | nil => simp [lk]
  | cons p ps ih =>
    obtain ⟨h1, h2⟩ := List.pairwise_cons.1 h
    by_cases e : p.1 = c
    · have : lk (p :: ps) c = some p.2 := by simp [lk, e]
      rw [this]
      constructor
      · intro h'; injection h' with h'; subst h' e; exact List.mem_cons_self
      · intro h'
        rcases List.mem_cons.1 h' with h' | h'
        · rw [← h']
        · have := h1 _ h'; simp at this; omega
    · have : lk (p :: ps) c = lk ps c := by simp [lk, e]
      rw [this, ih h2]
      constructor
      · exact List.mem_cons_of_mem _
      · intro h'
        rcases List.mem_cons.1 h' with h' | h'
        · rw [← h'] at e; simp at e
        · exact h'
theorem lk_isSome {ps : List (Int × Int)} {c : Int} : (lk ps c).isSome = true ↔ c ∈ ps.map (·.1) := by
  rw [List.mem_map]
  cases h : lk ps c with
  | none => simp; have := lk_none.1 h; intro a hab; exact this _ hab rfl
  | some g =>
    simp
    unfold lk at h
    rw [Option.map_eq_some_iff] at h
    obtain ⟨p, hp, _⟩ := h
    have := List.find?_some hp
    simp at this
    exact ⟨p.2, by rw [← this]; exact List.mem_of_find?_eq_some hp⟩
theorem mem_of_sorted_lk {ps qs : List (Int × Int)} (h1 : Sorted ps) (h2 : Sorted qs) (h : ∀ c, lk ps c = lk qs c) : ps = qs := by
  refine List.Perm.eq_of_pairwise (le := fun p q : Int × Int => p.1 < q.1) (fun a b _ _ h1 h2 => by omega) h1 h2 ?_
  refine (List.perm_ext_iff_of_nodup (h1.imp (fun {a b} hab e => by subst e; omega)) (h2.imp (fun {a b} hab e => by subst e; omega))).2 fun p => ?_
  obtain ⟨c, g⟩ := p
  rw [← lk_some h1, ← lk_some h2, h c]
theorem lk_without_same (ps : List (Int × Int)) (c : Int) : lk (without ps c) c = none := lk_none.2 without_ne
theorem lk_without_other (ps : List (Int × Int)) {c c' : Int} (h : c' ≠ c) : lk (without ps c) c' = lk ps c' := by
  unfold lk without
  rw [List.find?_filter]
  congr 1
  congr 1
  funext p
  by_cases e : p.1 = c'
  · simp [e, h]
  · simp [e]
theorem lk_ins_same (p : Int × Int) : ∀ (qs : List (Int × Int)), (∀ q ∈ qs, q.1 ≠ p.1) → lk (ins p qs) p.1 = some p.2
  | [], _ => by simp [ins, lk]
  | r :: qs, h => by
    simp only [ins]
    split
    · have e : r.1 ≠ p.1 := h r List.mem_cons_self
      have ih := lk_ins_same p qs (fun q hq => h q (List.mem_cons_of_mem _ hq))
      have : lk (r :: ins p qs) p.1 = lk (ins p qs) p.1 := by simp [lk, e]
      rw [this, ih]
    · simp [lk]
theorem lk_ins_other (p : Int × Int) {c : Int} (hc : c ≠ p.1) : ∀ (qs : List (Int × Int)), lk (ins p qs) c = lk qs c
  | [] => by simp [ins, lk, Ne.symm hc]
  | r :: qs => by
    simp only [ins]
    split
    · have ih := lk_ins_other p hc qs
      by_cases e : r.1 = c
      · simp [lk, e]
      · have e1 : lk (r :: ins p qs) c = lk (ins p qs) c := by simp [lk, e]
        have e2 : lk (r :: qs) c = lk qs c := by simp [lk, e]
        rw [e1, e2, ih]
    · simp [lk, Ne.symm hc]
theorem lk_put_same (ps : List (Int × Int)) (p : Int × Int) : lk (put ps p) p.1 = some p.2 := lk_ins_same p _ without_ne
theorem lk_put_other (ps : List (Int × Int)) (p : Int × Int) {c : Int} (h : c ≠ p.1) : lk (put ps p) c = lk ps c := by
  unfold put; rw [lk_ins_other p h, lk_without_other ps h]
theorem without_length {ps : List (Int × Int)} (h : Sorted ps) (c : Int) : (without ps c).length + (if (lk ps c).isSome = true then 1 else 0) = ps.length := by
  induction ps with
  | nil => simp [lk, without]
  | cons p ps ih =>
    obtain ⟨h1, h2⟩ := List.pairwise_cons.1 h
    have ih := ih h2
    by_cases e : p.1 = c
    · have e1 : (lk (p :: ps) c).isSome = true := by simp [lk, e]
      have e2 : lk ps c = none := lk_none.2 (fun q hq hqc => by have := h1 q hq; omega)
      have e3 : without (p :: ps) c = without ps c := by simp [without, e]
      rw [if_pos e1, e3]
      rw [e2] at ih
      simp at ih ⊢
      omega
    · have e1 : lk (p :: ps) c = lk ps c := by simp [lk, e]
      have e3 : without (p :: ps) c = p :: without ps c := by simp [without, e]
      rw [e1, e3, List.length_cons, List.length_cons]
      omega
theorem put_length {ps : List (Int × Int)} (h : Sorted ps) (p : Int × Int) : (put ps p).length = if (lk ps p.1).isSome = true then ps.length else ps.length + 1 := by
  have := without_length h p.1
  unfold put
  rw [ins_length]
  split at this
  · rename_i h'; rw [if_pos h']; omega
  · rename_i h'; rw [if_neg h']; omega
theorem without_none {ps : List (Int × Int)} {c : Int} (h : lk ps c = none) : without ps c = ps := by
  unfold without
  rw [List.filter_eq_self]
  intro p hp
  have := lk_none.1 h p hp
  simpa using this
theorem ins_last {p : Int × Int} : ∀ {qs : List (Int × Int)}, (∀ q ∈ qs, q.1 < p.1) → ins p qs = qs ++ [p]
  | [], _ => rfl
  | r :: qs, h => by
    simp only [ins, h r List.mem_cons_self, if_true, List.cons_append]
    rw [ins_last (fun q hq => h q (List.mem_cons_of_mem _ hq))]
/-- The next pair of a sorted list is put behind those that stand. -/
theorem put_next {ps : List (Int × Int)} (h : Sorted ps) {k : Nat} (hk : k < ps.length) : put (ps.take k) (ps.getD k (0, 0)) = ps.take (k + 1) := by
  rw [getD_at hk]
  have hl : ∀ q ∈ ps.take k, q.1 < ps[k].1 := by
    intro q hq
    obtain ⟨i, hi, rfl⟩ := List.mem_iff_getElem.1 hq
    simp at hi
    rw [List.getElem_take]
    exact List.pairwise_iff_getElem.1 h i k (by omega) hk (by omega)
  unfold put
  rw [without_none (lk_none.2 (fun q hq e => by have := hl q hq; omega)), ins_last hl]
  simp
theorem Sorted.take {ps : List (Int × Int)} (h : Sorted ps) (k : Nat) : Sorted (ps.take k) := List.Pairwise.sublist (List.take_sublist _ _) h

end Go.Proofs.YtknkbihjboadjaaDoor
