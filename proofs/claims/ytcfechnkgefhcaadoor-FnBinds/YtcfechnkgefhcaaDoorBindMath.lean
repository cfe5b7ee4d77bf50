/-
  The mathematics of a bind put among rising ones: what is put is found, other keys are as they were, and the list stays fine.
-/
import Derived.Test.YtcfechnkgefhcaaDoorPutSpec
import Derived.Test.YtcfechnkgefhcaaDoorSymOfFns
namespace Go.Proofs.YtcfechnkgefhcaaDoor
set_option maxRecDepth 20000
set_option linter.unusedVariables false
set_option linter.unusedSimpArgs false

theorem cut_exists (q : Bd) : ∀ bs : List Bd, SortedB bs → ∃ n, CutAt bs q n
  | [], _ => ⟨0, Nat.le_refl _, fun t h => by omega, fun t _ h => by simp at h⟩
  | p :: ps, hs => by
    have hs' := List.pairwise_cons.1 hs
    cases hp : aheadB p q with
    | true =>
      obtain ⟨n, h0, h1, h2⟩ := cut_exists q ps hs'.2
      refine ⟨n + 1, by simp; omega, ?_, ?_⟩
      · intro t ht
        cases t with
        | zero => simpa using hp
        | succ t => simpa using h1 t (by omega)
      · intro t h3 h4
        cases t with
        | zero => omega
        | succ t => simpa using h2 t (by omega) (by simpa using h4)
    | false =>
      refine ⟨0, Nat.zero_le _, fun t h => by omega, ?_⟩
      intro t _ h4
      cases t with
      | zero => simpa using hp
      | succ t =>
        have h5 : t < ps.length := by simpa using h4
        cases hx : aheadB (ps.getD t b0) q with
        | false => simpa using hx
        | true =>
          have := ahead_trans (hs'.1 (ps.getD t b0) (by rw [getB h5]; exact List.getElem_mem _)) hx
          rw [hp] at this
          cases this
theorem cut_take {bs : List Bd} {q : Bd} {n : Nat} (hc : CutAt bs q n) : ∀ p ∈ bs.take n, aheadB p q = true := by
  intro p hp
  obtain ⟨t, ht, rfl⟩ := List.mem_iff_getElem.1 hp
  have h1 : t < n ∧ t < bs.length := by simp at ht; omega
  have := hc.2.1 t h1.1
  rw [getB h1.2] at this
  simpa using this
theorem cut_drop {bs : List Bd} {q : Bd} {n : Nat} (hc : CutAt bs q n) : ∀ p ∈ bs.drop n, aheadB p q = false := by
  intro p hp
  obtain ⟨t, ht, rfl⟩ := List.mem_iff_getElem.1 hp
  have h1 : n + t < bs.length := by simp at ht; omega
  have := hc.2.2 (n + t) (by omega) h1
  rw [getB h1] at this
  simpa using this
theorem putR_parts {bs : List Bd} {q : Bd} (hs : SortedB bs) : ∃ xs ys, bs = xs ++ ys ∧ (∀ p ∈ xs, aheadB p q = true) ∧ (∀ p ∈ ys, aheadB p q = false) ∧ putR bs q = xs ++ q :: ys.filter (fun p => aheadB q p) := by
  obtain ⟨n, hc⟩ := cut_exists q bs hs
  exact ⟨bs.take n, bs.drop n, (List.take_append_drop n bs).symm, cut_take hc, cut_drop hc, putR_cut hc⟩
theorem hitAt_app (xs ys : List Bd) (k m : Int) : hitAt (xs ++ ys) k m = (hitAt xs k m).or (hitAt ys k m) := by
  unfold hitAt
  rw [List.find?_append]
  cases xs.find? (fun p => p.1 == k && p.2.1 == m) <;> simp
theorem hitAt_filter (f : Bd → Bool) (k m : Int) : ∀ (l : List Bd), (∀ p ∈ l, f p = false → ¬ (p.1 = k ∧ p.2.1 = m)) → hitAt (l.filter f) k m = hitAt l k m
  | [], _ => rfl
  | p :: ps, h => by
    have ih := hitAt_filter f k m ps (fun x hx => h x (List.mem_cons_of_mem _ hx))
    cases hf : f p with
    | true => rw [List.filter_cons_of_pos (by simpa using hf), hitAt_cons, hitAt_cons, ih]
    | false => rw [List.filter_cons_of_neg (by simp [hf]), hitAt_cons, ih, if_neg (h p (List.mem_cons_self ..) hf)]
theorem hit_put {bs : List Bd} {q : Bd} (hs : SortedB bs) : hitAt (putR bs q) q.1 q.2.1 = some q.2.2 := by
  obtain ⟨xs, ys, rfl, h1, h2, h3⟩ := putR_parts (q := q) hs
  rw [h3, hitAt_app, hitAt_cons, if_pos ⟨rfl, rfl⟩]
  have : hitAt xs q.1 q.2.1 = none := hitAt_none.2 fun p hp hq => by
    have := (ahead_iff p q).1 (h1 p hp)
    omega
  rw [this]
  rfl
theorem hit_other {bs : List Bd} {q : Bd} (hs : SortedB bs) {k m : Int} (hk : k ≠ q.1) : hitAt (putR bs q) k m = hitAt bs k m := by
  obtain ⟨xs, ys, rfl, h1, h2, h3⟩ := putR_parts (q := q) hs
  rw [h3, hitAt_app, hitAt_app, hitAt_cons, if_neg (fun h => hk h.1.symm), hitAt_filter]
  intro p hp hf he
  have e1 : ¬ (p.1 < q.1 ∨ (p.1 = q.1 ∧ p.2.1 < q.2.1)) := fun h => by have := (ahead_iff p q).2 h; rw [h2 p hp] at this; cases this
  have e2 : ¬ (q.1 < p.1 ∨ (q.1 = p.1 ∧ q.2.1 < p.2.1)) := fun h => by have := (ahead_iff q p).2 h; rw [hf] at this; cases this
  omega
theorem sym_put {bs : List Bd} {q : Bd} (hs : SortedB bs) : symK (putR bs q) q.1 q.2.1 = q.2.2 := by unfold symK; rw [hit_put hs]; rfl
theorem sym_other {bs : List Bd} {q : Bd} (hs : SortedB bs) {k m : Int} (hk : k ≠ q.1) : symK (putR bs q) k m = symK bs k m := by unfold symK; rw [hit_other hs hk, hit_other hs hk]
theorem put_fine {bs : List Bd} {q : Bd} (h : BFine bs) (hq : bindCode q = 0) (hl : (putR bs q).length ≤ 24) : BFine (putR bs q) := by
  refine ⟨hl, ?_, ?_⟩
  · intro i hi
    rw [getB hi]
    have hm : (putR bs q)[i] ∈ putR bs q := List.getElem_mem _
    generalize (putR bs q)[i] = x at hm
    obtain ⟨xs, ys, e, h1, h2, h3⟩ := putR_parts (q := q) h.sorted
    have hin : x = q ∨ x ∈ bs := by
      rw [h3] at hm
      rcases List.mem_append.1 hm with hm | hm
      · exact .inr (by rw [e]; exact List.mem_append.2 (.inl hm))
      · rcases List.mem_cons.1 hm with hm | hm
        · exact .inl hm
        · exact .inr (by rw [e]; exact List.mem_append.2 (.inr (List.mem_filter.1 hm).1))
    rcases hin with rfl | hin
    · exact hq
    · obtain ⟨t, ht, rfl⟩ := List.mem_iff_getElem.1 hin
      rw [← getB ht]
      exact h.ok t ht
  · obtain ⟨xs, ys, rfl, h1, h2, h3⟩ := putR_parts (q := q) h.sorted
    rw [h3]
    have hp := List.pairwise_append.1 h.sorted
    refine List.pairwise_append.2 ⟨hp.1, List.pairwise_cons.2 ⟨fun b hb => (List.mem_filter.1 hb).2, hp.2.1.sublist List.filter_sublist⟩, ?_⟩
    intro a ha b hb
    rcases List.mem_cons.1 hb with rfl | hb
    · exact h1 a ha
    · exact ahead_trans (h1 a ha) (List.mem_filter.1 hb).2
/-- What the law asks of a bind that was put. -/
theorem put_law {bs : List Bd} {q : Bd} (h : putCd bs q = 0) : putRs bs q = putR bs q ∧ bindsCode bs = 0 ∧ bindsCode (putR bs q) = 0 ∧ 1 ≤ (putR bs q).length ∧ (putR bs q).length ≤ 24 ∧ symRs (putR bs q) q.1 q.2.1 = q.2.2 ∧ (∀ k m : Int, keyB k m = true → k ≠ q.1 → symRs (putR bs q) k m = symRs bs k m) := by
  have hb : bindsCode bs = 0 := by
    refine Classical.byContradiction fun hn => ?_
    unfold putCd at h; rw [if_neg hn] at h; exact hn h
  have hq : bindCode q = 0 := by
    refine Classical.byContradiction fun hn => ?_
    unfold putCd at h; rw [if_pos hb, if_neg hn] at h; exact hn h
  have hl : ¬ 24 < (putR bs q).length := by
    intro hn
    unfold putCd at h; rw [if_pos hb, if_pos hq, if_pos hn] at h; cases h
  have hf := bfine_of_code hb
  have hR := code_of_bfine (put_fine hf hq (by omega))
  have hk : keyB q.1 q.2.1 = true := by
    cases hk : keyB q.1 q.2.1 with
    | true => rfl
    | false => unfold bindCode at hq; rw [if_neg (by rw [hk]; simp)] at hq; cases hq
  refine ⟨by unfold putRs; rw [if_pos h], hb, hR, (putR_len bs q).1, by omega, ?_, ?_⟩
  · rw [symRs_ok (symCd_ok hR hk), sym_put hf.sorted]
  · intro k m hkm hne
    rw [symRs_ok (symCd_ok hR hkm), symRs_ok (symCd_ok hb hkm), sym_other hf.sorted hne]
end Go.Proofs.YtcfechnkgefhcaaDoor
