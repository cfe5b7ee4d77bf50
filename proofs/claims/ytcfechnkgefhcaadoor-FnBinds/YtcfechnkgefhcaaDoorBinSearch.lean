/-
  Sorted binds; slices.BinarySearchFunc at binds, by impl.byKeyThenMods.
-/
import Derived.Test.YtcfechnkgefhcaaDoorBindFault
import Derived.Shelf.Abstract
namespace Go.Proofs.YtcfechnkgefhcaaDoor
set_option maxRecDepth 20000
open Go.ChangeShapes Go.WideShapes Go.ChangeAt Go.RowKit
set_option linter.unusedVariables false
set_option linter.unusedSimpArgs false
set_option maxRecDepth 20000

theorem ahead_iff (p q : Bd) : aheadB p q = true ↔ (p.1 < q.1 ∨ (p.1 = q.1 ∧ p.2.1 < q.2.1)) := by simp [aheadB]
theorem ahead_trans {p q r : Bd} (h1 : aheadB p q = true) (h2 : aheadB q r = true) : aheadB p r = true := by
  rw [ahead_iff] at *; omega
theorem ahead_irrefl (p : Bd) : aheadB p p = false := by
  cases h : aheadB p p with
  | false => rfl
  | true => rw [ahead_iff] at h; omega
def SortedB (bs : List Bd) : Prop := bs.Pairwise fun p q => aheadB p q = true
theorem getB {bs : List Bd} {i : Nat} (h : i < bs.length) : bs.getD i b0 = bs[i] := by simp [List.getD_eq_getElem?_getD, h]
theorem SortedB.at {bs : List Bd} (h : SortedB bs) {i j : Nat} (hij : i < j) (hj : j < bs.length) : aheadB (bs.getD i b0) (bs.getD j b0) = true := by
  rw [getB (by omega : i < bs.length), getB hj]
  exact List.pairwise_iff_getElem.1 h i j (by omega) hj hij
theorem sortedB_of_steps : ∀ (ps : List Bd), (∀ i, 0 < i → i < ps.length → aheadB (ps.getD (i - 1) b0) (ps.getD i b0) = true) → SortedB ps
  | [], _ => List.Pairwise.nil
  | [p], _ => by simp [SortedB]
  | p :: q :: ps, h => by
    have ih := sortedB_of_steps (q :: ps) (fun i h0 h1 => by
      have := h (i + 1) (by omega) (by simpa using h1)
      obtain ⟨j, rfl⟩ : ∃ j, i = j + 1 := ⟨i - 1, by omega⟩
      simpa using this)
    have h0 := h 1 (by omega) (by simp)
    simp at h0
    refine List.Pairwise.cons (fun r hr => ?_) ih
    rcases List.mem_cons.1 hr with rfl | hr
    · exact h0
    · exact ahead_trans h0 ((List.pairwise_cons.1 ih).1 r hr)
theorem bfault_zero {bs : List Bd} : ∀ (n k : Nat), bs.length - k = n → bfault bs k = 0 → (∀ i, k ≤ i → i < bs.length → bindCode (bs.getD i b0) = 0) ∧ (∀ i, k ≤ i → 0 < i → i < bs.length → aheadB (bs.getD (i - 1) b0) (bs.getD i b0) = true)
  | 0, k, hn, _ => ⟨fun i h1 h2 => by omega, fun i h1 _ h2 => by omega⟩
  | n + 1, k, hn, h => by
    have hk : k < bs.length := by omega
    by_cases h1 : bindCode (bs.getD k b0) = 0
    · by_cases h2 : 0 < k ∧ aheadB (bs.getD (k - 1) b0) (bs.getD k b0) = false
      · rw [bfault_form hk h1 h2] at h; cases h
      · rw [bfault_next hk h1 h2] at h
        obtain ⟨r1, r2⟩ := bfault_zero n (k + 1) (by omega) h
        refine ⟨fun i hi1 hi2 => ?_, fun i hi1 hi0 hi2 => ?_⟩
        · by_cases e : i = k
          · subst e; exact h1
          · exact r1 i (by omega) hi2
        · by_cases e : i = k
          · subst e
            cases hA : aheadB (bs.getD (i - 1) b0) (bs.getD i b0) with
            | true => rfl
            | false => exact absurd ⟨hi0, hA⟩ h2
          · exact r2 i (by omega) hi0 hi2
    · rw [bfault_bad hk h1] at h; exact absurd h h1
structure BFine (bs : List Bd) : Prop where
  len : bs.length ≤ 24
  ok : ∀ i, i < bs.length → bindCode (bs.getD i b0) = 0
  sorted : SortedB bs
theorem bfine_of_code {bs : List Bd} (h : bindsCode bs = 0) : BFine bs := by
  unfold bindsCode at h
  by_cases h1 : 24 < bs.length
  · rw [if_pos h1] at h; cases h
  · rw [if_neg h1] at h
    obtain ⟨r1, r2⟩ := bfault_zero _ 0 rfl h
    exact ⟨by omega, fun i hi => r1 i (by omega) hi, sortedB_of_steps bs (fun i h0 h1 => r2 i (by omega) h0 h1)⟩
theorem code_of_bfine {bs : List Bd} (h : BFine bs) : bindsCode bs = 0 := by
  unfold bindsCode
  have h24 := h.len
  rw [if_neg (by omega)]
  have step : ∀ (n k : Nat), bs.length - k = n → bfault bs k = 0 := by
    intro n
    induction n with
    | zero => intro k hk; exact bfault_end (by omega)
    | succ n ih =>
      intro k hk
      have hlt : k < bs.length := by omega
      rw [bfault_next hlt (h.ok k hlt) ?_]
      · exact ih (k + 1) (by omega)
      · rintro ⟨h0, h1⟩
        rw [h.sorted.at (show k - 1 < k by omega) hlt] at h1
        cases h1
  exact step _ 0 rfl
/-- Place n cuts the binds into those ahead of q and those that are not. -/
def CutAt (bs : List Bd) (q : Bd) (n : Nat) : Prop := n ≤ bs.length ∧ (∀ t, t < n → aheadB (bs.getD t b0) q = true) ∧ (∀ t, n ≤ t → t < bs.length → aheadB (bs.getD t b0) q = false)
def hitB (bs : List Bd) (q : Bd) (n : Nat) : Bool := decide (n < bs.length) && decide (cmpK (bs.getD n b0) q = 0)

set_option maxHeartbeats 2000000 in
theorem bsearch_calls (bs : List Bd) (v : Value) (q : Bd) (w : World) (hn : bs.length ≤ 1048576) (h1 : QRead w v bs) (hs : SortedB bs) :
    Calls Tryd.prog 45 #[v, .agg #[.int .i64 q.1, .int .i64 q.2.1, .int .i64 q.2.2.1, .int .i64 q.2.2.2], .func (.func 46) #[] #[]] w fun e w' => (∃ n : Nat, e = .returned (.tuple #[.int .i64 n, .bool (hitB bs q n)]) ∧ CutAt bs q n) ∧ Below w.heap.size w w' := by
  obtain ⟨a1, c1, rfl, h1⟩ := h1
  obtain ⟨q0, q1, q2, q3⟩ := q
  show Calls _ _ #[_, .agg #[.int .i64 q0, .int .i64 q1, .int .i64 q2, .int .i64 q3], _] _ _
  have HS := hide hs
  have bel0 : Below w.heap.size w (w.alloc (.cells #[.int .i64 q0, .int .i64 q1, .int .i64 q2, .int .i64 q3] 28)) := (by repeat' (first | with_reducible exact Below.refl _ _ | with_reducible assumption | with_reducible refine Below.drew ?_ | with_reducible refine Below.alloc ?_ ?_ _ | with_reducible refine Below.setCell ?_ ?_ _ | (simp; done) | (simp; omega) | omega))
  have T0 : Q4 (w.alloc (.cells #[.int .i64 q0, .int .i64 q1, .int .i64 q2, .int .i64 q3] 28)) w.heap.size 0 (q0, q1, q2, q3) := ⟨by simp, by simp, by simp, by simp⟩
  clear hs
  go_enter Tryd.func45, Tryd.ntmps45
  go_wp2_with fail
  generalize (w.alloc (.cells #[.int .i64 q0, .int .i64 q1, .int .i64 q2, .int .i64 q3] 28)) = W at *
  have H1 := hide h1
  clear h1
  go_loopw [9, 10] (fun i j wr => ∃ lo hi : Nat, i = .int .i64 lo ∧ j = .int .i64 hi ∧ lo ≤ hi ∧ hi ≤ bs.length ∧ Hid ((∀ t, t < lo → aheadB (bs.getD t b0) (q0, q1, q2, q3) = true) ∧ (∀ t, hi ≤ t → t < bs.length → aheadB (bs.getD t b0) (q0, q1, q2, q3) = false)) ∧ Below w.heap.size w wr ∧ Q4 wr w.heap.size 0 (q0, q1, q2, q3)) (fun i j _ => (intOf j - intOf i).toNat)
  case atStart => exact ⟨0, bs.length, rfl, rfl, Nat.zero_le _, Nat.le_refl _, hide ⟨fun t ht => by omega, fun t h1 h2 => by omega⟩, bel0, T0⟩
  case round =>
    obtain ⟨lo, hi, rfl, rfl, hlh, hhl, HI, hb, T⟩ := hrel
    clear bel0 T0
    by_cases hlt : lo < hi
    · have hm1 : lo ≤ (lo + hi) / 2 := by omega
      have hm2 : (lo + hi) / 2 < hi := by omega
      have hpos : bs ≠ [] := by intro h; rw [h] at hhl; simp at hhl; omega
      rcases H1.out with h1 | ⟨b1, o1, rfl, h1⟩
      · exact absurd h1 hpos
      have hq := (h1 ((lo + hi) / 2) (by omega)).below hb
      have HLO : Hid (aheadB (bs.getD ((lo + hi) / 2) b0) (q0, q1, q2, q3) = true → ∀ t, t < (lo + hi) / 2 + 1 → aheadB (bs.getD t b0) (q0, q1, q2, q3) = true) := hide (fun h t ht => by
        by_cases e : t = (lo + hi) / 2
        · rw [e]; exact h
        · exact ahead_trans (HS.out.at (by omega) (by omega)) h)
      have HHI : Hid (aheadB (bs.getD ((lo + hi) / 2) b0) (q0, q1, q2, q3) = false → ∀ t, (lo + hi) / 2 ≤ t → t < bs.length → aheadB (bs.getD t b0) (q0, q1, q2, q3) = false) := hide (fun h t h1 h2 => by
        by_cases e : t = (lo + hi) / 2
        · rw [e]; exact h
        · cases hA : aheadB (bs.getD t b0) (q0, q1, q2, q3) with
          | false => rfl
          | true => rw [ahead_trans (HS.out.at (show (lo + hi) / 2 < t by omega) h2) hA] at h; cases h)
      have hltI : (lo : Int) < (hi : Int) := by omega
      have hsum : ((lo : Int) + (hi : Int)) / 2 = (((lo + hi) / 2 : Nat) : Int) := by omega
      have hml : (((lo + hi) / 2 : Nat) : Int) < (bs.length : Int) := by omega
      clear h1 hpos H1
      generalize (lo + hi) / 2 = m at *
      generalize bs.getD m b0 = x at hq HLO HHI
      obtain ⟨x0, x1, x2, x3⟩ := x
      have hS : Below wr.heap.size wr wr.drew ∧ Q4 wr.drew b1 (o1 + m * 4) (x0, x1, x2, x3) ∧ Q4 wr.drew w.heap.size 0 (q0, q1, q2, q3) := ⟨Below.drew (Below.refl _ _), hq, T⟩
      have hm1 : ((m : Int) + 1).toNat = m + 1 := by omega
      by_cases hc : cmpK (x0, x1, x2, x3) (q0, q1, q2, q3) < 0
      · have hA := (cmpK_neg _ _).1 hc
        replace HLO := hide (HLO.out hA)
        clear HHI hA
        go_wp2_with fail
        refine wp_region_held_drew (S := (fun w' => Below wr.heap.size wr w' ∧ Q4 w' b1 (o1 + m * 4) (x0, x1, x2, x3) ∧ Q4 w' w.heap.size 0 (q0, q1, q2, q3))) (by kernel_rfl) ?_ (fun hHeld => ?_)
        · (try dsimp only); exact hS
        refine wpAnyH_take (i := 0) (oi := ⟨_, _, _, _, _, _⟩) (v := ?_) rfl (by kernel_rfl) (by kernel_rfl) (by kernel_rfl) (fun _ _ _ h => h) (Or.inl ⟨by rfl, ?_⟩) hHeld ?_
        rotate_left
        · (intro w hSw; (try dsimp only at hSw); obtain ⟨_, ⟨s0, s1, s2, s3⟩, u0, u1, u2, u3⟩ := hSw; (try dsimp only at s0 s1 s2 s3 u0 u1 u2 u3); (try simp only [Nat.zero_add] at u1 u2 u3); go_simp; try (with_reducible rfl))
        try simp only [Act.put, List.setIfInBounds_toArray, List.set_cons_zero, List.set_cons_succ]
        refine wpAnyH_take (i := 1) (oi := ⟨_, _, _, _, _, _⟩) (v := ?_) rfl (by kernel_rfl) (by kernel_rfl) (by kernel_rfl) (fun _ _ _ h => h) (Or.inl ⟨by rfl, ?_⟩) hHeld ?_
        rotate_left
        · (intro w hSw; (try dsimp only at hSw); obtain ⟨_, ⟨s0, s1, s2, s3⟩, u0, u1, u2, u3⟩ := hSw; (try dsimp only at s0 s1 s2 s3 u0 u1 u2 u3); (try simp only [Nat.zero_add] at u1 u2 u3); go_simp; try (with_reducible rfl))
        try simp only [Act.put, List.setIfInBounds_toArray, List.set_cons_zero, List.set_cons_succ]
        refine wpAnyH_take (i := 2) (oi := ⟨_, _, _, _, _, _⟩) (v := ?_) rfl (by kernel_rfl) (by kernel_rfl) (by kernel_rfl) (fun _ _ _ h => h) (Or.inl ⟨by rfl, ?_⟩) hHeld ?_
        rotate_left
        · (intro w hSw; (try dsimp only at hSw); obtain ⟨_, ⟨s0, s1, s2, s3⟩, u0, u1, u2, u3⟩ := hSw; (try dsimp only at s0 s1 s2 s3 u0 u1 u2 u3); (try simp only [Nat.zero_add] at u1 u2 u3); go_simp; try (with_reducible rfl))
        try simp only [Act.put, List.setIfInBounds_toArray, List.set_cons_zero, List.set_cons_succ]
        refine wpAnyH_take (i := 3) (oi := ⟨_, _, _, _, _, _⟩) (v := ?_) rfl (by kernel_rfl) (by kernel_rfl) (by kernel_rfl) (fun _ _ _ h => h) (Or.inl ⟨by rfl, ?_⟩) hHeld ?_
        rotate_left
        · (intro w hSw; (try dsimp only at hSw); obtain ⟨_, ⟨s0, s1, s2, s3⟩, u0, u1, u2, u3⟩ := hSw; (try dsimp only at s0 s1 s2 s3 u0 u1 u2 u3); (try simp only [Nat.zero_add] at u1 u2 u3); go_simp; try (with_reducible rfl))
        try simp only [Act.put, List.setIfInBounds_toArray, List.set_cons_zero, List.set_cons_succ]
        refine wpAnyH_take (i := 4) (oi := ⟨_, _, _, _, _, _⟩) (v := ?_) rfl (by kernel_rfl) (by kernel_rfl) (by kernel_rfl) (fun _ _ _ h => h) (Or.inl ⟨by rfl, ?_⟩) hHeld ?_
        rotate_left
        · (intro w hSw; (try dsimp only at hSw); obtain ⟨_, ⟨s0, s1, s2, s3⟩, u0, u1, u2, u3⟩ := hSw; (try dsimp only at s0 s1 s2 s3 u0 u1 u2 u3); (try simp only [Nat.zero_add] at u1 u2 u3); go_simp; try (with_reducible rfl))
        try simp only [Act.put, List.setIfInBounds_toArray, List.set_cons_zero, List.set_cons_succ]
        refine wpAnyH_take (i := 5) (oi := ⟨_, _, _, _, _, _⟩) (v := ?_) rfl (by kernel_rfl) (by kernel_rfl) (by kernel_rfl) (fun _ _ _ h => h) (Or.inl ⟨by rfl, ?_⟩) hHeld ?_
        rotate_left
        · (intro w hSw; (try dsimp only at hSw); obtain ⟨_, ⟨s0, s1, s2, s3⟩, u0, u1, u2, u3⟩ := hSw; (try dsimp only at s0 s1 s2 s3 u0 u1 u2 u3); (try simp only [Nat.zero_add] at u1 u2 u3); go_simp; try (with_reducible rfl))
        try simp only [Act.put, List.setIfInBounds_toArray, List.set_cons_zero, List.set_cons_succ]
        refine wpAnyH_ready (rs := [6]) (by kernel_rfl) (by simp) ?_
        refine AllReadyH.cons (o := ⟨_, _, _, _, _, _⟩) rfl (fun K hK => ?_) AllReadyH.nil
        go_simp
        first | go_at_call 46 | go_at_fn 46
        refine (byKey_calls (x0, x1, x2, x3) (q0, q1, q2, q3) _).mono ?_
        rintro e w9 ⟨rfl, hb9⟩
        try go_wp2_with fail
        refine hK.out _ _ ?_ ?_
        · (try dsimp only); exact keep8 hHeld hb9
        clear hHeld hK K
        intro hHeld
        try simp only [Act.put, List.setIfInBounds_toArray, List.set_cons_zero, List.set_cons_succ]
        refine wpAnyH_take (i := 7) (oi := ⟨_, _, _, _, _, _⟩) (v := ?_) rfl (by kernel_rfl) (by kernel_rfl) (by kernel_rfl) (fun _ _ _ h => h) (Or.inl ⟨by rfl, ?_⟩) hHeld ?_
        rotate_left
        · (intro w hSw; (try dsimp only at hSw); obtain ⟨_, ⟨s0, s1, s2, s3⟩, u0, u1, u2, u3⟩ := hSw; (try dsimp only at s0 s1 s2 s3 u0 u1 u2 u3); (try simp only [Nat.zero_add] at u1 u2 u3); go_simp; try (with_reducible rfl))
        try simp only [Act.put, List.setIfInBounds_toArray, List.set_cons_zero, List.set_cons_succ]
        refine wpAnyH_done (by kernel_rfl) ?_ _
        have bel := hHeld.1
        have T2 := hHeld.2.2
        clear hS hHeld
        go_wp2
        go_roundw
        case rel => exact ⟨m + 1, hi, by go_num, rfl, by omega, hhl, hide ⟨HLO.out, HI.out.2⟩, hb.trans (bel.mono hb.size), T2⟩
        case measure => simp [intOf]; omega
      · have hA : aheadB (x0, x1, x2, x3) (q0, q1, q2, q3) = false := by
          have := cmpK_neg (x0, x1, x2, x3) (q0, q1, q2, q3)
          cases h : aheadB (x0, x1, x2, x3) (q0, q1, q2, q3) with
          | false => rfl
          | true => exact absurd (this.2 h) hc
        replace HHI := hide (HHI.out hA)
        clear HLO hA
        go_wp2_with fail
        refine wp_region_held_drew (S := (fun w' => Below wr.heap.size wr w' ∧ Q4 w' b1 (o1 + m * 4) (x0, x1, x2, x3) ∧ Q4 w' w.heap.size 0 (q0, q1, q2, q3))) (by kernel_rfl) ?_ (fun hHeld => ?_)
        · (try dsimp only); exact hS
        refine wpAnyH_take (i := 0) (oi := ⟨_, _, _, _, _, _⟩) (v := ?_) rfl (by kernel_rfl) (by kernel_rfl) (by kernel_rfl) (fun _ _ _ h => h) (Or.inl ⟨by rfl, ?_⟩) hHeld ?_
        rotate_left
        · (intro w hSw; (try dsimp only at hSw); obtain ⟨_, ⟨s0, s1, s2, s3⟩, u0, u1, u2, u3⟩ := hSw; (try dsimp only at s0 s1 s2 s3 u0 u1 u2 u3); (try simp only [Nat.zero_add] at u1 u2 u3); go_simp; try (with_reducible rfl))
        try simp only [Act.put, List.setIfInBounds_toArray, List.set_cons_zero, List.set_cons_succ]
        refine wpAnyH_take (i := 1) (oi := ⟨_, _, _, _, _, _⟩) (v := ?_) rfl (by kernel_rfl) (by kernel_rfl) (by kernel_rfl) (fun _ _ _ h => h) (Or.inl ⟨by rfl, ?_⟩) hHeld ?_
        rotate_left
        · (intro w hSw; (try dsimp only at hSw); obtain ⟨_, ⟨s0, s1, s2, s3⟩, u0, u1, u2, u3⟩ := hSw; (try dsimp only at s0 s1 s2 s3 u0 u1 u2 u3); (try simp only [Nat.zero_add] at u1 u2 u3); go_simp; try (with_reducible rfl))
        try simp only [Act.put, List.setIfInBounds_toArray, List.set_cons_zero, List.set_cons_succ]
        refine wpAnyH_take (i := 2) (oi := ⟨_, _, _, _, _, _⟩) (v := ?_) rfl (by kernel_rfl) (by kernel_rfl) (by kernel_rfl) (fun _ _ _ h => h) (Or.inl ⟨by rfl, ?_⟩) hHeld ?_
        rotate_left
        · (intro w hSw; (try dsimp only at hSw); obtain ⟨_, ⟨s0, s1, s2, s3⟩, u0, u1, u2, u3⟩ := hSw; (try dsimp only at s0 s1 s2 s3 u0 u1 u2 u3); (try simp only [Nat.zero_add] at u1 u2 u3); go_simp; try (with_reducible rfl))
        try simp only [Act.put, List.setIfInBounds_toArray, List.set_cons_zero, List.set_cons_succ]
        refine wpAnyH_take (i := 3) (oi := ⟨_, _, _, _, _, _⟩) (v := ?_) rfl (by kernel_rfl) (by kernel_rfl) (by kernel_rfl) (fun _ _ _ h => h) (Or.inl ⟨by rfl, ?_⟩) hHeld ?_
        rotate_left
        · (intro w hSw; (try dsimp only at hSw); obtain ⟨_, ⟨s0, s1, s2, s3⟩, u0, u1, u2, u3⟩ := hSw; (try dsimp only at s0 s1 s2 s3 u0 u1 u2 u3); (try simp only [Nat.zero_add] at u1 u2 u3); go_simp; try (with_reducible rfl))
        try simp only [Act.put, List.setIfInBounds_toArray, List.set_cons_zero, List.set_cons_succ]
        refine wpAnyH_take (i := 4) (oi := ⟨_, _, _, _, _, _⟩) (v := ?_) rfl (by kernel_rfl) (by kernel_rfl) (by kernel_rfl) (fun _ _ _ h => h) (Or.inl ⟨by rfl, ?_⟩) hHeld ?_
        rotate_left
        · (intro w hSw; (try dsimp only at hSw); obtain ⟨_, ⟨s0, s1, s2, s3⟩, u0, u1, u2, u3⟩ := hSw; (try dsimp only at s0 s1 s2 s3 u0 u1 u2 u3); (try simp only [Nat.zero_add] at u1 u2 u3); go_simp; try (with_reducible rfl))
        try simp only [Act.put, List.setIfInBounds_toArray, List.set_cons_zero, List.set_cons_succ]
        refine wpAnyH_take (i := 5) (oi := ⟨_, _, _, _, _, _⟩) (v := ?_) rfl (by kernel_rfl) (by kernel_rfl) (by kernel_rfl) (fun _ _ _ h => h) (Or.inl ⟨by rfl, ?_⟩) hHeld ?_
        rotate_left
        · (intro w hSw; (try dsimp only at hSw); obtain ⟨_, ⟨s0, s1, s2, s3⟩, u0, u1, u2, u3⟩ := hSw; (try dsimp only at s0 s1 s2 s3 u0 u1 u2 u3); (try simp only [Nat.zero_add] at u1 u2 u3); go_simp; try (with_reducible rfl))
        try simp only [Act.put, List.setIfInBounds_toArray, List.set_cons_zero, List.set_cons_succ]
        refine wpAnyH_ready (rs := [6]) (by kernel_rfl) (by simp) ?_
        refine AllReadyH.cons (o := ⟨_, _, _, _, _, _⟩) rfl (fun K hK => ?_) AllReadyH.nil
        go_simp
        first | go_at_call 46 | go_at_fn 46
        refine (byKey_calls (x0, x1, x2, x3) (q0, q1, q2, q3) _).mono ?_
        rintro e w9 ⟨rfl, hb9⟩
        try go_wp2_with fail
        refine hK.out _ _ ?_ ?_
        · (try dsimp only); exact keep8 hHeld hb9
        clear hHeld hK K
        intro hHeld
        try simp only [Act.put, List.setIfInBounds_toArray, List.set_cons_zero, List.set_cons_succ]
        refine wpAnyH_take (i := 7) (oi := ⟨_, _, _, _, _, _⟩) (v := ?_) rfl (by kernel_rfl) (by kernel_rfl) (by kernel_rfl) (fun _ _ _ h => h) (Or.inl ⟨by rfl, ?_⟩) hHeld ?_
        rotate_left
        · (intro w hSw; (try dsimp only at hSw); obtain ⟨_, ⟨s0, s1, s2, s3⟩, u0, u1, u2, u3⟩ := hSw; (try dsimp only at s0 s1 s2 s3 u0 u1 u2 u3); (try simp only [Nat.zero_add] at u1 u2 u3); go_simp; try (with_reducible rfl))
        try simp only [Act.put, List.setIfInBounds_toArray, List.set_cons_zero, List.set_cons_succ]
        refine wpAnyH_done (by kernel_rfl) ?_ _
        have bel := hHeld.1
        have T2 := hHeld.2.2
        clear hS hHeld
        go_wp2
        go_roundw
        case rel => exact ⟨lo, m, rfl, rfl, by omega, by omega, hide ⟨HI.out.1, HHI.out⟩, hb.trans (bel.mono hb.size), T2⟩
        case measure => simp [intOf]; omega
    · obtain rfl : hi = lo := by omega
      have HC : Hid (CutAt bs (q0, q1, q2, q3) hi) := hide ⟨hhl, HI.out.1, HI.out.2⟩
      clear HI hlt
      by_cases hnl : hi < bs.length
      · have hpos : bs ≠ [] := by intro h; rw [h] at hnl; simp at hnl
        rcases H1.out with h1 | ⟨b1, o1, rfl, h1⟩
        · exact absurd h1 hpos
        have hq := (h1 hi hnl).below hb
        have hltI : (hi : Int) < (bs.length : Int) := by omega
        have HH : Hid (hitB bs (q0, q1, q2, q3) hi = decide (cmpK (bs.getD hi b0) (q0, q1, q2, q3) = 0)) := hide (by unfold hitB; rw [decide_eq_true hnl, Bool.true_and])
        clear h1 hpos H1
        generalize bs.getD hi b0 = x at hq HH
        obtain ⟨x0, x1, x2, x3⟩ := x
        have hS : Below wr.heap.size wr wr.drew ∧ Q4 wr.drew b1 (o1 + hi * 4) (x0, x1, x2, x3) ∧ Q4 wr.drew w.heap.size 0 (q0, q1, q2, q3) := ⟨Below.drew (Below.refl _ _), hq, T⟩
        go_wp2_with fail
        refine wp_region_held_drew (S := (fun w' => Below wr.heap.size wr w' ∧ Q4 w' b1 (o1 + hi * 4) (x0, x1, x2, x3) ∧ Q4 w' w.heap.size 0 (q0, q1, q2, q3))) (by kernel_rfl) ?_ (fun hHeld => ?_)
        · (try dsimp only); exact hS
        refine wpAnyH_take (i := 0) (oi := ⟨_, _, _, _, _, _⟩) (v := ?_) rfl (by kernel_rfl) (by kernel_rfl) (by kernel_rfl) (fun _ _ _ h => h) (Or.inl ⟨by rfl, ?_⟩) hHeld ?_
        rotate_left
        · (intro w hSw; (try dsimp only at hSw); obtain ⟨_, ⟨s0, s1, s2, s3⟩, u0, u1, u2, u3⟩ := hSw; (try dsimp only at s0 s1 s2 s3 u0 u1 u2 u3); (try simp only [Nat.zero_add] at u1 u2 u3); go_simp; try (with_reducible rfl))
        try simp only [Act.put, List.setIfInBounds_toArray, List.set_cons_zero, List.set_cons_succ]
        refine wpAnyH_take (i := 1) (oi := ⟨_, _, _, _, _, _⟩) (v := ?_) rfl (by kernel_rfl) (by kernel_rfl) (by kernel_rfl) (fun _ _ _ h => h) (Or.inl ⟨by rfl, ?_⟩) hHeld ?_
        rotate_left
        · (intro w hSw; (try dsimp only at hSw); obtain ⟨_, ⟨s0, s1, s2, s3⟩, u0, u1, u2, u3⟩ := hSw; (try dsimp only at s0 s1 s2 s3 u0 u1 u2 u3); (try simp only [Nat.zero_add] at u1 u2 u3); go_simp; try (with_reducible rfl))
        try simp only [Act.put, List.setIfInBounds_toArray, List.set_cons_zero, List.set_cons_succ]
        refine wpAnyH_take (i := 2) (oi := ⟨_, _, _, _, _, _⟩) (v := ?_) rfl (by kernel_rfl) (by kernel_rfl) (by kernel_rfl) (fun _ _ _ h => h) (Or.inl ⟨by rfl, ?_⟩) hHeld ?_
        rotate_left
        · (intro w hSw; (try dsimp only at hSw); obtain ⟨_, ⟨s0, s1, s2, s3⟩, u0, u1, u2, u3⟩ := hSw; (try dsimp only at s0 s1 s2 s3 u0 u1 u2 u3); (try simp only [Nat.zero_add] at u1 u2 u3); go_simp; try (with_reducible rfl))
        try simp only [Act.put, List.setIfInBounds_toArray, List.set_cons_zero, List.set_cons_succ]
        refine wpAnyH_take (i := 3) (oi := ⟨_, _, _, _, _, _⟩) (v := ?_) rfl (by kernel_rfl) (by kernel_rfl) (by kernel_rfl) (fun _ _ _ h => h) (Or.inl ⟨by rfl, ?_⟩) hHeld ?_
        rotate_left
        · (intro w hSw; (try dsimp only at hSw); obtain ⟨_, ⟨s0, s1, s2, s3⟩, u0, u1, u2, u3⟩ := hSw; (try dsimp only at s0 s1 s2 s3 u0 u1 u2 u3); (try simp only [Nat.zero_add] at u1 u2 u3); go_simp; try (with_reducible rfl))
        try simp only [Act.put, List.setIfInBounds_toArray, List.set_cons_zero, List.set_cons_succ]
        refine wpAnyH_take (i := 4) (oi := ⟨_, _, _, _, _, _⟩) (v := ?_) rfl (by kernel_rfl) (by kernel_rfl) (by kernel_rfl) (fun _ _ _ h => h) (Or.inl ⟨by rfl, ?_⟩) hHeld ?_
        rotate_left
        · (intro w hSw; (try dsimp only at hSw); obtain ⟨_, ⟨s0, s1, s2, s3⟩, u0, u1, u2, u3⟩ := hSw; (try dsimp only at s0 s1 s2 s3 u0 u1 u2 u3); (try simp only [Nat.zero_add] at u1 u2 u3); go_simp; try (with_reducible rfl))
        try simp only [Act.put, List.setIfInBounds_toArray, List.set_cons_zero, List.set_cons_succ]
        refine wpAnyH_take (i := 5) (oi := ⟨_, _, _, _, _, _⟩) (v := ?_) rfl (by kernel_rfl) (by kernel_rfl) (by kernel_rfl) (fun _ _ _ h => h) (Or.inl ⟨by rfl, ?_⟩) hHeld ?_
        rotate_left
        · (intro w hSw; (try dsimp only at hSw); obtain ⟨_, ⟨s0, s1, s2, s3⟩, u0, u1, u2, u3⟩ := hSw; (try dsimp only at s0 s1 s2 s3 u0 u1 u2 u3); (try simp only [Nat.zero_add] at u1 u2 u3); go_simp; try (with_reducible rfl))
        try simp only [Act.put, List.setIfInBounds_toArray, List.set_cons_zero, List.set_cons_succ]
        refine wpAnyH_take (i := 6) (oi := ⟨_, _, _, _, _, _⟩) (v := ?_) rfl (by kernel_rfl) (by kernel_rfl) (by kernel_rfl) (fun _ _ _ h => h) (Or.inl ⟨by rfl, ?_⟩) hHeld ?_
        rotate_left
        · (intro w hSw; (try dsimp only at hSw); obtain ⟨_, ⟨s0, s1, s2, s3⟩, u0, u1, u2, u3⟩ := hSw; (try dsimp only at s0 s1 s2 s3 u0 u1 u2 u3); (try simp only [Nat.zero_add] at u1 u2 u3); go_simp; try (with_reducible rfl))
        try simp only [Act.put, List.setIfInBounds_toArray, List.set_cons_zero, List.set_cons_succ]
        refine wpAnyH_take (i := 7) (oi := ⟨_, _, _, _, _, _⟩) (v := ?_) rfl (by kernel_rfl) (by kernel_rfl) (by kernel_rfl) (fun _ _ _ h => h) (Or.inl ⟨by rfl, ?_⟩) hHeld ?_
        rotate_left
        · (intro w hSw; (try dsimp only at hSw); obtain ⟨_, ⟨s0, s1, s2, s3⟩, u0, u1, u2, u3⟩ := hSw; (try dsimp only at s0 s1 s2 s3 u0 u1 u2 u3); (try simp only [Nat.zero_add] at u1 u2 u3); go_simp; try (with_reducible rfl))
        try simp only [Act.put, List.setIfInBounds_toArray, List.set_cons_zero, List.set_cons_succ]
        refine wpAnyH_take (i := 8) (oi := ⟨_, _, _, _, _, _⟩) (v := ?_) rfl (by kernel_rfl) (by kernel_rfl) (by kernel_rfl) (fun _ _ _ h => h) (Or.inl ⟨by rfl, ?_⟩) hHeld ?_
        rotate_left
        · (intro w hSw; (try dsimp only at hSw); obtain ⟨_, ⟨s0, s1, s2, s3⟩, u0, u1, u2, u3⟩ := hSw; (try dsimp only at s0 s1 s2 s3 u0 u1 u2 u3); (try simp only [Nat.zero_add] at u1 u2 u3); go_simp; try (with_reducible rfl))
        try simp only [Act.put, List.setIfInBounds_toArray, List.set_cons_zero, List.set_cons_succ]
        refine wpAnyH_take (i := 9) (oi := ⟨_, _, _, _, _, _⟩) (v := ?_) rfl (by kernel_rfl) (by kernel_rfl) (by kernel_rfl) (fun _ _ _ h => h) (Or.inl ⟨by rfl, ?_⟩) hHeld ?_
        rotate_left
        · (intro w hSw; (try dsimp only at hSw); obtain ⟨_, ⟨s0, s1, s2, s3⟩, u0, u1, u2, u3⟩ := hSw; (try dsimp only at s0 s1 s2 s3 u0 u1 u2 u3); (try simp only [Nat.zero_add] at u1 u2 u3); go_simp; try (with_reducible rfl))
        try simp only [Act.put, List.setIfInBounds_toArray, List.set_cons_zero, List.set_cons_succ]
        refine wpAnyH_take (i := 10) (oi := ⟨_, _, _, _, _, _⟩) (v := ?_) rfl (by kernel_rfl) (by kernel_rfl) (by kernel_rfl) (fun _ _ _ h => h) (Or.inl ⟨by rfl, ?_⟩) hHeld ?_
        rotate_left
        · (intro w hSw; (try dsimp only at hSw); obtain ⟨_, ⟨s0, s1, s2, s3⟩, u0, u1, u2, u3⟩ := hSw; (try dsimp only at s0 s1 s2 s3 u0 u1 u2 u3); (try simp only [Nat.zero_add] at u1 u2 u3); go_simp; try (with_reducible rfl))
        try simp only [Act.put, List.setIfInBounds_toArray, List.set_cons_zero, List.set_cons_succ]
        refine wpAnyH_ready (rs := [11]) (by kernel_rfl) (by simp) ?_
        refine AllReadyH.cons (o := ⟨_, _, _, _, _, _⟩) rfl (fun K hK => ?_) AllReadyH.nil
        go_simp
        first | go_at_call 46 | go_at_fn 46
        refine (byKey_calls (x0, x1, x2, x3) (q0, q1, q2, q3) _).mono ?_
        rintro e w9 ⟨rfl, hb9⟩
        try go_wp2_with fail
        refine hK.out _ _ ?_ ?_
        · (try dsimp only); exact keep8 hHeld hb9
        clear hHeld hK K
        intro hHeld
        try simp only [Act.put, List.setIfInBounds_toArray, List.set_cons_zero, List.set_cons_succ]
        refine wpAnyH_take (i := 12) (oi := ⟨_, _, _, _, _, _⟩) (v := ?_) rfl (by kernel_rfl) (by kernel_rfl) (by kernel_rfl) (fun _ _ _ h => h) (Or.inl ⟨by rfl, ?_⟩) hHeld ?_
        rotate_left
        · (intro w hSw; (try dsimp only at hSw); obtain ⟨_, ⟨s0, s1, s2, s3⟩, u0, u1, u2, u3⟩ := hSw; (try dsimp only at s0 s1 s2 s3 u0 u1 u2 u3); (try simp only [Nat.zero_add] at u1 u2 u3); go_simp; try (with_reducible rfl))
        try simp only [Act.put, List.setIfInBounds_toArray, List.set_cons_zero, List.set_cons_succ]
        refine wpAnyH_take (i := 13) (oi := ⟨_, _, _, _, _, _⟩) (v := ?_) rfl (by kernel_rfl) (by kernel_rfl) (by kernel_rfl) (fun _ _ _ h => h) (Or.inl ⟨by rfl, ?_⟩) hHeld ?_
        rotate_left
        · (intro w hSw; (try dsimp only at hSw); obtain ⟨_, ⟨s0, s1, s2, s3⟩, u0, u1, u2, u3⟩ := hSw; (try dsimp only at s0 s1 s2 s3 u0 u1 u2 u3); (try simp only [Nat.zero_add] at u1 u2 u3); go_simp; try (with_reducible rfl))
        try simp only [Act.put, List.setIfInBounds_toArray, List.set_cons_zero, List.set_cons_succ]
        refine wpAnyH_take (i := 14) (oi := ⟨_, _, _, _, _, _⟩) (v := ?_) rfl (by kernel_rfl) (by kernel_rfl) (by kernel_rfl) (fun _ _ _ h => h) (Or.inl ⟨by rfl, ?_⟩) hHeld ?_
        rotate_left
        · (intro w hSw; (try dsimp only at hSw); obtain ⟨_, ⟨s0, s1, s2, s3⟩, u0, u1, u2, u3⟩ := hSw; (try dsimp only at s0 s1 s2 s3 u0 u1 u2 u3); (try simp only [Nat.zero_add] at u1 u2 u3); go_simp; try (with_reducible rfl))
        try simp only [Act.put, List.setIfInBounds_toArray, List.set_cons_zero, List.set_cons_succ]
        refine wpAnyH_take (i := 15) (oi := ⟨_, _, _, _, _, _⟩) (v := ?_) rfl (by kernel_rfl) (by kernel_rfl) (by kernel_rfl) (fun _ _ _ h => h) (Or.inl ⟨by rfl, ?_⟩) hHeld ?_
        rotate_left
        · (intro w hSw; (try dsimp only at hSw); obtain ⟨_, ⟨s0, s1, s2, s3⟩, u0, u1, u2, u3⟩ := hSw; (try dsimp only at s0 s1 s2 s3 u0 u1 u2 u3); (try simp only [Nat.zero_add] at u1 u2 u3); go_simp; try (with_reducible rfl))
        try simp only [Act.put, List.setIfInBounds_toArray, List.set_cons_zero, List.set_cons_succ]
        refine wpAnyH_done (by kernel_rfl) ?_ _
        have bel := hHeld.1
        clear hS hHeld
        go_wp2
        go_ret2
        exact ⟨⟨hi, by rw [HH.out]; rfl, HC.out⟩, hb.trans (bel.mono hb.size)⟩
      · have hge : ¬ ((hi : Int) < (bs.length : Int)) := by omega
        have HH : Hid (hitB bs (q0, q1, q2, q3) hi = false) := hide (by unfold hitB; rw [decide_eq_false hnl, Bool.false_and])
        clear H1
        go_wp2_with fail
        go_quiet (fail)
        go_wp2
        go_ret2
        exact ⟨⟨hi, by rw [HH.out]; rfl, HC.out⟩, below_drewN hb _⟩
end Go.Proofs.YtcfechnkgefhcaaDoor
