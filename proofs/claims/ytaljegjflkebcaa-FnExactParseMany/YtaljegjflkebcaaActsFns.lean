/-
  The laws' functions on lists of actions: eq, held, mark.
-/
import Derived.Test.YtaljegjflkebcaaRows
import Derived.Test.YtaljegjflkebcaaParFns
import Derived.Test.YtaljegjflkebcaaActsMem
import Derived.Deep.RegionHeld
namespace Go.Proofs.Ytaljegjflkebcaa
open Go.ChangeShapes Go.WideShapes Go.ChangeAt Go.RowKit
set_option linter.unusedVariables false
set_option linter.unusedSimpArgs false

/-- A list of n actions F 0, F 1 .., as it is read. -/
def ActsR (w : World) (v : Value) (n : Nat) (F : Nat → Axn) : Prop :=
  ∃ a cap, v = .slice a n cap ∧ (n = 0 ∨ ∃ g off, a = some ⟨g, off, none⟩ ∧ ∃ U : Nat → Value, ∀ i, i < n → w.cell? ⟨g, off + i * 5, none⟩ = some (.int .i64 (F i).kd) ∧ w.cell? ⟨g, off + i * 5 + 1, none⟩ = some (.int .i64 (F i).ch) ∧ w.cell? ⟨g, off + i * 5 + 2, none⟩ = some (.int .i64 (F i).st) ∧ w.cell? ⟨g, off + i * 5 + 3, none⟩ = some (.bool (F i).pv) ∧ w.cell? ⟨g, off + i * 5 + 4, none⟩ = some (U i) ∧ ReadAt .i64 w (U i) (F i).ns)
theorem ActsR.below {w w' : World} {v : Value} {n : Nat} {F : Nat → Axn} (h : ActsR w v n F) (hb : Below w.heap.size w w') : ActsR w' v n F := by
  obtain ⟨a, cap, e, h⟩ := h
  refine ⟨a, cap, e, ?_⟩
  rcases h with h | ⟨g, off, ea, U, h⟩
  · exact .inl h
  · exact .inr ⟨g, off, ea, U, fun i hi => by
      obtain ⟨h0, h1, h2, h3, h4, h5⟩ := h i hi
      exact ⟨cellb hb h0, cellb hb h1, cellb hb h2, cellb hb h3, cellb hb h4, h5.below hb⟩⟩
/-- What the marks before the i-th action come to. -/
def kF (k : Int) (F : Nat → Axn) : Nat → Int
  | 0 => k
  | i + 1 => kF k F i + 4 + (F i).ns.length
theorem kF_ge (k : Int) (F : Nat → Axn) : ∀ i, k ≤ kF k F i
  | 0 => Int.le_refl _
  | i + 1 => by have := kF_ge k F i; simp only [kF]; omega
theorem kF_le (k : Int) (F : Nat → Axn) : ∀ i, (∀ j, j < i → (F j).ns.length ≤ 6) → kF k F i ≤ k + 10 * i
  | 0, _ => by simp [kF]
  | i + 1, h => by have := kF_le k F i (fun j hj => h j (by omega)); have := h i (by omega); simp only [kF]; omega
def mark1 (k : Int) (a : Axn) : Axn := ⟨k, k + 1, k + 1 + 1, decide ((k + 1 + 1 + 1) % 3 = 0), marks (k + 1 + 1 + 1 + 1) a.ns.length⟩

set_option maxHeartbeats 1000000 in
theorem eqActS_calls (n : Nat) (F : Nat → Axn) (u v : Value) (w : World) (hn : n ≤ 1000000) (hF : ∀ i, i < n → (F i).ns.length ≤ 6) (h1 : ActsR w u n F) (h2 : ActsR w v n F) :
    Calls Try.prog 48 #[u, v] w fun e w' => e = .returned (.bool true) ∧ Below w.heap.size w w' := by
  have h1' := h1
  obtain ⟨a1, c1, rfl, _⟩ := h1'
  have h2' := h2
  obtain ⟨a2, c2, rfl, _⟩ := h2'
  have hne : ((n : Int) != (n : Int)) = false := by simp
  have HF := hide hF
  clear hF
  go_enter Try.func48, Try.ntmps48
  go_wp2
  go_loopw [5] (fun i wr => ∃ k : Nat, k ≤ n ∧ i = .int .i64 k ∧ Below w.heap.size w wr) (fun i _ => n - (intOf i).toNat)
  case atStart => exact ⟨0, Nat.zero_le _, rfl, Below.refl _ _⟩
  case round =>
    obtain ⟨k, hkk, rfl, hw⟩ := hrel
    by_cases hlt : k < n
    · have hltI : (k : Int) < (n : Int) := by omega
      obtain ⟨_, _, e1, r1⟩ := h1.below hw
      obtain ⟨_, _, e2, r2⟩ := h2.below hw
      rcases r1 with r1 | ⟨g1, o1, ea1, U1, r1⟩
      · omega
      rcases r2 with r2 | ⟨g2, o2, ea2, U2, r2⟩
      · omega
      obtain ⟨p0, p1, p2, p3, p4, p5⟩ := r1 k hlt
      obtain ⟨q0, q1, q2, q3, q4, q5⟩ := r2 k hlt
      injection e1 with e1 e1' e1''
      injection e2 with e2 e2' e2''
      subst e1 e2 ea1 ea2
      clear e1' e2'
      subst e1'' e2''
      have hl := HF.out k hlt
      clear r1 r2 h1 h2 HF
      generalize F k = A at *
      obtain ⟨kd, ch, st, pv, ns⟩ := A
      dsimp only at *
      have p5' := p5
      obtain ⟨x1, y1, f1, _⟩ := p5'
      have q5' := q5
      obtain ⟨x2, y2, f2, _⟩ := q5'
      rw [f1] at p4 p5
      rw [f2] at q4 q5
      clear f1 f2
      go_wp2_with fail
      refine wp_region_held_drew (S := (fun w' => Below wr.heap.size wr w' ∧ w'.cell? ⟨g1, o1 + k * 5, none⟩ = some (.int .i64 kd) ∧ w'.cell? ⟨g1, o1 + k * 5 + 1, none⟩ = some (.int .i64 ch) ∧ w'.cell? ⟨g1, o1 + k * 5 + 2, none⟩ = some (.int .i64 st) ∧ w'.cell? ⟨g1, o1 + k * 5 + 3, none⟩ = some (.bool pv) ∧ w'.cell? ⟨g1, o1 + k * 5 + 4, none⟩ = some (.slice x1 ns.length y1) ∧ w'.cell? ⟨g2, o2 + k * 5, none⟩ = some (.int .i64 kd) ∧ w'.cell? ⟨g2, o2 + k * 5 + 1, none⟩ = some (.int .i64 ch) ∧ w'.cell? ⟨g2, o2 + k * 5 + 2, none⟩ = some (.int .i64 st) ∧ w'.cell? ⟨g2, o2 + k * 5 + 3, none⟩ = some (.bool pv) ∧ w'.cell? ⟨g2, o2 + k * 5 + 4, none⟩ = some (.slice x2 ns.length y2))) (by kernel_rfl) ?_ (fun hHeld => ?_)
      · (try dsimp only); exact ⟨Below.drew (Below.refl _ _), p0, p1, p2, p3, p4, q0, q1, q2, q3, q4⟩
      refine wpAnyH_take (i := 0) (oi := ⟨_, _, _, _, _, _⟩) (v := ?_) rfl (by kernel_rfl) (by kernel_rfl) (by kernel_rfl) (fun _ _ _ h => h) (Or.inl ⟨by rfl, ?_⟩) hHeld ?_
      rotate_left
      · (intro w hSw; (try dsimp only at hSw); go_simp; try (with_reducible rfl))
      try simp only [Act.put, List.setIfInBounds_toArray, List.set_cons_zero, List.set_cons_succ]
      refine wpAnyH_take (i := 1) (oi := ⟨_, _, _, _, _, _⟩) (v := ?_) rfl (by kernel_rfl) (by kernel_rfl) (by kernel_rfl) (fun _ _ _ h => h) (Or.inl ⟨by rfl, ?_⟩) hHeld ?_
      rotate_left
      · (intro w hSw; (try dsimp only at hSw); go_simp; try (with_reducible rfl))
      try simp only [Act.put, List.setIfInBounds_toArray, List.set_cons_zero, List.set_cons_succ]
      refine wpAnyH_take (i := 2) (oi := ⟨_, _, _, _, _, _⟩) (v := ?_) rfl (by kernel_rfl) (by kernel_rfl) (by kernel_rfl) (fun _ _ _ h => h) (Or.inl ⟨by rfl, ?_⟩) hHeld ?_
      rotate_left
      · (intro w hSw; (try dsimp only at hSw); go_simp; try (with_reducible rfl))
      try simp only [Act.put, List.setIfInBounds_toArray, List.set_cons_zero, List.set_cons_succ]
      refine wpAnyH_take (i := 3) (oi := ⟨_, _, _, _, _, _⟩) (v := ?_) rfl (by kernel_rfl) (by kernel_rfl) (by kernel_rfl) (fun _ _ _ h => h) (Or.inl ⟨by rfl, ?_⟩) hHeld ?_
      rotate_left
      · (intro w hSw; (try dsimp only at hSw); go_simp; try (with_reducible rfl))
      try simp only [Act.put, List.setIfInBounds_toArray, List.set_cons_zero, List.set_cons_succ]
      refine wpAnyH_take (i := 4) (oi := ⟨_, _, _, _, _, _⟩) (v := ?_) rfl (by kernel_rfl) (by kernel_rfl) (by kernel_rfl) (fun _ _ _ h => h) (Or.inl ⟨by rfl, ?_⟩) hHeld ?_
      rotate_left
      · (intro w hSw; (try dsimp only at hSw); go_simp; try (with_reducible rfl))
      try simp only [Act.put, List.setIfInBounds_toArray, List.set_cons_zero, List.set_cons_succ]
      refine wpAnyH_take (i := 5) (oi := ⟨_, _, _, _, _, _⟩) (v := ?_) rfl (by kernel_rfl) (by kernel_rfl) (by kernel_rfl) (fun _ _ _ h => h) (Or.inl ⟨by rfl, ?_⟩) hHeld ?_
      rotate_left
      · (intro w hSw; (try dsimp only at hSw); go_simp; try (with_reducible rfl))
      try simp only [Act.put, List.setIfInBounds_toArray, List.set_cons_zero, List.set_cons_succ]
      refine wpAnyH_take (i := 6) (oi := ⟨_, _, _, _, _, _⟩) (v := ?_) rfl (by kernel_rfl) (by kernel_rfl) (by kernel_rfl) (fun _ _ _ h => h) (Or.inl ⟨by rfl, ?_⟩) hHeld ?_
      rotate_left
      · (intro w hSw; (try dsimp only at hSw); go_simp; try (with_reducible rfl))
      try simp only [Act.put, List.setIfInBounds_toArray, List.set_cons_zero, List.set_cons_succ]
      refine wpAnyH_take (i := 7) (oi := ⟨_, _, _, _, _, _⟩) (v := ?_) rfl (by kernel_rfl) (by kernel_rfl) (by kernel_rfl) (fun _ _ _ h => h) (Or.inl ⟨by rfl, ?_⟩) hHeld ?_
      rotate_left
      · (intro w hSw; (try dsimp only at hSw); go_simp; try (with_reducible rfl))
      try simp only [Act.put, List.setIfInBounds_toArray, List.set_cons_zero, List.set_cons_succ]
      refine wpAnyH_ready (rs := [8]) (by kernel_rfl) (by simp) ?_
      refine AllReadyH.cons (o := ⟨_, _, _, _, _, _⟩) rfl (fun K hK => ?_) AllReadyH.nil
      go_simp
      go_at_call 31
      refine (eqAction_calls kd ch st pv ns _ _ _ (by omega) (p5.below hHeld.1) (q5.below hHeld.1)).mono ?_
      rintro e w4 ⟨rfl, hb4⟩
      have hw4 := hHeld.1.trans (hb4.mono hHeld.1.size)
      try go_wp2_with fail
      refine hK.out _ _ ?_ ?_
      · (try dsimp only); exact ⟨hw4, cellb hw4 p0, cellb hw4 p1, cellb hw4 p2, cellb hw4 p3, cellb hw4 p4, cellb hw4 q0, cellb hw4 q1, cellb hw4 q2, cellb hw4 q3, cellb hw4 q4⟩
      clear hHeld hK K
      intro hHeld
      try simp only [Act.put, List.setIfInBounds_toArray, List.set_cons_zero, List.set_cons_succ]
      refine wpAnyH_take (i := 9) (oi := ⟨_, _, _, _, _, _⟩) (v := ?_) rfl (by kernel_rfl) (by kernel_rfl) (by kernel_rfl) (fun _ _ _ h => h) (Or.inl ⟨by rfl, ?_⟩) hHeld ?_
      rotate_left
      · (intro w hSw; (try dsimp only at hSw); go_simp; try (with_reducible rfl))
      try simp only [Act.put, List.setIfInBounds_toArray, List.set_cons_zero, List.set_cons_succ]
      refine wpAnyH_done (by kernel_rfl) ?_ _
      have hw2 := hw.trans (hHeld.1.mono hw.size)
      clear hHeld
      go_wp2
      go_roundw
      case rel => exact ⟨k + 1, by omega, by go_num, hw2⟩
      case measure => simp [intOf]; omega
    · have hk' : k = n := by omega
      subst hk'
      go_wp2
      go_ret
      exact ⟨rfl, hw⟩

set_option maxHeartbeats 1000000 in
theorem heldActS_calls (n : Nat) (F : Nat → Axn) (k0 : Int) (v : Value) (w : World) (hn : n ≤ 1000000) (hF : ∀ i, i < n → (F i).ns.length ≤ 6) (hk : 0 ≤ k0) (hk0 : k0 ≤ 1000) (h1 : ActsR w v n F) (hm : ∀ i, i < n → F i = mark1 (kF k0 F i) (F i)) :
    Calls Try.prog 50 #[v, .int .i64 k0] w fun e w' => e = .returned (.int .i64 (kF k0 F n)) ∧ w' = w := by
  have h1' := h1
  obtain ⟨a1, c1, rfl, _⟩ := h1'
  have HM := hide hm
  have HF := hide hF
  clear hm hF
  go_enter Try.func50, Try.ntmps50
  go_wp2
  go_loop [1, 5] (fun t i => ∃ k : Nat, k ≤ n ∧ i = .int .i64 k ∧ t = .int .i64 (kF k0 F k)) (fun _ i => n - (intOf i).toNat)
  case atStart => exact ⟨0, Nat.zero_le _, rfl, rfl⟩
  case round =>
    obtain ⟨k, hkk, rfl, rfl⟩ := hrel
    by_cases hlt : k < n
    · have hltI : (k : Int) < (n : Int) := by omega
      obtain ⟨_, _, e1, r1⟩ := h1
      rcases r1 with r1 | ⟨g1, o1, ea1, U1, r1⟩
      · omega
      obtain ⟨p0, p1, p2, p3, p4, p5⟩ := r1 k hlt
      injection e1 with e1 e1' e1''
      subst e1 ea1
      clear e1'
      subst e1''
      have hl := HF.out k hlt
      have hm := HM.out k hlt
      have hK1 := kF_ge k0 F k
      have hK2 := kF_le k0 F k (fun j hj => HF.out j (by omega))
      have HS : Hid (kF k0 F (k + 1) = kF k0 F k + 4 + (F k).ns.length) := hide rfl
      clear r1 HF HM
      have m0 := congrArg Axn.kd hm
      have m1 := congrArg Axn.ch hm
      have m2 := congrArg Axn.st hm
      have m3 := congrArg Axn.pv hm
      have m4 := congrArg Axn.ns hm
      dsimp only [mark1] at m0 m1 m2 m3 m4
      generalize kF k0 F k = K at *
      rw [m0] at p0
      rw [m1] at p1
      rw [m2] at p2
      rw [m3] at p3
      clear hm m0 m1 m2 m3
      generalize F k = A at *
      obtain ⟨kd, ch, st, pv, ns⟩ := A
      dsimp only at *
      have p5' := p5
      obtain ⟨x1, y1, f1, _⟩ := p5'
      rw [f1] at p4 p5
      clear f1
      have M4 : Hid (∀ i, i < ns.length → ns.getD i 0 = (K + 1 + 1 + 1 + 1 + i : Int)) := hide (fun i hi => by rw [m4, marks_get _ _ _ hi])
      clear m4
      have hne0 : (K != K) = false := by simp
      have hne1 : ((K + 1) != (K + 1)) = false := by simp
      have hne2 : ((K + 1 + 1) != (K + 1 + 1)) = false := by simp
      have hrem : (K + 1 + 1 + 1).tmod 3 = (K + 1 + 1 + 1) % 3 := Int.tmod_eq_emod_of_nonneg (by omega)
      have hdec : ((K + 1 + 1 + 1) % 3 == 0) = decide ((K + 1 + 1 + 1) % 3 = 0) := by rw [Bool.eq_iff_iff]; simp
      generalize hB : decide ((K + 1 + 1 + 1) % 3 = 0) = b at *
      have hne3 : (b != b) = false := by simp
      have hge : ¬ (K + 1 + 1 + 1 + 1 + (ns.length : Int) < 0) := by omega
      go_wp2_with fail
      refine (heldInts_calls ns (K + 1 + 1 + 1 + 1) _ _ (by omega) (by omega) (by omega) p5 M4.out).mono ?_
      rintro e w4 ⟨rfl, hw4⟩
      rw [hw4]
      clear hw4 w4
      go_wp2
      go_round
      case rel => exact ⟨k + 1, by omega, by go_num, by rw [HS.out]; congr 1; omega⟩
      case measure => simp [intOf]; omega
    · have hk' : k = n := by omega
      subst hk'
      go_wp2
      go_ret
      exact ⟨rfl, rfl⟩

/-- The block of a list, or none of them. -/
def blkL (lo : Nat) (v : Value) : Nat := v.ownBlock.getD lo
def blkH (lo : Nat) (v : Value) : Nat := match v.ownBlock with | some k => k + 1 | none => lo
theorem own_blk {w : World} {lo n : Nat} {e : TypeId} {v : Value} {ns : List Int} (h : w.ownsRow lo e 1 v n (intsV ns)) (hlo : lo ≤ w.heap.size) : IntsAt .i64 (blkL lo v) (blkH lo v) w v ns ∧ lo ≤ blkL lo v ∧ blkH lo v ≤ w.heap.size := by
  have hi := own_ints h (Nat.le_refl _)
  rcases h.2 with ⟨rfl, h0⟩ | ⟨g, cap, cur, rfl, hb, _⟩
  · obtain rfl : ns = [] := by have := own_len h; exact List.length_eq_zero_iff.1 (by omega)
    exact ⟨IntsAt.nil _ _ _ _ _ _, Nat.le_refl _, hlo⟩
  · have hlt := (h.lt g rfl).2
    refine ⟨?_, hb, hlt⟩
    obtain ⟨a, c, e1, h2⟩ := hi
    refine ⟨a, c, e1, ?_⟩
    rcases h2 with h2 | ⟨b, off, ea, h3, h4, h5⟩
    · exact .inl h2
    · injection e1 with e1 e2 e3
      rw [ea] at e1
      injection e1 with e1
      injection e1 with e1 e4
      subst e1
      exact .inr ⟨g, off, ea, Nat.le_refl _, Nat.lt_succ_self _, h5⟩
theorem apart_blk {lo : Nat} {u v : Value} (h : Apart u v) (hu : lo ≤ blkL lo u) (hv : lo ≤ blkL lo v) : blkH lo u ≤ blkL lo v ∨ blkH lo v ≤ blkL lo u := by
  unfold blkH blkL at *
  cases e1 : u.ownBlock with
  | none => left; simp [e1] at *; exact hv
  | some k =>
    cases e2 : v.ownBlock with
    | none => right; simp [e1, e2] at *; exact hu
    | some q =>
      have := h k e1
      rw [e2] at this
      simp at this
      simp [e1, e2]
      omega
structure MarkIn (lo hi : Nat) (w : World) (g off n : Nat) (U : Nat → Value) (F : Nat → Axn) : Prop where
  sz : hi ≤ w.heap.size
  glo : lo ≤ g
  ghi : g < hi
  cell : ∀ i, i < n → w.cell? ⟨g, off + i * 5, none⟩ = some (.int .i64 (F i).kd) ∧ w.cell? ⟨g, off + i * 5 + 1, none⟩ = some (.int .i64 (F i).ch) ∧ w.cell? ⟨g, off + i * 5 + 2, none⟩ = some (.int .i64 (F i).st) ∧ w.cell? ⟨g, off + i * 5 + 3, none⟩ = some (.bool (F i).pv) ∧ w.cell? ⟨g, off + i * 5 + 4, none⟩ = some (U i)
  frz : ∀ o, w.frozen? ⟨g, o, none⟩ = false
  lst : ∀ i, i < n → IntsAt .i64 (blkL lo (U i)) (blkH lo (U i)) w (U i) (F i).ns
  rng : ∀ i, i < n → lo ≤ blkL lo (U i) ∧ blkH lo (U i) ≤ hi
  gs : ∀ i, i < n → g < blkL lo (U i) ∨ blkH lo (U i) ≤ g
  sep : ∀ i j, i < n → j < n → i ≠ j → blkH lo (U i) ≤ blkL lo (U j) ∨ blkH lo (U j) ≤ blkL lo (U i)
theorem MarkIn.congr {lo hi : Nat} {w : World} {g off n : Nat} {U : Nat → Value} {F G : Nat → Axn} (h : MarkIn lo hi w g off n U F) (e : ∀ i, i < n → F i = G i) : MarkIn lo hi w g off n U G :=
  ⟨h.sz, h.glo, h.ghi, fun i hi => e i hi ▸ h.cell i hi, h.frz, fun i hi => e i hi ▸ h.lst i hi, h.rng, h.gs, h.sep⟩
/-- Outside the row and its lists nothing turns. -/
structure MF (lo g n : Nat) (U : Nat → Value) (w w' : World) : Prop where
  os : w'.os = w.os
  tape : w'.tape = w.tape
  output : w'.output = w.output
  size : w.heap.size ≤ w'.heap.size
  block : ∀ b, b < w.heap.size → b ≠ g → (∀ i, i < n → b < blkL lo (U i) ∨ blkH lo (U i) ≤ b) → w'.heap[b]? = w.heap[b]?
theorem MF.refl (lo g n : Nat) (U : Nat → Value) (w : World) : MF lo g n U w w := ⟨rfl, rfl, rfl, Nat.le_refl _, fun _ _ _ _ => rfl⟩
theorem MF.put {lo g n o : Nat} {U : Nat → Value} {w w' : World} (h : MF lo g n U w w') (z : Value) : MF lo g n U w (w'.setCell ⟨g, o, none⟩ z) :=
  ⟨h.os, h.tape, h.output, by have := h.size; simpa [World.setCell] using this, fun b hb hg hi => (Below.heap_setCell _ _ _ _ (fun e => hg e)).trans (h.block b hb hg hi)⟩
theorem MF.within {lo g n m : Nat} {U : Nat → Value} {w w' w2 : World} (h : MF lo g n U w w') (hm : m < n) (hw : Within (blkL lo (U m)) (blkH lo (U m)) w' w2) : MF lo g n U w w2 :=
  ⟨hw.os.trans h.os, hw.tape.trans h.tape, hw.output.trans h.output, Nat.le_trans h.size hw.size, fun b hb hg hi => (hw.block b (Nat.lt_of_lt_of_le hb h.size) (hi m hm)).trans (h.block b hb hg hi)⟩
theorem MF.toWithin {lo hi g off n : Nat} {U : Nat → Value} {F : Nat → Axn} {w w' : World} (h : MF lo g n U w w') (k : MarkIn lo hi w g off n U F) : Within lo hi w w' :=
  ⟨h.os, h.tape, h.output, h.size, fun b hb hr => h.block b hb (by have := k.glo; have := k.ghi; omega) (fun i hi => by have := k.rng i hi; omega)⟩
theorem cell_put {w : World} {b o p : Nat} {z : Value} (h : p ≠ o) : (w.setCell ⟨b, o, none⟩ z).cell? ⟨b, p, none⟩ = w.cell? ⟨b, p, none⟩ := World.cell?_setCell_other _ _ _ _ (addr_ne (by omega))
theorem MarkIn.four {lo hi : Nat} {w : World} {g off n m : Nat} {U : Nat → Value} {F : Nat → Axn} (h : MarkIn lo hi w g off n U F) (hm : m < n) (a b c : Int) (d : Bool) : MarkIn lo hi ((((w.setCell ⟨g, off + m * 5, none⟩ (.int .i64 a)).setCell ⟨g, off + m * 5 + 1, none⟩ (.int .i64 b)).setCell ⟨g, off + m * 5 + 2, none⟩ (.int .i64 c)).setCell ⟨g, off + m * 5 + 3, none⟩ (.bool d)) g off n U (fun i => if i = m then ⟨a, b, c, d, (F m).ns⟩ else F i) := by
  obtain ⟨k0, k1, k2, k3, k4⟩ := h.cell m hm
  refine ⟨by have := h.sz; simpa [World.setCell] using this, h.glo, h.ghi, fun i hi => ?_, fun o => by simpa using h.frz o, fun i hi => ?_, h.rng, h.gs, h.sep⟩
  · by_cases e : i = m
    · subst e
      rw [if_pos rfl]
      refine ⟨?_, ?_, ?_, ?_, ?_⟩
      · rw [cell_put (by omega), cell_put (by omega), cell_put (by omega)]; exact World.cell?_setCell_same _ _ _ k0
      · rw [cell_put (by omega), cell_put (by omega)]; exact World.cell?_setCell_same (u := .int .i64 (F i).ch) _ _ _ (by rw [cell_put (by omega)]; exact k1)
      · rw [cell_put (by omega)]; exact World.cell?_setCell_same (u := .int .i64 (F i).st) _ _ _ (by rw [cell_put (by omega), cell_put (by omega)]; exact k2)
      · exact World.cell?_setCell_same (u := .bool (F i).pv) _ _ _ (by rw [cell_put (by omega), cell_put (by omega), cell_put (by omega)]; exact k3)
      · rw [cell_put (by omega), cell_put (by omega), cell_put (by omega), cell_put (by omega)]; exact k4
    · rw [if_neg e]
      obtain ⟨q0, q1, q2, q3, q4⟩ := h.cell i hi
      refine ⟨?_, ?_, ?_, ?_, ?_⟩
      all_goals (rw [cell_put (by omega), cell_put (by omega), cell_put (by omega), cell_put (by omega)]; assumption)
  · have hl : IntsAt .i64 (blkL lo (U i)) (blkH lo (U i)) w (U i) ((fun i => if i = m then (⟨a, b, c, d, (F m).ns⟩ : Axn) else F i) i).ns := by
      dsimp only
      by_cases e : i = m
      · subst e; rw [if_pos rfl]; exact h.lst i hi
      · rw [if_neg e]; exact h.lst i hi
    refine hl.of_blocks fun j h1 h2 => ?_
    have hg := h.gs i hi
    have hj : j ≠ g := by omega
    rw [Below.heap_setCell _ _ _ _ hj, Below.heap_setCell _ _ _ _ hj, Below.heap_setCell _ _ _ _ hj, Below.heap_setCell _ _ _ _ hj]
theorem MarkIn.list {lo hi : Nat} {w w' : World} {g off n m : Nat} {U : Nat → Value} {F : Nat → Axn} {xs : List Int} (h : MarkIn lo hi w g off n U F) (hm : m < n) (hw : Within (blkL lo (U m)) (blkH lo (U m)) w w') (hx : IntsAt .i64 (blkL lo (U m)) (blkH lo (U m)) w' (U m) xs) : MarkIn lo hi w' g off n U (fun i => if i = m then { F m with ns := xs } else F i) := by
  have hb : w'.heap[g]? = w.heap[g]? := hw.block g (Nat.lt_of_lt_of_le h.ghi h.sz) (h.gs m hm)
  have hc : ∀ o, w'.cell? ⟨g, o, none⟩ = w.cell? ⟨g, o, none⟩ := fun o => World.cell?_of_block (w := w) (a := ⟨g, o, none⟩) hb
  refine ⟨Nat.le_trans h.sz hw.size, h.glo, h.ghi, fun i hi => ?_, fun o => (World.frozen?_of_block (w := w) (a := ⟨g, o, none⟩) hb).trans (h.frz o), fun i hi => ?_, h.rng, h.gs, h.sep⟩
  · rw [hc, hc, hc, hc, hc]
    by_cases e : i = m
    · subst e; rw [if_pos rfl]; exact h.cell i hi
    · rw [if_neg e]; exact h.cell i hi
  · by_cases e : i = m
    · subst e; rw [if_pos rfl]; exact hx
    · rw [if_neg e]
      refine (h.lst i hi).of_blocks fun j h1 h2 => hw.block j ?_ ?_
      · have := (h.rng i hi).2; have := h.sz; omega
      · have := h.sep i m hi hm e; omega

set_option maxHeartbeats 2000000 in
theorem markActS_calls (n : Nat) (F : Nat → Axn) (k0 : Int) (lo hi g off cap : Nat) (U : Nat → Value) (w : World) (hn : n ≤ 1000000) (hF : ∀ i, i < n → (F i).ns.length ≤ 6) (hk : 0 ≤ k0) (hk0 : k0 ≤ 1000) (h1 : MarkIn lo hi w g off n U F) :
    Calls Try.prog 49 #[.slice (some ⟨g, off, none⟩) n cap, .int .i64 k0] w fun e w' => e = .returned (.int .i64 (kF k0 F n)) ∧ MarkIn lo hi w' g off n U (fun i => mark1 (kF k0 F i) (F i)) ∧ MF lo g n U w w' := by
  have HF := hide hF
  clear hF
  go_enter Try.func49, Try.ntmps49
  go_wp2
  go_loopw [1, 5] (fun t i wr => ∃ k : Nat, k ≤ n ∧ i = .int .i64 k ∧ t = .int .i64 (kF k0 F k) ∧ MarkIn lo hi wr g off n U (fun i => if i < k then mark1 (kF k0 F i) (F i) else F i) ∧ MF lo g n U w wr) (fun _ i _ => n - (intOf i).toNat)
  case atStart => exact ⟨0, Nat.zero_le _, rfl, rfl, h1.congr (fun i hi => by rw [if_neg (by omega)]), MF.refl _ _ _ _ _⟩
  case round =>
    obtain ⟨k, hkk, rfl, rfl, hm, hf⟩ := hrel
    by_cases hlt : k < n
    · have hltI : (k : Int) < (n : Int) := by omega
      obtain ⟨p0, p1, p2, p3, p4⟩ := hm.cell k hlt
      have fz := hm.frz
      have pl := hm.lst k hlt
      rw [if_neg (by omega)] at p0 p1 p2 p3 pl
      have hl := HF.out k hlt
      have hK1 := kF_ge k0 F k
      have hK2 := kF_le k0 F k (fun j hj => HF.out j (by omega))
      have HS : Hid (kF k0 F (k + 1) = kF k0 F k + 4 + (F k).ns.length) := hide rfl
      have HM := hide hm
      have HFK : Hid (∀ i, i < n → (if i < k then mark1 (kF k0 F i) (F i) else F i) = (if i < k then mark1 (kF k0 F i) (F i) else F i)) := hide (fun _ _ => rfl)
      clear hm h1
      obtain ⟨ax, cx, hU, _⟩ := id pl
      have HKK0 := hide (rfl : kF k0 F k = kF k0 F k)
      generalize hKK : kF k0 F k = K at *
      have q1 : (wr.setCell ⟨g, off + k * 5, none⟩ (.int .i64 K)).cell? ⟨g, off + k * 5 + 1, none⟩ = some (.int .i64 (F k).ch) := by rw [cell_put (by omega)]; exact p1
      have q2 : ((wr.setCell ⟨g, off + k * 5, none⟩ (.int .i64 K)).setCell ⟨g, off + k * 5 + 1, none⟩ (.int .i64 (K + 1))).cell? ⟨g, off + k * 5 + 2, none⟩ = some (.int .i64 (F k).st) := by rw [cell_put (by omega), cell_put (by omega)]; exact p2
      have q3 : (((wr.setCell ⟨g, off + k * 5, none⟩ (.int .i64 K)).setCell ⟨g, off + k * 5 + 1, none⟩ (.int .i64 (K + 1))).setCell ⟨g, off + k * 5 + 2, none⟩ (.int .i64 (K + 1 + 1))).cell? ⟨g, off + k * 5 + 3, none⟩ = some (.bool (F k).pv) := by rw [cell_put (by omega), cell_put (by omega), cell_put (by omega)]; exact p3
      have hrem : (K + 1 + 1 + 1).tmod 3 = (K + 1 + 1 + 1) % 3 := Int.tmod_eq_emod_of_nonneg (by omega)
      have hdec : ((K + 1 + 1 + 1) % 3 == 0) = decide ((K + 1 + 1 + 1) % 3 = 0) := by rw [Bool.eq_iff_iff]; simp
      generalize hB : decide ((K + 1 + 1 + 1) % 3 = 0) = b at *
      have q4 : ((((wr.setCell ⟨g, off + k * 5, none⟩ (.int .i64 K)).setCell ⟨g, off + k * 5 + 1, none⟩ (.int .i64 (K + 1))).setCell ⟨g, off + k * 5 + 2, none⟩ (.int .i64 (K + 1 + 1))).setCell ⟨g, off + k * 5 + 3, none⟩ (.bool b)).cell? ⟨g, off + k * 5 + 4, none⟩ = some (U k) := by rw [cell_put (by omega), cell_put (by omega), cell_put (by omega), cell_put (by omega)]; exact p4
      have H4 := hide (HM.out.four hlt K (K + 1) (K + 1 + 1) b)
      have hl4 := H4.out.lst k hlt
      rw [if_pos rfl, if_neg (by omega)] at hl4
      have HB := hide hB
      have HKK := hide hKK
      clear hB hKK p1 p2 p3 p4 pl
      rw [hU] at q4
      have hl5 := hl4
      rw [hU] at hl5
      go_wp2_with fail
      refine (markInts_calls (F k).ns (K + 1 + 1 + 1 + 1) _ _ _ _ (by omega) (by omega) (by omega) hl5).mono ?_
      rintro e w5 ⟨rfl, hx, hw⟩
      rw [← hU] at hx hw
      have HA := hide (H4.out.list hlt hw hx)
      have HG := hide (((((hf.put (o := off + k * 5) (.int .i64 K)).put (o := off + k * 5 + 1) (.int .i64 (K + 1))).put (o := off + k * 5 + 2) (.int .i64 (K + 1 + 1))).put (o := off + k * 5 + 3) (.bool b)).within hlt hw)
      clear hx hw hf hl4 hl5 H4 HM q1 q2 q3 q4 p0 fz
      go_wp2
      go_roundw
      case rel =>
        refine ⟨k + 1, by omega, by go_num, by rw [HS.out]; congr 1; have := HKK.out; omega, HA.out.congr (fun i hi => ?_), HG.out⟩
        by_cases e : i = k
        · subst e
          rw [if_pos rfl]
          simp only [↓reduceIte]
          rw [if_pos (by omega), HKK.out]
          unfold mark1
          rw [HB.out]
        · rw [if_neg e, if_neg e]
          by_cases e2 : i < k
          · rw [if_pos e2, if_pos (by omega)]
          · rw [if_neg e2, if_neg (by omega)]
      case measure => simp [intOf]; omega
    · have hk' : k = n := by omega
      subst hk'
      go_wp2
      go_ret
      exact ⟨rfl, hm.congr (fun i hi => by rw [if_pos hi]), hf⟩

end Go.Proofs.Ytaljegjflkebcaa
