/-
  What SameParsers answers, of the program and of the model: slices.Equal, SameParsers; l4Ints, l4Same, SameParsers.
-/
import Derived.Test.YtceoehiaeanfkaaRows
import Derived.Test.YtceoehiaeanfkaaMem
import Derived.Test.YtceoehiaeanfkaaChars
import Derived.WalkKit
import Derived.ProofKit
import Derived.OpenShut
import Derived.Below
import Derived.Deep.QuietTactic
import Derived.BigQuiet
import Derived.Deep.RegionHeld3
namespace Go.Proofs.Ytceoehiaeanfkaa
set_option maxRecDepth 20000
open Go.ChangeShapes Go.WideShapes Go.ChangeAt Go.RowKit
set_option linter.unusedVariables false
set_option linter.unusedSimpArgs false

/-- Two lists from place k on. -/
def restB (xs ys : List Int) (k : Nat) : Bool := decide (xs.drop k = ys.drop k)
theorem restB_zero (xs ys : List Int) : restB xs ys 0 = decide (xs = ys) := rfl
theorem restB_end {xs ys : List Int} {k : Nat} (hl : xs.length = ys.length) (h : ¬ k < xs.length) : restB xs ys k = true := by
  unfold restB; rw [List.drop_eq_nil_of_le (by omega), List.drop_eq_nil_of_le (by omega)]; rfl
theorem restB_step {xs ys : List Int} {k : Nat} (hl : xs.length = ys.length) (h : k < xs.length) : restB xs ys k = (decide (xs.getD k 0 = ys.getD k 0) && restB xs ys (k + 1)) := by
  unfold restB
  have h' : k < ys.length := by omega
  rw [List.drop_eq_getElem_cons h, List.drop_eq_getElem_cons h', show xs.getD k 0 = xs[k] from by simp [List.getD_eq_getElem?_getD, h], show ys.getD k 0 = ys[k] from by simp [List.getD_eq_getElem?_getD, h'], Bool.eq_iff_iff]
  simp only [decide_eq_true_eq, Bool.and_eq_true, List.cons.injEq]
def samePB (md st : Int) (pv : Bool) (xs : List Int) (md2 st2 : Int) (pv2 : Bool) (ys : List Int) : Bool := decide (md = md2) && (decide (st = st2) && (decide (pv = pv2) && decide (xs = ys)))
theorem samePB_self (md st : Int) (pv : Bool) (xs : List Int) : samePB md st pv xs md st pv xs = true := by simp [samePB]

set_option maxHeartbeats 1000000 in
theorem slicesEqual_calls (xs ys : List Int) (v1 v2 : Value) (w : World) (hn : xs.length ≤ 1000000000) (hn2 : ys.length ≤ 1000000000) (h1 : ReadAt .i64 w v1 xs) (h2 : ReadAt .i64 w v2 ys) :
    Calls Try.prog 44 #[v1, v2] w fun e w' => e = .returned (.bool (decide (xs = ys))) ∧ ∃ n, w' = w.drewN n := by
  obtain ⟨a1, c1, rfl, h1⟩ := h1
  obtain ⟨a2, c2, rfl, h2⟩ := h2
  by_cases hl : xs.length = ys.length
  · rw [← restB_zero]
    generalize hres : restB xs ys 0 = res
    have HR := hide hres
    clear hres
    have H1 := hide h1
    have H2 := hide h2
    have HL := hide hl
    rw [← hl]
    clear h1 h2 hl
    have hne : ((xs.length : Int) != (xs.length : Int)) = false := by simp
    go_enter Try.func44, Try.ntmps44
    go_wp2
    go_loopw [5, 13] (fun _ i wr => ∃ k : Nat, k ≤ xs.length ∧ i = .int .i64 k ∧ Hid (restB xs ys k = res) ∧ ∃ n, wr = w.drewN n) (fun _ i _ => xs.length - (intOf i).toNat)
    case atStart => exact ⟨0, Nat.zero_le _, rfl, HR, 0, rfl⟩
    case round =>
      obtain ⟨k, hk, rfl, hr, n, rfl⟩ := hrel
      by_cases hlt : k < xs.length
      · have hpos : xs ≠ [] := by intro h; rw [h] at hlt; simp at hlt
        have hpos2 : ys ≠ [] := by intro h; have := HL.out; rw [h] at this; simp at this; exact hpos this
        rcases H1.out with h1 | ⟨b1, o1, rfl, h1⟩
        · exact absurd h1 hpos
        rcases H2.out with h2 | ⟨b2, o2, rfl, h2⟩
        · exact absurd h2 hpos2
        have g1 := h1 k hlt
        have g2 := h2 k (by have := HL.out; omega)
        have HS := hide (restB_step HL.out hlt)
        clear h1 h2 hpos hpos2 H1 H2
        generalize xs.getD k 0 = x at *
        generalize ys.getD k 0 = y at *
        have hltI : (k : Int) < (xs.length : Int) := by omega
        go_wp2_with fail
        go_quiet (fail)
        by_cases hxy : x = y
        · subst hxy
          have e1 : restB xs ys (k + 1) = res := by rw [← hr.out, HS.out]; simp
          have E1 := hide e1
          clear e1
          have hne2 : (x != x) = false := by simp
          go_wp2
          go_roundw
          case rel => exact ⟨k + 1, by omega, by go_num, E1, _, rfl⟩
          case measure => simp [intOf]; omega
        · have e1 : res = false := by rw [← hr.out, HS.out]; simp [hxy]
          subst e1
          have hne2 : (x != y) = true := by simpa using hxy
          go_wp2
          go_ret
          exact ⟨rfl, n + nq, by simp [World.drewN, Nat.add_assoc]⟩
      · have e1 : res = true := by rw [← hr.out]; exact restB_end HL.out hlt
        subst e1
        have hge : ¬ ((k : Int) < (xs.length : Int)) := by omega
        go_wp2
        go_ret
        exact ⟨rfl, _, rfl⟩
  · have hd : decide (xs = ys) = false := by simp; intro h; exact hl (by rw [h])
    have hne : ((xs.length : Int) != (ys.length : Int)) = true := by simp; omega
    rw [hd]
    clear hd hl
    go_enter Try.func44, Try.ntmps44
    go_wp2
    go_ret
    exact ⟨rfl, 0, rfl⟩

set_option maxHeartbeats 1000000 in
theorem l4Ints_calls (xs ys : List Int) (v1 v2 : Value) (w : World) (hn : xs.length ≤ 1000000000) (hn2 : ys.length ≤ 1000000000) (h1 : ReadAt .i64 w v1 xs) (h2 : ReadAt .i64 w v2 ys) :
    Calls Try.prog 90 #[v1, v2] w fun e w' => e = .returned (.bool (decide (xs = ys))) ∧ ∃ n, w' = w.drewN n := by
  obtain ⟨a1, c1, rfl, h1⟩ := h1
  obtain ⟨a2, c2, rfl, h2⟩ := h2
  by_cases hl : xs.length = ys.length
  · rw [← restB_zero]
    generalize hres : restB xs ys 0 = res
    have HR := hide hres
    clear hres
    have H1 := hide h1
    have H2 := hide h2
    have HL := hide hl
    rw [← hl]
    clear h1 h2 hl
    have hne : ((xs.length : Int) != (xs.length : Int)) = false := by simp
    go_enter Try.func90, Try.ntmps90
    go_wp2
    go_loopw [5] (fun i wr => ∃ k : Nat, k ≤ xs.length ∧ i = .int .i64 k ∧ Hid (restB xs ys k = res) ∧ ∃ n, wr = w.drewN n) (fun i _ => xs.length - (intOf i).toNat)
    case atStart => exact ⟨0, Nat.zero_le _, rfl, HR, 0, rfl⟩
    case round =>
      obtain ⟨k, hk, rfl, hr, n, rfl⟩ := hrel
      by_cases hlt : k < xs.length
      · have hpos : xs ≠ [] := by intro h; rw [h] at hlt; simp at hlt
        have hpos2 : ys ≠ [] := by intro h; have := HL.out; rw [h] at this; simp at this; exact hpos this
        rcases H1.out with h1 | ⟨b1, o1, rfl, h1⟩
        · exact absurd h1 hpos
        rcases H2.out with h2 | ⟨b2, o2, rfl, h2⟩
        · exact absurd h2 hpos2
        have g1 := h1 k hlt
        have g2 := h2 k (by have := HL.out; omega)
        have HS := hide (restB_step HL.out hlt)
        clear h1 h2 hpos hpos2 H1 H2
        generalize xs.getD k 0 = x at *
        generalize ys.getD k 0 = y at *
        have hltI : (k : Int) < (xs.length : Int) := by omega
        go_wp2_with fail
        go_quiet (fail)
        by_cases hxy : x = y
        · subst hxy
          have e1 : restB xs ys (k + 1) = res := by rw [← hr.out, HS.out]; simp
          have E1 := hide e1
          clear e1
          have hne2 : (x != x) = false := by simp
          go_wp2
          go_roundw
          case rel => exact ⟨k + 1, by omega, by go_num, E1, _, rfl⟩
          case measure => simp [intOf]; omega
        · have e1 : res = false := by rw [← hr.out, HS.out]; simp [hxy]
          subst e1
          have hne2 : (x != y) = true := by simpa using hxy
          go_wp2
          go_ret
          exact ⟨rfl, n + nq, by simp [World.drewN, Nat.add_assoc]⟩
      · have e1 : res = true := by rw [← hr.out]; exact restB_end HL.out hlt
        subst e1
        have hge : ¬ ((k : Int) < (xs.length : Int)) := by omega
        go_wp2
        go_ret
        exact ⟨rfl, _, rfl⟩
  · have hd : decide (xs = ys) = false := by simp; intro h; exact hl (by rw [h])
    have hne : ((xs.length : Int) != (ys.length : Int)) = true := by simp; omega
    rw [hd]
    clear hd hl
    go_enter Try.func90, Try.ntmps90
    go_wp2
    go_ret
    exact ⟨rfl, 0, rfl⟩

set_option maxHeartbeats 1000000 in
theorem implSameParsers_calls (md st : Int) (pv : Bool) (xs : List Int) (md2 st2 : Int) (pv2 : Bool) (ys : List Int) (v1 v2 : Value) (w : World) (hn : xs.length ≤ 1000000000) (hn2 : ys.length ≤ 1000000000) (h1 : ReadAt .i64 w v1 xs) (h2 : ReadAt .i64 w v2 ys) :
    Calls Try.prog 85 #[.agg #[.int .i64 md, .int .i64 st, .bool pv, v1], .agg #[.int .i64 md2, .int .i64 st2, .bool pv2, v2]] w fun e w' => e = .returned (.bool (samePB md st pv xs md2 st2 pv2 ys)) ∧ Below w.heap.size w w' := by
  have h1' := h1
  obtain ⟨a1, c1, rfl, _⟩ := h1'
  have h2' := h2
  obtain ⟨a2, c2, rfl, _⟩ := h2'
  have hb : Below w.heap.size w ((w.alloc (.cells #[.int .i64 md, .int .i64 st, .bool pv, .slice a1 xs.length c1] 59)).alloc (.cells #[.int .i64 md2, .int .i64 st2, .bool pv2, .slice a2 ys.length c2] 59)) := (by repeat' (first | with_reducible exact Below.refl _ _ | with_reducible assumption | with_reducible refine Below.drew ?_ | with_reducible refine Below.alloc ?_ ?_ _ | with_reducible refine Below.setCell ?_ ?_ _ | (simp; done) | (simp; omega) | omega))
  by_cases e0 : md = md2
  · by_cases e1 : st = st2
    · by_cases e2 : pv = pv2
      · subst e0 e1 e2
        have hs : samePB md st pv xs md st pv ys = decide (xs = ys) := by simp [samePB]
        rw [hs]
        clear hs
        have q0 : (md == md) = true := by simp
        have q1 : (st == st) = true := by simp
        have q2 : (pv == pv) = true := by simp
        go_enter Try.func85, Try.ntmps85
        go_wp2_with fail
        refine (slicesEqual_calls xs ys _ _ _ hn hn2 (h1.below hb) (h2.below hb)).mono ?_
        rintro e w1 ⟨rfl, n, rfl⟩
        go_wp2
        go_ret
        exact ⟨rfl, below_drewN hb n⟩
      · subst e0 e1
        have hs : samePB md st pv xs md st pv2 ys = false := by simp [samePB, e2]
        rw [hs]
        clear hs
        have q0 : (md == md) = true := by simp
        have q1 : (st == st) = true := by simp
        have q2 : (pv == pv2) = false := by simpa using e2
        clear e2
        go_enter Try.func85, Try.ntmps85
        go_wp2
        go_ret
        exact ⟨rfl, hb⟩
    · subst e0
      have hs : samePB md st pv xs md st2 pv2 ys = false := by simp [samePB, e1]
      rw [hs]
      clear hs
      have q0 : (md == md) = true := by simp
      have q1 : (st == st2) = false := by simpa using e1
      clear e1
      go_enter Try.func85, Try.ntmps85
      go_wp2
      go_ret
      exact ⟨rfl, hb⟩
  · have hs : samePB md st pv xs md2 st2 pv2 ys = false := by simp [samePB, e0]
    rw [hs]
    clear hs
    have q0 : (md == md2) = false := by simpa using e0
    clear e0
    go_enter Try.func85, Try.ntmps85
    go_wp2
    go_ret
    exact ⟨rfl, hb⟩

/-- Two parsers' boxes, as a region keeps them. -/
structure KeepS (W : World) (b c : Nat) (md st : Int) (pv : Bool) (u : Value) (md2 st2 : Int) (pv2 : Bool) (v : Value) (xs ys : List Int) (w1 : World) : Prop where
  bel : Below W.heap.size W w1
  a0 : w1.cell? ⟨b, 0, none⟩ = some (.int .i64 md)
  a1 : w1.cell? ⟨b, 1, none⟩ = some (.int .i64 st)
  a2 : w1.cell? ⟨b, 2, none⟩ = some (.bool pv)
  a3 : w1.cell? ⟨b, 3, none⟩ = some u
  c0 : w1.cell? ⟨c, 0, none⟩ = some (.int .i64 md2)
  c1 : w1.cell? ⟨c, 1, none⟩ = some (.int .i64 st2)
  c2 : w1.cell? ⟨c, 2, none⟩ = some (.bool pv2)
  c3 : w1.cell? ⟨c, 3, none⟩ = some v
  r1 : ReadAt .i64 w1 u xs
  r2 : ReadAt .i64 w1 v ys
theorem KeepS.next {W : World} {b c : Nat} {md st : Int} {pv : Bool} {u : Value} {md2 st2 : Int} {pv2 : Bool} {v : Value} {xs ys : List Int} {w1 w2 : World} (h : KeepS W b c md st pv u md2 st2 pv2 v xs ys w1) (hb : Below w1.heap.size w1 w2) : KeepS W b c md st pv u md2 st2 pv2 v xs ys w2 :=
  ⟨h.bel.trans (hb.mono h.bel.size), cellb hb h.a0, cellb hb h.a1, cellb hb h.a2, cellb hb h.a3, cellb hb h.c0, cellb hb h.c1, cellb hb h.c2, cellb hb h.c3, h.r1.below hb, h.r2.below hb⟩

set_option maxHeartbeats 4000000 in
theorem l4Same_calls (md st : Int) (pv : Bool) (xs : List Int) (md2 st2 : Int) (pv2 : Bool) (ys : List Int) (v1 v2 : Value) (b c : Nat) (w : World) (hn : xs.length ≤ 1000000000) (hn2 : ys.length ≤ 1000000000) (h1 : ReadAt .i64 w v1 xs) (h2 : ReadAt .i64 w v2 ys)
    (k0 : w.cell? ⟨b, 0, none⟩ = some (.int .i64 md)) (k1 : w.cell? ⟨b, 1, none⟩ = some (.int .i64 st)) (k2 : w.cell? ⟨b, 2, none⟩ = some (.bool pv)) (k3 : w.cell? ⟨b, 3, none⟩ = some v1)
    (j0 : w.cell? ⟨c, 0, none⟩ = some (.int .i64 md2)) (j1 : w.cell? ⟨c, 1, none⟩ = some (.int .i64 st2)) (j2 : w.cell? ⟨c, 2, none⟩ = some (.bool pv2)) (j3 : w.cell? ⟨c, 3, none⟩ = some v2) :
    Calls Try.prog 133 #[.pointer (some ⟨b, 0, none⟩), .pointer (some ⟨c, 0, none⟩)] w fun e w' => e = .returned (.bool (samePB md st pv xs md2 st2 pv2 ys)) ∧ Below w.heap.size w w' := by
  have h1' := h1
  obtain ⟨a1, c1, rfl, _⟩ := h1'
  have h2' := h2
  obtain ⟨a2, c2, rfl, _⟩ := h2'
  by_cases e0 : md = md2
  · by_cases e1 : st = st2
    · by_cases e2 : pv = pv2
      · subst e0 e1 e2
        have hs : samePB md st pv xs md st pv ys = decide (xs = ys) := by simp [samePB]
        rw [hs]
        clear hs
        have q0 : (md == md) = true := by simp
        have q1 : (st == st) = true := by simp
        have q2 : (pv == pv) = true := by simp
        go_enter Try.func133, Try.ntmps133
        go_wp2_with fail
        refine wp_region_held_drew (S := (fun w' => KeepS w b c md st pv (.slice a1 xs.length c1) md st pv (.slice a2 ys.length c2) xs ys w')) (by kernel_rfl) ?_ (fun hHeld => ?_)
        · (try dsimp only); exact ⟨Below.drew (Below.refl _ w), k0, k1, k2, k3, j0, j1, j2, j3, h1, h2⟩
        refine wpAnyH_take (i := 0) (oi := ⟨_, _, _, _, _, _⟩) (v := ?_) rfl (by kernel_rfl) (by kernel_rfl) (by kernel_rfl) (fun _ _ _ h => h) (Or.inl ⟨by rfl, ?_⟩) hHeld ?_
        rotate_left
        · (intro w hSw; (try dsimp only at hSw); have s0 := hSw.a0; have s1 := hSw.a1; have s2 := hSw.a2; have s3 := hSw.a3; have t0 := hSw.c0; have t1 := hSw.c1; have t2 := hSw.c2; have t3 := hSw.c3; clear hSw; go_simp; try (with_reducible rfl))
        try simp only [Act.put, List.setIfInBounds_toArray, List.set_cons_zero, List.set_cons_succ]
        refine wpAnyH_take (i := 1) (oi := ⟨_, _, _, _, _, _⟩) (v := ?_) rfl (by kernel_rfl) (by kernel_rfl) (by kernel_rfl) (fun _ _ _ h => h) (Or.inl ⟨by rfl, ?_⟩) hHeld ?_
        rotate_left
        · (intro w hSw; (try dsimp only at hSw); have s0 := hSw.a0; have s1 := hSw.a1; have s2 := hSw.a2; have s3 := hSw.a3; have t0 := hSw.c0; have t1 := hSw.c1; have t2 := hSw.c2; have t3 := hSw.c3; clear hSw; go_simp; try (with_reducible rfl))
        try simp only [Act.put, List.setIfInBounds_toArray, List.set_cons_zero, List.set_cons_succ]
        refine wpAnyH_take (i := 2) (oi := ⟨_, _, _, _, _, _⟩) (v := ?_) rfl (by kernel_rfl) (by kernel_rfl) (by kernel_rfl) (fun _ _ _ h => h) (Or.inl ⟨by rfl, ?_⟩) hHeld ?_
        rotate_left
        · (intro w hSw; (try dsimp only at hSw); have s0 := hSw.a0; have s1 := hSw.a1; have s2 := hSw.a2; have s3 := hSw.a3; have t0 := hSw.c0; have t1 := hSw.c1; have t2 := hSw.c2; have t3 := hSw.c3; clear hSw; go_simp; try (with_reducible rfl))
        try simp only [Act.put, List.setIfInBounds_toArray, List.set_cons_zero, List.set_cons_succ]
        refine wpAnyH_take (i := 3) (oi := ⟨_, _, _, _, _, _⟩) (v := ?_) rfl (by kernel_rfl) (by kernel_rfl) (by kernel_rfl) (fun _ _ _ h => h) (Or.inl ⟨by rfl, ?_⟩) hHeld ?_
        rotate_left
        · (intro w hSw; (try dsimp only at hSw); have s0 := hSw.a0; have s1 := hSw.a1; have s2 := hSw.a2; have s3 := hSw.a3; have t0 := hSw.c0; have t1 := hSw.c1; have t2 := hSw.c2; have t3 := hSw.c3; clear hSw; go_simp; try (with_reducible rfl))
        try simp only [Act.put, List.setIfInBounds_toArray, List.set_cons_zero, List.set_cons_succ]
        refine wpAnyH_take (i := 4) (oi := ⟨_, _, _, _, _, _⟩) (v := ?_) rfl (by kernel_rfl) (by kernel_rfl) (by kernel_rfl) (fun _ _ _ h => h) (Or.inl ⟨by rfl, ?_⟩) hHeld ?_
        rotate_left
        · (intro w hSw; (try dsimp only at hSw); have s0 := hSw.a0; have s1 := hSw.a1; have s2 := hSw.a2; have s3 := hSw.a3; have t0 := hSw.c0; have t1 := hSw.c1; have t2 := hSw.c2; have t3 := hSw.c3; clear hSw; go_simp; try (with_reducible rfl))
        try simp only [Act.put, List.setIfInBounds_toArray, List.set_cons_zero, List.set_cons_succ]
        refine wpAnyH_take (i := 5) (oi := ⟨_, _, _, _, _, _⟩) (v := ?_) rfl (by kernel_rfl) (by kernel_rfl) (by kernel_rfl) (fun _ _ _ h => h) (Or.inl ⟨by rfl, ?_⟩) hHeld ?_
        rotate_left
        · (intro w hSw; (try dsimp only at hSw); have s0 := hSw.a0; have s1 := hSw.a1; have s2 := hSw.a2; have s3 := hSw.a3; have t0 := hSw.c0; have t1 := hSw.c1; have t2 := hSw.c2; have t3 := hSw.c3; clear hSw; go_simp; try (with_reducible rfl))
        try simp only [Act.put, List.setIfInBounds_toArray, List.set_cons_zero, List.set_cons_succ]
        refine wpAnyH_take (i := 6) (oi := ⟨_, _, _, _, _, _⟩) (v := ?_) rfl (by kernel_rfl) (by kernel_rfl) (by kernel_rfl) (fun _ _ _ h => h) (Or.inl ⟨by rfl, ?_⟩) hHeld ?_
        rotate_left
        · (intro w hSw; (try dsimp only at hSw); have s0 := hSw.a0; have s1 := hSw.a1; have s2 := hSw.a2; have s3 := hSw.a3; have t0 := hSw.c0; have t1 := hSw.c1; have t2 := hSw.c2; have t3 := hSw.c3; clear hSw; go_simp; try (with_reducible rfl))
        try simp only [Act.put, List.setIfInBounds_toArray, List.set_cons_zero, List.set_cons_succ]
        refine wpAnyH_take (i := 7) (oi := ⟨_, _, _, _, _, _⟩) (v := ?_) rfl (by kernel_rfl) (by kernel_rfl) (by kernel_rfl) (fun _ _ _ h => h) (Or.inl ⟨by rfl, ?_⟩) hHeld ?_
        rotate_left
        · (intro w hSw; (try dsimp only at hSw); have s0 := hSw.a0; have s1 := hSw.a1; have s2 := hSw.a2; have s3 := hSw.a3; have t0 := hSw.c0; have t1 := hSw.c1; have t2 := hSw.c2; have t3 := hSw.c3; clear hSw; go_simp; try (with_reducible rfl))
        try simp only [Act.put, List.setIfInBounds_toArray, List.set_cons_zero, List.set_cons_succ]
        refine wpAnyH_take (i := 8) (oi := ⟨_, _, _, _, _, _⟩) (v := ?_) rfl (by kernel_rfl) (by kernel_rfl) (by kernel_rfl) (fun _ _ _ h => h) (Or.inl ⟨by rfl, ?_⟩) hHeld ?_
        rotate_left
        · (intro w hSw; (try dsimp only at hSw); have s0 := hSw.a0; have s1 := hSw.a1; have s2 := hSw.a2; have s3 := hSw.a3; have t0 := hSw.c0; have t1 := hSw.c1; have t2 := hSw.c2; have t3 := hSw.c3; clear hSw; go_simp; try (with_reducible rfl))
        try simp only [Act.put, List.setIfInBounds_toArray, List.set_cons_zero, List.set_cons_succ]
        refine wpAnyH_take (i := 9) (oi := ⟨_, _, _, _, _, _⟩) (v := ?_) rfl (by kernel_rfl) (by kernel_rfl) (by kernel_rfl) (fun _ _ _ h => h) (Or.inl ⟨by rfl, ?_⟩) hHeld ?_
        rotate_left
        · (intro w hSw; (try dsimp only at hSw); have s0 := hSw.a0; have s1 := hSw.a1; have s2 := hSw.a2; have s3 := hSw.a3; have t0 := hSw.c0; have t1 := hSw.c1; have t2 := hSw.c2; have t3 := hSw.c3; clear hSw; go_simp; try (with_reducible rfl))
        try simp only [Act.put, List.setIfInBounds_toArray, List.set_cons_zero, List.set_cons_succ]
        refine wpAnyH_take (i := 10) (oi := ⟨_, _, _, _, _, _⟩) (v := ?_) rfl (by kernel_rfl) (by kernel_rfl) (by kernel_rfl) (fun _ _ _ h => h) (Or.inl ⟨by rfl, ?_⟩) hHeld ?_
        rotate_left
        · (intro w hSw; (try dsimp only at hSw); have s0 := hSw.a0; have s1 := hSw.a1; have s2 := hSw.a2; have s3 := hSw.a3; have t0 := hSw.c0; have t1 := hSw.c1; have t2 := hSw.c2; have t3 := hSw.c3; clear hSw; go_simp; try (with_reducible rfl))
        try simp only [Act.put, List.setIfInBounds_toArray, List.set_cons_zero, List.set_cons_succ]
        refine wpAnyH_take (i := 11) (oi := ⟨_, _, _, _, _, _⟩) (v := ?_) rfl (by kernel_rfl) (by kernel_rfl) (by kernel_rfl) (fun _ _ _ h => h) (Or.inl ⟨by rfl, ?_⟩) hHeld ?_
        rotate_left
        · (intro w hSw; (try dsimp only at hSw); have s0 := hSw.a0; have s1 := hSw.a1; have s2 := hSw.a2; have s3 := hSw.a3; have t0 := hSw.c0; have t1 := hSw.c1; have t2 := hSw.c2; have t3 := hSw.c3; clear hSw; go_simp; try (with_reducible rfl))
        try simp only [Act.put, List.setIfInBounds_toArray, List.set_cons_zero, List.set_cons_succ]
        refine wpAnyH_take (i := 12) (oi := ⟨_, _, _, _, _, _⟩) (v := ?_) rfl (by kernel_rfl) (by kernel_rfl) (by kernel_rfl) (fun _ _ _ h => h) (Or.inl ⟨by rfl, ?_⟩) hHeld ?_
        rotate_left
        · (intro w hSw; (try dsimp only at hSw); have s0 := hSw.a0; have s1 := hSw.a1; have s2 := hSw.a2; have s3 := hSw.a3; have t0 := hSw.c0; have t1 := hSw.c1; have t2 := hSw.c2; have t3 := hSw.c3; clear hSw; go_simp; try (with_reducible rfl))
        try simp only [Act.put, List.setIfInBounds_toArray, List.set_cons_zero, List.set_cons_succ]
        refine wpAnyH_take (i := 13) (oi := ⟨_, _, _, _, _, _⟩) (v := ?_) rfl (by kernel_rfl) (by kernel_rfl) (by kernel_rfl) (fun _ _ _ h => h) (Or.inl ⟨by rfl, ?_⟩) hHeld ?_
        rotate_left
        · (intro w hSw; (try dsimp only at hSw); have s0 := hSw.a0; have s1 := hSw.a1; have s2 := hSw.a2; have s3 := hSw.a3; have t0 := hSw.c0; have t1 := hSw.c1; have t2 := hSw.c2; have t3 := hSw.c3; clear hSw; go_simp; try (with_reducible rfl))
        try simp only [Act.put, List.setIfInBounds_toArray, List.set_cons_zero, List.set_cons_succ]
        refine wpAnyH_take (i := 14) (oi := ⟨_, _, _, _, _, _⟩) (v := ?_) rfl (by kernel_rfl) (by kernel_rfl) (by kernel_rfl) (fun _ _ _ h => h) (Or.inl ⟨by rfl, ?_⟩) hHeld ?_
        rotate_left
        · (intro w hSw; (try dsimp only at hSw); have s0 := hSw.a0; have s1 := hSw.a1; have s2 := hSw.a2; have s3 := hSw.a3; have t0 := hSw.c0; have t1 := hSw.c1; have t2 := hSw.c2; have t3 := hSw.c3; clear hSw; go_simp; try (with_reducible rfl))
        try simp only [Act.put, List.setIfInBounds_toArray, List.set_cons_zero, List.set_cons_succ]
        refine wpAnyH_take (i := 15) (oi := ⟨_, _, _, _, _, _⟩) (v := ?_) rfl (by kernel_rfl) (by kernel_rfl) (by kernel_rfl) (fun _ _ _ h => h) (Or.inl ⟨by rfl, ?_⟩) hHeld ?_
        rotate_left
        · (intro w hSw; (try dsimp only at hSw); have s0 := hSw.a0; have s1 := hSw.a1; have s2 := hSw.a2; have s3 := hSw.a3; have t0 := hSw.c0; have t1 := hSw.c1; have t2 := hSw.c2; have t3 := hSw.c3; clear hSw; go_simp; try (with_reducible rfl))
        try simp only [Act.put, List.setIfInBounds_toArray, List.set_cons_zero, List.set_cons_succ]
        refine wpAnyH_take (i := 16) (oi := ⟨_, _, _, _, _, _⟩) (v := ?_) rfl (by kernel_rfl) (by kernel_rfl) (by kernel_rfl) (fun _ _ _ h => h) (Or.inl ⟨by rfl, ?_⟩) hHeld ?_
        rotate_left
        · (intro w hSw; (try dsimp only at hSw); have s0 := hSw.a0; have s1 := hSw.a1; have s2 := hSw.a2; have s3 := hSw.a3; have t0 := hSw.c0; have t1 := hSw.c1; have t2 := hSw.c2; have t3 := hSw.c3; clear hSw; go_simp; try (with_reducible rfl))
        try simp only [Act.put, List.setIfInBounds_toArray, List.set_cons_zero, List.set_cons_succ]
        refine wpAnyH_take (i := 17) (oi := ⟨_, _, _, _, _, _⟩) (v := ?_) rfl (by kernel_rfl) (by kernel_rfl) (by kernel_rfl) (fun _ _ _ h => h) (Or.inl ⟨by rfl, ?_⟩) hHeld ?_
        rotate_left
        · (intro w hSw; (try dsimp only at hSw); have s0 := hSw.a0; have s1 := hSw.a1; have s2 := hSw.a2; have s3 := hSw.a3; have t0 := hSw.c0; have t1 := hSw.c1; have t2 := hSw.c2; have t3 := hSw.c3; clear hSw; go_simp; try (with_reducible rfl))
        try simp only [Act.put, List.setIfInBounds_toArray, List.set_cons_zero, List.set_cons_succ]
        refine wpAnyH_take (i := 18) (oi := ⟨_, _, _, _, _, _⟩) (v := ?_) rfl (by kernel_rfl) (by kernel_rfl) (by kernel_rfl) (fun _ _ _ h => h) (Or.inl ⟨by rfl, ?_⟩) hHeld ?_
        rotate_left
        · (intro w hSw; (try dsimp only at hSw); have s0 := hSw.a0; have s1 := hSw.a1; have s2 := hSw.a2; have s3 := hSw.a3; have t0 := hSw.c0; have t1 := hSw.c1; have t2 := hSw.c2; have t3 := hSw.c3; clear hSw; go_simp; try (with_reducible rfl))
        try simp only [Act.put, List.setIfInBounds_toArray, List.set_cons_zero, List.set_cons_succ]
        refine wpAnyH_take (i := 19) (oi := ⟨_, _, _, _, _, _⟩) (v := ?_) rfl (by kernel_rfl) (by kernel_rfl) (by kernel_rfl) (fun _ _ _ h => h) (Or.inl ⟨by rfl, ?_⟩) hHeld ?_
        rotate_left
        · (intro w hSw; (try dsimp only at hSw); have s0 := hSw.a0; have s1 := hSw.a1; have s2 := hSw.a2; have s3 := hSw.a3; have t0 := hSw.c0; have t1 := hSw.c1; have t2 := hSw.c2; have t3 := hSw.c3; clear hSw; go_simp; try (with_reducible rfl))
        try simp only [Act.put, List.setIfInBounds_toArray, List.set_cons_zero, List.set_cons_succ]
        refine wpAnyH_take (i := 20) (oi := ⟨_, _, _, _, _, _⟩) (v := ?_) rfl (by kernel_rfl) (by kernel_rfl) (by kernel_rfl) (fun _ _ _ h => h) (Or.inl ⟨by rfl, ?_⟩) hHeld ?_
        rotate_left
        · (intro w hSw; (try dsimp only at hSw); have s0 := hSw.a0; have s1 := hSw.a1; have s2 := hSw.a2; have s3 := hSw.a3; have t0 := hSw.c0; have t1 := hSw.c1; have t2 := hSw.c2; have t3 := hSw.c3; clear hSw; go_simp; try (with_reducible rfl))
        try simp only [Act.put, List.setIfInBounds_toArray, List.set_cons_zero, List.set_cons_succ]
        refine wpAnyH_take (i := 21) (oi := ⟨_, _, _, _, _, _⟩) (v := ?_) rfl (by kernel_rfl) (by kernel_rfl) (by kernel_rfl) (fun _ _ _ h => h) (Or.inl ⟨by rfl, ?_⟩) hHeld ?_
        rotate_left
        · (intro w hSw; (try dsimp only at hSw); have s0 := hSw.a0; have s1 := hSw.a1; have s2 := hSw.a2; have s3 := hSw.a3; have t0 := hSw.c0; have t1 := hSw.c1; have t2 := hSw.c2; have t3 := hSw.c3; clear hSw; go_simp; try (with_reducible rfl))
        try simp only [Act.put, List.setIfInBounds_toArray, List.set_cons_zero, List.set_cons_succ]
        refine wpAnyH_take (i := 22) (oi := ⟨_, _, _, _, _, _⟩) (v := ?_) rfl (by kernel_rfl) (by kernel_rfl) (by kernel_rfl) (fun _ _ _ h => h) (Or.inl ⟨by rfl, ?_⟩) hHeld ?_
        rotate_left
        · (intro w hSw; (try dsimp only at hSw); have s0 := hSw.a0; have s1 := hSw.a1; have s2 := hSw.a2; have s3 := hSw.a3; have t0 := hSw.c0; have t1 := hSw.c1; have t2 := hSw.c2; have t3 := hSw.c3; clear hSw; go_simp; try (with_reducible rfl))
        try simp only [Act.put, List.setIfInBounds_toArray, List.set_cons_zero, List.set_cons_succ]
        refine wpAnyH_take (i := 23) (oi := ⟨_, _, _, _, _, _⟩) (v := ?_) rfl (by kernel_rfl) (by kernel_rfl) (by kernel_rfl) (fun _ _ _ h => h) (Or.inl ⟨by rfl, ?_⟩) hHeld ?_
        rotate_left
        · (intro w hSw; (try dsimp only at hSw); have s0 := hSw.a0; have s1 := hSw.a1; have s2 := hSw.a2; have s3 := hSw.a3; have t0 := hSw.c0; have t1 := hSw.c1; have t2 := hSw.c2; have t3 := hSw.c3; clear hSw; go_simp; try (with_reducible rfl))
        try simp only [Act.put, List.setIfInBounds_toArray, List.set_cons_zero, List.set_cons_succ]
        refine wpAnyH_take (i := 24) (oi := ⟨_, _, _, _, _, _⟩) (v := ?_) rfl (by kernel_rfl) (by kernel_rfl) (by kernel_rfl) (fun _ _ _ h => h) (Or.inl ⟨by rfl, ?_⟩) hHeld ?_
        rotate_left
        · (intro w hSw; (try dsimp only at hSw); have s0 := hSw.a0; have s1 := hSw.a1; have s2 := hSw.a2; have s3 := hSw.a3; have t0 := hSw.c0; have t1 := hSw.c1; have t2 := hSw.c2; have t3 := hSw.c3; clear hSw; go_simp; try (with_reducible rfl))
        try simp only [Act.put, List.setIfInBounds_toArray, List.set_cons_zero, List.set_cons_succ]
        refine wpAnyH_take (i := 25) (oi := ⟨_, _, _, _, _, _⟩) (v := ?_) rfl (by kernel_rfl) (by kernel_rfl) (by kernel_rfl) (fun _ _ _ h => h) (Or.inl ⟨by rfl, ?_⟩) hHeld ?_
        rotate_left
        · (intro w hSw; (try dsimp only at hSw); have s0 := hSw.a0; have s1 := hSw.a1; have s2 := hSw.a2; have s3 := hSw.a3; have t0 := hSw.c0; have t1 := hSw.c1; have t2 := hSw.c2; have t3 := hSw.c3; clear hSw; go_simp; try (with_reducible rfl))
        try simp only [Act.put, List.setIfInBounds_toArray, List.set_cons_zero, List.set_cons_succ]
        refine wpAnyH_take (i := 26) (oi := ⟨_, _, _, _, _, _⟩) (v := ?_) rfl (by kernel_rfl) (by kernel_rfl) (by kernel_rfl) (fun _ _ _ h => h) (Or.inl ⟨by rfl, ?_⟩) hHeld ?_
        rotate_left
        · (intro w hSw; (try dsimp only at hSw); have s0 := hSw.a0; have s1 := hSw.a1; have s2 := hSw.a2; have s3 := hSw.a3; have t0 := hSw.c0; have t1 := hSw.c1; have t2 := hSw.c2; have t3 := hSw.c3; clear hSw; go_simp; try (with_reducible rfl))
        try simp only [Act.put, List.setIfInBounds_toArray, List.set_cons_zero, List.set_cons_succ]
        refine wpAnyH_take (i := 27) (oi := ⟨_, _, _, _, _, _⟩) (v := ?_) rfl (by kernel_rfl) (by kernel_rfl) (by kernel_rfl) (fun _ _ _ h => h) (Or.inl ⟨by rfl, ?_⟩) hHeld ?_
        rotate_left
        · (intro w hSw; (try dsimp only at hSw); have s0 := hSw.a0; have s1 := hSw.a1; have s2 := hSw.a2; have s3 := hSw.a3; have t0 := hSw.c0; have t1 := hSw.c1; have t2 := hSw.c2; have t3 := hSw.c3; clear hSw; go_simp; try (with_reducible rfl))
        try simp only [Act.put, List.setIfInBounds_toArray, List.set_cons_zero, List.set_cons_succ]
        refine wpAnyH_take (i := 28) (oi := ⟨_, _, _, _, _, _⟩) (v := ?_) rfl (by kernel_rfl) (by kernel_rfl) (by kernel_rfl) (fun _ _ _ h => h) (Or.inl ⟨by rfl, ?_⟩) hHeld ?_
        rotate_left
        · (intro w hSw; (try dsimp only at hSw); have s0 := hSw.a0; have s1 := hSw.a1; have s2 := hSw.a2; have s3 := hSw.a3; have t0 := hSw.c0; have t1 := hSw.c1; have t2 := hSw.c2; have t3 := hSw.c3; clear hSw; go_simp; try (with_reducible rfl))
        try simp only [Act.put, List.setIfInBounds_toArray, List.set_cons_zero, List.set_cons_succ]
        refine wpAnyH_take (i := 29) (oi := ⟨_, _, _, _, _, _⟩) (v := ?_) rfl (by kernel_rfl) (by kernel_rfl) (by kernel_rfl) (fun _ _ _ h => h) (Or.inl ⟨by rfl, ?_⟩) hHeld ?_
        rotate_left
        · (intro w hSw; (try dsimp only at hSw); have s0 := hSw.a0; have s1 := hSw.a1; have s2 := hSw.a2; have s3 := hSw.a3; have t0 := hSw.c0; have t1 := hSw.c1; have t2 := hSw.c2; have t3 := hSw.c3; clear hSw; go_simp; try (with_reducible rfl))
        try simp only [Act.put, List.setIfInBounds_toArray, List.set_cons_zero, List.set_cons_succ]
        refine wpAnyH_take (i := 30) (oi := ⟨_, _, _, _, _, _⟩) (v := ?_) rfl (by kernel_rfl) (by kernel_rfl) (by kernel_rfl) (fun _ _ _ h => h) (Or.inl ⟨by rfl, ?_⟩) hHeld ?_
        rotate_left
        · (intro w hSw; (try dsimp only at hSw); have s0 := hSw.a0; have s1 := hSw.a1; have s2 := hSw.a2; have s3 := hSw.a3; have t0 := hSw.c0; have t1 := hSw.c1; have t2 := hSw.c2; have t3 := hSw.c3; clear hSw; go_simp; try (with_reducible rfl))
        try simp only [Act.put, List.setIfInBounds_toArray, List.set_cons_zero, List.set_cons_succ]
        refine wpAnyH_take (i := 31) (oi := ⟨_, _, _, _, _, _⟩) (v := ?_) rfl (by kernel_rfl) (by kernel_rfl) (by kernel_rfl) (fun _ _ _ h => h) (Or.inl ⟨by rfl, ?_⟩) hHeld ?_
        rotate_left
        · (intro w hSw; (try dsimp only at hSw); have s0 := hSw.a0; have s1 := hSw.a1; have s2 := hSw.a2; have s3 := hSw.a3; have t0 := hSw.c0; have t1 := hSw.c1; have t2 := hSw.c2; have t3 := hSw.c3; clear hSw; go_simp; try (with_reducible rfl))
        try simp only [Act.put, List.setIfInBounds_toArray, List.set_cons_zero, List.set_cons_succ]
        refine wpAnyH_take (i := 32) (oi := ⟨_, _, _, _, _, _⟩) (v := ?_) rfl (by kernel_rfl) (by kernel_rfl) (by kernel_rfl) (fun _ _ _ h => h) (Or.inl ⟨by rfl, ?_⟩) hHeld ?_
        rotate_left
        · (intro w hSw; (try dsimp only at hSw); have s0 := hSw.a0; have s1 := hSw.a1; have s2 := hSw.a2; have s3 := hSw.a3; have t0 := hSw.c0; have t1 := hSw.c1; have t2 := hSw.c2; have t3 := hSw.c3; clear hSw; go_simp; try (with_reducible rfl))
        try simp only [Act.put, List.setIfInBounds_toArray, List.set_cons_zero, List.set_cons_succ]
        refine wpAnyH_take (i := 33) (oi := ⟨_, _, _, _, _, _⟩) (v := ?_) rfl (by kernel_rfl) (by kernel_rfl) (by kernel_rfl) (fun _ _ _ h => h) (Or.inl ⟨by rfl, ?_⟩) hHeld ?_
        rotate_left
        · (intro w hSw; (try dsimp only at hSw); have s0 := hSw.a0; have s1 := hSw.a1; have s2 := hSw.a2; have s3 := hSw.a3; have t0 := hSw.c0; have t1 := hSw.c1; have t2 := hSw.c2; have t3 := hSw.c3; clear hSw; go_simp; try (with_reducible rfl))
        try simp only [Act.put, List.setIfInBounds_toArray, List.set_cons_zero, List.set_cons_succ]
        refine wpAnyH_take (i := 34) (oi := ⟨_, _, _, _, _, _⟩) (v := ?_) rfl (by kernel_rfl) (by kernel_rfl) (by kernel_rfl) (fun _ _ _ h => h) (Or.inl ⟨by rfl, ?_⟩) hHeld ?_
        rotate_left
        · (intro w hSw; (try dsimp only at hSw); have s0 := hSw.a0; have s1 := hSw.a1; have s2 := hSw.a2; have s3 := hSw.a3; have t0 := hSw.c0; have t1 := hSw.c1; have t2 := hSw.c2; have t3 := hSw.c3; clear hSw; go_simp; try (with_reducible rfl))
        try simp only [Act.put, List.setIfInBounds_toArray, List.set_cons_zero, List.set_cons_succ]
        refine wpAnyH_take (i := 35) (oi := ⟨_, _, _, _, _, _⟩) (v := ?_) rfl (by kernel_rfl) (by kernel_rfl) (by kernel_rfl) (fun _ _ _ h => h) (Or.inl ⟨by rfl, ?_⟩) hHeld ?_
        rotate_left
        · (intro w hSw; (try dsimp only at hSw); have s0 := hSw.a0; have s1 := hSw.a1; have s2 := hSw.a2; have s3 := hSw.a3; have t0 := hSw.c0; have t1 := hSw.c1; have t2 := hSw.c2; have t3 := hSw.c3; clear hSw; go_simp; try (with_reducible rfl))
        try simp only [Act.put, List.setIfInBounds_toArray, List.set_cons_zero, List.set_cons_succ]
        refine wpAnyH_take (i := 36) (oi := ⟨_, _, _, _, _, _⟩) (v := ?_) rfl (by kernel_rfl) (by kernel_rfl) (by kernel_rfl) (fun _ _ _ h => h) (Or.inl ⟨by rfl, ?_⟩) hHeld ?_
        rotate_left
        · (intro w hSw; (try dsimp only at hSw); have s0 := hSw.a0; have s1 := hSw.a1; have s2 := hSw.a2; have s3 := hSw.a3; have t0 := hSw.c0; have t1 := hSw.c1; have t2 := hSw.c2; have t3 := hSw.c3; clear hSw; go_simp; try (with_reducible rfl))
        try simp only [Act.put, List.setIfInBounds_toArray, List.set_cons_zero, List.set_cons_succ]
        refine wpAnyH_take (i := 37) (oi := ⟨_, _, _, _, _, _⟩) (v := ?_) rfl (by kernel_rfl) (by kernel_rfl) (by kernel_rfl) (fun _ _ _ h => h) (Or.inl ⟨by rfl, ?_⟩) hHeld ?_
        rotate_left
        · (intro w hSw; (try dsimp only at hSw); have s0 := hSw.a0; have s1 := hSw.a1; have s2 := hSw.a2; have s3 := hSw.a3; have t0 := hSw.c0; have t1 := hSw.c1; have t2 := hSw.c2; have t3 := hSw.c3; clear hSw; go_simp; try (with_reducible rfl))
        try simp only [Act.put, List.setIfInBounds_toArray, List.set_cons_zero, List.set_cons_succ]
        refine wpAnyH_take (i := 38) (oi := ⟨_, _, _, _, _, _⟩) (v := ?_) rfl (by kernel_rfl) (by kernel_rfl) (by kernel_rfl) (fun _ _ _ h => h) (Or.inl ⟨by rfl, ?_⟩) hHeld ?_
        rotate_left
        · (intro w hSw; (try dsimp only at hSw); have s0 := hSw.a0; have s1 := hSw.a1; have s2 := hSw.a2; have s3 := hSw.a3; have t0 := hSw.c0; have t1 := hSw.c1; have t2 := hSw.c2; have t3 := hSw.c3; clear hSw; go_simp; try (with_reducible rfl))
        try simp only [Act.put, List.setIfInBounds_toArray, List.set_cons_zero, List.set_cons_succ]
        refine wpAnyH_take (i := 39) (oi := ⟨_, _, _, _, _, _⟩) (v := ?_) rfl (by kernel_rfl) (by kernel_rfl) (by kernel_rfl) (fun _ _ _ h => h) (Or.inl ⟨by rfl, ?_⟩) hHeld ?_
        rotate_left
        · (intro w hSw; (try dsimp only at hSw); have s0 := hSw.a0; have s1 := hSw.a1; have s2 := hSw.a2; have s3 := hSw.a3; have t0 := hSw.c0; have t1 := hSw.c1; have t2 := hSw.c2; have t3 := hSw.c3; clear hSw; go_simp; try (with_reducible rfl))
        try simp only [Act.put, List.setIfInBounds_toArray, List.set_cons_zero, List.set_cons_succ]
        refine wpAnyH_ready (rs := [40]) (by kernel_rfl) (by simp) ?_
        refine AllReadyH.cons (o := ⟨_, _, _, _, _, _⟩) rfl (fun K hK => ?_) AllReadyH.nil
        go_simp
        go_at_call 90
        refine (l4Ints_calls xs ys _ _ _ hn hn2 hHeld.r1 hHeld.r2).mono ?_
        rintro e w9 ⟨rfl, n9, hw9⟩
        try go_wp2_with fail
        refine hK.out _ _ ?_ ?_
        · (try dsimp only); exact hHeld.next ⟨rfl, rfl, rfl, Nat.le_refl _, fun _ _ => rfl⟩
        clear hHeld hK K
        intro hHeld
        try simp only [Act.put, List.setIfInBounds_toArray, List.set_cons_zero, List.set_cons_succ]
        refine wpAnyH_take (i := 41) (oi := ⟨_, _, _, _, _, _⟩) (v := ?_) rfl (by kernel_rfl) (by kernel_rfl) (by kernel_rfl) (fun _ _ _ h => h) (Or.inl ⟨by rfl, ?_⟩) hHeld ?_
        rotate_left
        · (intro w hSw; (try dsimp only at hSw); have s0 := hSw.a0; have s1 := hSw.a1; have s2 := hSw.a2; have s3 := hSw.a3; have t0 := hSw.c0; have t1 := hSw.c1; have t2 := hSw.c2; have t3 := hSw.c3; clear hSw; go_simp; try (with_reducible rfl))
        try simp only [Act.put, List.setIfInBounds_toArray, List.set_cons_zero, List.set_cons_succ]
        refine wpAnyH_take (i := 42) (oi := ⟨_, _, _, _, _, _⟩) (v := ?_) rfl (by kernel_rfl) (by kernel_rfl) (by kernel_rfl) (fun _ _ _ h => h) (Or.inl ⟨by rfl, ?_⟩) hHeld ?_
        rotate_left
        · (intro w hSw; (try dsimp only at hSw); have s0 := hSw.a0; have s1 := hSw.a1; have s2 := hSw.a2; have s3 := hSw.a3; have t0 := hSw.c0; have t1 := hSw.c1; have t2 := hSw.c2; have t3 := hSw.c3; clear hSw; go_simp; try (with_reducible rfl))
        try simp only [Act.put, List.setIfInBounds_toArray, List.set_cons_zero, List.set_cons_succ]
        refine wpAnyH_done (by kernel_rfl) ?_ _
        have hbq := hHeld.bel
        clear hHeld
        go_wp2
        go_ret
        exact ⟨rfl, hbq⟩
      · subst e0 e1
        have hs : samePB md st pv xs md st pv2 ys = false := by simp [samePB, e2]
        rw [hs]
        clear hs
        have q0 : (md == md) = true := by simp
        have q1 : (st == st) = true := by simp
        have q2 : (pv == pv2) = false := by simpa using e2
        clear e2
        go_enter Try.func133, Try.ntmps133
        go_wp2_with fail
        refine wp_region_held_drew (S := (fun w' => KeepS w b c md st pv (.slice a1 xs.length c1) md st pv2 (.slice a2 ys.length c2) xs ys w')) (by kernel_rfl) ?_ (fun hHeld => ?_)
        · (try dsimp only); exact ⟨Below.drew (Below.refl _ w), k0, k1, k2, k3, j0, j1, j2, j3, h1, h2⟩
        refine wpAnyH_take (i := 0) (oi := ⟨_, _, _, _, _, _⟩) (v := ?_) rfl (by kernel_rfl) (by kernel_rfl) (by kernel_rfl) (fun _ _ _ h => h) (Or.inl ⟨by rfl, ?_⟩) hHeld ?_
        rotate_left
        · (intro w hSw; (try dsimp only at hSw); have s0 := hSw.a0; have s1 := hSw.a1; have s2 := hSw.a2; have s3 := hSw.a3; have t0 := hSw.c0; have t1 := hSw.c1; have t2 := hSw.c2; have t3 := hSw.c3; clear hSw; go_simp; try (with_reducible rfl))
        try simp only [Act.put, List.setIfInBounds_toArray, List.set_cons_zero, List.set_cons_succ]
        refine wpAnyH_take (i := 1) (oi := ⟨_, _, _, _, _, _⟩) (v := ?_) rfl (by kernel_rfl) (by kernel_rfl) (by kernel_rfl) (fun _ _ _ h => h) (Or.inl ⟨by rfl, ?_⟩) hHeld ?_
        rotate_left
        · (intro w hSw; (try dsimp only at hSw); have s0 := hSw.a0; have s1 := hSw.a1; have s2 := hSw.a2; have s3 := hSw.a3; have t0 := hSw.c0; have t1 := hSw.c1; have t2 := hSw.c2; have t3 := hSw.c3; clear hSw; go_simp; try (with_reducible rfl))
        try simp only [Act.put, List.setIfInBounds_toArray, List.set_cons_zero, List.set_cons_succ]
        refine wpAnyH_take (i := 2) (oi := ⟨_, _, _, _, _, _⟩) (v := ?_) rfl (by kernel_rfl) (by kernel_rfl) (by kernel_rfl) (fun _ _ _ h => h) (Or.inl ⟨by rfl, ?_⟩) hHeld ?_
        rotate_left
        · (intro w hSw; (try dsimp only at hSw); have s0 := hSw.a0; have s1 := hSw.a1; have s2 := hSw.a2; have s3 := hSw.a3; have t0 := hSw.c0; have t1 := hSw.c1; have t2 := hSw.c2; have t3 := hSw.c3; clear hSw; go_simp; try (with_reducible rfl))
        try simp only [Act.put, List.setIfInBounds_toArray, List.set_cons_zero, List.set_cons_succ]
        refine wpAnyH_take (i := 3) (oi := ⟨_, _, _, _, _, _⟩) (v := ?_) rfl (by kernel_rfl) (by kernel_rfl) (by kernel_rfl) (fun _ _ _ h => h) (Or.inl ⟨by rfl, ?_⟩) hHeld ?_
        rotate_left
        · (intro w hSw; (try dsimp only at hSw); have s0 := hSw.a0; have s1 := hSw.a1; have s2 := hSw.a2; have s3 := hSw.a3; have t0 := hSw.c0; have t1 := hSw.c1; have t2 := hSw.c2; have t3 := hSw.c3; clear hSw; go_simp; try (with_reducible rfl))
        try simp only [Act.put, List.setIfInBounds_toArray, List.set_cons_zero, List.set_cons_succ]
        refine wpAnyH_take (i := 4) (oi := ⟨_, _, _, _, _, _⟩) (v := ?_) rfl (by kernel_rfl) (by kernel_rfl) (by kernel_rfl) (fun _ _ _ h => h) (Or.inl ⟨by rfl, ?_⟩) hHeld ?_
        rotate_left
        · (intro w hSw; (try dsimp only at hSw); have s0 := hSw.a0; have s1 := hSw.a1; have s2 := hSw.a2; have s3 := hSw.a3; have t0 := hSw.c0; have t1 := hSw.c1; have t2 := hSw.c2; have t3 := hSw.c3; clear hSw; go_simp; try (with_reducible rfl))
        try simp only [Act.put, List.setIfInBounds_toArray, List.set_cons_zero, List.set_cons_succ]
        refine wpAnyH_take (i := 5) (oi := ⟨_, _, _, _, _, _⟩) (v := ?_) rfl (by kernel_rfl) (by kernel_rfl) (by kernel_rfl) (fun _ _ _ h => h) (Or.inl ⟨by rfl, ?_⟩) hHeld ?_
        rotate_left
        · (intro w hSw; (try dsimp only at hSw); have s0 := hSw.a0; have s1 := hSw.a1; have s2 := hSw.a2; have s3 := hSw.a3; have t0 := hSw.c0; have t1 := hSw.c1; have t2 := hSw.c2; have t3 := hSw.c3; clear hSw; go_simp; try (with_reducible rfl))
        try simp only [Act.put, List.setIfInBounds_toArray, List.set_cons_zero, List.set_cons_succ]
        refine wpAnyH_take (i := 6) (oi := ⟨_, _, _, _, _, _⟩) (v := ?_) rfl (by kernel_rfl) (by kernel_rfl) (by kernel_rfl) (fun _ _ _ h => h) (Or.inl ⟨by rfl, ?_⟩) hHeld ?_
        rotate_left
        · (intro w hSw; (try dsimp only at hSw); have s0 := hSw.a0; have s1 := hSw.a1; have s2 := hSw.a2; have s3 := hSw.a3; have t0 := hSw.c0; have t1 := hSw.c1; have t2 := hSw.c2; have t3 := hSw.c3; clear hSw; go_simp; try (with_reducible rfl))
        try simp only [Act.put, List.setIfInBounds_toArray, List.set_cons_zero, List.set_cons_succ]
        refine wpAnyH_take (i := 7) (oi := ⟨_, _, _, _, _, _⟩) (v := ?_) rfl (by kernel_rfl) (by kernel_rfl) (by kernel_rfl) (fun _ _ _ h => h) (Or.inl ⟨by rfl, ?_⟩) hHeld ?_
        rotate_left
        · (intro w hSw; (try dsimp only at hSw); have s0 := hSw.a0; have s1 := hSw.a1; have s2 := hSw.a2; have s3 := hSw.a3; have t0 := hSw.c0; have t1 := hSw.c1; have t2 := hSw.c2; have t3 := hSw.c3; clear hSw; go_simp; try (with_reducible rfl))
        try simp only [Act.put, List.setIfInBounds_toArray, List.set_cons_zero, List.set_cons_succ]
        refine wpAnyH_take (i := 8) (oi := ⟨_, _, _, _, _, _⟩) (v := ?_) rfl (by kernel_rfl) (by kernel_rfl) (by kernel_rfl) (fun _ _ _ h => h) (Or.inl ⟨by rfl, ?_⟩) hHeld ?_
        rotate_left
        · (intro w hSw; (try dsimp only at hSw); have s0 := hSw.a0; have s1 := hSw.a1; have s2 := hSw.a2; have s3 := hSw.a3; have t0 := hSw.c0; have t1 := hSw.c1; have t2 := hSw.c2; have t3 := hSw.c3; clear hSw; go_simp; try (with_reducible rfl))
        try simp only [Act.put, List.setIfInBounds_toArray, List.set_cons_zero, List.set_cons_succ]
        refine wpAnyH_take (i := 9) (oi := ⟨_, _, _, _, _, _⟩) (v := ?_) rfl (by kernel_rfl) (by kernel_rfl) (by kernel_rfl) (fun _ _ _ h => h) (Or.inl ⟨by rfl, ?_⟩) hHeld ?_
        rotate_left
        · (intro w hSw; (try dsimp only at hSw); have s0 := hSw.a0; have s1 := hSw.a1; have s2 := hSw.a2; have s3 := hSw.a3; have t0 := hSw.c0; have t1 := hSw.c1; have t2 := hSw.c2; have t3 := hSw.c3; clear hSw; go_simp; try (with_reducible rfl))
        try simp only [Act.put, List.setIfInBounds_toArray, List.set_cons_zero, List.set_cons_succ]
        refine wpAnyH_take (i := 10) (oi := ⟨_, _, _, _, _, _⟩) (v := ?_) rfl (by kernel_rfl) (by kernel_rfl) (by kernel_rfl) (fun _ _ _ h => h) (Or.inl ⟨by rfl, ?_⟩) hHeld ?_
        rotate_left
        · (intro w hSw; (try dsimp only at hSw); have s0 := hSw.a0; have s1 := hSw.a1; have s2 := hSw.a2; have s3 := hSw.a3; have t0 := hSw.c0; have t1 := hSw.c1; have t2 := hSw.c2; have t3 := hSw.c3; clear hSw; go_simp; try (with_reducible rfl))
        try simp only [Act.put, List.setIfInBounds_toArray, List.set_cons_zero, List.set_cons_succ]
        refine wpAnyH_take (i := 11) (oi := ⟨_, _, _, _, _, _⟩) (v := ?_) rfl (by kernel_rfl) (by kernel_rfl) (by kernel_rfl) (fun _ _ _ h => h) (Or.inl ⟨by rfl, ?_⟩) hHeld ?_
        rotate_left
        · (intro w hSw; (try dsimp only at hSw); have s0 := hSw.a0; have s1 := hSw.a1; have s2 := hSw.a2; have s3 := hSw.a3; have t0 := hSw.c0; have t1 := hSw.c1; have t2 := hSw.c2; have t3 := hSw.c3; clear hSw; go_simp; try (with_reducible rfl))
        try simp only [Act.put, List.setIfInBounds_toArray, List.set_cons_zero, List.set_cons_succ]
        refine wpAnyH_take (i := 12) (oi := ⟨_, _, _, _, _, _⟩) (v := ?_) rfl (by kernel_rfl) (by kernel_rfl) (by kernel_rfl) (fun _ _ _ h => h) (Or.inl ⟨by rfl, ?_⟩) hHeld ?_
        rotate_left
        · (intro w hSw; (try dsimp only at hSw); have s0 := hSw.a0; have s1 := hSw.a1; have s2 := hSw.a2; have s3 := hSw.a3; have t0 := hSw.c0; have t1 := hSw.c1; have t2 := hSw.c2; have t3 := hSw.c3; clear hSw; go_simp; try (with_reducible rfl))
        try simp only [Act.put, List.setIfInBounds_toArray, List.set_cons_zero, List.set_cons_succ]
        refine wpAnyH_take (i := 13) (oi := ⟨_, _, _, _, _, _⟩) (v := ?_) rfl (by kernel_rfl) (by kernel_rfl) (by kernel_rfl) (fun _ _ _ h => h) (Or.inl ⟨by rfl, ?_⟩) hHeld ?_
        rotate_left
        · (intro w hSw; (try dsimp only at hSw); have s0 := hSw.a0; have s1 := hSw.a1; have s2 := hSw.a2; have s3 := hSw.a3; have t0 := hSw.c0; have t1 := hSw.c1; have t2 := hSw.c2; have t3 := hSw.c3; clear hSw; go_simp; try (with_reducible rfl))
        try simp only [Act.put, List.setIfInBounds_toArray, List.set_cons_zero, List.set_cons_succ]
        refine wpAnyH_take (i := 14) (oi := ⟨_, _, _, _, _, _⟩) (v := ?_) rfl (by kernel_rfl) (by kernel_rfl) (by kernel_rfl) (fun _ _ _ h => h) (Or.inl ⟨by rfl, ?_⟩) hHeld ?_
        rotate_left
        · (intro w hSw; (try dsimp only at hSw); have s0 := hSw.a0; have s1 := hSw.a1; have s2 := hSw.a2; have s3 := hSw.a3; have t0 := hSw.c0; have t1 := hSw.c1; have t2 := hSw.c2; have t3 := hSw.c3; clear hSw; go_simp; try (with_reducible rfl))
        try simp only [Act.put, List.setIfInBounds_toArray, List.set_cons_zero, List.set_cons_succ]
        refine wpAnyH_take (i := 15) (oi := ⟨_, _, _, _, _, _⟩) (v := ?_) rfl (by kernel_rfl) (by kernel_rfl) (by kernel_rfl) (fun _ _ _ h => h) (Or.inl ⟨by rfl, ?_⟩) hHeld ?_
        rotate_left
        · (intro w hSw; (try dsimp only at hSw); have s0 := hSw.a0; have s1 := hSw.a1; have s2 := hSw.a2; have s3 := hSw.a3; have t0 := hSw.c0; have t1 := hSw.c1; have t2 := hSw.c2; have t3 := hSw.c3; clear hSw; go_simp; try (with_reducible rfl))
        try simp only [Act.put, List.setIfInBounds_toArray, List.set_cons_zero, List.set_cons_succ]
        refine wpAnyH_take (i := 16) (oi := ⟨_, _, _, _, _, _⟩) (v := ?_) rfl (by kernel_rfl) (by kernel_rfl) (by kernel_rfl) (fun _ _ _ h => h) (Or.inl ⟨by rfl, ?_⟩) hHeld ?_
        rotate_left
        · (intro w hSw; (try dsimp only at hSw); have s0 := hSw.a0; have s1 := hSw.a1; have s2 := hSw.a2; have s3 := hSw.a3; have t0 := hSw.c0; have t1 := hSw.c1; have t2 := hSw.c2; have t3 := hSw.c3; clear hSw; go_simp; try (with_reducible rfl))
        try simp only [Act.put, List.setIfInBounds_toArray, List.set_cons_zero, List.set_cons_succ]
        refine wpAnyH_take (i := 17) (oi := ⟨_, _, _, _, _, _⟩) (v := ?_) rfl (by kernel_rfl) (by kernel_rfl) (by kernel_rfl) (fun _ _ _ h => h) (Or.inl ⟨by rfl, ?_⟩) hHeld ?_
        rotate_left
        · (intro w hSw; (try dsimp only at hSw); have s0 := hSw.a0; have s1 := hSw.a1; have s2 := hSw.a2; have s3 := hSw.a3; have t0 := hSw.c0; have t1 := hSw.c1; have t2 := hSw.c2; have t3 := hSw.c3; clear hSw; go_simp; try (with_reducible rfl))
        try simp only [Act.put, List.setIfInBounds_toArray, List.set_cons_zero, List.set_cons_succ]
        refine wpAnyH_take (i := 18) (oi := ⟨_, _, _, _, _, _⟩) (v := ?_) rfl (by kernel_rfl) (by kernel_rfl) (by kernel_rfl) (fun _ _ _ h => h) (Or.inl ⟨by rfl, ?_⟩) hHeld ?_
        rotate_left
        · (intro w hSw; (try dsimp only at hSw); have s0 := hSw.a0; have s1 := hSw.a1; have s2 := hSw.a2; have s3 := hSw.a3; have t0 := hSw.c0; have t1 := hSw.c1; have t2 := hSw.c2; have t3 := hSw.c3; clear hSw; go_simp; try (with_reducible rfl))
        try simp only [Act.put, List.setIfInBounds_toArray, List.set_cons_zero, List.set_cons_succ]
        refine wpAnyH_take (i := 19) (oi := ⟨_, _, _, _, _, _⟩) (v := ?_) rfl (by kernel_rfl) (by kernel_rfl) (by kernel_rfl) (fun _ _ _ h => h) (Or.inl ⟨by rfl, ?_⟩) hHeld ?_
        rotate_left
        · (intro w hSw; (try dsimp only at hSw); have s0 := hSw.a0; have s1 := hSw.a1; have s2 := hSw.a2; have s3 := hSw.a3; have t0 := hSw.c0; have t1 := hSw.c1; have t2 := hSw.c2; have t3 := hSw.c3; clear hSw; go_simp; try (with_reducible rfl))
        try simp only [Act.put, List.setIfInBounds_toArray, List.set_cons_zero, List.set_cons_succ]
        refine wpAnyH_take (i := 20) (oi := ⟨_, _, _, _, _, _⟩) (v := ?_) rfl (by kernel_rfl) (by kernel_rfl) (by kernel_rfl) (fun _ _ _ h => h) (Or.inl ⟨by rfl, ?_⟩) hHeld ?_
        rotate_left
        · (intro w hSw; (try dsimp only at hSw); have s0 := hSw.a0; have s1 := hSw.a1; have s2 := hSw.a2; have s3 := hSw.a3; have t0 := hSw.c0; have t1 := hSw.c1; have t2 := hSw.c2; have t3 := hSw.c3; clear hSw; go_simp; try (with_reducible rfl))
        try simp only [Act.put, List.setIfInBounds_toArray, List.set_cons_zero, List.set_cons_succ]
        refine wpAnyH_take (i := 21) (oi := ⟨_, _, _, _, _, _⟩) (v := ?_) rfl (by kernel_rfl) (by kernel_rfl) (by kernel_rfl) (fun _ _ _ h => h) (Or.inl ⟨by rfl, ?_⟩) hHeld ?_
        rotate_left
        · (intro w hSw; (try dsimp only at hSw); have s0 := hSw.a0; have s1 := hSw.a1; have s2 := hSw.a2; have s3 := hSw.a3; have t0 := hSw.c0; have t1 := hSw.c1; have t2 := hSw.c2; have t3 := hSw.c3; clear hSw; go_simp; try (with_reducible rfl))
        try simp only [Act.put, List.setIfInBounds_toArray, List.set_cons_zero, List.set_cons_succ]
        refine wpAnyH_take (i := 22) (oi := ⟨_, _, _, _, _, _⟩) (v := ?_) rfl (by kernel_rfl) (by kernel_rfl) (by kernel_rfl) (fun _ _ _ h => h) (Or.inl ⟨by rfl, ?_⟩) hHeld ?_
        rotate_left
        · (intro w hSw; (try dsimp only at hSw); have s0 := hSw.a0; have s1 := hSw.a1; have s2 := hSw.a2; have s3 := hSw.a3; have t0 := hSw.c0; have t1 := hSw.c1; have t2 := hSw.c2; have t3 := hSw.c3; clear hSw; go_simp; try (with_reducible rfl))
        try simp only [Act.put, List.setIfInBounds_toArray, List.set_cons_zero, List.set_cons_succ]
        refine wpAnyH_take (i := 23) (oi := ⟨_, _, _, _, _, _⟩) (v := ?_) rfl (by kernel_rfl) (by kernel_rfl) (by kernel_rfl) (fun _ _ _ h => h) (Or.inl ⟨by rfl, ?_⟩) hHeld ?_
        rotate_left
        · (intro w hSw; (try dsimp only at hSw); have s0 := hSw.a0; have s1 := hSw.a1; have s2 := hSw.a2; have s3 := hSw.a3; have t0 := hSw.c0; have t1 := hSw.c1; have t2 := hSw.c2; have t3 := hSw.c3; clear hSw; go_simp; try (with_reducible rfl))
        try simp only [Act.put, List.setIfInBounds_toArray, List.set_cons_zero, List.set_cons_succ]
        refine wpAnyH_take (i := 24) (oi := ⟨_, _, _, _, _, _⟩) (v := ?_) rfl (by kernel_rfl) (by kernel_rfl) (by kernel_rfl) (fun _ _ _ h => h) (Or.inl ⟨by rfl, ?_⟩) hHeld ?_
        rotate_left
        · (intro w hSw; (try dsimp only at hSw); have s0 := hSw.a0; have s1 := hSw.a1; have s2 := hSw.a2; have s3 := hSw.a3; have t0 := hSw.c0; have t1 := hSw.c1; have t2 := hSw.c2; have t3 := hSw.c3; clear hSw; go_simp; try (with_reducible rfl))
        try simp only [Act.put, List.setIfInBounds_toArray, List.set_cons_zero, List.set_cons_succ]
        refine wpAnyH_take (i := 25) (oi := ⟨_, _, _, _, _, _⟩) (v := ?_) rfl (by kernel_rfl) (by kernel_rfl) (by kernel_rfl) (fun _ _ _ h => h) (Or.inl ⟨by rfl, ?_⟩) hHeld ?_
        rotate_left
        · (intro w hSw; (try dsimp only at hSw); have s0 := hSw.a0; have s1 := hSw.a1; have s2 := hSw.a2; have s3 := hSw.a3; have t0 := hSw.c0; have t1 := hSw.c1; have t2 := hSw.c2; have t3 := hSw.c3; clear hSw; go_simp; try (with_reducible rfl))
        try simp only [Act.put, List.setIfInBounds_toArray, List.set_cons_zero, List.set_cons_succ]
        refine wpAnyH_take (i := 26) (oi := ⟨_, _, _, _, _, _⟩) (v := ?_) rfl (by kernel_rfl) (by kernel_rfl) (by kernel_rfl) (fun _ _ _ h => h) (Or.inl ⟨by rfl, ?_⟩) hHeld ?_
        rotate_left
        · (intro w hSw; (try dsimp only at hSw); have s0 := hSw.a0; have s1 := hSw.a1; have s2 := hSw.a2; have s3 := hSw.a3; have t0 := hSw.c0; have t1 := hSw.c1; have t2 := hSw.c2; have t3 := hSw.c3; clear hSw; go_simp; try (with_reducible rfl))
        try simp only [Act.put, List.setIfInBounds_toArray, List.set_cons_zero, List.set_cons_succ]
        refine wpAnyH_take (i := 27) (oi := ⟨_, _, _, _, _, _⟩) (v := ?_) rfl (by kernel_rfl) (by kernel_rfl) (by kernel_rfl) (fun _ _ _ h => h) (Or.inl ⟨by rfl, ?_⟩) hHeld ?_
        rotate_left
        · (intro w hSw; (try dsimp only at hSw); have s0 := hSw.a0; have s1 := hSw.a1; have s2 := hSw.a2; have s3 := hSw.a3; have t0 := hSw.c0; have t1 := hSw.c1; have t2 := hSw.c2; have t3 := hSw.c3; clear hSw; go_simp; try (with_reducible rfl))
        try simp only [Act.put, List.setIfInBounds_toArray, List.set_cons_zero, List.set_cons_succ]
        refine wpAnyH_take (i := 28) (oi := ⟨_, _, _, _, _, _⟩) (v := ?_) rfl (by kernel_rfl) (by kernel_rfl) (by kernel_rfl) (fun _ _ _ h => h) (Or.inl ⟨by rfl, ?_⟩) hHeld ?_
        rotate_left
        · (intro w hSw; (try dsimp only at hSw); have s0 := hSw.a0; have s1 := hSw.a1; have s2 := hSw.a2; have s3 := hSw.a3; have t0 := hSw.c0; have t1 := hSw.c1; have t2 := hSw.c2; have t3 := hSw.c3; clear hSw; go_simp; try (with_reducible rfl))
        try simp only [Act.put, List.setIfInBounds_toArray, List.set_cons_zero, List.set_cons_succ]
        refine wpAnyH_take (i := 29) (oi := ⟨_, _, _, _, _, _⟩) (v := ?_) rfl (by kernel_rfl) (by kernel_rfl) (by kernel_rfl) (fun _ _ _ h => h) (Or.inl ⟨by rfl, ?_⟩) hHeld ?_
        rotate_left
        · (intro w hSw; (try dsimp only at hSw); have s0 := hSw.a0; have s1 := hSw.a1; have s2 := hSw.a2; have s3 := hSw.a3; have t0 := hSw.c0; have t1 := hSw.c1; have t2 := hSw.c2; have t3 := hSw.c3; clear hSw; go_simp; try (with_reducible rfl))
        try simp only [Act.put, List.setIfInBounds_toArray, List.set_cons_zero, List.set_cons_succ]
        refine wpAnyH_take (i := 30) (oi := ⟨_, _, _, _, _, _⟩) (v := ?_) rfl (by kernel_rfl) (by kernel_rfl) (by kernel_rfl) (fun _ _ _ h => h) (Or.inl ⟨by rfl, ?_⟩) hHeld ?_
        rotate_left
        · (intro w hSw; (try dsimp only at hSw); have s0 := hSw.a0; have s1 := hSw.a1; have s2 := hSw.a2; have s3 := hSw.a3; have t0 := hSw.c0; have t1 := hSw.c1; have t2 := hSw.c2; have t3 := hSw.c3; clear hSw; go_simp; try (with_reducible rfl))
        try simp only [Act.put, List.setIfInBounds_toArray, List.set_cons_zero, List.set_cons_succ]
        refine wpAnyH_take (i := 31) (oi := ⟨_, _, _, _, _, _⟩) (v := ?_) rfl (by kernel_rfl) (by kernel_rfl) (by kernel_rfl) (fun _ _ _ h => h) (Or.inl ⟨by rfl, ?_⟩) hHeld ?_
        rotate_left
        · (intro w hSw; (try dsimp only at hSw); have s0 := hSw.a0; have s1 := hSw.a1; have s2 := hSw.a2; have s3 := hSw.a3; have t0 := hSw.c0; have t1 := hSw.c1; have t2 := hSw.c2; have t3 := hSw.c3; clear hSw; go_simp; try (with_reducible rfl))
        try simp only [Act.put, List.setIfInBounds_toArray, List.set_cons_zero, List.set_cons_succ]
        refine wpAnyH_take (i := 32) (oi := ⟨_, _, _, _, _, _⟩) (v := undef) rfl (by kernel_rfl) (by kernel_rfl) (by kernel_rfl) (fun _ _ _ h => h) (Or.inr ⟨by rfl, rfl⟩) hHeld ?_
        try simp only [Act.put, List.setIfInBounds_toArray, List.set_cons_zero, List.set_cons_succ]
        refine wpAnyH_take (i := 33) (oi := ⟨_, _, _, _, _, _⟩) (v := undef) rfl (by kernel_rfl) (by kernel_rfl) (by kernel_rfl) (fun _ _ _ h => h) (Or.inr ⟨by rfl, rfl⟩) hHeld ?_
        try simp only [Act.put, List.setIfInBounds_toArray, List.set_cons_zero, List.set_cons_succ]
        refine wpAnyH_take (i := 34) (oi := ⟨_, _, _, _, _, _⟩) (v := undef) rfl (by kernel_rfl) (by kernel_rfl) (by kernel_rfl) (fun _ _ _ h => h) (Or.inr ⟨by rfl, rfl⟩) hHeld ?_
        try simp only [Act.put, List.setIfInBounds_toArray, List.set_cons_zero, List.set_cons_succ]
        refine wpAnyH_take (i := 35) (oi := ⟨_, _, _, _, _, _⟩) (v := undef) rfl (by kernel_rfl) (by kernel_rfl) (by kernel_rfl) (fun _ _ _ h => h) (Or.inr ⟨by rfl, rfl⟩) hHeld ?_
        try simp only [Act.put, List.setIfInBounds_toArray, List.set_cons_zero, List.set_cons_succ]
        refine wpAnyH_take (i := 36) (oi := ⟨_, _, _, _, _, _⟩) (v := undef) rfl (by kernel_rfl) (by kernel_rfl) (by kernel_rfl) (fun _ _ _ h => h) (Or.inr ⟨by rfl, rfl⟩) hHeld ?_
        try simp only [Act.put, List.setIfInBounds_toArray, List.set_cons_zero, List.set_cons_succ]
        refine wpAnyH_take (i := 37) (oi := ⟨_, _, _, _, _, _⟩) (v := undef) rfl (by kernel_rfl) (by kernel_rfl) (by kernel_rfl) (fun _ _ _ h => h) (Or.inr ⟨by rfl, rfl⟩) hHeld ?_
        try simp only [Act.put, List.setIfInBounds_toArray, List.set_cons_zero, List.set_cons_succ]
        refine wpAnyH_take (i := 38) (oi := ⟨_, _, _, _, _, _⟩) (v := undef) rfl (by kernel_rfl) (by kernel_rfl) (by kernel_rfl) (fun _ _ _ h => h) (Or.inr ⟨by rfl, rfl⟩) hHeld ?_
        try simp only [Act.put, List.setIfInBounds_toArray, List.set_cons_zero, List.set_cons_succ]
        refine wpAnyH_take (i := 39) (oi := ⟨_, _, _, _, _, _⟩) (v := undef) rfl (by kernel_rfl) (by kernel_rfl) (by kernel_rfl) (fun _ _ _ h => h) (Or.inr ⟨by rfl, rfl⟩) hHeld ?_
        try simp only [Act.put, List.setIfInBounds_toArray, List.set_cons_zero, List.set_cons_succ]
        refine wpAnyH_take (i := 40) (oi := ⟨_, _, _, _, _, _⟩) (v := undef) rfl (by kernel_rfl) (by kernel_rfl) (by kernel_rfl) (fun _ _ _ h => h) (Or.inr ⟨by rfl, rfl⟩) hHeld ?_
        try simp only [Act.put, List.setIfInBounds_toArray, List.set_cons_zero, List.set_cons_succ]
        refine wpAnyH_take (i := 41) (oi := ⟨_, _, _, _, _, _⟩) (v := ?_) rfl (by kernel_rfl) (by kernel_rfl) (by kernel_rfl) (fun _ _ _ h => h) (Or.inl ⟨by rfl, ?_⟩) hHeld ?_
        rotate_left
        · (intro w hSw; (try dsimp only at hSw); have s0 := hSw.a0; have s1 := hSw.a1; have s2 := hSw.a2; have s3 := hSw.a3; have t0 := hSw.c0; have t1 := hSw.c1; have t2 := hSw.c2; have t3 := hSw.c3; clear hSw; go_simp; try (with_reducible rfl))
        try simp only [Act.put, List.setIfInBounds_toArray, List.set_cons_zero, List.set_cons_succ]
        refine wpAnyH_take (i := 42) (oi := ⟨_, _, _, _, _, _⟩) (v := ?_) rfl (by kernel_rfl) (by kernel_rfl) (by kernel_rfl) (fun _ _ _ h => h) (Or.inl ⟨by rfl, ?_⟩) hHeld ?_
        rotate_left
        · (intro w hSw; (try dsimp only at hSw); have s0 := hSw.a0; have s1 := hSw.a1; have s2 := hSw.a2; have s3 := hSw.a3; have t0 := hSw.c0; have t1 := hSw.c1; have t2 := hSw.c2; have t3 := hSw.c3; clear hSw; go_simp; try (with_reducible rfl))
        try simp only [Act.put, List.setIfInBounds_toArray, List.set_cons_zero, List.set_cons_succ]
        refine wpAnyH_done (by kernel_rfl) ?_ _
        have hbq := hHeld.bel
        clear hHeld
        go_wp2
        go_ret
        exact ⟨rfl, hbq⟩
    · subst e0
      have hs : samePB md st pv xs md st2 pv2 ys = false := by simp [samePB, e1]
      rw [hs]
      clear hs
      have q0 : (md == md) = true := by simp
      have q1 : (st == st2) = false := by simpa using e1
      clear e1
      go_enter Try.func133, Try.ntmps133
      go_wp2_with fail
      refine wp_region_held_drew (S := (fun w' => KeepS w b c md st pv (.slice a1 xs.length c1) md st2 pv2 (.slice a2 ys.length c2) xs ys w')) (by kernel_rfl) ?_ (fun hHeld => ?_)
      · (try dsimp only); exact ⟨Below.drew (Below.refl _ w), k0, k1, k2, k3, j0, j1, j2, j3, h1, h2⟩
      refine wpAnyH_take (i := 0) (oi := ⟨_, _, _, _, _, _⟩) (v := ?_) rfl (by kernel_rfl) (by kernel_rfl) (by kernel_rfl) (fun _ _ _ h => h) (Or.inl ⟨by rfl, ?_⟩) hHeld ?_
      rotate_left
      · (intro w hSw; (try dsimp only at hSw); have s0 := hSw.a0; have s1 := hSw.a1; have s2 := hSw.a2; have s3 := hSw.a3; have t0 := hSw.c0; have t1 := hSw.c1; have t2 := hSw.c2; have t3 := hSw.c3; clear hSw; go_simp; try (with_reducible rfl))
      try simp only [Act.put, List.setIfInBounds_toArray, List.set_cons_zero, List.set_cons_succ]
      refine wpAnyH_take (i := 1) (oi := ⟨_, _, _, _, _, _⟩) (v := ?_) rfl (by kernel_rfl) (by kernel_rfl) (by kernel_rfl) (fun _ _ _ h => h) (Or.inl ⟨by rfl, ?_⟩) hHeld ?_
      rotate_left
      · (intro w hSw; (try dsimp only at hSw); have s0 := hSw.a0; have s1 := hSw.a1; have s2 := hSw.a2; have s3 := hSw.a3; have t0 := hSw.c0; have t1 := hSw.c1; have t2 := hSw.c2; have t3 := hSw.c3; clear hSw; go_simp; try (with_reducible rfl))
      try simp only [Act.put, List.setIfInBounds_toArray, List.set_cons_zero, List.set_cons_succ]
      refine wpAnyH_take (i := 2) (oi := ⟨_, _, _, _, _, _⟩) (v := ?_) rfl (by kernel_rfl) (by kernel_rfl) (by kernel_rfl) (fun _ _ _ h => h) (Or.inl ⟨by rfl, ?_⟩) hHeld ?_
      rotate_left
      · (intro w hSw; (try dsimp only at hSw); have s0 := hSw.a0; have s1 := hSw.a1; have s2 := hSw.a2; have s3 := hSw.a3; have t0 := hSw.c0; have t1 := hSw.c1; have t2 := hSw.c2; have t3 := hSw.c3; clear hSw; go_simp; try (with_reducible rfl))
      try simp only [Act.put, List.setIfInBounds_toArray, List.set_cons_zero, List.set_cons_succ]
      refine wpAnyH_take (i := 3) (oi := ⟨_, _, _, _, _, _⟩) (v := ?_) rfl (by kernel_rfl) (by kernel_rfl) (by kernel_rfl) (fun _ _ _ h => h) (Or.inl ⟨by rfl, ?_⟩) hHeld ?_
      rotate_left
      · (intro w hSw; (try dsimp only at hSw); have s0 := hSw.a0; have s1 := hSw.a1; have s2 := hSw.a2; have s3 := hSw.a3; have t0 := hSw.c0; have t1 := hSw.c1; have t2 := hSw.c2; have t3 := hSw.c3; clear hSw; go_simp; try (with_reducible rfl))
      try simp only [Act.put, List.setIfInBounds_toArray, List.set_cons_zero, List.set_cons_succ]
      refine wpAnyH_take (i := 4) (oi := ⟨_, _, _, _, _, _⟩) (v := ?_) rfl (by kernel_rfl) (by kernel_rfl) (by kernel_rfl) (fun _ _ _ h => h) (Or.inl ⟨by rfl, ?_⟩) hHeld ?_
      rotate_left
      · (intro w hSw; (try dsimp only at hSw); have s0 := hSw.a0; have s1 := hSw.a1; have s2 := hSw.a2; have s3 := hSw.a3; have t0 := hSw.c0; have t1 := hSw.c1; have t2 := hSw.c2; have t3 := hSw.c3; clear hSw; go_simp; try (with_reducible rfl))
      try simp only [Act.put, List.setIfInBounds_toArray, List.set_cons_zero, List.set_cons_succ]
      refine wpAnyH_take (i := 5) (oi := ⟨_, _, _, _, _, _⟩) (v := ?_) rfl (by kernel_rfl) (by kernel_rfl) (by kernel_rfl) (fun _ _ _ h => h) (Or.inl ⟨by rfl, ?_⟩) hHeld ?_
      rotate_left
      · (intro w hSw; (try dsimp only at hSw); have s0 := hSw.a0; have s1 := hSw.a1; have s2 := hSw.a2; have s3 := hSw.a3; have t0 := hSw.c0; have t1 := hSw.c1; have t2 := hSw.c2; have t3 := hSw.c3; clear hSw; go_simp; try (with_reducible rfl))
      try simp only [Act.put, List.setIfInBounds_toArray, List.set_cons_zero, List.set_cons_succ]
      refine wpAnyH_take (i := 6) (oi := ⟨_, _, _, _, _, _⟩) (v := ?_) rfl (by kernel_rfl) (by kernel_rfl) (by kernel_rfl) (fun _ _ _ h => h) (Or.inl ⟨by rfl, ?_⟩) hHeld ?_
      rotate_left
      · (intro w hSw; (try dsimp only at hSw); have s0 := hSw.a0; have s1 := hSw.a1; have s2 := hSw.a2; have s3 := hSw.a3; have t0 := hSw.c0; have t1 := hSw.c1; have t2 := hSw.c2; have t3 := hSw.c3; clear hSw; go_simp; try (with_reducible rfl))
      try simp only [Act.put, List.setIfInBounds_toArray, List.set_cons_zero, List.set_cons_succ]
      refine wpAnyH_take (i := 7) (oi := ⟨_, _, _, _, _, _⟩) (v := ?_) rfl (by kernel_rfl) (by kernel_rfl) (by kernel_rfl) (fun _ _ _ h => h) (Or.inl ⟨by rfl, ?_⟩) hHeld ?_
      rotate_left
      · (intro w hSw; (try dsimp only at hSw); have s0 := hSw.a0; have s1 := hSw.a1; have s2 := hSw.a2; have s3 := hSw.a3; have t0 := hSw.c0; have t1 := hSw.c1; have t2 := hSw.c2; have t3 := hSw.c3; clear hSw; go_simp; try (with_reducible rfl))
      try simp only [Act.put, List.setIfInBounds_toArray, List.set_cons_zero, List.set_cons_succ]
      refine wpAnyH_take (i := 8) (oi := ⟨_, _, _, _, _, _⟩) (v := ?_) rfl (by kernel_rfl) (by kernel_rfl) (by kernel_rfl) (fun _ _ _ h => h) (Or.inl ⟨by rfl, ?_⟩) hHeld ?_
      rotate_left
      · (intro w hSw; (try dsimp only at hSw); have s0 := hSw.a0; have s1 := hSw.a1; have s2 := hSw.a2; have s3 := hSw.a3; have t0 := hSw.c0; have t1 := hSw.c1; have t2 := hSw.c2; have t3 := hSw.c3; clear hSw; go_simp; try (with_reducible rfl))
      try simp only [Act.put, List.setIfInBounds_toArray, List.set_cons_zero, List.set_cons_succ]
      refine wpAnyH_take (i := 9) (oi := ⟨_, _, _, _, _, _⟩) (v := ?_) rfl (by kernel_rfl) (by kernel_rfl) (by kernel_rfl) (fun _ _ _ h => h) (Or.inl ⟨by rfl, ?_⟩) hHeld ?_
      rotate_left
      · (intro w hSw; (try dsimp only at hSw); have s0 := hSw.a0; have s1 := hSw.a1; have s2 := hSw.a2; have s3 := hSw.a3; have t0 := hSw.c0; have t1 := hSw.c1; have t2 := hSw.c2; have t3 := hSw.c3; clear hSw; go_simp; try (with_reducible rfl))
      try simp only [Act.put, List.setIfInBounds_toArray, List.set_cons_zero, List.set_cons_succ]
      refine wpAnyH_take (i := 10) (oi := ⟨_, _, _, _, _, _⟩) (v := ?_) rfl (by kernel_rfl) (by kernel_rfl) (by kernel_rfl) (fun _ _ _ h => h) (Or.inl ⟨by rfl, ?_⟩) hHeld ?_
      rotate_left
      · (intro w hSw; (try dsimp only at hSw); have s0 := hSw.a0; have s1 := hSw.a1; have s2 := hSw.a2; have s3 := hSw.a3; have t0 := hSw.c0; have t1 := hSw.c1; have t2 := hSw.c2; have t3 := hSw.c3; clear hSw; go_simp; try (with_reducible rfl))
      try simp only [Act.put, List.setIfInBounds_toArray, List.set_cons_zero, List.set_cons_succ]
      refine wpAnyH_take (i := 11) (oi := ⟨_, _, _, _, _, _⟩) (v := ?_) rfl (by kernel_rfl) (by kernel_rfl) (by kernel_rfl) (fun _ _ _ h => h) (Or.inl ⟨by rfl, ?_⟩) hHeld ?_
      rotate_left
      · (intro w hSw; (try dsimp only at hSw); have s0 := hSw.a0; have s1 := hSw.a1; have s2 := hSw.a2; have s3 := hSw.a3; have t0 := hSw.c0; have t1 := hSw.c1; have t2 := hSw.c2; have t3 := hSw.c3; clear hSw; go_simp; try (with_reducible rfl))
      try simp only [Act.put, List.setIfInBounds_toArray, List.set_cons_zero, List.set_cons_succ]
      refine wpAnyH_take (i := 12) (oi := ⟨_, _, _, _, _, _⟩) (v := ?_) rfl (by kernel_rfl) (by kernel_rfl) (by kernel_rfl) (fun _ _ _ h => h) (Or.inl ⟨by rfl, ?_⟩) hHeld ?_
      rotate_left
      · (intro w hSw; (try dsimp only at hSw); have s0 := hSw.a0; have s1 := hSw.a1; have s2 := hSw.a2; have s3 := hSw.a3; have t0 := hSw.c0; have t1 := hSw.c1; have t2 := hSw.c2; have t3 := hSw.c3; clear hSw; go_simp; try (with_reducible rfl))
      try simp only [Act.put, List.setIfInBounds_toArray, List.set_cons_zero, List.set_cons_succ]
      refine wpAnyH_take (i := 13) (oi := ⟨_, _, _, _, _, _⟩) (v := ?_) rfl (by kernel_rfl) (by kernel_rfl) (by kernel_rfl) (fun _ _ _ h => h) (Or.inl ⟨by rfl, ?_⟩) hHeld ?_
      rotate_left
      · (intro w hSw; (try dsimp only at hSw); have s0 := hSw.a0; have s1 := hSw.a1; have s2 := hSw.a2; have s3 := hSw.a3; have t0 := hSw.c0; have t1 := hSw.c1; have t2 := hSw.c2; have t3 := hSw.c3; clear hSw; go_simp; try (with_reducible rfl))
      try simp only [Act.put, List.setIfInBounds_toArray, List.set_cons_zero, List.set_cons_succ]
      refine wpAnyH_take (i := 14) (oi := ⟨_, _, _, _, _, _⟩) (v := ?_) rfl (by kernel_rfl) (by kernel_rfl) (by kernel_rfl) (fun _ _ _ h => h) (Or.inl ⟨by rfl, ?_⟩) hHeld ?_
      rotate_left
      · (intro w hSw; (try dsimp only at hSw); have s0 := hSw.a0; have s1 := hSw.a1; have s2 := hSw.a2; have s3 := hSw.a3; have t0 := hSw.c0; have t1 := hSw.c1; have t2 := hSw.c2; have t3 := hSw.c3; clear hSw; go_simp; try (with_reducible rfl))
      try simp only [Act.put, List.setIfInBounds_toArray, List.set_cons_zero, List.set_cons_succ]
      refine wpAnyH_take (i := 15) (oi := ⟨_, _, _, _, _, _⟩) (v := ?_) rfl (by kernel_rfl) (by kernel_rfl) (by kernel_rfl) (fun _ _ _ h => h) (Or.inl ⟨by rfl, ?_⟩) hHeld ?_
      rotate_left
      · (intro w hSw; (try dsimp only at hSw); have s0 := hSw.a0; have s1 := hSw.a1; have s2 := hSw.a2; have s3 := hSw.a3; have t0 := hSw.c0; have t1 := hSw.c1; have t2 := hSw.c2; have t3 := hSw.c3; clear hSw; go_simp; try (with_reducible rfl))
      try simp only [Act.put, List.setIfInBounds_toArray, List.set_cons_zero, List.set_cons_succ]
      refine wpAnyH_take (i := 16) (oi := ⟨_, _, _, _, _, _⟩) (v := ?_) rfl (by kernel_rfl) (by kernel_rfl) (by kernel_rfl) (fun _ _ _ h => h) (Or.inl ⟨by rfl, ?_⟩) hHeld ?_
      rotate_left
      · (intro w hSw; (try dsimp only at hSw); have s0 := hSw.a0; have s1 := hSw.a1; have s2 := hSw.a2; have s3 := hSw.a3; have t0 := hSw.c0; have t1 := hSw.c1; have t2 := hSw.c2; have t3 := hSw.c3; clear hSw; go_simp; try (with_reducible rfl))
      try simp only [Act.put, List.setIfInBounds_toArray, List.set_cons_zero, List.set_cons_succ]
      refine wpAnyH_take (i := 17) (oi := ⟨_, _, _, _, _, _⟩) (v := ?_) rfl (by kernel_rfl) (by kernel_rfl) (by kernel_rfl) (fun _ _ _ h => h) (Or.inl ⟨by rfl, ?_⟩) hHeld ?_
      rotate_left
      · (intro w hSw; (try dsimp only at hSw); have s0 := hSw.a0; have s1 := hSw.a1; have s2 := hSw.a2; have s3 := hSw.a3; have t0 := hSw.c0; have t1 := hSw.c1; have t2 := hSw.c2; have t3 := hSw.c3; clear hSw; go_simp; try (with_reducible rfl))
      try simp only [Act.put, List.setIfInBounds_toArray, List.set_cons_zero, List.set_cons_succ]
      refine wpAnyH_take (i := 18) (oi := ⟨_, _, _, _, _, _⟩) (v := ?_) rfl (by kernel_rfl) (by kernel_rfl) (by kernel_rfl) (fun _ _ _ h => h) (Or.inl ⟨by rfl, ?_⟩) hHeld ?_
      rotate_left
      · (intro w hSw; (try dsimp only at hSw); have s0 := hSw.a0; have s1 := hSw.a1; have s2 := hSw.a2; have s3 := hSw.a3; have t0 := hSw.c0; have t1 := hSw.c1; have t2 := hSw.c2; have t3 := hSw.c3; clear hSw; go_simp; try (with_reducible rfl))
      try simp only [Act.put, List.setIfInBounds_toArray, List.set_cons_zero, List.set_cons_succ]
      refine wpAnyH_take (i := 19) (oi := ⟨_, _, _, _, _, _⟩) (v := ?_) rfl (by kernel_rfl) (by kernel_rfl) (by kernel_rfl) (fun _ _ _ h => h) (Or.inl ⟨by rfl, ?_⟩) hHeld ?_
      rotate_left
      · (intro w hSw; (try dsimp only at hSw); have s0 := hSw.a0; have s1 := hSw.a1; have s2 := hSw.a2; have s3 := hSw.a3; have t0 := hSw.c0; have t1 := hSw.c1; have t2 := hSw.c2; have t3 := hSw.c3; clear hSw; go_simp; try (with_reducible rfl))
      try simp only [Act.put, List.setIfInBounds_toArray, List.set_cons_zero, List.set_cons_succ]
      refine wpAnyH_take (i := 20) (oi := ⟨_, _, _, _, _, _⟩) (v := ?_) rfl (by kernel_rfl) (by kernel_rfl) (by kernel_rfl) (fun _ _ _ h => h) (Or.inl ⟨by rfl, ?_⟩) hHeld ?_
      rotate_left
      · (intro w hSw; (try dsimp only at hSw); have s0 := hSw.a0; have s1 := hSw.a1; have s2 := hSw.a2; have s3 := hSw.a3; have t0 := hSw.c0; have t1 := hSw.c1; have t2 := hSw.c2; have t3 := hSw.c3; clear hSw; go_simp; try (with_reducible rfl))
      try simp only [Act.put, List.setIfInBounds_toArray, List.set_cons_zero, List.set_cons_succ]
      refine wpAnyH_take (i := 21) (oi := ⟨_, _, _, _, _, _⟩) (v := undef) rfl (by kernel_rfl) (by kernel_rfl) (by kernel_rfl) (fun _ _ _ h => h) (Or.inr ⟨by rfl, rfl⟩) hHeld ?_
      try simp only [Act.put, List.setIfInBounds_toArray, List.set_cons_zero, List.set_cons_succ]
      refine wpAnyH_take (i := 22) (oi := ⟨_, _, _, _, _, _⟩) (v := undef) rfl (by kernel_rfl) (by kernel_rfl) (by kernel_rfl) (fun _ _ _ h => h) (Or.inr ⟨by rfl, rfl⟩) hHeld ?_
      try simp only [Act.put, List.setIfInBounds_toArray, List.set_cons_zero, List.set_cons_succ]
      refine wpAnyH_take (i := 23) (oi := ⟨_, _, _, _, _, _⟩) (v := undef) rfl (by kernel_rfl) (by kernel_rfl) (by kernel_rfl) (fun _ _ _ h => h) (Or.inr ⟨by rfl, rfl⟩) hHeld ?_
      try simp only [Act.put, List.setIfInBounds_toArray, List.set_cons_zero, List.set_cons_succ]
      refine wpAnyH_take (i := 24) (oi := ⟨_, _, _, _, _, _⟩) (v := undef) rfl (by kernel_rfl) (by kernel_rfl) (by kernel_rfl) (fun _ _ _ h => h) (Or.inr ⟨by rfl, rfl⟩) hHeld ?_
      try simp only [Act.put, List.setIfInBounds_toArray, List.set_cons_zero, List.set_cons_succ]
      refine wpAnyH_take (i := 25) (oi := ⟨_, _, _, _, _, _⟩) (v := undef) rfl (by kernel_rfl) (by kernel_rfl) (by kernel_rfl) (fun _ _ _ h => h) (Or.inr ⟨by rfl, rfl⟩) hHeld ?_
      try simp only [Act.put, List.setIfInBounds_toArray, List.set_cons_zero, List.set_cons_succ]
      refine wpAnyH_take (i := 26) (oi := ⟨_, _, _, _, _, _⟩) (v := undef) rfl (by kernel_rfl) (by kernel_rfl) (by kernel_rfl) (fun _ _ _ h => h) (Or.inr ⟨by rfl, rfl⟩) hHeld ?_
      try simp only [Act.put, List.setIfInBounds_toArray, List.set_cons_zero, List.set_cons_succ]
      refine wpAnyH_take (i := 27) (oi := ⟨_, _, _, _, _, _⟩) (v := undef) rfl (by kernel_rfl) (by kernel_rfl) (by kernel_rfl) (fun _ _ _ h => h) (Or.inr ⟨by rfl, rfl⟩) hHeld ?_
      try simp only [Act.put, List.setIfInBounds_toArray, List.set_cons_zero, List.set_cons_succ]
      refine wpAnyH_take (i := 28) (oi := ⟨_, _, _, _, _, _⟩) (v := undef) rfl (by kernel_rfl) (by kernel_rfl) (by kernel_rfl) (fun _ _ _ h => h) (Or.inr ⟨by rfl, rfl⟩) hHeld ?_
      try simp only [Act.put, List.setIfInBounds_toArray, List.set_cons_zero, List.set_cons_succ]
      refine wpAnyH_take (i := 29) (oi := ⟨_, _, _, _, _, _⟩) (v := undef) rfl (by kernel_rfl) (by kernel_rfl) (by kernel_rfl) (fun _ _ _ h => h) (Or.inr ⟨by rfl, rfl⟩) hHeld ?_
      try simp only [Act.put, List.setIfInBounds_toArray, List.set_cons_zero, List.set_cons_succ]
      refine wpAnyH_take (i := 30) (oi := ⟨_, _, _, _, _, _⟩) (v := ?_) rfl (by kernel_rfl) (by kernel_rfl) (by kernel_rfl) (fun _ _ _ h => h) (Or.inl ⟨by rfl, ?_⟩) hHeld ?_
      rotate_left
      · (intro w hSw; (try dsimp only at hSw); have s0 := hSw.a0; have s1 := hSw.a1; have s2 := hSw.a2; have s3 := hSw.a3; have t0 := hSw.c0; have t1 := hSw.c1; have t2 := hSw.c2; have t3 := hSw.c3; clear hSw; go_simp; try (with_reducible rfl))
      try simp only [Act.put, List.setIfInBounds_toArray, List.set_cons_zero, List.set_cons_succ]
      refine wpAnyH_take (i := 31) (oi := ⟨_, _, _, _, _, _⟩) (v := ?_) rfl (by kernel_rfl) (by kernel_rfl) (by kernel_rfl) (fun _ _ _ h => h) (Or.inl ⟨by rfl, ?_⟩) hHeld ?_
      rotate_left
      · (intro w hSw; (try dsimp only at hSw); have s0 := hSw.a0; have s1 := hSw.a1; have s2 := hSw.a2; have s3 := hSw.a3; have t0 := hSw.c0; have t1 := hSw.c1; have t2 := hSw.c2; have t3 := hSw.c3; clear hSw; go_simp; try (with_reducible rfl))
      try simp only [Act.put, List.setIfInBounds_toArray, List.set_cons_zero, List.set_cons_succ]
      refine wpAnyH_take (i := 32) (oi := ⟨_, _, _, _, _, _⟩) (v := undef) rfl (by kernel_rfl) (by kernel_rfl) (by kernel_rfl) (fun _ _ _ h => h) (Or.inr ⟨by rfl, rfl⟩) hHeld ?_
      try simp only [Act.put, List.setIfInBounds_toArray, List.set_cons_zero, List.set_cons_succ]
      refine wpAnyH_take (i := 33) (oi := ⟨_, _, _, _, _, _⟩) (v := undef) rfl (by kernel_rfl) (by kernel_rfl) (by kernel_rfl) (fun _ _ _ h => h) (Or.inr ⟨by rfl, rfl⟩) hHeld ?_
      try simp only [Act.put, List.setIfInBounds_toArray, List.set_cons_zero, List.set_cons_succ]
      refine wpAnyH_take (i := 34) (oi := ⟨_, _, _, _, _, _⟩) (v := undef) rfl (by kernel_rfl) (by kernel_rfl) (by kernel_rfl) (fun _ _ _ h => h) (Or.inr ⟨by rfl, rfl⟩) hHeld ?_
      try simp only [Act.put, List.setIfInBounds_toArray, List.set_cons_zero, List.set_cons_succ]
      refine wpAnyH_take (i := 35) (oi := ⟨_, _, _, _, _, _⟩) (v := undef) rfl (by kernel_rfl) (by kernel_rfl) (by kernel_rfl) (fun _ _ _ h => h) (Or.inr ⟨by rfl, rfl⟩) hHeld ?_
      try simp only [Act.put, List.setIfInBounds_toArray, List.set_cons_zero, List.set_cons_succ]
      refine wpAnyH_take (i := 36) (oi := ⟨_, _, _, _, _, _⟩) (v := undef) rfl (by kernel_rfl) (by kernel_rfl) (by kernel_rfl) (fun _ _ _ h => h) (Or.inr ⟨by rfl, rfl⟩) hHeld ?_
      try simp only [Act.put, List.setIfInBounds_toArray, List.set_cons_zero, List.set_cons_succ]
      refine wpAnyH_take (i := 37) (oi := ⟨_, _, _, _, _, _⟩) (v := undef) rfl (by kernel_rfl) (by kernel_rfl) (by kernel_rfl) (fun _ _ _ h => h) (Or.inr ⟨by rfl, rfl⟩) hHeld ?_
      try simp only [Act.put, List.setIfInBounds_toArray, List.set_cons_zero, List.set_cons_succ]
      refine wpAnyH_take (i := 38) (oi := ⟨_, _, _, _, _, _⟩) (v := undef) rfl (by kernel_rfl) (by kernel_rfl) (by kernel_rfl) (fun _ _ _ h => h) (Or.inr ⟨by rfl, rfl⟩) hHeld ?_
      try simp only [Act.put, List.setIfInBounds_toArray, List.set_cons_zero, List.set_cons_succ]
      refine wpAnyH_take (i := 39) (oi := ⟨_, _, _, _, _, _⟩) (v := undef) rfl (by kernel_rfl) (by kernel_rfl) (by kernel_rfl) (fun _ _ _ h => h) (Or.inr ⟨by rfl, rfl⟩) hHeld ?_
      try simp only [Act.put, List.setIfInBounds_toArray, List.set_cons_zero, List.set_cons_succ]
      refine wpAnyH_take (i := 40) (oi := ⟨_, _, _, _, _, _⟩) (v := undef) rfl (by kernel_rfl) (by kernel_rfl) (by kernel_rfl) (fun _ _ _ h => h) (Or.inr ⟨by rfl, rfl⟩) hHeld ?_
      try simp only [Act.put, List.setIfInBounds_toArray, List.set_cons_zero, List.set_cons_succ]
      refine wpAnyH_take (i := 41) (oi := ⟨_, _, _, _, _, _⟩) (v := ?_) rfl (by kernel_rfl) (by kernel_rfl) (by kernel_rfl) (fun _ _ _ h => h) (Or.inl ⟨by rfl, ?_⟩) hHeld ?_
      rotate_left
      · (intro w hSw; (try dsimp only at hSw); have s0 := hSw.a0; have s1 := hSw.a1; have s2 := hSw.a2; have s3 := hSw.a3; have t0 := hSw.c0; have t1 := hSw.c1; have t2 := hSw.c2; have t3 := hSw.c3; clear hSw; go_simp; try (with_reducible rfl))
      try simp only [Act.put, List.setIfInBounds_toArray, List.set_cons_zero, List.set_cons_succ]
      refine wpAnyH_take (i := 42) (oi := ⟨_, _, _, _, _, _⟩) (v := ?_) rfl (by kernel_rfl) (by kernel_rfl) (by kernel_rfl) (fun _ _ _ h => h) (Or.inl ⟨by rfl, ?_⟩) hHeld ?_
      rotate_left
      · (intro w hSw; (try dsimp only at hSw); have s0 := hSw.a0; have s1 := hSw.a1; have s2 := hSw.a2; have s3 := hSw.a3; have t0 := hSw.c0; have t1 := hSw.c1; have t2 := hSw.c2; have t3 := hSw.c3; clear hSw; go_simp; try (with_reducible rfl))
      try simp only [Act.put, List.setIfInBounds_toArray, List.set_cons_zero, List.set_cons_succ]
      refine wpAnyH_done (by kernel_rfl) ?_ _
      have hbq := hHeld.bel
      clear hHeld
      go_wp2
      go_ret
      exact ⟨rfl, hbq⟩
  · have hs : samePB md st pv xs md2 st2 pv2 ys = false := by simp [samePB, e0]
    rw [hs]
    clear hs
    have q0 : (md == md2) = false := by simpa using e0
    clear e0
    go_enter Try.func133, Try.ntmps133
    go_wp2_with fail
    refine wp_region_held_drew (S := (fun w' => KeepS w b c md st pv (.slice a1 xs.length c1) md2 st2 pv2 (.slice a2 ys.length c2) xs ys w')) (by kernel_rfl) ?_ (fun hHeld => ?_)
    · (try dsimp only); exact ⟨Below.drew (Below.refl _ w), k0, k1, k2, k3, j0, j1, j2, j3, h1, h2⟩
    refine wpAnyH_take (i := 0) (oi := ⟨_, _, _, _, _, _⟩) (v := ?_) rfl (by kernel_rfl) (by kernel_rfl) (by kernel_rfl) (fun _ _ _ h => h) (Or.inl ⟨by rfl, ?_⟩) hHeld ?_
    rotate_left
    · (intro w hSw; (try dsimp only at hSw); have s0 := hSw.a0; have s1 := hSw.a1; have s2 := hSw.a2; have s3 := hSw.a3; have t0 := hSw.c0; have t1 := hSw.c1; have t2 := hSw.c2; have t3 := hSw.c3; clear hSw; go_simp; try (with_reducible rfl))
    try simp only [Act.put, List.setIfInBounds_toArray, List.set_cons_zero, List.set_cons_succ]
    refine wpAnyH_take (i := 1) (oi := ⟨_, _, _, _, _, _⟩) (v := ?_) rfl (by kernel_rfl) (by kernel_rfl) (by kernel_rfl) (fun _ _ _ h => h) (Or.inl ⟨by rfl, ?_⟩) hHeld ?_
    rotate_left
    · (intro w hSw; (try dsimp only at hSw); have s0 := hSw.a0; have s1 := hSw.a1; have s2 := hSw.a2; have s3 := hSw.a3; have t0 := hSw.c0; have t1 := hSw.c1; have t2 := hSw.c2; have t3 := hSw.c3; clear hSw; go_simp; try (with_reducible rfl))
    try simp only [Act.put, List.setIfInBounds_toArray, List.set_cons_zero, List.set_cons_succ]
    refine wpAnyH_take (i := 2) (oi := ⟨_, _, _, _, _, _⟩) (v := ?_) rfl (by kernel_rfl) (by kernel_rfl) (by kernel_rfl) (fun _ _ _ h => h) (Or.inl ⟨by rfl, ?_⟩) hHeld ?_
    rotate_left
    · (intro w hSw; (try dsimp only at hSw); have s0 := hSw.a0; have s1 := hSw.a1; have s2 := hSw.a2; have s3 := hSw.a3; have t0 := hSw.c0; have t1 := hSw.c1; have t2 := hSw.c2; have t3 := hSw.c3; clear hSw; go_simp; try (with_reducible rfl))
    try simp only [Act.put, List.setIfInBounds_toArray, List.set_cons_zero, List.set_cons_succ]
    refine wpAnyH_take (i := 3) (oi := ⟨_, _, _, _, _, _⟩) (v := ?_) rfl (by kernel_rfl) (by kernel_rfl) (by kernel_rfl) (fun _ _ _ h => h) (Or.inl ⟨by rfl, ?_⟩) hHeld ?_
    rotate_left
    · (intro w hSw; (try dsimp only at hSw); have s0 := hSw.a0; have s1 := hSw.a1; have s2 := hSw.a2; have s3 := hSw.a3; have t0 := hSw.c0; have t1 := hSw.c1; have t2 := hSw.c2; have t3 := hSw.c3; clear hSw; go_simp; try (with_reducible rfl))
    try simp only [Act.put, List.setIfInBounds_toArray, List.set_cons_zero, List.set_cons_succ]
    refine wpAnyH_take (i := 4) (oi := ⟨_, _, _, _, _, _⟩) (v := ?_) rfl (by kernel_rfl) (by kernel_rfl) (by kernel_rfl) (fun _ _ _ h => h) (Or.inl ⟨by rfl, ?_⟩) hHeld ?_
    rotate_left
    · (intro w hSw; (try dsimp only at hSw); have s0 := hSw.a0; have s1 := hSw.a1; have s2 := hSw.a2; have s3 := hSw.a3; have t0 := hSw.c0; have t1 := hSw.c1; have t2 := hSw.c2; have t3 := hSw.c3; clear hSw; go_simp; try (with_reducible rfl))
    try simp only [Act.put, List.setIfInBounds_toArray, List.set_cons_zero, List.set_cons_succ]
    refine wpAnyH_take (i := 5) (oi := ⟨_, _, _, _, _, _⟩) (v := ?_) rfl (by kernel_rfl) (by kernel_rfl) (by kernel_rfl) (fun _ _ _ h => h) (Or.inl ⟨by rfl, ?_⟩) hHeld ?_
    rotate_left
    · (intro w hSw; (try dsimp only at hSw); have s0 := hSw.a0; have s1 := hSw.a1; have s2 := hSw.a2; have s3 := hSw.a3; have t0 := hSw.c0; have t1 := hSw.c1; have t2 := hSw.c2; have t3 := hSw.c3; clear hSw; go_simp; try (with_reducible rfl))
    try simp only [Act.put, List.setIfInBounds_toArray, List.set_cons_zero, List.set_cons_succ]
    refine wpAnyH_take (i := 6) (oi := ⟨_, _, _, _, _, _⟩) (v := ?_) rfl (by kernel_rfl) (by kernel_rfl) (by kernel_rfl) (fun _ _ _ h => h) (Or.inl ⟨by rfl, ?_⟩) hHeld ?_
    rotate_left
    · (intro w hSw; (try dsimp only at hSw); have s0 := hSw.a0; have s1 := hSw.a1; have s2 := hSw.a2; have s3 := hSw.a3; have t0 := hSw.c0; have t1 := hSw.c1; have t2 := hSw.c2; have t3 := hSw.c3; clear hSw; go_simp; try (with_reducible rfl))
    try simp only [Act.put, List.setIfInBounds_toArray, List.set_cons_zero, List.set_cons_succ]
    refine wpAnyH_take (i := 7) (oi := ⟨_, _, _, _, _, _⟩) (v := ?_) rfl (by kernel_rfl) (by kernel_rfl) (by kernel_rfl) (fun _ _ _ h => h) (Or.inl ⟨by rfl, ?_⟩) hHeld ?_
    rotate_left
    · (intro w hSw; (try dsimp only at hSw); have s0 := hSw.a0; have s1 := hSw.a1; have s2 := hSw.a2; have s3 := hSw.a3; have t0 := hSw.c0; have t1 := hSw.c1; have t2 := hSw.c2; have t3 := hSw.c3; clear hSw; go_simp; try (with_reducible rfl))
    try simp only [Act.put, List.setIfInBounds_toArray, List.set_cons_zero, List.set_cons_succ]
    refine wpAnyH_take (i := 8) (oi := ⟨_, _, _, _, _, _⟩) (v := ?_) rfl (by kernel_rfl) (by kernel_rfl) (by kernel_rfl) (fun _ _ _ h => h) (Or.inl ⟨by rfl, ?_⟩) hHeld ?_
    rotate_left
    · (intro w hSw; (try dsimp only at hSw); have s0 := hSw.a0; have s1 := hSw.a1; have s2 := hSw.a2; have s3 := hSw.a3; have t0 := hSw.c0; have t1 := hSw.c1; have t2 := hSw.c2; have t3 := hSw.c3; clear hSw; go_simp; try (with_reducible rfl))
    try simp only [Act.put, List.setIfInBounds_toArray, List.set_cons_zero, List.set_cons_succ]
    refine wpAnyH_take (i := 9) (oi := ⟨_, _, _, _, _, _⟩) (v := ?_) rfl (by kernel_rfl) (by kernel_rfl) (by kernel_rfl) (fun _ _ _ h => h) (Or.inl ⟨by rfl, ?_⟩) hHeld ?_
    rotate_left
    · (intro w hSw; (try dsimp only at hSw); have s0 := hSw.a0; have s1 := hSw.a1; have s2 := hSw.a2; have s3 := hSw.a3; have t0 := hSw.c0; have t1 := hSw.c1; have t2 := hSw.c2; have t3 := hSw.c3; clear hSw; go_simp; try (with_reducible rfl))
    try simp only [Act.put, List.setIfInBounds_toArray, List.set_cons_zero, List.set_cons_succ]
    refine wpAnyH_take (i := 10) (oi := ⟨_, _, _, _, _, _⟩) (v := undef) rfl (by kernel_rfl) (by kernel_rfl) (by kernel_rfl) (fun _ _ _ h => h) (Or.inr ⟨by rfl, rfl⟩) hHeld ?_
    try simp only [Act.put, List.setIfInBounds_toArray, List.set_cons_zero, List.set_cons_succ]
    refine wpAnyH_take (i := 11) (oi := ⟨_, _, _, _, _, _⟩) (v := undef) rfl (by kernel_rfl) (by kernel_rfl) (by kernel_rfl) (fun _ _ _ h => h) (Or.inr ⟨by rfl, rfl⟩) hHeld ?_
    try simp only [Act.put, List.setIfInBounds_toArray, List.set_cons_zero, List.set_cons_succ]
    refine wpAnyH_take (i := 12) (oi := ⟨_, _, _, _, _, _⟩) (v := undef) rfl (by kernel_rfl) (by kernel_rfl) (by kernel_rfl) (fun _ _ _ h => h) (Or.inr ⟨by rfl, rfl⟩) hHeld ?_
    try simp only [Act.put, List.setIfInBounds_toArray, List.set_cons_zero, List.set_cons_succ]
    refine wpAnyH_take (i := 13) (oi := ⟨_, _, _, _, _, _⟩) (v := undef) rfl (by kernel_rfl) (by kernel_rfl) (by kernel_rfl) (fun _ _ _ h => h) (Or.inr ⟨by rfl, rfl⟩) hHeld ?_
    try simp only [Act.put, List.setIfInBounds_toArray, List.set_cons_zero, List.set_cons_succ]
    refine wpAnyH_take (i := 14) (oi := ⟨_, _, _, _, _, _⟩) (v := undef) rfl (by kernel_rfl) (by kernel_rfl) (by kernel_rfl) (fun _ _ _ h => h) (Or.inr ⟨by rfl, rfl⟩) hHeld ?_
    try simp only [Act.put, List.setIfInBounds_toArray, List.set_cons_zero, List.set_cons_succ]
    refine wpAnyH_take (i := 15) (oi := ⟨_, _, _, _, _, _⟩) (v := undef) rfl (by kernel_rfl) (by kernel_rfl) (by kernel_rfl) (fun _ _ _ h => h) (Or.inr ⟨by rfl, rfl⟩) hHeld ?_
    try simp only [Act.put, List.setIfInBounds_toArray, List.set_cons_zero, List.set_cons_succ]
    refine wpAnyH_take (i := 16) (oi := ⟨_, _, _, _, _, _⟩) (v := undef) rfl (by kernel_rfl) (by kernel_rfl) (by kernel_rfl) (fun _ _ _ h => h) (Or.inr ⟨by rfl, rfl⟩) hHeld ?_
    try simp only [Act.put, List.setIfInBounds_toArray, List.set_cons_zero, List.set_cons_succ]
    refine wpAnyH_take (i := 17) (oi := ⟨_, _, _, _, _, _⟩) (v := undef) rfl (by kernel_rfl) (by kernel_rfl) (by kernel_rfl) (fun _ _ _ h => h) (Or.inr ⟨by rfl, rfl⟩) hHeld ?_
    try simp only [Act.put, List.setIfInBounds_toArray, List.set_cons_zero, List.set_cons_succ]
    refine wpAnyH_take (i := 18) (oi := ⟨_, _, _, _, _, _⟩) (v := undef) rfl (by kernel_rfl) (by kernel_rfl) (by kernel_rfl) (fun _ _ _ h => h) (Or.inr ⟨by rfl, rfl⟩) hHeld ?_
    try simp only [Act.put, List.setIfInBounds_toArray, List.set_cons_zero, List.set_cons_succ]
    refine wpAnyH_take (i := 19) (oi := ⟨_, _, _, _, _, _⟩) (v := ?_) rfl (by kernel_rfl) (by kernel_rfl) (by kernel_rfl) (fun _ _ _ h => h) (Or.inl ⟨by rfl, ?_⟩) hHeld ?_
    rotate_left
    · (intro w hSw; (try dsimp only at hSw); have s0 := hSw.a0; have s1 := hSw.a1; have s2 := hSw.a2; have s3 := hSw.a3; have t0 := hSw.c0; have t1 := hSw.c1; have t2 := hSw.c2; have t3 := hSw.c3; clear hSw; go_simp; try (with_reducible rfl))
    try simp only [Act.put, List.setIfInBounds_toArray, List.set_cons_zero, List.set_cons_succ]
    refine wpAnyH_take (i := 20) (oi := ⟨_, _, _, _, _, _⟩) (v := ?_) rfl (by kernel_rfl) (by kernel_rfl) (by kernel_rfl) (fun _ _ _ h => h) (Or.inl ⟨by rfl, ?_⟩) hHeld ?_
    rotate_left
    · (intro w hSw; (try dsimp only at hSw); have s0 := hSw.a0; have s1 := hSw.a1; have s2 := hSw.a2; have s3 := hSw.a3; have t0 := hSw.c0; have t1 := hSw.c1; have t2 := hSw.c2; have t3 := hSw.c3; clear hSw; go_simp; try (with_reducible rfl))
    try simp only [Act.put, List.setIfInBounds_toArray, List.set_cons_zero, List.set_cons_succ]
    refine wpAnyH_take (i := 21) (oi := ⟨_, _, _, _, _, _⟩) (v := undef) rfl (by kernel_rfl) (by kernel_rfl) (by kernel_rfl) (fun _ _ _ h => h) (Or.inr ⟨by rfl, rfl⟩) hHeld ?_
    try simp only [Act.put, List.setIfInBounds_toArray, List.set_cons_zero, List.set_cons_succ]
    refine wpAnyH_take (i := 22) (oi := ⟨_, _, _, _, _, _⟩) (v := undef) rfl (by kernel_rfl) (by kernel_rfl) (by kernel_rfl) (fun _ _ _ h => h) (Or.inr ⟨by rfl, rfl⟩) hHeld ?_
    try simp only [Act.put, List.setIfInBounds_toArray, List.set_cons_zero, List.set_cons_succ]
    refine wpAnyH_take (i := 23) (oi := ⟨_, _, _, _, _, _⟩) (v := undef) rfl (by kernel_rfl) (by kernel_rfl) (by kernel_rfl) (fun _ _ _ h => h) (Or.inr ⟨by rfl, rfl⟩) hHeld ?_
    try simp only [Act.put, List.setIfInBounds_toArray, List.set_cons_zero, List.set_cons_succ]
    refine wpAnyH_take (i := 24) (oi := ⟨_, _, _, _, _, _⟩) (v := undef) rfl (by kernel_rfl) (by kernel_rfl) (by kernel_rfl) (fun _ _ _ h => h) (Or.inr ⟨by rfl, rfl⟩) hHeld ?_
    try simp only [Act.put, List.setIfInBounds_toArray, List.set_cons_zero, List.set_cons_succ]
    refine wpAnyH_take (i := 25) (oi := ⟨_, _, _, _, _, _⟩) (v := undef) rfl (by kernel_rfl) (by kernel_rfl) (by kernel_rfl) (fun _ _ _ h => h) (Or.inr ⟨by rfl, rfl⟩) hHeld ?_
    try simp only [Act.put, List.setIfInBounds_toArray, List.set_cons_zero, List.set_cons_succ]
    refine wpAnyH_take (i := 26) (oi := ⟨_, _, _, _, _, _⟩) (v := undef) rfl (by kernel_rfl) (by kernel_rfl) (by kernel_rfl) (fun _ _ _ h => h) (Or.inr ⟨by rfl, rfl⟩) hHeld ?_
    try simp only [Act.put, List.setIfInBounds_toArray, List.set_cons_zero, List.set_cons_succ]
    refine wpAnyH_take (i := 27) (oi := ⟨_, _, _, _, _, _⟩) (v := undef) rfl (by kernel_rfl) (by kernel_rfl) (by kernel_rfl) (fun _ _ _ h => h) (Or.inr ⟨by rfl, rfl⟩) hHeld ?_
    try simp only [Act.put, List.setIfInBounds_toArray, List.set_cons_zero, List.set_cons_succ]
    refine wpAnyH_take (i := 28) (oi := ⟨_, _, _, _, _, _⟩) (v := undef) rfl (by kernel_rfl) (by kernel_rfl) (by kernel_rfl) (fun _ _ _ h => h) (Or.inr ⟨by rfl, rfl⟩) hHeld ?_
    try simp only [Act.put, List.setIfInBounds_toArray, List.set_cons_zero, List.set_cons_succ]
    refine wpAnyH_take (i := 29) (oi := ⟨_, _, _, _, _, _⟩) (v := undef) rfl (by kernel_rfl) (by kernel_rfl) (by kernel_rfl) (fun _ _ _ h => h) (Or.inr ⟨by rfl, rfl⟩) hHeld ?_
    try simp only [Act.put, List.setIfInBounds_toArray, List.set_cons_zero, List.set_cons_succ]
    refine wpAnyH_take (i := 30) (oi := ⟨_, _, _, _, _, _⟩) (v := ?_) rfl (by kernel_rfl) (by kernel_rfl) (by kernel_rfl) (fun _ _ _ h => h) (Or.inl ⟨by rfl, ?_⟩) hHeld ?_
    rotate_left
    · (intro w hSw; (try dsimp only at hSw); have s0 := hSw.a0; have s1 := hSw.a1; have s2 := hSw.a2; have s3 := hSw.a3; have t0 := hSw.c0; have t1 := hSw.c1; have t2 := hSw.c2; have t3 := hSw.c3; clear hSw; go_simp; try (with_reducible rfl))
    try simp only [Act.put, List.setIfInBounds_toArray, List.set_cons_zero, List.set_cons_succ]
    refine wpAnyH_take (i := 31) (oi := ⟨_, _, _, _, _, _⟩) (v := ?_) rfl (by kernel_rfl) (by kernel_rfl) (by kernel_rfl) (fun _ _ _ h => h) (Or.inl ⟨by rfl, ?_⟩) hHeld ?_
    rotate_left
    · (intro w hSw; (try dsimp only at hSw); have s0 := hSw.a0; have s1 := hSw.a1; have s2 := hSw.a2; have s3 := hSw.a3; have t0 := hSw.c0; have t1 := hSw.c1; have t2 := hSw.c2; have t3 := hSw.c3; clear hSw; go_simp; try (with_reducible rfl))
    try simp only [Act.put, List.setIfInBounds_toArray, List.set_cons_zero, List.set_cons_succ]
    refine wpAnyH_take (i := 32) (oi := ⟨_, _, _, _, _, _⟩) (v := undef) rfl (by kernel_rfl) (by kernel_rfl) (by kernel_rfl) (fun _ _ _ h => h) (Or.inr ⟨by rfl, rfl⟩) hHeld ?_
    try simp only [Act.put, List.setIfInBounds_toArray, List.set_cons_zero, List.set_cons_succ]
    refine wpAnyH_take (i := 33) (oi := ⟨_, _, _, _, _, _⟩) (v := undef) rfl (by kernel_rfl) (by kernel_rfl) (by kernel_rfl) (fun _ _ _ h => h) (Or.inr ⟨by rfl, rfl⟩) hHeld ?_
    try simp only [Act.put, List.setIfInBounds_toArray, List.set_cons_zero, List.set_cons_succ]
    refine wpAnyH_take (i := 34) (oi := ⟨_, _, _, _, _, _⟩) (v := undef) rfl (by kernel_rfl) (by kernel_rfl) (by kernel_rfl) (fun _ _ _ h => h) (Or.inr ⟨by rfl, rfl⟩) hHeld ?_
    try simp only [Act.put, List.setIfInBounds_toArray, List.set_cons_zero, List.set_cons_succ]
    refine wpAnyH_take (i := 35) (oi := ⟨_, _, _, _, _, _⟩) (v := undef) rfl (by kernel_rfl) (by kernel_rfl) (by kernel_rfl) (fun _ _ _ h => h) (Or.inr ⟨by rfl, rfl⟩) hHeld ?_
    try simp only [Act.put, List.setIfInBounds_toArray, List.set_cons_zero, List.set_cons_succ]
    refine wpAnyH_take (i := 36) (oi := ⟨_, _, _, _, _, _⟩) (v := undef) rfl (by kernel_rfl) (by kernel_rfl) (by kernel_rfl) (fun _ _ _ h => h) (Or.inr ⟨by rfl, rfl⟩) hHeld ?_
    try simp only [Act.put, List.setIfInBounds_toArray, List.set_cons_zero, List.set_cons_succ]
    refine wpAnyH_take (i := 37) (oi := ⟨_, _, _, _, _, _⟩) (v := undef) rfl (by kernel_rfl) (by kernel_rfl) (by kernel_rfl) (fun _ _ _ h => h) (Or.inr ⟨by rfl, rfl⟩) hHeld ?_
    try simp only [Act.put, List.setIfInBounds_toArray, List.set_cons_zero, List.set_cons_succ]
    refine wpAnyH_take (i := 38) (oi := ⟨_, _, _, _, _, _⟩) (v := undef) rfl (by kernel_rfl) (by kernel_rfl) (by kernel_rfl) (fun _ _ _ h => h) (Or.inr ⟨by rfl, rfl⟩) hHeld ?_
    try simp only [Act.put, List.setIfInBounds_toArray, List.set_cons_zero, List.set_cons_succ]
    refine wpAnyH_take (i := 39) (oi := ⟨_, _, _, _, _, _⟩) (v := undef) rfl (by kernel_rfl) (by kernel_rfl) (by kernel_rfl) (fun _ _ _ h => h) (Or.inr ⟨by rfl, rfl⟩) hHeld ?_
    try simp only [Act.put, List.setIfInBounds_toArray, List.set_cons_zero, List.set_cons_succ]
    refine wpAnyH_take (i := 40) (oi := ⟨_, _, _, _, _, _⟩) (v := undef) rfl (by kernel_rfl) (by kernel_rfl) (by kernel_rfl) (fun _ _ _ h => h) (Or.inr ⟨by rfl, rfl⟩) hHeld ?_
    try simp only [Act.put, List.setIfInBounds_toArray, List.set_cons_zero, List.set_cons_succ]
    refine wpAnyH_take (i := 41) (oi := ⟨_, _, _, _, _, _⟩) (v := ?_) rfl (by kernel_rfl) (by kernel_rfl) (by kernel_rfl) (fun _ _ _ h => h) (Or.inl ⟨by rfl, ?_⟩) hHeld ?_
    rotate_left
    · (intro w hSw; (try dsimp only at hSw); have s0 := hSw.a0; have s1 := hSw.a1; have s2 := hSw.a2; have s3 := hSw.a3; have t0 := hSw.c0; have t1 := hSw.c1; have t2 := hSw.c2; have t3 := hSw.c3; clear hSw; go_simp; try (with_reducible rfl))
    try simp only [Act.put, List.setIfInBounds_toArray, List.set_cons_zero, List.set_cons_succ]
    refine wpAnyH_take (i := 42) (oi := ⟨_, _, _, _, _, _⟩) (v := ?_) rfl (by kernel_rfl) (by kernel_rfl) (by kernel_rfl) (fun _ _ _ h => h) (Or.inl ⟨by rfl, ?_⟩) hHeld ?_
    rotate_left
    · (intro w hSw; (try dsimp only at hSw); have s0 := hSw.a0; have s1 := hSw.a1; have s2 := hSw.a2; have s3 := hSw.a3; have t0 := hSw.c0; have t1 := hSw.c1; have t2 := hSw.c2; have t3 := hSw.c3; clear hSw; go_simp; try (with_reducible rfl))
    try simp only [Act.put, List.setIfInBounds_toArray, List.set_cons_zero, List.set_cons_succ]
    refine wpAnyH_done (by kernel_rfl) ?_ _
    have hbq := hHeld.bel
    clear hHeld
    go_wp2
    go_ret
    exact ⟨rfl, hbq⟩


end Go.Proofs.Ytceoehiaeanfkaa
