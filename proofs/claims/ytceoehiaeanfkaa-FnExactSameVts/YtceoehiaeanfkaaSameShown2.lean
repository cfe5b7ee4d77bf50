/-
  What the model's SameShown answers: l5Shown (of two screens that are parts of blocks), SameShown.
-/
import Derived.Test.YtceoehiaeanfkaaSameShown
import Derived.Test.YtceoehiaeanfkaaSegMem
import Derived.Deep.QuietTactic
import Derived.BigQuiet
import Derived.Deep.RegionHeld3
namespace Go.Proofs.Ytceoehiaeanfkaa
set_option maxRecDepth 20000
open Go.ChangeShapes Go.WideShapes Go.ChangeAt Go.RowKit
set_option linter.unusedVariables false
set_option linter.unusedSimpArgs false
set_option maxRecDepth 20000

/-- Two screens that are parts of blocks, as a region keeps them. -/
structure KeepTwo (W : World) (a oa b ob : Nat) (s t : Scr) (v1 v2 v3 v4 u1 u2 u3 u4 : Value) (w1 : World) : Prop where
  bel : Below W.heap.size W w1
  A : Seg w1 a oa (scrA s v1 v2 v3 v4)
  B : Seg w1 b ob (scrA t u1 u2 u3 u4)
  r1 : SRead w1 s v1 v2 v3 v4
  r2 : SRead w1 t u1 u2 u3 u4
theorem KeepTwo.next {W : World} {a oa b ob : Nat} {s t : Scr} {v1 v2 v3 v4 u1 u2 u3 u4 : Value} {w1 w2 : World} (h : KeepTwo W a oa b ob s t v1 v2 v3 v4 u1 u2 u3 u4 w1) (hb : Below w1.heap.size w1 w2) : KeepTwo W a oa b ob s t v1 v2 v3 v4 u1 u2 u3 u4 w2 :=
  ⟨h.bel.trans (hb.mono h.bel.size), h.A.belowb hb, h.B.belowb hb, h.r1.below hb, h.r2.below hb⟩
theorem sameL_nil : sameL [] [] 0 = true := by simp [sameL]
set_option maxHeartbeats 16000000 in
theorem l5Shown_o (s t : Scr) (v1 v2 v3 v4 u1 u2 u3 u4 : Value) (a oa b ob : Nat) (w : World) (n1 : s.cs.length ≤ 1048576) (n2 : s.tabs.length ≤ 1048576) (n3 : s.sets.length ≤ 1048576) (m1 : t.cs.length ≤ 1048576) (m2 : t.tabs.length ≤ 1048576) (m3 : t.sets.length ≤ 1048576) (hA : Seg w a oa (scrA s v1 v2 v3 v4)) (hB : Seg w b ob (scrA t u1 u2 u3 u4)) (h : SRead w s v1 v2 v3 v4) (k : SRead w t u1 u2 u3 u4) :
    Calls Try.prog 38 #[.pointer (some ⟨a, oa, none⟩), .pointer (some ⟨b, ob, none⟩)] w fun e w' => e = .returned (.bool (shownB s t)) ∧ Below w.heap.size w w' := by
  have hKT : KeepTwo w a oa b ob s t v1 v2 v3 v4 u1 u2 u3 u4 w.drew := ⟨Below.drew (Below.refl _ w), hA, hB, h.below (Below.drew (Below.refl _ _)), k.below (Below.drew (Below.refl _ _))⟩
  cases e1 : (s.r == t.r)
  · have ne1 : (s.r != t.r) = true := by simpa using e1
    go_enter Try.func38, Try.ntmps38
    try simp only [List.append_eq, List.cons_append, List.nil_append]
    go_wp2_with fail
    refine wp_region_held_drew (S := (fun w' => KeepTwo w a oa b ob s t v1 v2 v3 v4 u1 u2 u3 u4 w')) (by kernel_rfl) ?_ (fun hHeld => ?_)
    · (try dsimp only); exact hKT
    refine wpAnyH_take (i := 0) (oi := ⟨_, _, _, _, _, _⟩) (v := ?_) rfl (by kernel_rfl) (by kernel_rfl) (by kernel_rfl) (fun _ _ _ h => h) (Or.inl ⟨by rfl, ?_⟩) hHeld ?_
    rotate_left
    · (intro w hSw; (try dsimp only at hSw); have A0 := hSw.A.at0 (scrA_0 s v1 v2 v3 v4); have B0 := hSw.B.at0 (scrA_0 t u1 u2 u3 u4); have A1 := hSw.A.at 1 (scrA_1 s v1 v2 v3 v4); have B1 := hSw.B.at 1 (scrA_1 t u1 u2 u3 u4); have A2 := hSw.A.at 2 (scrA_2 s v1 v2 v3 v4); have B2 := hSw.B.at 2 (scrA_2 t u1 u2 u3 u4); clear hSw; go_simp; try (with_reducible rfl))
    try simp only [Act.put, List.setIfInBounds_toArray, List.set_cons_zero, List.set_cons_succ]
    refine wpAnyH_take (i := 1) (oi := ⟨_, _, _, _, _, _⟩) (v := ?_) rfl (by kernel_rfl) (by kernel_rfl) (by kernel_rfl) (fun _ _ _ h => h) (Or.inl ⟨by rfl, ?_⟩) hHeld ?_
    rotate_left
    · (intro w hSw; (try dsimp only at hSw); have A0 := hSw.A.at0 (scrA_0 s v1 v2 v3 v4); have B0 := hSw.B.at0 (scrA_0 t u1 u2 u3 u4); have A1 := hSw.A.at 1 (scrA_1 s v1 v2 v3 v4); have B1 := hSw.B.at 1 (scrA_1 t u1 u2 u3 u4); have A2 := hSw.A.at 2 (scrA_2 s v1 v2 v3 v4); have B2 := hSw.B.at 2 (scrA_2 t u1 u2 u3 u4); clear hSw; go_simp; try (with_reducible rfl))
    try simp only [Act.put, List.setIfInBounds_toArray, List.set_cons_zero, List.set_cons_succ]
    refine wpAnyH_take (i := 2) (oi := ⟨_, _, _, _, _, _⟩) (v := ?_) rfl (by kernel_rfl) (by kernel_rfl) (by kernel_rfl) (fun _ _ _ h => h) (Or.inl ⟨by rfl, ?_⟩) hHeld ?_
    rotate_left
    · (intro w hSw; (try dsimp only at hSw); have A0 := hSw.A.at0 (scrA_0 s v1 v2 v3 v4); have B0 := hSw.B.at0 (scrA_0 t u1 u2 u3 u4); have A1 := hSw.A.at 1 (scrA_1 s v1 v2 v3 v4); have B1 := hSw.B.at 1 (scrA_1 t u1 u2 u3 u4); have A2 := hSw.A.at 2 (scrA_2 s v1 v2 v3 v4); have B2 := hSw.B.at 2 (scrA_2 t u1 u2 u3 u4); clear hSw; go_simp; try (with_reducible rfl))
    try simp only [Act.put, List.setIfInBounds_toArray, List.set_cons_zero, List.set_cons_succ]
    refine wpAnyH_take (i := 3) (oi := ⟨_, _, _, _, _, _⟩) (v := ?_) rfl (by kernel_rfl) (by kernel_rfl) (by kernel_rfl) (fun _ _ _ h => h) (Or.inl ⟨by rfl, ?_⟩) hHeld ?_
    rotate_left
    · (intro w hSw; (try dsimp only at hSw); have A0 := hSw.A.at0 (scrA_0 s v1 v2 v3 v4); have B0 := hSw.B.at0 (scrA_0 t u1 u2 u3 u4); have A1 := hSw.A.at 1 (scrA_1 s v1 v2 v3 v4); have B1 := hSw.B.at 1 (scrA_1 t u1 u2 u3 u4); have A2 := hSw.A.at 2 (scrA_2 s v1 v2 v3 v4); have B2 := hSw.B.at 2 (scrA_2 t u1 u2 u3 u4); clear hSw; go_simp; try (with_reducible rfl))
    try simp only [Act.put, List.setIfInBounds_toArray, List.set_cons_zero, List.set_cons_succ]
    refine wpAnyH_take (i := 4) (oi := ⟨_, _, _, _, _, _⟩) (v := ?_) rfl (by kernel_rfl) (by kernel_rfl) (by kernel_rfl) (fun _ _ _ h => h) (Or.inl ⟨by rfl, ?_⟩) hHeld ?_
    rotate_left
    · (intro w hSw; (try dsimp only at hSw); have A0 := hSw.A.at0 (scrA_0 s v1 v2 v3 v4); have B0 := hSw.B.at0 (scrA_0 t u1 u2 u3 u4); have A1 := hSw.A.at 1 (scrA_1 s v1 v2 v3 v4); have B1 := hSw.B.at 1 (scrA_1 t u1 u2 u3 u4); have A2 := hSw.A.at 2 (scrA_2 s v1 v2 v3 v4); have B2 := hSw.B.at 2 (scrA_2 t u1 u2 u3 u4); clear hSw; go_simp; try (with_reducible rfl))
    try simp only [Act.put, List.setIfInBounds_toArray, List.set_cons_zero, List.set_cons_succ]
    refine wpAnyH_take (i := 5) (oi := ⟨_, _, _, _, _, _⟩) (v := ?_) rfl (by kernel_rfl) (by kernel_rfl) (by kernel_rfl) (fun _ _ _ h => h) (Or.inl ⟨by rfl, ?_⟩) hHeld ?_
    rotate_left
    · (intro w hSw; (try dsimp only at hSw); have A0 := hSw.A.at0 (scrA_0 s v1 v2 v3 v4); have B0 := hSw.B.at0 (scrA_0 t u1 u2 u3 u4); have A1 := hSw.A.at 1 (scrA_1 s v1 v2 v3 v4); have B1 := hSw.B.at 1 (scrA_1 t u1 u2 u3 u4); have A2 := hSw.A.at 2 (scrA_2 s v1 v2 v3 v4); have B2 := hSw.B.at 2 (scrA_2 t u1 u2 u3 u4); clear hSw; go_simp; try (with_reducible rfl))
    try simp only [Act.put, List.setIfInBounds_toArray, List.set_cons_zero, List.set_cons_succ]
    refine wpAnyH_take (i := 6) (oi := ⟨_, _, _, _, _, _⟩) (v := ?_) rfl (by kernel_rfl) (by kernel_rfl) (by kernel_rfl) (fun _ _ _ h => h) (Or.inl ⟨by rfl, ?_⟩) hHeld ?_
    rotate_left
    · (intro w hSw; (try dsimp only at hSw); have A0 := hSw.A.at0 (scrA_0 s v1 v2 v3 v4); have B0 := hSw.B.at0 (scrA_0 t u1 u2 u3 u4); have A1 := hSw.A.at 1 (scrA_1 s v1 v2 v3 v4); have B1 := hSw.B.at 1 (scrA_1 t u1 u2 u3 u4); have A2 := hSw.A.at 2 (scrA_2 s v1 v2 v3 v4); have B2 := hSw.B.at 2 (scrA_2 t u1 u2 u3 u4); clear hSw; go_simp; try (with_reducible rfl))
    try simp only [Act.put, List.setIfInBounds_toArray, List.set_cons_zero, List.set_cons_succ]
    refine wpAnyH_take (i := 7) (oi := ⟨_, _, _, _, _, _⟩) (v := ?_) rfl (by kernel_rfl) (by kernel_rfl) (by kernel_rfl) (fun _ _ _ h => h) (Or.inl ⟨by rfl, ?_⟩) hHeld ?_
    rotate_left
    · (intro w hSw; (try dsimp only at hSw); have A0 := hSw.A.at0 (scrA_0 s v1 v2 v3 v4); have B0 := hSw.B.at0 (scrA_0 t u1 u2 u3 u4); have A1 := hSw.A.at 1 (scrA_1 s v1 v2 v3 v4); have B1 := hSw.B.at 1 (scrA_1 t u1 u2 u3 u4); have A2 := hSw.A.at 2 (scrA_2 s v1 v2 v3 v4); have B2 := hSw.B.at 2 (scrA_2 t u1 u2 u3 u4); clear hSw; go_simp; try (with_reducible rfl))
    try simp only [Act.put, List.setIfInBounds_toArray, List.set_cons_zero, List.set_cons_succ]
    refine wpAnyH_take (i := 8) (oi := ⟨_, _, _, _, _, _⟩) (v := ?_) rfl (by kernel_rfl) (by kernel_rfl) (by kernel_rfl) (fun _ _ _ h => h) (Or.inl ⟨by rfl, ?_⟩) hHeld ?_
    rotate_left
    · (intro w hSw; (try dsimp only at hSw); have A0 := hSw.A.at0 (scrA_0 s v1 v2 v3 v4); have B0 := hSw.B.at0 (scrA_0 t u1 u2 u3 u4); have A1 := hSw.A.at 1 (scrA_1 s v1 v2 v3 v4); have B1 := hSw.B.at 1 (scrA_1 t u1 u2 u3 u4); have A2 := hSw.A.at 2 (scrA_2 s v1 v2 v3 v4); have B2 := hSw.B.at 2 (scrA_2 t u1 u2 u3 u4); clear hSw; go_simp; try (with_reducible rfl))
    try simp only [Act.put, List.setIfInBounds_toArray, List.set_cons_zero, List.set_cons_succ]
    refine wpAnyH_take (i := 9) (oi := ⟨_, _, _, _, _, _⟩) (v := ?_) rfl (by kernel_rfl) (by kernel_rfl) (by kernel_rfl) (fun _ _ _ h => h) (Or.inl ⟨by rfl, ?_⟩) hHeld ?_
    rotate_left
    · (intro w hSw; (try dsimp only at hSw); have A0 := hSw.A.at0 (scrA_0 s v1 v2 v3 v4); have B0 := hSw.B.at0 (scrA_0 t u1 u2 u3 u4); have A1 := hSw.A.at 1 (scrA_1 s v1 v2 v3 v4); have B1 := hSw.B.at 1 (scrA_1 t u1 u2 u3 u4); have A2 := hSw.A.at 2 (scrA_2 s v1 v2 v3 v4); have B2 := hSw.B.at 2 (scrA_2 t u1 u2 u3 u4); clear hSw; go_simp; try (with_reducible rfl))
    try simp only [Act.put, List.setIfInBounds_toArray, List.set_cons_zero, List.set_cons_succ]
    refine wpAnyH_take (i := 10) (oi := ⟨_, _, _, _, _, _⟩) (v := ?_) rfl (by kernel_rfl) (by kernel_rfl) (by kernel_rfl) (fun _ _ _ h => h) (Or.inl ⟨by rfl, ?_⟩) hHeld ?_
    rotate_left
    · (intro w hSw; (try dsimp only at hSw); have A0 := hSw.A.at0 (scrA_0 s v1 v2 v3 v4); have B0 := hSw.B.at0 (scrA_0 t u1 u2 u3 u4); have A1 := hSw.A.at 1 (scrA_1 s v1 v2 v3 v4); have B1 := hSw.B.at 1 (scrA_1 t u1 u2 u3 u4); have A2 := hSw.A.at 2 (scrA_2 s v1 v2 v3 v4); have B2 := hSw.B.at 2 (scrA_2 t u1 u2 u3 u4); clear hSw; go_simp; try (with_reducible rfl))
    try simp only [Act.put, List.setIfInBounds_toArray, List.set_cons_zero, List.set_cons_succ]
    refine wpAnyH_take (i := 11) (oi := ⟨_, _, _, _, _, _⟩) (v := ?_) rfl (by kernel_rfl) (by kernel_rfl) (by kernel_rfl) (fun _ _ _ h => h) (Or.inl ⟨by rfl, ?_⟩) hHeld ?_
    rotate_left
    · (intro w hSw; (try dsimp only at hSw); have A0 := hSw.A.at0 (scrA_0 s v1 v2 v3 v4); have B0 := hSw.B.at0 (scrA_0 t u1 u2 u3 u4); have A1 := hSw.A.at 1 (scrA_1 s v1 v2 v3 v4); have B1 := hSw.B.at 1 (scrA_1 t u1 u2 u3 u4); have A2 := hSw.A.at 2 (scrA_2 s v1 v2 v3 v4); have B2 := hSw.B.at 2 (scrA_2 t u1 u2 u3 u4); clear hSw; go_simp; try (with_reducible rfl))
    try simp only [Act.put, List.setIfInBounds_toArray, List.set_cons_zero, List.set_cons_succ]
    refine wpAnyH_take (i := 12) (oi := ⟨_, _, _, _, _, _⟩) (v := undef) rfl (by kernel_rfl) (by kernel_rfl) (by kernel_rfl) (fun _ _ _ h => h) (Or.inr ⟨by rfl, rfl⟩) hHeld ?_
    try simp only [Act.put, List.setIfInBounds_toArray, List.set_cons_zero, List.set_cons_succ]
    refine wpAnyH_take (i := 13) (oi := ⟨_, _, _, _, _, _⟩) (v := undef) rfl (by kernel_rfl) (by kernel_rfl) (by kernel_rfl) (fun _ _ _ h => h) (Or.inr ⟨by rfl, rfl⟩) hHeld ?_
    try simp only [Act.put, List.setIfInBounds_toArray, List.set_cons_zero, List.set_cons_succ]
    refine wpAnyH_take (i := 14) (oi := ⟨_, _, _, _, _, _⟩) (v := undef) rfl (by kernel_rfl) (by kernel_rfl) (by kernel_rfl) (fun _ _ _ h => h) (Or.inr ⟨by rfl, rfl⟩) hHeld ?_
    try simp only [Act.put, List.setIfInBounds_toArray, List.set_cons_zero, List.set_cons_succ]
    refine wpAnyH_take (i := 15) (oi := ⟨_, _, _, _, _, _⟩) (v := undef) rfl (by kernel_rfl) (by kernel_rfl) (by kernel_rfl) (fun _ _ _ h => h) (Or.inr ⟨by rfl, rfl⟩) hHeld ?_
    try simp only [Act.put, List.setIfInBounds_toArray, List.set_cons_zero, List.set_cons_succ]
    refine wpAnyH_take (i := 16) (oi := ⟨_, _, _, _, _, _⟩) (v := undef) rfl (by kernel_rfl) (by kernel_rfl) (by kernel_rfl) (fun _ _ _ h => h) (Or.inr ⟨by rfl, rfl⟩) hHeld ?_
    try simp only [Act.put, List.setIfInBounds_toArray, List.set_cons_zero, List.set_cons_succ]
    refine wpAnyH_take (i := 17) (oi := ⟨_, _, _, _, _, _⟩) (v := undef) rfl (by kernel_rfl) (by kernel_rfl) (by kernel_rfl) (fun _ _ _ h => h) (Or.inr ⟨by rfl, rfl⟩) hHeld ?_
    try simp only [Act.put, List.setIfInBounds_toArray, List.set_cons_zero, List.set_cons_succ]
    refine wpAnyH_take (i := 18) (oi := ⟨_, _, _, _, _, _⟩) (v := undef) rfl (by kernel_rfl) (by kernel_rfl) (by kernel_rfl) (fun _ _ _ h => h) (Or.inr ⟨by rfl, rfl⟩) hHeld ?_
    try simp only [Act.put, List.setIfInBounds_toArray, List.set_cons_zero, List.set_cons_succ]
    refine wpAnyH_take (i := 19) (oi := ⟨_, _, _, _, _, _⟩) (v := undef) rfl (by kernel_rfl) (by kernel_rfl) (by kernel_rfl) (fun _ _ _ h => h) (Or.inr ⟨by rfl, rfl⟩) hHeld ?_
    try simp only [Act.put, List.setIfInBounds_toArray, List.set_cons_zero, List.set_cons_succ]
    refine wpAnyH_take (i := 20) (oi := ⟨_, _, _, _, _, _⟩) (v := undef) rfl (by kernel_rfl) (by kernel_rfl) (by kernel_rfl) (fun _ _ _ h => h) (Or.inr ⟨by rfl, rfl⟩) hHeld ?_
    try simp only [Act.put, List.setIfInBounds_toArray, List.set_cons_zero, List.set_cons_succ]
    refine wpAnyH_take (i := 21) (oi := ⟨_, _, _, _, _, _⟩) (v := undef) rfl (by kernel_rfl) (by kernel_rfl) (by kernel_rfl) (fun _ _ _ h => h) (Or.inr ⟨by rfl, rfl⟩) hHeld ?_
    try simp only [Act.put, List.setIfInBounds_toArray, List.set_cons_zero, List.set_cons_succ]
    refine wpAnyH_take (i := 22) (oi := ⟨_, _, _, _, _, _⟩) (v := undef) rfl (by kernel_rfl) (by kernel_rfl) (by kernel_rfl) (fun _ _ _ h => h) (Or.inr ⟨by rfl, rfl⟩) hHeld ?_
    try simp only [Act.put, List.setIfInBounds_toArray, List.set_cons_zero, List.set_cons_succ]
    refine wpAnyH_take (i := 23) (oi := ⟨_, _, _, _, _, _⟩) (v := ?_) rfl (by kernel_rfl) (by kernel_rfl) (by kernel_rfl) (fun _ _ _ h => h) (Or.inl ⟨by rfl, ?_⟩) hHeld ?_
    rotate_left
    · (intro w hSw; (try dsimp only at hSw); have A0 := hSw.A.at0 (scrA_0 s v1 v2 v3 v4); have B0 := hSw.B.at0 (scrA_0 t u1 u2 u3 u4); have A1 := hSw.A.at 1 (scrA_1 s v1 v2 v3 v4); have B1 := hSw.B.at 1 (scrA_1 t u1 u2 u3 u4); have A2 := hSw.A.at 2 (scrA_2 s v1 v2 v3 v4); have B2 := hSw.B.at 2 (scrA_2 t u1 u2 u3 u4); clear hSw; go_simp; try (with_reducible rfl))
    try simp only [Act.put, List.setIfInBounds_toArray, List.set_cons_zero, List.set_cons_succ]
    refine wpAnyH_take (i := 24) (oi := ⟨_, _, _, _, _, _⟩) (v := ?_) rfl (by kernel_rfl) (by kernel_rfl) (by kernel_rfl) (fun _ _ _ h => h) (Or.inl ⟨by rfl, ?_⟩) hHeld ?_
    rotate_left
    · (intro w hSw; (try dsimp only at hSw); have A0 := hSw.A.at0 (scrA_0 s v1 v2 v3 v4); have B0 := hSw.B.at0 (scrA_0 t u1 u2 u3 u4); have A1 := hSw.A.at 1 (scrA_1 s v1 v2 v3 v4); have B1 := hSw.B.at 1 (scrA_1 t u1 u2 u3 u4); have A2 := hSw.A.at 2 (scrA_2 s v1 v2 v3 v4); have B2 := hSw.B.at 2 (scrA_2 t u1 u2 u3 u4); clear hSw; go_simp; try (with_reducible rfl))
    try simp only [Act.put, List.setIfInBounds_toArray, List.set_cons_zero, List.set_cons_succ]
    refine wpAnyH_take (i := 25) (oi := ⟨_, _, _, _, _, _⟩) (v := undef) rfl (by kernel_rfl) (by kernel_rfl) (by kernel_rfl) (fun _ _ _ h => h) (Or.inr ⟨by rfl, rfl⟩) hHeld ?_
    try simp only [Act.put, List.setIfInBounds_toArray, List.set_cons_zero, List.set_cons_succ]
    refine wpAnyH_take (i := 26) (oi := ⟨_, _, _, _, _, _⟩) (v := undef) rfl (by kernel_rfl) (by kernel_rfl) (by kernel_rfl) (fun _ _ _ h => h) (Or.inr ⟨by rfl, rfl⟩) hHeld ?_
    try simp only [Act.put, List.setIfInBounds_toArray, List.set_cons_zero, List.set_cons_succ]
    refine wpAnyH_take (i := 27) (oi := ⟨_, _, _, _, _, _⟩) (v := undef) rfl (by kernel_rfl) (by kernel_rfl) (by kernel_rfl) (fun _ _ _ h => h) (Or.inr ⟨by rfl, rfl⟩) hHeld ?_
    try simp only [Act.put, List.setIfInBounds_toArray, List.set_cons_zero, List.set_cons_succ]
    refine wpAnyH_take (i := 28) (oi := ⟨_, _, _, _, _, _⟩) (v := undef) rfl (by kernel_rfl) (by kernel_rfl) (by kernel_rfl) (fun _ _ _ h => h) (Or.inr ⟨by rfl, rfl⟩) hHeld ?_
    try simp only [Act.put, List.setIfInBounds_toArray, List.set_cons_zero, List.set_cons_succ]
    refine wpAnyH_take (i := 29) (oi := ⟨_, _, _, _, _, _⟩) (v := undef) rfl (by kernel_rfl) (by kernel_rfl) (by kernel_rfl) (fun _ _ _ h => h) (Or.inr ⟨by rfl, rfl⟩) hHeld ?_
    try simp only [Act.put, List.setIfInBounds_toArray, List.set_cons_zero, List.set_cons_succ]
    refine wpAnyH_take (i := 30) (oi := ⟨_, _, _, _, _, _⟩) (v := undef) rfl (by kernel_rfl) (by kernel_rfl) (by kernel_rfl) (fun _ _ _ h => h) (Or.inr ⟨by rfl, rfl⟩) hHeld ?_
    try simp only [Act.put, List.setIfInBounds_toArray, List.set_cons_zero, List.set_cons_succ]
    refine wpAnyH_take (i := 31) (oi := ⟨_, _, _, _, _, _⟩) (v := undef) rfl (by kernel_rfl) (by kernel_rfl) (by kernel_rfl) (fun _ _ _ h => h) (Or.inr ⟨by rfl, rfl⟩) hHeld ?_
    try simp only [Act.put, List.setIfInBounds_toArray, List.set_cons_zero, List.set_cons_succ]
    refine wpAnyH_take (i := 32) (oi := ⟨_, _, _, _, _, _⟩) (v := undef) rfl (by kernel_rfl) (by kernel_rfl) (by kernel_rfl) (fun _ _ _ h => h) (Or.inr ⟨by rfl, rfl⟩) hHeld ?_
    try simp only [Act.put, List.setIfInBounds_toArray, List.set_cons_zero, List.set_cons_succ]
    refine wpAnyH_take (i := 33) (oi := ⟨_, _, _, _, _, _⟩) (v := undef) rfl (by kernel_rfl) (by kernel_rfl) (by kernel_rfl) (fun _ _ _ h => h) (Or.inr ⟨by rfl, rfl⟩) hHeld ?_
    try simp only [Act.put, List.setIfInBounds_toArray, List.set_cons_zero, List.set_cons_succ]
    refine wpAnyH_take (i := 34) (oi := ⟨_, _, _, _, _, _⟩) (v := undef) rfl (by kernel_rfl) (by kernel_rfl) (by kernel_rfl) (fun _ _ _ h => h) (Or.inr ⟨by rfl, rfl⟩) hHeld ?_
    try simp only [Act.put, List.setIfInBounds_toArray, List.set_cons_zero, List.set_cons_succ]
    refine wpAnyH_take (i := 35) (oi := ⟨_, _, _, _, _, _⟩) (v := undef) rfl (by kernel_rfl) (by kernel_rfl) (by kernel_rfl) (fun _ _ _ h => h) (Or.inr ⟨by rfl, rfl⟩) hHeld ?_
    try simp only [Act.put, List.setIfInBounds_toArray, List.set_cons_zero, List.set_cons_succ]
    refine wpAnyH_take (i := 36) (oi := ⟨_, _, _, _, _, _⟩) (v := undef) rfl (by kernel_rfl) (by kernel_rfl) (by kernel_rfl) (fun _ _ _ h => h) (Or.inr ⟨by rfl, rfl⟩) hHeld ?_
    try simp only [Act.put, List.setIfInBounds_toArray, List.set_cons_zero, List.set_cons_succ]
    refine wpAnyH_take (i := 37) (oi := ⟨_, _, _, _, _, _⟩) (v := ?_) rfl (by kernel_rfl) (by kernel_rfl) (by kernel_rfl) (fun _ _ _ h => h) (Or.inl ⟨by rfl, ?_⟩) hHeld ?_
    rotate_left
    · (intro w hSw; (try dsimp only at hSw); have A0 := hSw.A.at0 (scrA_0 s v1 v2 v3 v4); have B0 := hSw.B.at0 (scrA_0 t u1 u2 u3 u4); have A1 := hSw.A.at 1 (scrA_1 s v1 v2 v3 v4); have B1 := hSw.B.at 1 (scrA_1 t u1 u2 u3 u4); have A2 := hSw.A.at 2 (scrA_2 s v1 v2 v3 v4); have B2 := hSw.B.at 2 (scrA_2 t u1 u2 u3 u4); clear hSw; go_simp; try (with_reducible rfl))
    try simp only [Act.put, List.setIfInBounds_toArray, List.set_cons_zero, List.set_cons_succ]
    refine wpAnyH_done (by kernel_rfl) ?_ _
    go_wp2
    go_ret
    exact ⟨ret_bool (by simp [shownB, sameG, e1]), hHeld.bel⟩
  · skip
    have ne1 : (s.r != t.r) = false := by simpa using e1
    cases e2 : (s.wd == t.wd)
    · have ne2 : (s.wd != t.wd) = true := by simpa using e2
      go_enter Try.func38, Try.ntmps38
      try simp only [List.append_eq, List.cons_append, List.nil_append]
      go_wp2_with fail
      refine wp_region_held_drew (S := (fun w' => KeepTwo w a oa b ob s t v1 v2 v3 v4 u1 u2 u3 u4 w')) (by kernel_rfl) ?_ (fun hHeld => ?_)
      · (try dsimp only); exact hKT
      refine wpAnyH_take (i := 0) (oi := ⟨_, _, _, _, _, _⟩) (v := ?_) rfl (by kernel_rfl) (by kernel_rfl) (by kernel_rfl) (fun _ _ _ h => h) (Or.inl ⟨by rfl, ?_⟩) hHeld ?_
      rotate_left
      · (intro w hSw; (try dsimp only at hSw); have A0 := hSw.A.at0 (scrA_0 s v1 v2 v3 v4); have B0 := hSw.B.at0 (scrA_0 t u1 u2 u3 u4); have A1 := hSw.A.at 1 (scrA_1 s v1 v2 v3 v4); have B1 := hSw.B.at 1 (scrA_1 t u1 u2 u3 u4); have A2 := hSw.A.at 2 (scrA_2 s v1 v2 v3 v4); have B2 := hSw.B.at 2 (scrA_2 t u1 u2 u3 u4); clear hSw; go_simp; try (with_reducible rfl))
      try simp only [Act.put, List.setIfInBounds_toArray, List.set_cons_zero, List.set_cons_succ]
      refine wpAnyH_take (i := 1) (oi := ⟨_, _, _, _, _, _⟩) (v := ?_) rfl (by kernel_rfl) (by kernel_rfl) (by kernel_rfl) (fun _ _ _ h => h) (Or.inl ⟨by rfl, ?_⟩) hHeld ?_
      rotate_left
      · (intro w hSw; (try dsimp only at hSw); have A0 := hSw.A.at0 (scrA_0 s v1 v2 v3 v4); have B0 := hSw.B.at0 (scrA_0 t u1 u2 u3 u4); have A1 := hSw.A.at 1 (scrA_1 s v1 v2 v3 v4); have B1 := hSw.B.at 1 (scrA_1 t u1 u2 u3 u4); have A2 := hSw.A.at 2 (scrA_2 s v1 v2 v3 v4); have B2 := hSw.B.at 2 (scrA_2 t u1 u2 u3 u4); clear hSw; go_simp; try (with_reducible rfl))
      try simp only [Act.put, List.setIfInBounds_toArray, List.set_cons_zero, List.set_cons_succ]
      refine wpAnyH_take (i := 2) (oi := ⟨_, _, _, _, _, _⟩) (v := ?_) rfl (by kernel_rfl) (by kernel_rfl) (by kernel_rfl) (fun _ _ _ h => h) (Or.inl ⟨by rfl, ?_⟩) hHeld ?_
      rotate_left
      · (intro w hSw; (try dsimp only at hSw); have A0 := hSw.A.at0 (scrA_0 s v1 v2 v3 v4); have B0 := hSw.B.at0 (scrA_0 t u1 u2 u3 u4); have A1 := hSw.A.at 1 (scrA_1 s v1 v2 v3 v4); have B1 := hSw.B.at 1 (scrA_1 t u1 u2 u3 u4); have A2 := hSw.A.at 2 (scrA_2 s v1 v2 v3 v4); have B2 := hSw.B.at 2 (scrA_2 t u1 u2 u3 u4); clear hSw; go_simp; try (with_reducible rfl))
      try simp only [Act.put, List.setIfInBounds_toArray, List.set_cons_zero, List.set_cons_succ]
      refine wpAnyH_take (i := 3) (oi := ⟨_, _, _, _, _, _⟩) (v := ?_) rfl (by kernel_rfl) (by kernel_rfl) (by kernel_rfl) (fun _ _ _ h => h) (Or.inl ⟨by rfl, ?_⟩) hHeld ?_
      rotate_left
      · (intro w hSw; (try dsimp only at hSw); have A0 := hSw.A.at0 (scrA_0 s v1 v2 v3 v4); have B0 := hSw.B.at0 (scrA_0 t u1 u2 u3 u4); have A1 := hSw.A.at 1 (scrA_1 s v1 v2 v3 v4); have B1 := hSw.B.at 1 (scrA_1 t u1 u2 u3 u4); have A2 := hSw.A.at 2 (scrA_2 s v1 v2 v3 v4); have B2 := hSw.B.at 2 (scrA_2 t u1 u2 u3 u4); clear hSw; go_simp; try (with_reducible rfl))
      try simp only [Act.put, List.setIfInBounds_toArray, List.set_cons_zero, List.set_cons_succ]
      refine wpAnyH_take (i := 4) (oi := ⟨_, _, _, _, _, _⟩) (v := ?_) rfl (by kernel_rfl) (by kernel_rfl) (by kernel_rfl) (fun _ _ _ h => h) (Or.inl ⟨by rfl, ?_⟩) hHeld ?_
      rotate_left
      · (intro w hSw; (try dsimp only at hSw); have A0 := hSw.A.at0 (scrA_0 s v1 v2 v3 v4); have B0 := hSw.B.at0 (scrA_0 t u1 u2 u3 u4); have A1 := hSw.A.at 1 (scrA_1 s v1 v2 v3 v4); have B1 := hSw.B.at 1 (scrA_1 t u1 u2 u3 u4); have A2 := hSw.A.at 2 (scrA_2 s v1 v2 v3 v4); have B2 := hSw.B.at 2 (scrA_2 t u1 u2 u3 u4); clear hSw; go_simp; try (with_reducible rfl))
      try simp only [Act.put, List.setIfInBounds_toArray, List.set_cons_zero, List.set_cons_succ]
      refine wpAnyH_take (i := 5) (oi := ⟨_, _, _, _, _, _⟩) (v := ?_) rfl (by kernel_rfl) (by kernel_rfl) (by kernel_rfl) (fun _ _ _ h => h) (Or.inl ⟨by rfl, ?_⟩) hHeld ?_
      rotate_left
      · (intro w hSw; (try dsimp only at hSw); have A0 := hSw.A.at0 (scrA_0 s v1 v2 v3 v4); have B0 := hSw.B.at0 (scrA_0 t u1 u2 u3 u4); have A1 := hSw.A.at 1 (scrA_1 s v1 v2 v3 v4); have B1 := hSw.B.at 1 (scrA_1 t u1 u2 u3 u4); have A2 := hSw.A.at 2 (scrA_2 s v1 v2 v3 v4); have B2 := hSw.B.at 2 (scrA_2 t u1 u2 u3 u4); clear hSw; go_simp; try (with_reducible rfl))
      try simp only [Act.put, List.setIfInBounds_toArray, List.set_cons_zero, List.set_cons_succ]
      refine wpAnyH_take (i := 6) (oi := ⟨_, _, _, _, _, _⟩) (v := ?_) rfl (by kernel_rfl) (by kernel_rfl) (by kernel_rfl) (fun _ _ _ h => h) (Or.inl ⟨by rfl, ?_⟩) hHeld ?_
      rotate_left
      · (intro w hSw; (try dsimp only at hSw); have A0 := hSw.A.at0 (scrA_0 s v1 v2 v3 v4); have B0 := hSw.B.at0 (scrA_0 t u1 u2 u3 u4); have A1 := hSw.A.at 1 (scrA_1 s v1 v2 v3 v4); have B1 := hSw.B.at 1 (scrA_1 t u1 u2 u3 u4); have A2 := hSw.A.at 2 (scrA_2 s v1 v2 v3 v4); have B2 := hSw.B.at 2 (scrA_2 t u1 u2 u3 u4); clear hSw; go_simp; try (with_reducible rfl))
      try simp only [Act.put, List.setIfInBounds_toArray, List.set_cons_zero, List.set_cons_succ]
      refine wpAnyH_take (i := 7) (oi := ⟨_, _, _, _, _, _⟩) (v := ?_) rfl (by kernel_rfl) (by kernel_rfl) (by kernel_rfl) (fun _ _ _ h => h) (Or.inl ⟨by rfl, ?_⟩) hHeld ?_
      rotate_left
      · (intro w hSw; (try dsimp only at hSw); have A0 := hSw.A.at0 (scrA_0 s v1 v2 v3 v4); have B0 := hSw.B.at0 (scrA_0 t u1 u2 u3 u4); have A1 := hSw.A.at 1 (scrA_1 s v1 v2 v3 v4); have B1 := hSw.B.at 1 (scrA_1 t u1 u2 u3 u4); have A2 := hSw.A.at 2 (scrA_2 s v1 v2 v3 v4); have B2 := hSw.B.at 2 (scrA_2 t u1 u2 u3 u4); clear hSw; go_simp; try (with_reducible rfl))
      try simp only [Act.put, List.setIfInBounds_toArray, List.set_cons_zero, List.set_cons_succ]
      refine wpAnyH_take (i := 8) (oi := ⟨_, _, _, _, _, _⟩) (v := ?_) rfl (by kernel_rfl) (by kernel_rfl) (by kernel_rfl) (fun _ _ _ h => h) (Or.inl ⟨by rfl, ?_⟩) hHeld ?_
      rotate_left
      · (intro w hSw; (try dsimp only at hSw); have A0 := hSw.A.at0 (scrA_0 s v1 v2 v3 v4); have B0 := hSw.B.at0 (scrA_0 t u1 u2 u3 u4); have A1 := hSw.A.at 1 (scrA_1 s v1 v2 v3 v4); have B1 := hSw.B.at 1 (scrA_1 t u1 u2 u3 u4); have A2 := hSw.A.at 2 (scrA_2 s v1 v2 v3 v4); have B2 := hSw.B.at 2 (scrA_2 t u1 u2 u3 u4); clear hSw; go_simp; try (with_reducible rfl))
      try simp only [Act.put, List.setIfInBounds_toArray, List.set_cons_zero, List.set_cons_succ]
      refine wpAnyH_take (i := 9) (oi := ⟨_, _, _, _, _, _⟩) (v := ?_) rfl (by kernel_rfl) (by kernel_rfl) (by kernel_rfl) (fun _ _ _ h => h) (Or.inl ⟨by rfl, ?_⟩) hHeld ?_
      rotate_left
      · (intro w hSw; (try dsimp only at hSw); have A0 := hSw.A.at0 (scrA_0 s v1 v2 v3 v4); have B0 := hSw.B.at0 (scrA_0 t u1 u2 u3 u4); have A1 := hSw.A.at 1 (scrA_1 s v1 v2 v3 v4); have B1 := hSw.B.at 1 (scrA_1 t u1 u2 u3 u4); have A2 := hSw.A.at 2 (scrA_2 s v1 v2 v3 v4); have B2 := hSw.B.at 2 (scrA_2 t u1 u2 u3 u4); clear hSw; go_simp; try (with_reducible rfl))
      try simp only [Act.put, List.setIfInBounds_toArray, List.set_cons_zero, List.set_cons_succ]
      refine wpAnyH_take (i := 10) (oi := ⟨_, _, _, _, _, _⟩) (v := ?_) rfl (by kernel_rfl) (by kernel_rfl) (by kernel_rfl) (fun _ _ _ h => h) (Or.inl ⟨by rfl, ?_⟩) hHeld ?_
      rotate_left
      · (intro w hSw; (try dsimp only at hSw); have A0 := hSw.A.at0 (scrA_0 s v1 v2 v3 v4); have B0 := hSw.B.at0 (scrA_0 t u1 u2 u3 u4); have A1 := hSw.A.at 1 (scrA_1 s v1 v2 v3 v4); have B1 := hSw.B.at 1 (scrA_1 t u1 u2 u3 u4); have A2 := hSw.A.at 2 (scrA_2 s v1 v2 v3 v4); have B2 := hSw.B.at 2 (scrA_2 t u1 u2 u3 u4); clear hSw; go_simp; try (with_reducible rfl))
      try simp only [Act.put, List.setIfInBounds_toArray, List.set_cons_zero, List.set_cons_succ]
      refine wpAnyH_take (i := 11) (oi := ⟨_, _, _, _, _, _⟩) (v := ?_) rfl (by kernel_rfl) (by kernel_rfl) (by kernel_rfl) (fun _ _ _ h => h) (Or.inl ⟨by rfl, ?_⟩) hHeld ?_
      rotate_left
      · (intro w hSw; (try dsimp only at hSw); have A0 := hSw.A.at0 (scrA_0 s v1 v2 v3 v4); have B0 := hSw.B.at0 (scrA_0 t u1 u2 u3 u4); have A1 := hSw.A.at 1 (scrA_1 s v1 v2 v3 v4); have B1 := hSw.B.at 1 (scrA_1 t u1 u2 u3 u4); have A2 := hSw.A.at 2 (scrA_2 s v1 v2 v3 v4); have B2 := hSw.B.at 2 (scrA_2 t u1 u2 u3 u4); clear hSw; go_simp; try (with_reducible rfl))
      try simp only [Act.put, List.setIfInBounds_toArray, List.set_cons_zero, List.set_cons_succ]
      refine wpAnyH_take (i := 12) (oi := ⟨_, _, _, _, _, _⟩) (v := ?_) rfl (by kernel_rfl) (by kernel_rfl) (by kernel_rfl) (fun _ _ _ h => h) (Or.inl ⟨by rfl, ?_⟩) hHeld ?_
      rotate_left
      · (intro w hSw; (try dsimp only at hSw); have A0 := hSw.A.at0 (scrA_0 s v1 v2 v3 v4); have B0 := hSw.B.at0 (scrA_0 t u1 u2 u3 u4); have A1 := hSw.A.at 1 (scrA_1 s v1 v2 v3 v4); have B1 := hSw.B.at 1 (scrA_1 t u1 u2 u3 u4); have A2 := hSw.A.at 2 (scrA_2 s v1 v2 v3 v4); have B2 := hSw.B.at 2 (scrA_2 t u1 u2 u3 u4); clear hSw; go_simp; try (with_reducible rfl))
      try simp only [Act.put, List.setIfInBounds_toArray, List.set_cons_zero, List.set_cons_succ]
      refine wpAnyH_take (i := 13) (oi := ⟨_, _, _, _, _, _⟩) (v := ?_) rfl (by kernel_rfl) (by kernel_rfl) (by kernel_rfl) (fun _ _ _ h => h) (Or.inl ⟨by rfl, ?_⟩) hHeld ?_
      rotate_left
      · (intro w hSw; (try dsimp only at hSw); have A0 := hSw.A.at0 (scrA_0 s v1 v2 v3 v4); have B0 := hSw.B.at0 (scrA_0 t u1 u2 u3 u4); have A1 := hSw.A.at 1 (scrA_1 s v1 v2 v3 v4); have B1 := hSw.B.at 1 (scrA_1 t u1 u2 u3 u4); have A2 := hSw.A.at 2 (scrA_2 s v1 v2 v3 v4); have B2 := hSw.B.at 2 (scrA_2 t u1 u2 u3 u4); clear hSw; go_simp; try (with_reducible rfl))
      try simp only [Act.put, List.setIfInBounds_toArray, List.set_cons_zero, List.set_cons_succ]
      refine wpAnyH_take (i := 14) (oi := ⟨_, _, _, _, _, _⟩) (v := ?_) rfl (by kernel_rfl) (by kernel_rfl) (by kernel_rfl) (fun _ _ _ h => h) (Or.inl ⟨by rfl, ?_⟩) hHeld ?_
      rotate_left
      · (intro w hSw; (try dsimp only at hSw); have A0 := hSw.A.at0 (scrA_0 s v1 v2 v3 v4); have B0 := hSw.B.at0 (scrA_0 t u1 u2 u3 u4); have A1 := hSw.A.at 1 (scrA_1 s v1 v2 v3 v4); have B1 := hSw.B.at 1 (scrA_1 t u1 u2 u3 u4); have A2 := hSw.A.at 2 (scrA_2 s v1 v2 v3 v4); have B2 := hSw.B.at 2 (scrA_2 t u1 u2 u3 u4); clear hSw; go_simp; try (with_reducible rfl))
      try simp only [Act.put, List.setIfInBounds_toArray, List.set_cons_zero, List.set_cons_succ]
      refine wpAnyH_take (i := 15) (oi := ⟨_, _, _, _, _, _⟩) (v := ?_) rfl (by kernel_rfl) (by kernel_rfl) (by kernel_rfl) (fun _ _ _ h => h) (Or.inl ⟨by rfl, ?_⟩) hHeld ?_
      rotate_left
      · (intro w hSw; (try dsimp only at hSw); have A0 := hSw.A.at0 (scrA_0 s v1 v2 v3 v4); have B0 := hSw.B.at0 (scrA_0 t u1 u2 u3 u4); have A1 := hSw.A.at 1 (scrA_1 s v1 v2 v3 v4); have B1 := hSw.B.at 1 (scrA_1 t u1 u2 u3 u4); have A2 := hSw.A.at 2 (scrA_2 s v1 v2 v3 v4); have B2 := hSw.B.at 2 (scrA_2 t u1 u2 u3 u4); clear hSw; go_simp; try (with_reducible rfl))
      try simp only [Act.put, List.setIfInBounds_toArray, List.set_cons_zero, List.set_cons_succ]
      refine wpAnyH_take (i := 16) (oi := ⟨_, _, _, _, _, _⟩) (v := ?_) rfl (by kernel_rfl) (by kernel_rfl) (by kernel_rfl) (fun _ _ _ h => h) (Or.inl ⟨by rfl, ?_⟩) hHeld ?_
      rotate_left
      · (intro w hSw; (try dsimp only at hSw); have A0 := hSw.A.at0 (scrA_0 s v1 v2 v3 v4); have B0 := hSw.B.at0 (scrA_0 t u1 u2 u3 u4); have A1 := hSw.A.at 1 (scrA_1 s v1 v2 v3 v4); have B1 := hSw.B.at 1 (scrA_1 t u1 u2 u3 u4); have A2 := hSw.A.at 2 (scrA_2 s v1 v2 v3 v4); have B2 := hSw.B.at 2 (scrA_2 t u1 u2 u3 u4); clear hSw; go_simp; try (with_reducible rfl))
      try simp only [Act.put, List.setIfInBounds_toArray, List.set_cons_zero, List.set_cons_succ]
      refine wpAnyH_take (i := 17) (oi := ⟨_, _, _, _, _, _⟩) (v := ?_) rfl (by kernel_rfl) (by kernel_rfl) (by kernel_rfl) (fun _ _ _ h => h) (Or.inl ⟨by rfl, ?_⟩) hHeld ?_
      rotate_left
      · (intro w hSw; (try dsimp only at hSw); have A0 := hSw.A.at0 (scrA_0 s v1 v2 v3 v4); have B0 := hSw.B.at0 (scrA_0 t u1 u2 u3 u4); have A1 := hSw.A.at 1 (scrA_1 s v1 v2 v3 v4); have B1 := hSw.B.at 1 (scrA_1 t u1 u2 u3 u4); have A2 := hSw.A.at 2 (scrA_2 s v1 v2 v3 v4); have B2 := hSw.B.at 2 (scrA_2 t u1 u2 u3 u4); clear hSw; go_simp; try (with_reducible rfl))
      try simp only [Act.put, List.setIfInBounds_toArray, List.set_cons_zero, List.set_cons_succ]
      refine wpAnyH_take (i := 18) (oi := ⟨_, _, _, _, _, _⟩) (v := ?_) rfl (by kernel_rfl) (by kernel_rfl) (by kernel_rfl) (fun _ _ _ h => h) (Or.inl ⟨by rfl, ?_⟩) hHeld ?_
      rotate_left
      · (intro w hSw; (try dsimp only at hSw); have A0 := hSw.A.at0 (scrA_0 s v1 v2 v3 v4); have B0 := hSw.B.at0 (scrA_0 t u1 u2 u3 u4); have A1 := hSw.A.at 1 (scrA_1 s v1 v2 v3 v4); have B1 := hSw.B.at 1 (scrA_1 t u1 u2 u3 u4); have A2 := hSw.A.at 2 (scrA_2 s v1 v2 v3 v4); have B2 := hSw.B.at 2 (scrA_2 t u1 u2 u3 u4); clear hSw; go_simp; try (with_reducible rfl))
      try simp only [Act.put, List.setIfInBounds_toArray, List.set_cons_zero, List.set_cons_succ]
      refine wpAnyH_take (i := 19) (oi := ⟨_, _, _, _, _, _⟩) (v := ?_) rfl (by kernel_rfl) (by kernel_rfl) (by kernel_rfl) (fun _ _ _ h => h) (Or.inl ⟨by rfl, ?_⟩) hHeld ?_
      rotate_left
      · (intro w hSw; (try dsimp only at hSw); have A0 := hSw.A.at0 (scrA_0 s v1 v2 v3 v4); have B0 := hSw.B.at0 (scrA_0 t u1 u2 u3 u4); have A1 := hSw.A.at 1 (scrA_1 s v1 v2 v3 v4); have B1 := hSw.B.at 1 (scrA_1 t u1 u2 u3 u4); have A2 := hSw.A.at 2 (scrA_2 s v1 v2 v3 v4); have B2 := hSw.B.at 2 (scrA_2 t u1 u2 u3 u4); clear hSw; go_simp; try (with_reducible rfl))
      try simp only [Act.put, List.setIfInBounds_toArray, List.set_cons_zero, List.set_cons_succ]
      refine wpAnyH_take (i := 20) (oi := ⟨_, _, _, _, _, _⟩) (v := ?_) rfl (by kernel_rfl) (by kernel_rfl) (by kernel_rfl) (fun _ _ _ h => h) (Or.inl ⟨by rfl, ?_⟩) hHeld ?_
      rotate_left
      · (intro w hSw; (try dsimp only at hSw); have A0 := hSw.A.at0 (scrA_0 s v1 v2 v3 v4); have B0 := hSw.B.at0 (scrA_0 t u1 u2 u3 u4); have A1 := hSw.A.at 1 (scrA_1 s v1 v2 v3 v4); have B1 := hSw.B.at 1 (scrA_1 t u1 u2 u3 u4); have A2 := hSw.A.at 2 (scrA_2 s v1 v2 v3 v4); have B2 := hSw.B.at 2 (scrA_2 t u1 u2 u3 u4); clear hSw; go_simp; try (with_reducible rfl))
      try simp only [Act.put, List.setIfInBounds_toArray, List.set_cons_zero, List.set_cons_succ]
      refine wpAnyH_take (i := 21) (oi := ⟨_, _, _, _, _, _⟩) (v := ?_) rfl (by kernel_rfl) (by kernel_rfl) (by kernel_rfl) (fun _ _ _ h => h) (Or.inl ⟨by rfl, ?_⟩) hHeld ?_
      rotate_left
      · (intro w hSw; (try dsimp only at hSw); have A0 := hSw.A.at0 (scrA_0 s v1 v2 v3 v4); have B0 := hSw.B.at0 (scrA_0 t u1 u2 u3 u4); have A1 := hSw.A.at 1 (scrA_1 s v1 v2 v3 v4); have B1 := hSw.B.at 1 (scrA_1 t u1 u2 u3 u4); have A2 := hSw.A.at 2 (scrA_2 s v1 v2 v3 v4); have B2 := hSw.B.at 2 (scrA_2 t u1 u2 u3 u4); clear hSw; go_simp; try (with_reducible rfl))
      try simp only [Act.put, List.setIfInBounds_toArray, List.set_cons_zero, List.set_cons_succ]
      refine wpAnyH_take (i := 22) (oi := ⟨_, _, _, _, _, _⟩) (v := ?_) rfl (by kernel_rfl) (by kernel_rfl) (by kernel_rfl) (fun _ _ _ h => h) (Or.inl ⟨by rfl, ?_⟩) hHeld ?_
      rotate_left
      · (intro w hSw; (try dsimp only at hSw); have A0 := hSw.A.at0 (scrA_0 s v1 v2 v3 v4); have B0 := hSw.B.at0 (scrA_0 t u1 u2 u3 u4); have A1 := hSw.A.at 1 (scrA_1 s v1 v2 v3 v4); have B1 := hSw.B.at 1 (scrA_1 t u1 u2 u3 u4); have A2 := hSw.A.at 2 (scrA_2 s v1 v2 v3 v4); have B2 := hSw.B.at 2 (scrA_2 t u1 u2 u3 u4); clear hSw; go_simp; try (with_reducible rfl))
      try simp only [Act.put, List.setIfInBounds_toArray, List.set_cons_zero, List.set_cons_succ]
      refine wpAnyH_take (i := 23) (oi := ⟨_, _, _, _, _, _⟩) (v := ?_) rfl (by kernel_rfl) (by kernel_rfl) (by kernel_rfl) (fun _ _ _ h => h) (Or.inl ⟨by rfl, ?_⟩) hHeld ?_
      rotate_left
      · (intro w hSw; (try dsimp only at hSw); have A0 := hSw.A.at0 (scrA_0 s v1 v2 v3 v4); have B0 := hSw.B.at0 (scrA_0 t u1 u2 u3 u4); have A1 := hSw.A.at 1 (scrA_1 s v1 v2 v3 v4); have B1 := hSw.B.at 1 (scrA_1 t u1 u2 u3 u4); have A2 := hSw.A.at 2 (scrA_2 s v1 v2 v3 v4); have B2 := hSw.B.at 2 (scrA_2 t u1 u2 u3 u4); clear hSw; go_simp; try (with_reducible rfl))
      try simp only [Act.put, List.setIfInBounds_toArray, List.set_cons_zero, List.set_cons_succ]
      refine wpAnyH_take (i := 24) (oi := ⟨_, _, _, _, _, _⟩) (v := ?_) rfl (by kernel_rfl) (by kernel_rfl) (by kernel_rfl) (fun _ _ _ h => h) (Or.inl ⟨by rfl, ?_⟩) hHeld ?_
      rotate_left
      · (intro w hSw; (try dsimp only at hSw); have A0 := hSw.A.at0 (scrA_0 s v1 v2 v3 v4); have B0 := hSw.B.at0 (scrA_0 t u1 u2 u3 u4); have A1 := hSw.A.at 1 (scrA_1 s v1 v2 v3 v4); have B1 := hSw.B.at 1 (scrA_1 t u1 u2 u3 u4); have A2 := hSw.A.at 2 (scrA_2 s v1 v2 v3 v4); have B2 := hSw.B.at 2 (scrA_2 t u1 u2 u3 u4); clear hSw; go_simp; try (with_reducible rfl))
      try simp only [Act.put, List.setIfInBounds_toArray, List.set_cons_zero, List.set_cons_succ]
      refine wpAnyH_take (i := 25) (oi := ⟨_, _, _, _, _, _⟩) (v := undef) rfl (by kernel_rfl) (by kernel_rfl) (by kernel_rfl) (fun _ _ _ h => h) (Or.inr ⟨by rfl, rfl⟩) hHeld ?_
      try simp only [Act.put, List.setIfInBounds_toArray, List.set_cons_zero, List.set_cons_succ]
      refine wpAnyH_take (i := 26) (oi := ⟨_, _, _, _, _, _⟩) (v := undef) rfl (by kernel_rfl) (by kernel_rfl) (by kernel_rfl) (fun _ _ _ h => h) (Or.inr ⟨by rfl, rfl⟩) hHeld ?_
      try simp only [Act.put, List.setIfInBounds_toArray, List.set_cons_zero, List.set_cons_succ]
      refine wpAnyH_take (i := 27) (oi := ⟨_, _, _, _, _, _⟩) (v := undef) rfl (by kernel_rfl) (by kernel_rfl) (by kernel_rfl) (fun _ _ _ h => h) (Or.inr ⟨by rfl, rfl⟩) hHeld ?_
      try simp only [Act.put, List.setIfInBounds_toArray, List.set_cons_zero, List.set_cons_succ]
      refine wpAnyH_take (i := 28) (oi := ⟨_, _, _, _, _, _⟩) (v := undef) rfl (by kernel_rfl) (by kernel_rfl) (by kernel_rfl) (fun _ _ _ h => h) (Or.inr ⟨by rfl, rfl⟩) hHeld ?_
      try simp only [Act.put, List.setIfInBounds_toArray, List.set_cons_zero, List.set_cons_succ]
      refine wpAnyH_take (i := 29) (oi := ⟨_, _, _, _, _, _⟩) (v := undef) rfl (by kernel_rfl) (by kernel_rfl) (by kernel_rfl) (fun _ _ _ h => h) (Or.inr ⟨by rfl, rfl⟩) hHeld ?_
      try simp only [Act.put, List.setIfInBounds_toArray, List.set_cons_zero, List.set_cons_succ]
      refine wpAnyH_take (i := 30) (oi := ⟨_, _, _, _, _, _⟩) (v := undef) rfl (by kernel_rfl) (by kernel_rfl) (by kernel_rfl) (fun _ _ _ h => h) (Or.inr ⟨by rfl, rfl⟩) hHeld ?_
      try simp only [Act.put, List.setIfInBounds_toArray, List.set_cons_zero, List.set_cons_succ]
      refine wpAnyH_take (i := 31) (oi := ⟨_, _, _, _, _, _⟩) (v := undef) rfl (by kernel_rfl) (by kernel_rfl) (by kernel_rfl) (fun _ _ _ h => h) (Or.inr ⟨by rfl, rfl⟩) hHeld ?_
      try simp only [Act.put, List.setIfInBounds_toArray, List.set_cons_zero, List.set_cons_succ]
      refine wpAnyH_take (i := 32) (oi := ⟨_, _, _, _, _, _⟩) (v := undef) rfl (by kernel_rfl) (by kernel_rfl) (by kernel_rfl) (fun _ _ _ h => h) (Or.inr ⟨by rfl, rfl⟩) hHeld ?_
      try simp only [Act.put, List.setIfInBounds_toArray, List.set_cons_zero, List.set_cons_succ]
      refine wpAnyH_take (i := 33) (oi := ⟨_, _, _, _, _, _⟩) (v := undef) rfl (by kernel_rfl) (by kernel_rfl) (by kernel_rfl) (fun _ _ _ h => h) (Or.inr ⟨by rfl, rfl⟩) hHeld ?_
      try simp only [Act.put, List.setIfInBounds_toArray, List.set_cons_zero, List.set_cons_succ]
      refine wpAnyH_take (i := 34) (oi := ⟨_, _, _, _, _, _⟩) (v := undef) rfl (by kernel_rfl) (by kernel_rfl) (by kernel_rfl) (fun _ _ _ h => h) (Or.inr ⟨by rfl, rfl⟩) hHeld ?_
      try simp only [Act.put, List.setIfInBounds_toArray, List.set_cons_zero, List.set_cons_succ]
      refine wpAnyH_take (i := 35) (oi := ⟨_, _, _, _, _, _⟩) (v := undef) rfl (by kernel_rfl) (by kernel_rfl) (by kernel_rfl) (fun _ _ _ h => h) (Or.inr ⟨by rfl, rfl⟩) hHeld ?_
      try simp only [Act.put, List.setIfInBounds_toArray, List.set_cons_zero, List.set_cons_succ]
      refine wpAnyH_take (i := 36) (oi := ⟨_, _, _, _, _, _⟩) (v := undef) rfl (by kernel_rfl) (by kernel_rfl) (by kernel_rfl) (fun _ _ _ h => h) (Or.inr ⟨by rfl, rfl⟩) hHeld ?_
      try simp only [Act.put, List.setIfInBounds_toArray, List.set_cons_zero, List.set_cons_succ]
      refine wpAnyH_take (i := 37) (oi := ⟨_, _, _, _, _, _⟩) (v := ?_) rfl (by kernel_rfl) (by kernel_rfl) (by kernel_rfl) (fun _ _ _ h => h) (Or.inl ⟨by rfl, ?_⟩) hHeld ?_
      rotate_left
      · (intro w hSw; (try dsimp only at hSw); have A0 := hSw.A.at0 (scrA_0 s v1 v2 v3 v4); have B0 := hSw.B.at0 (scrA_0 t u1 u2 u3 u4); have A1 := hSw.A.at 1 (scrA_1 s v1 v2 v3 v4); have B1 := hSw.B.at 1 (scrA_1 t u1 u2 u3 u4); have A2 := hSw.A.at 2 (scrA_2 s v1 v2 v3 v4); have B2 := hSw.B.at 2 (scrA_2 t u1 u2 u3 u4); clear hSw; go_simp; try (with_reducible rfl))
      try simp only [Act.put, List.setIfInBounds_toArray, List.set_cons_zero, List.set_cons_succ]
      refine wpAnyH_done (by kernel_rfl) ?_ _
      go_wp2
      go_ret
      exact ⟨ret_bool (by simp [shownB, sameG, e1, e2]), hHeld.bel⟩
    · skip
      have ne2 : (s.wd != t.wd) = false := by simpa using e2
      cases e3 : sameL s.cs t.cs 0
      · skip
        go_enter Try.func38, Try.ntmps38
        try simp only [List.append_eq, List.cons_append, List.nil_append]
        go_wp2_with fail
        refine wp_region_held_drew (S := (fun w' => KeepTwo w a oa b ob s t v1 v2 v3 v4 u1 u2 u3 u4 w')) (by kernel_rfl) ?_ (fun hHeld => ?_)
        · (try dsimp only); exact hKT
        refine wpAnyH_take (i := 0) (oi := ⟨_, _, _, _, _, _⟩) (v := ?_) rfl (by kernel_rfl) (by kernel_rfl) (by kernel_rfl) (fun _ _ _ h => h) (Or.inl ⟨by rfl, ?_⟩) hHeld ?_
        rotate_left
        · (intro w hSw; (try dsimp only at hSw); have A0 := hSw.A.at0 (scrA_0 s v1 v2 v3 v4); have B0 := hSw.B.at0 (scrA_0 t u1 u2 u3 u4); have A1 := hSw.A.at 1 (scrA_1 s v1 v2 v3 v4); have B1 := hSw.B.at 1 (scrA_1 t u1 u2 u3 u4); have A2 := hSw.A.at 2 (scrA_2 s v1 v2 v3 v4); have B2 := hSw.B.at 2 (scrA_2 t u1 u2 u3 u4); clear hSw; go_simp; try (with_reducible rfl))
        try simp only [Act.put, List.setIfInBounds_toArray, List.set_cons_zero, List.set_cons_succ]
        refine wpAnyH_take (i := 1) (oi := ⟨_, _, _, _, _, _⟩) (v := ?_) rfl (by kernel_rfl) (by kernel_rfl) (by kernel_rfl) (fun _ _ _ h => h) (Or.inl ⟨by rfl, ?_⟩) hHeld ?_
        rotate_left
        · (intro w hSw; (try dsimp only at hSw); have A0 := hSw.A.at0 (scrA_0 s v1 v2 v3 v4); have B0 := hSw.B.at0 (scrA_0 t u1 u2 u3 u4); have A1 := hSw.A.at 1 (scrA_1 s v1 v2 v3 v4); have B1 := hSw.B.at 1 (scrA_1 t u1 u2 u3 u4); have A2 := hSw.A.at 2 (scrA_2 s v1 v2 v3 v4); have B2 := hSw.B.at 2 (scrA_2 t u1 u2 u3 u4); clear hSw; go_simp; try (with_reducible rfl))
        try simp only [Act.put, List.setIfInBounds_toArray, List.set_cons_zero, List.set_cons_succ]
        refine wpAnyH_take (i := 2) (oi := ⟨_, _, _, _, _, _⟩) (v := ?_) rfl (by kernel_rfl) (by kernel_rfl) (by kernel_rfl) (fun _ _ _ h => h) (Or.inl ⟨by rfl, ?_⟩) hHeld ?_
        rotate_left
        · (intro w hSw; (try dsimp only at hSw); have A0 := hSw.A.at0 (scrA_0 s v1 v2 v3 v4); have B0 := hSw.B.at0 (scrA_0 t u1 u2 u3 u4); have A1 := hSw.A.at 1 (scrA_1 s v1 v2 v3 v4); have B1 := hSw.B.at 1 (scrA_1 t u1 u2 u3 u4); have A2 := hSw.A.at 2 (scrA_2 s v1 v2 v3 v4); have B2 := hSw.B.at 2 (scrA_2 t u1 u2 u3 u4); clear hSw; go_simp; try (with_reducible rfl))
        try simp only [Act.put, List.setIfInBounds_toArray, List.set_cons_zero, List.set_cons_succ]
        refine wpAnyH_take (i := 3) (oi := ⟨_, _, _, _, _, _⟩) (v := ?_) rfl (by kernel_rfl) (by kernel_rfl) (by kernel_rfl) (fun _ _ _ h => h) (Or.inl ⟨by rfl, ?_⟩) hHeld ?_
        rotate_left
        · (intro w hSw; (try dsimp only at hSw); have A0 := hSw.A.at0 (scrA_0 s v1 v2 v3 v4); have B0 := hSw.B.at0 (scrA_0 t u1 u2 u3 u4); have A1 := hSw.A.at 1 (scrA_1 s v1 v2 v3 v4); have B1 := hSw.B.at 1 (scrA_1 t u1 u2 u3 u4); have A2 := hSw.A.at 2 (scrA_2 s v1 v2 v3 v4); have B2 := hSw.B.at 2 (scrA_2 t u1 u2 u3 u4); clear hSw; go_simp; try (with_reducible rfl))
        try simp only [Act.put, List.setIfInBounds_toArray, List.set_cons_zero, List.set_cons_succ]
        refine wpAnyH_take (i := 4) (oi := ⟨_, _, _, _, _, _⟩) (v := ?_) rfl (by kernel_rfl) (by kernel_rfl) (by kernel_rfl) (fun _ _ _ h => h) (Or.inl ⟨by rfl, ?_⟩) hHeld ?_
        rotate_left
        · (intro w hSw; (try dsimp only at hSw); have A0 := hSw.A.at0 (scrA_0 s v1 v2 v3 v4); have B0 := hSw.B.at0 (scrA_0 t u1 u2 u3 u4); have A1 := hSw.A.at 1 (scrA_1 s v1 v2 v3 v4); have B1 := hSw.B.at 1 (scrA_1 t u1 u2 u3 u4); have A2 := hSw.A.at 2 (scrA_2 s v1 v2 v3 v4); have B2 := hSw.B.at 2 (scrA_2 t u1 u2 u3 u4); clear hSw; go_simp; try (with_reducible rfl))
        try simp only [Act.put, List.setIfInBounds_toArray, List.set_cons_zero, List.set_cons_succ]
        refine wpAnyH_take (i := 5) (oi := ⟨_, _, _, _, _, _⟩) (v := ?_) rfl (by kernel_rfl) (by kernel_rfl) (by kernel_rfl) (fun _ _ _ h => h) (Or.inl ⟨by rfl, ?_⟩) hHeld ?_
        rotate_left
        · (intro w hSw; (try dsimp only at hSw); have A0 := hSw.A.at0 (scrA_0 s v1 v2 v3 v4); have B0 := hSw.B.at0 (scrA_0 t u1 u2 u3 u4); have A1 := hSw.A.at 1 (scrA_1 s v1 v2 v3 v4); have B1 := hSw.B.at 1 (scrA_1 t u1 u2 u3 u4); have A2 := hSw.A.at 2 (scrA_2 s v1 v2 v3 v4); have B2 := hSw.B.at 2 (scrA_2 t u1 u2 u3 u4); clear hSw; go_simp; try (with_reducible rfl))
        try simp only [Act.put, List.setIfInBounds_toArray, List.set_cons_zero, List.set_cons_succ]
        refine wpAnyH_take (i := 6) (oi := ⟨_, _, _, _, _, _⟩) (v := ?_) rfl (by kernel_rfl) (by kernel_rfl) (by kernel_rfl) (fun _ _ _ h => h) (Or.inl ⟨by rfl, ?_⟩) hHeld ?_
        rotate_left
        · (intro w hSw; (try dsimp only at hSw); have A0 := hSw.A.at0 (scrA_0 s v1 v2 v3 v4); have B0 := hSw.B.at0 (scrA_0 t u1 u2 u3 u4); have A1 := hSw.A.at 1 (scrA_1 s v1 v2 v3 v4); have B1 := hSw.B.at 1 (scrA_1 t u1 u2 u3 u4); have A2 := hSw.A.at 2 (scrA_2 s v1 v2 v3 v4); have B2 := hSw.B.at 2 (scrA_2 t u1 u2 u3 u4); clear hSw; go_simp; try (with_reducible rfl))
        try simp only [Act.put, List.setIfInBounds_toArray, List.set_cons_zero, List.set_cons_succ]
        refine wpAnyH_take (i := 7) (oi := ⟨_, _, _, _, _, _⟩) (v := ?_) rfl (by kernel_rfl) (by kernel_rfl) (by kernel_rfl) (fun _ _ _ h => h) (Or.inl ⟨by rfl, ?_⟩) hHeld ?_
        rotate_left
        · (intro w hSw; (try dsimp only at hSw); have A0 := hSw.A.at0 (scrA_0 s v1 v2 v3 v4); have B0 := hSw.B.at0 (scrA_0 t u1 u2 u3 u4); have A1 := hSw.A.at 1 (scrA_1 s v1 v2 v3 v4); have B1 := hSw.B.at 1 (scrA_1 t u1 u2 u3 u4); have A2 := hSw.A.at 2 (scrA_2 s v1 v2 v3 v4); have B2 := hSw.B.at 2 (scrA_2 t u1 u2 u3 u4); clear hSw; go_simp; try (with_reducible rfl))
        try simp only [Act.put, List.setIfInBounds_toArray, List.set_cons_zero, List.set_cons_succ]
        refine wpAnyH_take (i := 8) (oi := ⟨_, _, _, _, _, _⟩) (v := ?_) rfl (by kernel_rfl) (by kernel_rfl) (by kernel_rfl) (fun _ _ _ h => h) (Or.inl ⟨by rfl, ?_⟩) hHeld ?_
        rotate_left
        · (intro w hSw; (try dsimp only at hSw); have A0 := hSw.A.at0 (scrA_0 s v1 v2 v3 v4); have B0 := hSw.B.at0 (scrA_0 t u1 u2 u3 u4); have A1 := hSw.A.at 1 (scrA_1 s v1 v2 v3 v4); have B1 := hSw.B.at 1 (scrA_1 t u1 u2 u3 u4); have A2 := hSw.A.at 2 (scrA_2 s v1 v2 v3 v4); have B2 := hSw.B.at 2 (scrA_2 t u1 u2 u3 u4); clear hSw; go_simp; try (with_reducible rfl))
        try simp only [Act.put, List.setIfInBounds_toArray, List.set_cons_zero, List.set_cons_succ]
        refine wpAnyH_take (i := 9) (oi := ⟨_, _, _, _, _, _⟩) (v := ?_) rfl (by kernel_rfl) (by kernel_rfl) (by kernel_rfl) (fun _ _ _ h => h) (Or.inl ⟨by rfl, ?_⟩) hHeld ?_
        rotate_left
        · (intro w hSw; (try dsimp only at hSw); have A0 := hSw.A.at0 (scrA_0 s v1 v2 v3 v4); have B0 := hSw.B.at0 (scrA_0 t u1 u2 u3 u4); have A1 := hSw.A.at 1 (scrA_1 s v1 v2 v3 v4); have B1 := hSw.B.at 1 (scrA_1 t u1 u2 u3 u4); have A2 := hSw.A.at 2 (scrA_2 s v1 v2 v3 v4); have B2 := hSw.B.at 2 (scrA_2 t u1 u2 u3 u4); clear hSw; go_simp; try (with_reducible rfl))
        try simp only [Act.put, List.setIfInBounds_toArray, List.set_cons_zero, List.set_cons_succ]
        refine wpAnyH_take (i := 10) (oi := ⟨_, _, _, _, _, _⟩) (v := ?_) rfl (by kernel_rfl) (by kernel_rfl) (by kernel_rfl) (fun _ _ _ h => h) (Or.inl ⟨by rfl, ?_⟩) hHeld ?_
        rotate_left
        · (intro w hSw; (try dsimp only at hSw); have A0 := hSw.A.at0 (scrA_0 s v1 v2 v3 v4); have B0 := hSw.B.at0 (scrA_0 t u1 u2 u3 u4); have A1 := hSw.A.at 1 (scrA_1 s v1 v2 v3 v4); have B1 := hSw.B.at 1 (scrA_1 t u1 u2 u3 u4); have A2 := hSw.A.at 2 (scrA_2 s v1 v2 v3 v4); have B2 := hSw.B.at 2 (scrA_2 t u1 u2 u3 u4); clear hSw; go_simp; try (with_reducible rfl))
        try simp only [Act.put, List.setIfInBounds_toArray, List.set_cons_zero, List.set_cons_succ]
        refine wpAnyH_take (i := 11) (oi := ⟨_, _, _, _, _, _⟩) (v := ?_) rfl (by kernel_rfl) (by kernel_rfl) (by kernel_rfl) (fun _ _ _ h => h) (Or.inl ⟨by rfl, ?_⟩) hHeld ?_
        rotate_left
        · (intro w hSw; (try dsimp only at hSw); have A0 := hSw.A.at0 (scrA_0 s v1 v2 v3 v4); have B0 := hSw.B.at0 (scrA_0 t u1 u2 u3 u4); have A1 := hSw.A.at 1 (scrA_1 s v1 v2 v3 v4); have B1 := hSw.B.at 1 (scrA_1 t u1 u2 u3 u4); have A2 := hSw.A.at 2 (scrA_2 s v1 v2 v3 v4); have B2 := hSw.B.at 2 (scrA_2 t u1 u2 u3 u4); clear hSw; go_simp; try (with_reducible rfl))
        try simp only [Act.put, List.setIfInBounds_toArray, List.set_cons_zero, List.set_cons_succ]
        refine wpAnyH_take (i := 12) (oi := ⟨_, _, _, _, _, _⟩) (v := ?_) rfl (by kernel_rfl) (by kernel_rfl) (by kernel_rfl) (fun _ _ _ h => h) (Or.inl ⟨by rfl, ?_⟩) hHeld ?_
        rotate_left
        · (intro w hSw; (try dsimp only at hSw); have A0 := hSw.A.at0 (scrA_0 s v1 v2 v3 v4); have B0 := hSw.B.at0 (scrA_0 t u1 u2 u3 u4); have A1 := hSw.A.at 1 (scrA_1 s v1 v2 v3 v4); have B1 := hSw.B.at 1 (scrA_1 t u1 u2 u3 u4); have A2 := hSw.A.at 2 (scrA_2 s v1 v2 v3 v4); have B2 := hSw.B.at 2 (scrA_2 t u1 u2 u3 u4); clear hSw; go_simp; try (with_reducible rfl))
        try simp only [Act.put, List.setIfInBounds_toArray, List.set_cons_zero, List.set_cons_succ]
        refine wpAnyH_take (i := 13) (oi := ⟨_, _, _, _, _, _⟩) (v := ?_) rfl (by kernel_rfl) (by kernel_rfl) (by kernel_rfl) (fun _ _ _ h => h) (Or.inl ⟨by rfl, ?_⟩) hHeld ?_
        rotate_left
        · (intro w hSw; (try dsimp only at hSw); have A0 := hSw.A.at0 (scrA_0 s v1 v2 v3 v4); have B0 := hSw.B.at0 (scrA_0 t u1 u2 u3 u4); have A1 := hSw.A.at 1 (scrA_1 s v1 v2 v3 v4); have B1 := hSw.B.at 1 (scrA_1 t u1 u2 u3 u4); have A2 := hSw.A.at 2 (scrA_2 s v1 v2 v3 v4); have B2 := hSw.B.at 2 (scrA_2 t u1 u2 u3 u4); clear hSw; go_simp; try (with_reducible rfl))
        try simp only [Act.put, List.setIfInBounds_toArray, List.set_cons_zero, List.set_cons_succ]
        refine wpAnyH_take (i := 14) (oi := ⟨_, _, _, _, _, _⟩) (v := ?_) rfl (by kernel_rfl) (by kernel_rfl) (by kernel_rfl) (fun _ _ _ h => h) (Or.inl ⟨by rfl, ?_⟩) hHeld ?_
        rotate_left
        · (intro w hSw; (try dsimp only at hSw); have A0 := hSw.A.at0 (scrA_0 s v1 v2 v3 v4); have B0 := hSw.B.at0 (scrA_0 t u1 u2 u3 u4); have A1 := hSw.A.at 1 (scrA_1 s v1 v2 v3 v4); have B1 := hSw.B.at 1 (scrA_1 t u1 u2 u3 u4); have A2 := hSw.A.at 2 (scrA_2 s v1 v2 v3 v4); have B2 := hSw.B.at 2 (scrA_2 t u1 u2 u3 u4); clear hSw; go_simp; try (with_reducible rfl))
        try simp only [Act.put, List.setIfInBounds_toArray, List.set_cons_zero, List.set_cons_succ]
        refine wpAnyH_take (i := 15) (oi := ⟨_, _, _, _, _, _⟩) (v := ?_) rfl (by kernel_rfl) (by kernel_rfl) (by kernel_rfl) (fun _ _ _ h => h) (Or.inl ⟨by rfl, ?_⟩) hHeld ?_
        rotate_left
        · (intro w hSw; (try dsimp only at hSw); have A0 := hSw.A.at0 (scrA_0 s v1 v2 v3 v4); have B0 := hSw.B.at0 (scrA_0 t u1 u2 u3 u4); have A1 := hSw.A.at 1 (scrA_1 s v1 v2 v3 v4); have B1 := hSw.B.at 1 (scrA_1 t u1 u2 u3 u4); have A2 := hSw.A.at 2 (scrA_2 s v1 v2 v3 v4); have B2 := hSw.B.at 2 (scrA_2 t u1 u2 u3 u4); clear hSw; go_simp; try (with_reducible rfl))
        try simp only [Act.put, List.setIfInBounds_toArray, List.set_cons_zero, List.set_cons_succ]
        refine wpAnyH_take (i := 16) (oi := ⟨_, _, _, _, _, _⟩) (v := ?_) rfl (by kernel_rfl) (by kernel_rfl) (by kernel_rfl) (fun _ _ _ h => h) (Or.inl ⟨by rfl, ?_⟩) hHeld ?_
        rotate_left
        · (intro w hSw; (try dsimp only at hSw); have A0 := hSw.A.at0 (scrA_0 s v1 v2 v3 v4); have B0 := hSw.B.at0 (scrA_0 t u1 u2 u3 u4); have A1 := hSw.A.at 1 (scrA_1 s v1 v2 v3 v4); have B1 := hSw.B.at 1 (scrA_1 t u1 u2 u3 u4); have A2 := hSw.A.at 2 (scrA_2 s v1 v2 v3 v4); have B2 := hSw.B.at 2 (scrA_2 t u1 u2 u3 u4); clear hSw; go_simp; try (with_reducible rfl))
        try simp only [Act.put, List.setIfInBounds_toArray, List.set_cons_zero, List.set_cons_succ]
        refine wpAnyH_take (i := 17) (oi := ⟨_, _, _, _, _, _⟩) (v := ?_) rfl (by kernel_rfl) (by kernel_rfl) (by kernel_rfl) (fun _ _ _ h => h) (Or.inl ⟨by rfl, ?_⟩) hHeld ?_
        rotate_left
        · (intro w hSw; (try dsimp only at hSw); have A0 := hSw.A.at0 (scrA_0 s v1 v2 v3 v4); have B0 := hSw.B.at0 (scrA_0 t u1 u2 u3 u4); have A1 := hSw.A.at 1 (scrA_1 s v1 v2 v3 v4); have B1 := hSw.B.at 1 (scrA_1 t u1 u2 u3 u4); have A2 := hSw.A.at 2 (scrA_2 s v1 v2 v3 v4); have B2 := hSw.B.at 2 (scrA_2 t u1 u2 u3 u4); clear hSw; go_simp; try (with_reducible rfl))
        try simp only [Act.put, List.setIfInBounds_toArray, List.set_cons_zero, List.set_cons_succ]
        refine wpAnyH_take (i := 18) (oi := ⟨_, _, _, _, _, _⟩) (v := ?_) rfl (by kernel_rfl) (by kernel_rfl) (by kernel_rfl) (fun _ _ _ h => h) (Or.inl ⟨by rfl, ?_⟩) hHeld ?_
        rotate_left
        · (intro w hSw; (try dsimp only at hSw); have A0 := hSw.A.at0 (scrA_0 s v1 v2 v3 v4); have B0 := hSw.B.at0 (scrA_0 t u1 u2 u3 u4); have A1 := hSw.A.at 1 (scrA_1 s v1 v2 v3 v4); have B1 := hSw.B.at 1 (scrA_1 t u1 u2 u3 u4); have A2 := hSw.A.at 2 (scrA_2 s v1 v2 v3 v4); have B2 := hSw.B.at 2 (scrA_2 t u1 u2 u3 u4); clear hSw; go_simp; try (with_reducible rfl))
        try simp only [Act.put, List.setIfInBounds_toArray, List.set_cons_zero, List.set_cons_succ]
        refine wpAnyH_take (i := 19) (oi := ⟨_, _, _, _, _, _⟩) (v := ?_) rfl (by kernel_rfl) (by kernel_rfl) (by kernel_rfl) (fun _ _ _ h => h) (Or.inl ⟨by rfl, ?_⟩) hHeld ?_
        rotate_left
        · (intro w hSw; (try dsimp only at hSw); have A0 := hSw.A.at0 (scrA_0 s v1 v2 v3 v4); have B0 := hSw.B.at0 (scrA_0 t u1 u2 u3 u4); have A1 := hSw.A.at 1 (scrA_1 s v1 v2 v3 v4); have B1 := hSw.B.at 1 (scrA_1 t u1 u2 u3 u4); have A2 := hSw.A.at 2 (scrA_2 s v1 v2 v3 v4); have B2 := hSw.B.at 2 (scrA_2 t u1 u2 u3 u4); clear hSw; go_simp; try (with_reducible rfl))
        try simp only [Act.put, List.setIfInBounds_toArray, List.set_cons_zero, List.set_cons_succ]
        refine wpAnyH_take (i := 20) (oi := ⟨_, _, _, _, _, _⟩) (v := ?_) rfl (by kernel_rfl) (by kernel_rfl) (by kernel_rfl) (fun _ _ _ h => h) (Or.inl ⟨by rfl, ?_⟩) hHeld ?_
        rotate_left
        · (intro w hSw; (try dsimp only at hSw); have A0 := hSw.A.at0 (scrA_0 s v1 v2 v3 v4); have B0 := hSw.B.at0 (scrA_0 t u1 u2 u3 u4); have A1 := hSw.A.at 1 (scrA_1 s v1 v2 v3 v4); have B1 := hSw.B.at 1 (scrA_1 t u1 u2 u3 u4); have A2 := hSw.A.at 2 (scrA_2 s v1 v2 v3 v4); have B2 := hSw.B.at 2 (scrA_2 t u1 u2 u3 u4); clear hSw; go_simp; try (with_reducible rfl))
        try simp only [Act.put, List.setIfInBounds_toArray, List.set_cons_zero, List.set_cons_succ]
        refine wpAnyH_take (i := 21) (oi := ⟨_, _, _, _, _, _⟩) (v := ?_) rfl (by kernel_rfl) (by kernel_rfl) (by kernel_rfl) (fun _ _ _ h => h) (Or.inl ⟨by rfl, ?_⟩) hHeld ?_
        rotate_left
        · (intro w hSw; (try dsimp only at hSw); have A0 := hSw.A.at0 (scrA_0 s v1 v2 v3 v4); have B0 := hSw.B.at0 (scrA_0 t u1 u2 u3 u4); have A1 := hSw.A.at 1 (scrA_1 s v1 v2 v3 v4); have B1 := hSw.B.at 1 (scrA_1 t u1 u2 u3 u4); have A2 := hSw.A.at 2 (scrA_2 s v1 v2 v3 v4); have B2 := hSw.B.at 2 (scrA_2 t u1 u2 u3 u4); clear hSw; go_simp; try (with_reducible rfl))
        try simp only [Act.put, List.setIfInBounds_toArray, List.set_cons_zero, List.set_cons_succ]
        refine wpAnyH_take (i := 22) (oi := ⟨_, _, _, _, _, _⟩) (v := ?_) rfl (by kernel_rfl) (by kernel_rfl) (by kernel_rfl) (fun _ _ _ h => h) (Or.inl ⟨by rfl, ?_⟩) hHeld ?_
        rotate_left
        · (intro w hSw; (try dsimp only at hSw); have A0 := hSw.A.at0 (scrA_0 s v1 v2 v3 v4); have B0 := hSw.B.at0 (scrA_0 t u1 u2 u3 u4); have A1 := hSw.A.at 1 (scrA_1 s v1 v2 v3 v4); have B1 := hSw.B.at 1 (scrA_1 t u1 u2 u3 u4); have A2 := hSw.A.at 2 (scrA_2 s v1 v2 v3 v4); have B2 := hSw.B.at 2 (scrA_2 t u1 u2 u3 u4); clear hSw; go_simp; try (with_reducible rfl))
        try simp only [Act.put, List.setIfInBounds_toArray, List.set_cons_zero, List.set_cons_succ]
        refine wpAnyH_take (i := 23) (oi := ⟨_, _, _, _, _, _⟩) (v := ?_) rfl (by kernel_rfl) (by kernel_rfl) (by kernel_rfl) (fun _ _ _ h => h) (Or.inl ⟨by rfl, ?_⟩) hHeld ?_
        rotate_left
        · (intro w hSw; (try dsimp only at hSw); have A0 := hSw.A.at0 (scrA_0 s v1 v2 v3 v4); have B0 := hSw.B.at0 (scrA_0 t u1 u2 u3 u4); have A1 := hSw.A.at 1 (scrA_1 s v1 v2 v3 v4); have B1 := hSw.B.at 1 (scrA_1 t u1 u2 u3 u4); have A2 := hSw.A.at 2 (scrA_2 s v1 v2 v3 v4); have B2 := hSw.B.at 2 (scrA_2 t u1 u2 u3 u4); clear hSw; go_simp; try (with_reducible rfl))
        try simp only [Act.put, List.setIfInBounds_toArray, List.set_cons_zero, List.set_cons_succ]
        refine wpAnyH_take (i := 24) (oi := ⟨_, _, _, _, _, _⟩) (v := ?_) rfl (by kernel_rfl) (by kernel_rfl) (by kernel_rfl) (fun _ _ _ h => h) (Or.inl ⟨by rfl, ?_⟩) hHeld ?_
        rotate_left
        · (intro w hSw; (try dsimp only at hSw); have A0 := hSw.A.at0 (scrA_0 s v1 v2 v3 v4); have B0 := hSw.B.at0 (scrA_0 t u1 u2 u3 u4); have A1 := hSw.A.at 1 (scrA_1 s v1 v2 v3 v4); have B1 := hSw.B.at 1 (scrA_1 t u1 u2 u3 u4); have A2 := hSw.A.at 2 (scrA_2 s v1 v2 v3 v4); have B2 := hSw.B.at 2 (scrA_2 t u1 u2 u3 u4); clear hSw; go_simp; try (with_reducible rfl))
        try simp only [Act.put, List.setIfInBounds_toArray, List.set_cons_zero, List.set_cons_succ]
        refine wpAnyH_take (i := 25) (oi := ⟨_, _, _, _, _, _⟩) (v := ?_) rfl (by kernel_rfl) (by kernel_rfl) (by kernel_rfl) (fun _ _ _ h => h) (Or.inl ⟨by rfl, ?_⟩) hHeld ?_
        rotate_left
        · (intro w hSw; (try dsimp only at hSw); have A0 := hSw.A.at0 (scrA_0 s v1 v2 v3 v4); have B0 := hSw.B.at0 (scrA_0 t u1 u2 u3 u4); have A1 := hSw.A.at 1 (scrA_1 s v1 v2 v3 v4); have B1 := hSw.B.at 1 (scrA_1 t u1 u2 u3 u4); have A2 := hSw.A.at 2 (scrA_2 s v1 v2 v3 v4); have B2 := hSw.B.at 2 (scrA_2 t u1 u2 u3 u4); clear hSw; go_simp; try (with_reducible rfl))
        try simp only [Act.put, List.setIfInBounds_toArray, List.set_cons_zero, List.set_cons_succ]
        refine wpAnyH_take (i := 26) (oi := ⟨_, _, _, _, _, _⟩) (v := ?_) rfl (by kernel_rfl) (by kernel_rfl) (by kernel_rfl) (fun _ _ _ h => h) (Or.inl ⟨by rfl, ?_⟩) hHeld ?_
        rotate_left
        · (intro w hSw; (try dsimp only at hSw); have A0 := hSw.A.at0 (scrA_0 s v1 v2 v3 v4); have B0 := hSw.B.at0 (scrA_0 t u1 u2 u3 u4); have A1 := hSw.A.at 1 (scrA_1 s v1 v2 v3 v4); have B1 := hSw.B.at 1 (scrA_1 t u1 u2 u3 u4); have A2 := hSw.A.at 2 (scrA_2 s v1 v2 v3 v4); have B2 := hSw.B.at 2 (scrA_2 t u1 u2 u3 u4); clear hSw; go_simp; try (with_reducible rfl))
        try simp only [Act.put, List.setIfInBounds_toArray, List.set_cons_zero, List.set_cons_succ]
        refine wpAnyH_take (i := 27) (oi := ⟨_, _, _, _, _, _⟩) (v := ?_) rfl (by kernel_rfl) (by kernel_rfl) (by kernel_rfl) (fun _ _ _ h => h) (Or.inl ⟨by rfl, ?_⟩) hHeld ?_
        rotate_left
        · (intro w hSw; (try dsimp only at hSw); have A0 := hSw.A.at0 (scrA_0 s v1 v2 v3 v4); have B0 := hSw.B.at0 (scrA_0 t u1 u2 u3 u4); have A1 := hSw.A.at 1 (scrA_1 s v1 v2 v3 v4); have B1 := hSw.B.at 1 (scrA_1 t u1 u2 u3 u4); have A2 := hSw.A.at 2 (scrA_2 s v1 v2 v3 v4); have B2 := hSw.B.at 2 (scrA_2 t u1 u2 u3 u4); clear hSw; go_simp; try (with_reducible rfl))
        try simp only [Act.put, List.setIfInBounds_toArray, List.set_cons_zero, List.set_cons_succ]
        refine wpAnyH_take (i := 28) (oi := ⟨_, _, _, _, _, _⟩) (v := ?_) rfl (by kernel_rfl) (by kernel_rfl) (by kernel_rfl) (fun _ _ _ h => h) (Or.inl ⟨by rfl, ?_⟩) hHeld ?_
        rotate_left
        · (intro w hSw; (try dsimp only at hSw); have A0 := hSw.A.at0 (scrA_0 s v1 v2 v3 v4); have B0 := hSw.B.at0 (scrA_0 t u1 u2 u3 u4); have A1 := hSw.A.at 1 (scrA_1 s v1 v2 v3 v4); have B1 := hSw.B.at 1 (scrA_1 t u1 u2 u3 u4); have A2 := hSw.A.at 2 (scrA_2 s v1 v2 v3 v4); have B2 := hSw.B.at 2 (scrA_2 t u1 u2 u3 u4); clear hSw; go_simp; try (with_reducible rfl))
        try simp only [Act.put, List.setIfInBounds_toArray, List.set_cons_zero, List.set_cons_succ]
        refine wpAnyH_take (i := 29) (oi := ⟨_, _, _, _, _, _⟩) (v := ?_) rfl (by kernel_rfl) (by kernel_rfl) (by kernel_rfl) (fun _ _ _ h => h) (Or.inl ⟨by rfl, ?_⟩) hHeld ?_
        rotate_left
        · (intro w hSw; (try dsimp only at hSw); have A0 := hSw.A.at0 (scrA_0 s v1 v2 v3 v4); have B0 := hSw.B.at0 (scrA_0 t u1 u2 u3 u4); have A1 := hSw.A.at 1 (scrA_1 s v1 v2 v3 v4); have B1 := hSw.B.at 1 (scrA_1 t u1 u2 u3 u4); have A2 := hSw.A.at 2 (scrA_2 s v1 v2 v3 v4); have B2 := hSw.B.at 2 (scrA_2 t u1 u2 u3 u4); clear hSw; go_simp; try (with_reducible rfl))
        try simp only [Act.put, List.setIfInBounds_toArray, List.set_cons_zero, List.set_cons_succ]
        refine wpAnyH_take (i := 30) (oi := ⟨_, _, _, _, _, _⟩) (v := ?_) rfl (by kernel_rfl) (by kernel_rfl) (by kernel_rfl) (fun _ _ _ h => h) (Or.inl ⟨by rfl, ?_⟩) hHeld ?_
        rotate_left
        · (intro w hSw; (try dsimp only at hSw); have A0 := hSw.A.at0 (scrA_0 s v1 v2 v3 v4); have B0 := hSw.B.at0 (scrA_0 t u1 u2 u3 u4); have A1 := hSw.A.at 1 (scrA_1 s v1 v2 v3 v4); have B1 := hSw.B.at 1 (scrA_1 t u1 u2 u3 u4); have A2 := hSw.A.at 2 (scrA_2 s v1 v2 v3 v4); have B2 := hSw.B.at 2 (scrA_2 t u1 u2 u3 u4); clear hSw; go_simp; try (with_reducible rfl))
        try simp only [Act.put, List.setIfInBounds_toArray, List.set_cons_zero, List.set_cons_succ]
        refine wpAnyH_take (i := 31) (oi := ⟨_, _, _, _, _, _⟩) (v := ?_) rfl (by kernel_rfl) (by kernel_rfl) (by kernel_rfl) (fun _ _ _ h => h) (Or.inl ⟨by rfl, ?_⟩) hHeld ?_
        rotate_left
        · (intro w hSw; (try dsimp only at hSw); have A0 := hSw.A.at0 (scrA_0 s v1 v2 v3 v4); have B0 := hSw.B.at0 (scrA_0 t u1 u2 u3 u4); have A1 := hSw.A.at 1 (scrA_1 s v1 v2 v3 v4); have B1 := hSw.B.at 1 (scrA_1 t u1 u2 u3 u4); have A2 := hSw.A.at 2 (scrA_2 s v1 v2 v3 v4); have B2 := hSw.B.at 2 (scrA_2 t u1 u2 u3 u4); clear hSw; go_simp; try (with_reducible rfl))
        try simp only [Act.put, List.setIfInBounds_toArray, List.set_cons_zero, List.set_cons_succ]
        refine wpAnyH_take (i := 32) (oi := ⟨_, _, _, _, _, _⟩) (v := ?_) rfl (by kernel_rfl) (by kernel_rfl) (by kernel_rfl) (fun _ _ _ h => h) (Or.inl ⟨by rfl, ?_⟩) hHeld ?_
        rotate_left
        · (intro w hSw; (try dsimp only at hSw); have A0 := hSw.A.at0 (scrA_0 s v1 v2 v3 v4); have B0 := hSw.B.at0 (scrA_0 t u1 u2 u3 u4); have A1 := hSw.A.at 1 (scrA_1 s v1 v2 v3 v4); have B1 := hSw.B.at 1 (scrA_1 t u1 u2 u3 u4); have A2 := hSw.A.at 2 (scrA_2 s v1 v2 v3 v4); have B2 := hSw.B.at 2 (scrA_2 t u1 u2 u3 u4); clear hSw; go_simp; try (with_reducible rfl))
        try simp only [Act.put, List.setIfInBounds_toArray, List.set_cons_zero, List.set_cons_succ]
        refine wpAnyH_take (i := 33) (oi := ⟨_, _, _, _, _, _⟩) (v := ?_) rfl (by kernel_rfl) (by kernel_rfl) (by kernel_rfl) (fun _ _ _ h => h) (Or.inl ⟨by rfl, ?_⟩) hHeld ?_
        rotate_left
        · (intro w hSw; (try dsimp only at hSw); have A0 := hSw.A.at0 (scrA_0 s v1 v2 v3 v4); have B0 := hSw.B.at0 (scrA_0 t u1 u2 u3 u4); have A1 := hSw.A.at 1 (scrA_1 s v1 v2 v3 v4); have B1 := hSw.B.at 1 (scrA_1 t u1 u2 u3 u4); have A2 := hSw.A.at 2 (scrA_2 s v1 v2 v3 v4); have B2 := hSw.B.at 2 (scrA_2 t u1 u2 u3 u4); clear hSw; go_simp; try (with_reducible rfl))
        try simp only [Act.put, List.setIfInBounds_toArray, List.set_cons_zero, List.set_cons_succ]
        refine wpAnyH_take (i := 34) (oi := ⟨_, _, _, _, _, _⟩) (v := ?_) rfl (by kernel_rfl) (by kernel_rfl) (by kernel_rfl) (fun _ _ _ h => h) (Or.inl ⟨by rfl, ?_⟩) hHeld ?_
        rotate_left
        · (intro w hSw; (try dsimp only at hSw); have A0 := hSw.A.at0 (scrA_0 s v1 v2 v3 v4); have B0 := hSw.B.at0 (scrA_0 t u1 u2 u3 u4); have A1 := hSw.A.at 1 (scrA_1 s v1 v2 v3 v4); have B1 := hSw.B.at 1 (scrA_1 t u1 u2 u3 u4); have A2 := hSw.A.at 2 (scrA_2 s v1 v2 v3 v4); have B2 := hSw.B.at 2 (scrA_2 t u1 u2 u3 u4); clear hSw; go_simp; try (with_reducible rfl))
        try simp only [Act.put, List.setIfInBounds_toArray, List.set_cons_zero, List.set_cons_succ]
        refine wpAnyH_ready (rs := [35]) (by kernel_rfl) (by simp) ?_
        refine AllReadyH.cons (o := ⟨_, _, _, _, _, _⟩) rfl (fun K hK => ?_) AllReadyH.nil
        go_simp
        go_at_call 88
        refine (l3SameCells_calls s.cs t.cs _ _ _ n1 m1 hHeld.r1.g1 hHeld.r2.g1).mono ?_
        rintro e w1 ⟨rfl, hb1⟩
        rw [e3]
        try go_wp2_with fail
        refine hK.out _ _ ?_ ?_
        · (try dsimp only); exact hHeld.next hb1
        clear hHeld hK K
        intro hHeld
        try simp only [Act.put, List.setIfInBounds_toArray, List.set_cons_zero, List.set_cons_succ]
        refine wpAnyH_take (i := 36) (oi := ⟨_, _, _, _, _, _⟩) (v := ?_) rfl (by kernel_rfl) (by kernel_rfl) (by kernel_rfl) (fun _ _ _ h => h) (Or.inl ⟨by rfl, ?_⟩) hHeld ?_
        rotate_left
        · (intro w hSw; (try dsimp only at hSw); have A0 := hSw.A.at0 (scrA_0 s v1 v2 v3 v4); have B0 := hSw.B.at0 (scrA_0 t u1 u2 u3 u4); have A1 := hSw.A.at 1 (scrA_1 s v1 v2 v3 v4); have B1 := hSw.B.at 1 (scrA_1 t u1 u2 u3 u4); have A2 := hSw.A.at 2 (scrA_2 s v1 v2 v3 v4); have B2 := hSw.B.at 2 (scrA_2 t u1 u2 u3 u4); clear hSw; go_simp; try (with_reducible rfl))
        try simp only [Act.put, List.setIfInBounds_toArray, List.set_cons_zero, List.set_cons_succ]
        refine wpAnyH_take (i := 37) (oi := ⟨_, _, _, _, _, _⟩) (v := ?_) rfl (by kernel_rfl) (by kernel_rfl) (by kernel_rfl) (fun _ _ _ h => h) (Or.inl ⟨by rfl, ?_⟩) hHeld ?_
        rotate_left
        · (intro w hSw; (try dsimp only at hSw); have A0 := hSw.A.at0 (scrA_0 s v1 v2 v3 v4); have B0 := hSw.B.at0 (scrA_0 t u1 u2 u3 u4); have A1 := hSw.A.at 1 (scrA_1 s v1 v2 v3 v4); have B1 := hSw.B.at 1 (scrA_1 t u1 u2 u3 u4); have A2 := hSw.A.at 2 (scrA_2 s v1 v2 v3 v4); have B2 := hSw.B.at 2 (scrA_2 t u1 u2 u3 u4); clear hSw; go_simp; try (with_reducible rfl))
        try simp only [Act.put, List.setIfInBounds_toArray, List.set_cons_zero, List.set_cons_succ]
        refine wpAnyH_done (by kernel_rfl) ?_ _
        go_wp2
        go_ret
        exact ⟨ret_bool (by simp [shownB, sameG, e1, e2, e3]), hHeld.bel⟩
      · skip
        go_enter Try.func38, Try.ntmps38
        try simp only [List.append_eq, List.cons_append, List.nil_append]
        go_wp2_with fail
        refine wp_region_held_drew (S := (fun w' => KeepTwo w a oa b ob s t v1 v2 v3 v4 u1 u2 u3 u4 w')) (by kernel_rfl) ?_ (fun hHeld => ?_)
        · (try dsimp only); exact hKT
        refine wpAnyH_take (i := 0) (oi := ⟨_, _, _, _, _, _⟩) (v := ?_) rfl (by kernel_rfl) (by kernel_rfl) (by kernel_rfl) (fun _ _ _ h => h) (Or.inl ⟨by rfl, ?_⟩) hHeld ?_
        rotate_left
        · (intro w hSw; (try dsimp only at hSw); have A0 := hSw.A.at0 (scrA_0 s v1 v2 v3 v4); have B0 := hSw.B.at0 (scrA_0 t u1 u2 u3 u4); have A1 := hSw.A.at 1 (scrA_1 s v1 v2 v3 v4); have B1 := hSw.B.at 1 (scrA_1 t u1 u2 u3 u4); have A2 := hSw.A.at 2 (scrA_2 s v1 v2 v3 v4); have B2 := hSw.B.at 2 (scrA_2 t u1 u2 u3 u4); clear hSw; go_simp; try (with_reducible rfl))
        try simp only [Act.put, List.setIfInBounds_toArray, List.set_cons_zero, List.set_cons_succ]
        refine wpAnyH_take (i := 1) (oi := ⟨_, _, _, _, _, _⟩) (v := ?_) rfl (by kernel_rfl) (by kernel_rfl) (by kernel_rfl) (fun _ _ _ h => h) (Or.inl ⟨by rfl, ?_⟩) hHeld ?_
        rotate_left
        · (intro w hSw; (try dsimp only at hSw); have A0 := hSw.A.at0 (scrA_0 s v1 v2 v3 v4); have B0 := hSw.B.at0 (scrA_0 t u1 u2 u3 u4); have A1 := hSw.A.at 1 (scrA_1 s v1 v2 v3 v4); have B1 := hSw.B.at 1 (scrA_1 t u1 u2 u3 u4); have A2 := hSw.A.at 2 (scrA_2 s v1 v2 v3 v4); have B2 := hSw.B.at 2 (scrA_2 t u1 u2 u3 u4); clear hSw; go_simp; try (with_reducible rfl))
        try simp only [Act.put, List.setIfInBounds_toArray, List.set_cons_zero, List.set_cons_succ]
        refine wpAnyH_take (i := 2) (oi := ⟨_, _, _, _, _, _⟩) (v := ?_) rfl (by kernel_rfl) (by kernel_rfl) (by kernel_rfl) (fun _ _ _ h => h) (Or.inl ⟨by rfl, ?_⟩) hHeld ?_
        rotate_left
        · (intro w hSw; (try dsimp only at hSw); have A0 := hSw.A.at0 (scrA_0 s v1 v2 v3 v4); have B0 := hSw.B.at0 (scrA_0 t u1 u2 u3 u4); have A1 := hSw.A.at 1 (scrA_1 s v1 v2 v3 v4); have B1 := hSw.B.at 1 (scrA_1 t u1 u2 u3 u4); have A2 := hSw.A.at 2 (scrA_2 s v1 v2 v3 v4); have B2 := hSw.B.at 2 (scrA_2 t u1 u2 u3 u4); clear hSw; go_simp; try (with_reducible rfl))
        try simp only [Act.put, List.setIfInBounds_toArray, List.set_cons_zero, List.set_cons_succ]
        refine wpAnyH_take (i := 3) (oi := ⟨_, _, _, _, _, _⟩) (v := ?_) rfl (by kernel_rfl) (by kernel_rfl) (by kernel_rfl) (fun _ _ _ h => h) (Or.inl ⟨by rfl, ?_⟩) hHeld ?_
        rotate_left
        · (intro w hSw; (try dsimp only at hSw); have A0 := hSw.A.at0 (scrA_0 s v1 v2 v3 v4); have B0 := hSw.B.at0 (scrA_0 t u1 u2 u3 u4); have A1 := hSw.A.at 1 (scrA_1 s v1 v2 v3 v4); have B1 := hSw.B.at 1 (scrA_1 t u1 u2 u3 u4); have A2 := hSw.A.at 2 (scrA_2 s v1 v2 v3 v4); have B2 := hSw.B.at 2 (scrA_2 t u1 u2 u3 u4); clear hSw; go_simp; try (with_reducible rfl))
        try simp only [Act.put, List.setIfInBounds_toArray, List.set_cons_zero, List.set_cons_succ]
        refine wpAnyH_take (i := 4) (oi := ⟨_, _, _, _, _, _⟩) (v := ?_) rfl (by kernel_rfl) (by kernel_rfl) (by kernel_rfl) (fun _ _ _ h => h) (Or.inl ⟨by rfl, ?_⟩) hHeld ?_
        rotate_left
        · (intro w hSw; (try dsimp only at hSw); have A0 := hSw.A.at0 (scrA_0 s v1 v2 v3 v4); have B0 := hSw.B.at0 (scrA_0 t u1 u2 u3 u4); have A1 := hSw.A.at 1 (scrA_1 s v1 v2 v3 v4); have B1 := hSw.B.at 1 (scrA_1 t u1 u2 u3 u4); have A2 := hSw.A.at 2 (scrA_2 s v1 v2 v3 v4); have B2 := hSw.B.at 2 (scrA_2 t u1 u2 u3 u4); clear hSw; go_simp; try (with_reducible rfl))
        try simp only [Act.put, List.setIfInBounds_toArray, List.set_cons_zero, List.set_cons_succ]
        refine wpAnyH_take (i := 5) (oi := ⟨_, _, _, _, _, _⟩) (v := ?_) rfl (by kernel_rfl) (by kernel_rfl) (by kernel_rfl) (fun _ _ _ h => h) (Or.inl ⟨by rfl, ?_⟩) hHeld ?_
        rotate_left
        · (intro w hSw; (try dsimp only at hSw); have A0 := hSw.A.at0 (scrA_0 s v1 v2 v3 v4); have B0 := hSw.B.at0 (scrA_0 t u1 u2 u3 u4); have A1 := hSw.A.at 1 (scrA_1 s v1 v2 v3 v4); have B1 := hSw.B.at 1 (scrA_1 t u1 u2 u3 u4); have A2 := hSw.A.at 2 (scrA_2 s v1 v2 v3 v4); have B2 := hSw.B.at 2 (scrA_2 t u1 u2 u3 u4); clear hSw; go_simp; try (with_reducible rfl))
        try simp only [Act.put, List.setIfInBounds_toArray, List.set_cons_zero, List.set_cons_succ]
        refine wpAnyH_take (i := 6) (oi := ⟨_, _, _, _, _, _⟩) (v := ?_) rfl (by kernel_rfl) (by kernel_rfl) (by kernel_rfl) (fun _ _ _ h => h) (Or.inl ⟨by rfl, ?_⟩) hHeld ?_
        rotate_left
        · (intro w hSw; (try dsimp only at hSw); have A0 := hSw.A.at0 (scrA_0 s v1 v2 v3 v4); have B0 := hSw.B.at0 (scrA_0 t u1 u2 u3 u4); have A1 := hSw.A.at 1 (scrA_1 s v1 v2 v3 v4); have B1 := hSw.B.at 1 (scrA_1 t u1 u2 u3 u4); have A2 := hSw.A.at 2 (scrA_2 s v1 v2 v3 v4); have B2 := hSw.B.at 2 (scrA_2 t u1 u2 u3 u4); clear hSw; go_simp; try (with_reducible rfl))
        try simp only [Act.put, List.setIfInBounds_toArray, List.set_cons_zero, List.set_cons_succ]
        refine wpAnyH_take (i := 7) (oi := ⟨_, _, _, _, _, _⟩) (v := ?_) rfl (by kernel_rfl) (by kernel_rfl) (by kernel_rfl) (fun _ _ _ h => h) (Or.inl ⟨by rfl, ?_⟩) hHeld ?_
        rotate_left
        · (intro w hSw; (try dsimp only at hSw); have A0 := hSw.A.at0 (scrA_0 s v1 v2 v3 v4); have B0 := hSw.B.at0 (scrA_0 t u1 u2 u3 u4); have A1 := hSw.A.at 1 (scrA_1 s v1 v2 v3 v4); have B1 := hSw.B.at 1 (scrA_1 t u1 u2 u3 u4); have A2 := hSw.A.at 2 (scrA_2 s v1 v2 v3 v4); have B2 := hSw.B.at 2 (scrA_2 t u1 u2 u3 u4); clear hSw; go_simp; try (with_reducible rfl))
        try simp only [Act.put, List.setIfInBounds_toArray, List.set_cons_zero, List.set_cons_succ]
        refine wpAnyH_take (i := 8) (oi := ⟨_, _, _, _, _, _⟩) (v := ?_) rfl (by kernel_rfl) (by kernel_rfl) (by kernel_rfl) (fun _ _ _ h => h) (Or.inl ⟨by rfl, ?_⟩) hHeld ?_
        rotate_left
        · (intro w hSw; (try dsimp only at hSw); have A0 := hSw.A.at0 (scrA_0 s v1 v2 v3 v4); have B0 := hSw.B.at0 (scrA_0 t u1 u2 u3 u4); have A1 := hSw.A.at 1 (scrA_1 s v1 v2 v3 v4); have B1 := hSw.B.at 1 (scrA_1 t u1 u2 u3 u4); have A2 := hSw.A.at 2 (scrA_2 s v1 v2 v3 v4); have B2 := hSw.B.at 2 (scrA_2 t u1 u2 u3 u4); clear hSw; go_simp; try (with_reducible rfl))
        try simp only [Act.put, List.setIfInBounds_toArray, List.set_cons_zero, List.set_cons_succ]
        refine wpAnyH_take (i := 9) (oi := ⟨_, _, _, _, _, _⟩) (v := ?_) rfl (by kernel_rfl) (by kernel_rfl) (by kernel_rfl) (fun _ _ _ h => h) (Or.inl ⟨by rfl, ?_⟩) hHeld ?_
        rotate_left
        · (intro w hSw; (try dsimp only at hSw); have A0 := hSw.A.at0 (scrA_0 s v1 v2 v3 v4); have B0 := hSw.B.at0 (scrA_0 t u1 u2 u3 u4); have A1 := hSw.A.at 1 (scrA_1 s v1 v2 v3 v4); have B1 := hSw.B.at 1 (scrA_1 t u1 u2 u3 u4); have A2 := hSw.A.at 2 (scrA_2 s v1 v2 v3 v4); have B2 := hSw.B.at 2 (scrA_2 t u1 u2 u3 u4); clear hSw; go_simp; try (with_reducible rfl))
        try simp only [Act.put, List.setIfInBounds_toArray, List.set_cons_zero, List.set_cons_succ]
        refine wpAnyH_take (i := 10) (oi := ⟨_, _, _, _, _, _⟩) (v := ?_) rfl (by kernel_rfl) (by kernel_rfl) (by kernel_rfl) (fun _ _ _ h => h) (Or.inl ⟨by rfl, ?_⟩) hHeld ?_
        rotate_left
        · (intro w hSw; (try dsimp only at hSw); have A0 := hSw.A.at0 (scrA_0 s v1 v2 v3 v4); have B0 := hSw.B.at0 (scrA_0 t u1 u2 u3 u4); have A1 := hSw.A.at 1 (scrA_1 s v1 v2 v3 v4); have B1 := hSw.B.at 1 (scrA_1 t u1 u2 u3 u4); have A2 := hSw.A.at 2 (scrA_2 s v1 v2 v3 v4); have B2 := hSw.B.at 2 (scrA_2 t u1 u2 u3 u4); clear hSw; go_simp; try (with_reducible rfl))
        try simp only [Act.put, List.setIfInBounds_toArray, List.set_cons_zero, List.set_cons_succ]
        refine wpAnyH_take (i := 11) (oi := ⟨_, _, _, _, _, _⟩) (v := ?_) rfl (by kernel_rfl) (by kernel_rfl) (by kernel_rfl) (fun _ _ _ h => h) (Or.inl ⟨by rfl, ?_⟩) hHeld ?_
        rotate_left
        · (intro w hSw; (try dsimp only at hSw); have A0 := hSw.A.at0 (scrA_0 s v1 v2 v3 v4); have B0 := hSw.B.at0 (scrA_0 t u1 u2 u3 u4); have A1 := hSw.A.at 1 (scrA_1 s v1 v2 v3 v4); have B1 := hSw.B.at 1 (scrA_1 t u1 u2 u3 u4); have A2 := hSw.A.at 2 (scrA_2 s v1 v2 v3 v4); have B2 := hSw.B.at 2 (scrA_2 t u1 u2 u3 u4); clear hSw; go_simp; try (with_reducible rfl))
        try simp only [Act.put, List.setIfInBounds_toArray, List.set_cons_zero, List.set_cons_succ]
        refine wpAnyH_take (i := 12) (oi := ⟨_, _, _, _, _, _⟩) (v := ?_) rfl (by kernel_rfl) (by kernel_rfl) (by kernel_rfl) (fun _ _ _ h => h) (Or.inl ⟨by rfl, ?_⟩) hHeld ?_
        rotate_left
        · (intro w hSw; (try dsimp only at hSw); have A0 := hSw.A.at0 (scrA_0 s v1 v2 v3 v4); have B0 := hSw.B.at0 (scrA_0 t u1 u2 u3 u4); have A1 := hSw.A.at 1 (scrA_1 s v1 v2 v3 v4); have B1 := hSw.B.at 1 (scrA_1 t u1 u2 u3 u4); have A2 := hSw.A.at 2 (scrA_2 s v1 v2 v3 v4); have B2 := hSw.B.at 2 (scrA_2 t u1 u2 u3 u4); clear hSw; go_simp; try (with_reducible rfl))
        try simp only [Act.put, List.setIfInBounds_toArray, List.set_cons_zero, List.set_cons_succ]
        refine wpAnyH_take (i := 13) (oi := ⟨_, _, _, _, _, _⟩) (v := ?_) rfl (by kernel_rfl) (by kernel_rfl) (by kernel_rfl) (fun _ _ _ h => h) (Or.inl ⟨by rfl, ?_⟩) hHeld ?_
        rotate_left
        · (intro w hSw; (try dsimp only at hSw); have A0 := hSw.A.at0 (scrA_0 s v1 v2 v3 v4); have B0 := hSw.B.at0 (scrA_0 t u1 u2 u3 u4); have A1 := hSw.A.at 1 (scrA_1 s v1 v2 v3 v4); have B1 := hSw.B.at 1 (scrA_1 t u1 u2 u3 u4); have A2 := hSw.A.at 2 (scrA_2 s v1 v2 v3 v4); have B2 := hSw.B.at 2 (scrA_2 t u1 u2 u3 u4); clear hSw; go_simp; try (with_reducible rfl))
        try simp only [Act.put, List.setIfInBounds_toArray, List.set_cons_zero, List.set_cons_succ]
        refine wpAnyH_take (i := 14) (oi := ⟨_, _, _, _, _, _⟩) (v := ?_) rfl (by kernel_rfl) (by kernel_rfl) (by kernel_rfl) (fun _ _ _ h => h) (Or.inl ⟨by rfl, ?_⟩) hHeld ?_
        rotate_left
        · (intro w hSw; (try dsimp only at hSw); have A0 := hSw.A.at0 (scrA_0 s v1 v2 v3 v4); have B0 := hSw.B.at0 (scrA_0 t u1 u2 u3 u4); have A1 := hSw.A.at 1 (scrA_1 s v1 v2 v3 v4); have B1 := hSw.B.at 1 (scrA_1 t u1 u2 u3 u4); have A2 := hSw.A.at 2 (scrA_2 s v1 v2 v3 v4); have B2 := hSw.B.at 2 (scrA_2 t u1 u2 u3 u4); clear hSw; go_simp; try (with_reducible rfl))
        try simp only [Act.put, List.setIfInBounds_toArray, List.set_cons_zero, List.set_cons_succ]
        refine wpAnyH_take (i := 15) (oi := ⟨_, _, _, _, _, _⟩) (v := ?_) rfl (by kernel_rfl) (by kernel_rfl) (by kernel_rfl) (fun _ _ _ h => h) (Or.inl ⟨by rfl, ?_⟩) hHeld ?_
        rotate_left
        · (intro w hSw; (try dsimp only at hSw); have A0 := hSw.A.at0 (scrA_0 s v1 v2 v3 v4); have B0 := hSw.B.at0 (scrA_0 t u1 u2 u3 u4); have A1 := hSw.A.at 1 (scrA_1 s v1 v2 v3 v4); have B1 := hSw.B.at 1 (scrA_1 t u1 u2 u3 u4); have A2 := hSw.A.at 2 (scrA_2 s v1 v2 v3 v4); have B2 := hSw.B.at 2 (scrA_2 t u1 u2 u3 u4); clear hSw; go_simp; try (with_reducible rfl))
        try simp only [Act.put, List.setIfInBounds_toArray, List.set_cons_zero, List.set_cons_succ]
        refine wpAnyH_take (i := 16) (oi := ⟨_, _, _, _, _, _⟩) (v := ?_) rfl (by kernel_rfl) (by kernel_rfl) (by kernel_rfl) (fun _ _ _ h => h) (Or.inl ⟨by rfl, ?_⟩) hHeld ?_
        rotate_left
        · (intro w hSw; (try dsimp only at hSw); have A0 := hSw.A.at0 (scrA_0 s v1 v2 v3 v4); have B0 := hSw.B.at0 (scrA_0 t u1 u2 u3 u4); have A1 := hSw.A.at 1 (scrA_1 s v1 v2 v3 v4); have B1 := hSw.B.at 1 (scrA_1 t u1 u2 u3 u4); have A2 := hSw.A.at 2 (scrA_2 s v1 v2 v3 v4); have B2 := hSw.B.at 2 (scrA_2 t u1 u2 u3 u4); clear hSw; go_simp; try (with_reducible rfl))
        try simp only [Act.put, List.setIfInBounds_toArray, List.set_cons_zero, List.set_cons_succ]
        refine wpAnyH_take (i := 17) (oi := ⟨_, _, _, _, _, _⟩) (v := ?_) rfl (by kernel_rfl) (by kernel_rfl) (by kernel_rfl) (fun _ _ _ h => h) (Or.inl ⟨by rfl, ?_⟩) hHeld ?_
        rotate_left
        · (intro w hSw; (try dsimp only at hSw); have A0 := hSw.A.at0 (scrA_0 s v1 v2 v3 v4); have B0 := hSw.B.at0 (scrA_0 t u1 u2 u3 u4); have A1 := hSw.A.at 1 (scrA_1 s v1 v2 v3 v4); have B1 := hSw.B.at 1 (scrA_1 t u1 u2 u3 u4); have A2 := hSw.A.at 2 (scrA_2 s v1 v2 v3 v4); have B2 := hSw.B.at 2 (scrA_2 t u1 u2 u3 u4); clear hSw; go_simp; try (with_reducible rfl))
        try simp only [Act.put, List.setIfInBounds_toArray, List.set_cons_zero, List.set_cons_succ]
        refine wpAnyH_take (i := 18) (oi := ⟨_, _, _, _, _, _⟩) (v := ?_) rfl (by kernel_rfl) (by kernel_rfl) (by kernel_rfl) (fun _ _ _ h => h) (Or.inl ⟨by rfl, ?_⟩) hHeld ?_
        rotate_left
        · (intro w hSw; (try dsimp only at hSw); have A0 := hSw.A.at0 (scrA_0 s v1 v2 v3 v4); have B0 := hSw.B.at0 (scrA_0 t u1 u2 u3 u4); have A1 := hSw.A.at 1 (scrA_1 s v1 v2 v3 v4); have B1 := hSw.B.at 1 (scrA_1 t u1 u2 u3 u4); have A2 := hSw.A.at 2 (scrA_2 s v1 v2 v3 v4); have B2 := hSw.B.at 2 (scrA_2 t u1 u2 u3 u4); clear hSw; go_simp; try (with_reducible rfl))
        try simp only [Act.put, List.setIfInBounds_toArray, List.set_cons_zero, List.set_cons_succ]
        refine wpAnyH_take (i := 19) (oi := ⟨_, _, _, _, _, _⟩) (v := ?_) rfl (by kernel_rfl) (by kernel_rfl) (by kernel_rfl) (fun _ _ _ h => h) (Or.inl ⟨by rfl, ?_⟩) hHeld ?_
        rotate_left
        · (intro w hSw; (try dsimp only at hSw); have A0 := hSw.A.at0 (scrA_0 s v1 v2 v3 v4); have B0 := hSw.B.at0 (scrA_0 t u1 u2 u3 u4); have A1 := hSw.A.at 1 (scrA_1 s v1 v2 v3 v4); have B1 := hSw.B.at 1 (scrA_1 t u1 u2 u3 u4); have A2 := hSw.A.at 2 (scrA_2 s v1 v2 v3 v4); have B2 := hSw.B.at 2 (scrA_2 t u1 u2 u3 u4); clear hSw; go_simp; try (with_reducible rfl))
        try simp only [Act.put, List.setIfInBounds_toArray, List.set_cons_zero, List.set_cons_succ]
        refine wpAnyH_take (i := 20) (oi := ⟨_, _, _, _, _, _⟩) (v := ?_) rfl (by kernel_rfl) (by kernel_rfl) (by kernel_rfl) (fun _ _ _ h => h) (Or.inl ⟨by rfl, ?_⟩) hHeld ?_
        rotate_left
        · (intro w hSw; (try dsimp only at hSw); have A0 := hSw.A.at0 (scrA_0 s v1 v2 v3 v4); have B0 := hSw.B.at0 (scrA_0 t u1 u2 u3 u4); have A1 := hSw.A.at 1 (scrA_1 s v1 v2 v3 v4); have B1 := hSw.B.at 1 (scrA_1 t u1 u2 u3 u4); have A2 := hSw.A.at 2 (scrA_2 s v1 v2 v3 v4); have B2 := hSw.B.at 2 (scrA_2 t u1 u2 u3 u4); clear hSw; go_simp; try (with_reducible rfl))
        try simp only [Act.put, List.setIfInBounds_toArray, List.set_cons_zero, List.set_cons_succ]
        refine wpAnyH_take (i := 21) (oi := ⟨_, _, _, _, _, _⟩) (v := ?_) rfl (by kernel_rfl) (by kernel_rfl) (by kernel_rfl) (fun _ _ _ h => h) (Or.inl ⟨by rfl, ?_⟩) hHeld ?_
        rotate_left
        · (intro w hSw; (try dsimp only at hSw); have A0 := hSw.A.at0 (scrA_0 s v1 v2 v3 v4); have B0 := hSw.B.at0 (scrA_0 t u1 u2 u3 u4); have A1 := hSw.A.at 1 (scrA_1 s v1 v2 v3 v4); have B1 := hSw.B.at 1 (scrA_1 t u1 u2 u3 u4); have A2 := hSw.A.at 2 (scrA_2 s v1 v2 v3 v4); have B2 := hSw.B.at 2 (scrA_2 t u1 u2 u3 u4); clear hSw; go_simp; try (with_reducible rfl))
        try simp only [Act.put, List.setIfInBounds_toArray, List.set_cons_zero, List.set_cons_succ]
        refine wpAnyH_take (i := 22) (oi := ⟨_, _, _, _, _, _⟩) (v := ?_) rfl (by kernel_rfl) (by kernel_rfl) (by kernel_rfl) (fun _ _ _ h => h) (Or.inl ⟨by rfl, ?_⟩) hHeld ?_
        rotate_left
        · (intro w hSw; (try dsimp only at hSw); have A0 := hSw.A.at0 (scrA_0 s v1 v2 v3 v4); have B0 := hSw.B.at0 (scrA_0 t u1 u2 u3 u4); have A1 := hSw.A.at 1 (scrA_1 s v1 v2 v3 v4); have B1 := hSw.B.at 1 (scrA_1 t u1 u2 u3 u4); have A2 := hSw.A.at 2 (scrA_2 s v1 v2 v3 v4); have B2 := hSw.B.at 2 (scrA_2 t u1 u2 u3 u4); clear hSw; go_simp; try (with_reducible rfl))
        try simp only [Act.put, List.setIfInBounds_toArray, List.set_cons_zero, List.set_cons_succ]
        refine wpAnyH_take (i := 23) (oi := ⟨_, _, _, _, _, _⟩) (v := ?_) rfl (by kernel_rfl) (by kernel_rfl) (by kernel_rfl) (fun _ _ _ h => h) (Or.inl ⟨by rfl, ?_⟩) hHeld ?_
        rotate_left
        · (intro w hSw; (try dsimp only at hSw); have A0 := hSw.A.at0 (scrA_0 s v1 v2 v3 v4); have B0 := hSw.B.at0 (scrA_0 t u1 u2 u3 u4); have A1 := hSw.A.at 1 (scrA_1 s v1 v2 v3 v4); have B1 := hSw.B.at 1 (scrA_1 t u1 u2 u3 u4); have A2 := hSw.A.at 2 (scrA_2 s v1 v2 v3 v4); have B2 := hSw.B.at 2 (scrA_2 t u1 u2 u3 u4); clear hSw; go_simp; try (with_reducible rfl))
        try simp only [Act.put, List.setIfInBounds_toArray, List.set_cons_zero, List.set_cons_succ]
        refine wpAnyH_take (i := 24) (oi := ⟨_, _, _, _, _, _⟩) (v := ?_) rfl (by kernel_rfl) (by kernel_rfl) (by kernel_rfl) (fun _ _ _ h => h) (Or.inl ⟨by rfl, ?_⟩) hHeld ?_
        rotate_left
        · (intro w hSw; (try dsimp only at hSw); have A0 := hSw.A.at0 (scrA_0 s v1 v2 v3 v4); have B0 := hSw.B.at0 (scrA_0 t u1 u2 u3 u4); have A1 := hSw.A.at 1 (scrA_1 s v1 v2 v3 v4); have B1 := hSw.B.at 1 (scrA_1 t u1 u2 u3 u4); have A2 := hSw.A.at 2 (scrA_2 s v1 v2 v3 v4); have B2 := hSw.B.at 2 (scrA_2 t u1 u2 u3 u4); clear hSw; go_simp; try (with_reducible rfl))
        try simp only [Act.put, List.setIfInBounds_toArray, List.set_cons_zero, List.set_cons_succ]
        refine wpAnyH_take (i := 25) (oi := ⟨_, _, _, _, _, _⟩) (v := ?_) rfl (by kernel_rfl) (by kernel_rfl) (by kernel_rfl) (fun _ _ _ h => h) (Or.inl ⟨by rfl, ?_⟩) hHeld ?_
        rotate_left
        · (intro w hSw; (try dsimp only at hSw); have A0 := hSw.A.at0 (scrA_0 s v1 v2 v3 v4); have B0 := hSw.B.at0 (scrA_0 t u1 u2 u3 u4); have A1 := hSw.A.at 1 (scrA_1 s v1 v2 v3 v4); have B1 := hSw.B.at 1 (scrA_1 t u1 u2 u3 u4); have A2 := hSw.A.at 2 (scrA_2 s v1 v2 v3 v4); have B2 := hSw.B.at 2 (scrA_2 t u1 u2 u3 u4); clear hSw; go_simp; try (with_reducible rfl))
        try simp only [Act.put, List.setIfInBounds_toArray, List.set_cons_zero, List.set_cons_succ]
        refine wpAnyH_take (i := 26) (oi := ⟨_, _, _, _, _, _⟩) (v := ?_) rfl (by kernel_rfl) (by kernel_rfl) (by kernel_rfl) (fun _ _ _ h => h) (Or.inl ⟨by rfl, ?_⟩) hHeld ?_
        rotate_left
        · (intro w hSw; (try dsimp only at hSw); have A0 := hSw.A.at0 (scrA_0 s v1 v2 v3 v4); have B0 := hSw.B.at0 (scrA_0 t u1 u2 u3 u4); have A1 := hSw.A.at 1 (scrA_1 s v1 v2 v3 v4); have B1 := hSw.B.at 1 (scrA_1 t u1 u2 u3 u4); have A2 := hSw.A.at 2 (scrA_2 s v1 v2 v3 v4); have B2 := hSw.B.at 2 (scrA_2 t u1 u2 u3 u4); clear hSw; go_simp; try (with_reducible rfl))
        try simp only [Act.put, List.setIfInBounds_toArray, List.set_cons_zero, List.set_cons_succ]
        refine wpAnyH_take (i := 27) (oi := ⟨_, _, _, _, _, _⟩) (v := ?_) rfl (by kernel_rfl) (by kernel_rfl) (by kernel_rfl) (fun _ _ _ h => h) (Or.inl ⟨by rfl, ?_⟩) hHeld ?_
        rotate_left
        · (intro w hSw; (try dsimp only at hSw); have A0 := hSw.A.at0 (scrA_0 s v1 v2 v3 v4); have B0 := hSw.B.at0 (scrA_0 t u1 u2 u3 u4); have A1 := hSw.A.at 1 (scrA_1 s v1 v2 v3 v4); have B1 := hSw.B.at 1 (scrA_1 t u1 u2 u3 u4); have A2 := hSw.A.at 2 (scrA_2 s v1 v2 v3 v4); have B2 := hSw.B.at 2 (scrA_2 t u1 u2 u3 u4); clear hSw; go_simp; try (with_reducible rfl))
        try simp only [Act.put, List.setIfInBounds_toArray, List.set_cons_zero, List.set_cons_succ]
        refine wpAnyH_take (i := 28) (oi := ⟨_, _, _, _, _, _⟩) (v := ?_) rfl (by kernel_rfl) (by kernel_rfl) (by kernel_rfl) (fun _ _ _ h => h) (Or.inl ⟨by rfl, ?_⟩) hHeld ?_
        rotate_left
        · (intro w hSw; (try dsimp only at hSw); have A0 := hSw.A.at0 (scrA_0 s v1 v2 v3 v4); have B0 := hSw.B.at0 (scrA_0 t u1 u2 u3 u4); have A1 := hSw.A.at 1 (scrA_1 s v1 v2 v3 v4); have B1 := hSw.B.at 1 (scrA_1 t u1 u2 u3 u4); have A2 := hSw.A.at 2 (scrA_2 s v1 v2 v3 v4); have B2 := hSw.B.at 2 (scrA_2 t u1 u2 u3 u4); clear hSw; go_simp; try (with_reducible rfl))
        try simp only [Act.put, List.setIfInBounds_toArray, List.set_cons_zero, List.set_cons_succ]
        refine wpAnyH_take (i := 29) (oi := ⟨_, _, _, _, _, _⟩) (v := ?_) rfl (by kernel_rfl) (by kernel_rfl) (by kernel_rfl) (fun _ _ _ h => h) (Or.inl ⟨by rfl, ?_⟩) hHeld ?_
        rotate_left
        · (intro w hSw; (try dsimp only at hSw); have A0 := hSw.A.at0 (scrA_0 s v1 v2 v3 v4); have B0 := hSw.B.at0 (scrA_0 t u1 u2 u3 u4); have A1 := hSw.A.at 1 (scrA_1 s v1 v2 v3 v4); have B1 := hSw.B.at 1 (scrA_1 t u1 u2 u3 u4); have A2 := hSw.A.at 2 (scrA_2 s v1 v2 v3 v4); have B2 := hSw.B.at 2 (scrA_2 t u1 u2 u3 u4); clear hSw; go_simp; try (with_reducible rfl))
        try simp only [Act.put, List.setIfInBounds_toArray, List.set_cons_zero, List.set_cons_succ]
        refine wpAnyH_take (i := 30) (oi := ⟨_, _, _, _, _, _⟩) (v := ?_) rfl (by kernel_rfl) (by kernel_rfl) (by kernel_rfl) (fun _ _ _ h => h) (Or.inl ⟨by rfl, ?_⟩) hHeld ?_
        rotate_left
        · (intro w hSw; (try dsimp only at hSw); have A0 := hSw.A.at0 (scrA_0 s v1 v2 v3 v4); have B0 := hSw.B.at0 (scrA_0 t u1 u2 u3 u4); have A1 := hSw.A.at 1 (scrA_1 s v1 v2 v3 v4); have B1 := hSw.B.at 1 (scrA_1 t u1 u2 u3 u4); have A2 := hSw.A.at 2 (scrA_2 s v1 v2 v3 v4); have B2 := hSw.B.at 2 (scrA_2 t u1 u2 u3 u4); clear hSw; go_simp; try (with_reducible rfl))
        try simp only [Act.put, List.setIfInBounds_toArray, List.set_cons_zero, List.set_cons_succ]
        refine wpAnyH_take (i := 31) (oi := ⟨_, _, _, _, _, _⟩) (v := ?_) rfl (by kernel_rfl) (by kernel_rfl) (by kernel_rfl) (fun _ _ _ h => h) (Or.inl ⟨by rfl, ?_⟩) hHeld ?_
        rotate_left
        · (intro w hSw; (try dsimp only at hSw); have A0 := hSw.A.at0 (scrA_0 s v1 v2 v3 v4); have B0 := hSw.B.at0 (scrA_0 t u1 u2 u3 u4); have A1 := hSw.A.at 1 (scrA_1 s v1 v2 v3 v4); have B1 := hSw.B.at 1 (scrA_1 t u1 u2 u3 u4); have A2 := hSw.A.at 2 (scrA_2 s v1 v2 v3 v4); have B2 := hSw.B.at 2 (scrA_2 t u1 u2 u3 u4); clear hSw; go_simp; try (with_reducible rfl))
        try simp only [Act.put, List.setIfInBounds_toArray, List.set_cons_zero, List.set_cons_succ]
        refine wpAnyH_take (i := 32) (oi := ⟨_, _, _, _, _, _⟩) (v := ?_) rfl (by kernel_rfl) (by kernel_rfl) (by kernel_rfl) (fun _ _ _ h => h) (Or.inl ⟨by rfl, ?_⟩) hHeld ?_
        rotate_left
        · (intro w hSw; (try dsimp only at hSw); have A0 := hSw.A.at0 (scrA_0 s v1 v2 v3 v4); have B0 := hSw.B.at0 (scrA_0 t u1 u2 u3 u4); have A1 := hSw.A.at 1 (scrA_1 s v1 v2 v3 v4); have B1 := hSw.B.at 1 (scrA_1 t u1 u2 u3 u4); have A2 := hSw.A.at 2 (scrA_2 s v1 v2 v3 v4); have B2 := hSw.B.at 2 (scrA_2 t u1 u2 u3 u4); clear hSw; go_simp; try (with_reducible rfl))
        try simp only [Act.put, List.setIfInBounds_toArray, List.set_cons_zero, List.set_cons_succ]
        refine wpAnyH_take (i := 33) (oi := ⟨_, _, _, _, _, _⟩) (v := ?_) rfl (by kernel_rfl) (by kernel_rfl) (by kernel_rfl) (fun _ _ _ h => h) (Or.inl ⟨by rfl, ?_⟩) hHeld ?_
        rotate_left
        · (intro w hSw; (try dsimp only at hSw); have A0 := hSw.A.at0 (scrA_0 s v1 v2 v3 v4); have B0 := hSw.B.at0 (scrA_0 t u1 u2 u3 u4); have A1 := hSw.A.at 1 (scrA_1 s v1 v2 v3 v4); have B1 := hSw.B.at 1 (scrA_1 t u1 u2 u3 u4); have A2 := hSw.A.at 2 (scrA_2 s v1 v2 v3 v4); have B2 := hSw.B.at 2 (scrA_2 t u1 u2 u3 u4); clear hSw; go_simp; try (with_reducible rfl))
        try simp only [Act.put, List.setIfInBounds_toArray, List.set_cons_zero, List.set_cons_succ]
        refine wpAnyH_take (i := 34) (oi := ⟨_, _, _, _, _, _⟩) (v := ?_) rfl (by kernel_rfl) (by kernel_rfl) (by kernel_rfl) (fun _ _ _ h => h) (Or.inl ⟨by rfl, ?_⟩) hHeld ?_
        rotate_left
        · (intro w hSw; (try dsimp only at hSw); have A0 := hSw.A.at0 (scrA_0 s v1 v2 v3 v4); have B0 := hSw.B.at0 (scrA_0 t u1 u2 u3 u4); have A1 := hSw.A.at 1 (scrA_1 s v1 v2 v3 v4); have B1 := hSw.B.at 1 (scrA_1 t u1 u2 u3 u4); have A2 := hSw.A.at 2 (scrA_2 s v1 v2 v3 v4); have B2 := hSw.B.at 2 (scrA_2 t u1 u2 u3 u4); clear hSw; go_simp; try (with_reducible rfl))
        try simp only [Act.put, List.setIfInBounds_toArray, List.set_cons_zero, List.set_cons_succ]
        refine wpAnyH_ready (rs := [35]) (by kernel_rfl) (by simp) ?_
        refine AllReadyH.cons (o := ⟨_, _, _, _, _, _⟩) rfl (fun K hK => ?_) AllReadyH.nil
        go_simp
        go_at_call 88
        refine (l3SameCells_calls s.cs t.cs _ _ _ n1 m1 hHeld.r1.g1 hHeld.r2.g1).mono ?_
        rintro e w1 ⟨rfl, hb1⟩
        rw [e3]
        try go_wp2_with fail
        refine hK.out _ _ ?_ ?_
        · (try dsimp only); exact hHeld.next hb1
        clear hHeld hK K
        intro hHeld
        try simp only [Act.put, List.setIfInBounds_toArray, List.set_cons_zero, List.set_cons_succ]
        refine wpAnyH_take (i := 36) (oi := ⟨_, _, _, _, _, _⟩) (v := ?_) rfl (by kernel_rfl) (by kernel_rfl) (by kernel_rfl) (fun _ _ _ h => h) (Or.inl ⟨by rfl, ?_⟩) hHeld ?_
        rotate_left
        · (intro w hSw; (try dsimp only at hSw); have A0 := hSw.A.at0 (scrA_0 s v1 v2 v3 v4); have B0 := hSw.B.at0 (scrA_0 t u1 u2 u3 u4); have A1 := hSw.A.at 1 (scrA_1 s v1 v2 v3 v4); have B1 := hSw.B.at 1 (scrA_1 t u1 u2 u3 u4); have A2 := hSw.A.at 2 (scrA_2 s v1 v2 v3 v4); have B2 := hSw.B.at 2 (scrA_2 t u1 u2 u3 u4); clear hSw; go_simp; try (with_reducible rfl))
        try simp only [Act.put, List.setIfInBounds_toArray, List.set_cons_zero, List.set_cons_succ]
        refine wpAnyH_take (i := 37) (oi := ⟨_, _, _, _, _, _⟩) (v := ?_) rfl (by kernel_rfl) (by kernel_rfl) (by kernel_rfl) (fun _ _ _ h => h) (Or.inl ⟨by rfl, ?_⟩) hHeld ?_
        rotate_left
        · (intro w hSw; (try dsimp only at hSw); have A0 := hSw.A.at0 (scrA_0 s v1 v2 v3 v4); have B0 := hSw.B.at0 (scrA_0 t u1 u2 u3 u4); have A1 := hSw.A.at 1 (scrA_1 s v1 v2 v3 v4); have B1 := hSw.B.at 1 (scrA_1 t u1 u2 u3 u4); have A2 := hSw.A.at 2 (scrA_2 s v1 v2 v3 v4); have B2 := hSw.B.at 2 (scrA_2 t u1 u2 u3 u4); clear hSw; go_simp; try (with_reducible rfl))
        try simp only [Act.put, List.setIfInBounds_toArray, List.set_cons_zero, List.set_cons_succ]
        refine wpAnyH_done (by kernel_rfl) ?_ _
        obtain ⟨bel1, hA1, hB1, hr1, hr2⟩ := hHeld
        clear hKT hA hB h k
        have hA := hA1
        have hB := hB1
        clear hA1 hB1 hb1
        have HE : Hid ((s.r == t.r) = true ∧ (s.wd == t.wd) = true ∧ sameL s.cs t.cs 0 = true) := hide ⟨e1, e2, e3⟩
        clear e1 e2 e3 ne1 ne2
        have HR1 := hide hr1
        have HR2 := hide hr2
        clear hr1 hr2
        have A4 := hA.at 4 (scrA_4 s v1 v2 v3 v4)
        have A5 := hA.at 5 (scrA_5 s v1 v2 v3 v4)
        have A6 := hA.at 6 (scrA_6 s v1 v2 v3 v4)
        have A7 := hA.at 7 (scrA_7 s v1 v2 v3 v4)
        have A8 := hA.at 8 (scrA_8 s v1 v2 v3 v4)
        have A9 := hA.at 9 (scrA_9 s v1 v2 v3 v4)
        have B4 := hB.at 4 (scrA_4 t u1 u2 u3 u4)
        have B5 := hB.at 5 (scrA_5 t u1 u2 u3 u4)
        have B6 := hB.at 6 (scrA_6 t u1 u2 u3 u4)
        have B7 := hB.at 7 (scrA_7 t u1 u2 u3 u4)
        have B8 := hB.at 8 (scrA_8 t u1 u2 u3 u4)
        have B9 := hB.at 9 (scrA_9 t u1 u2 u3 u4)
        have HA := hide hA
        have HB := hide hB
        clear hA hB
        go_wp2_with fail
        obtain ⟨b0, hp0⟩ : ∃ x, (s.y != t.y) = x := ⟨_, rfl⟩
        obtain ⟨b1, hp1⟩ : ∃ x, (s.x != t.x) = x := ⟨_, rfl⟩
        obtain ⟨b2, hp2⟩ : ∃ x, (s.wrap != t.wrap) = x := ⟨_, rfl⟩
        have hx2 : (!(s.wrap == t.wrap)) = b2 := hp2
        obtain ⟨b3, hp3⟩ : ∃ x, (s.attr != t.attr) = x := ⟨_, rfl⟩
        obtain ⟨b4, hp4⟩ : ∃ x, (s.top != t.top) = x := ⟨_, rfl⟩
        obtain ⟨b5, hp5⟩ : ∃ x, (s.bot != t.bot) = x := ⟨_, rfl⟩
        refine wp_region_quiet_lit (by kernel_rfl) (by kernel_rfl) ?_
        repeat (go_big_quiet_step (fail))
        cases b0
        rotate_left
        · as_aux_lemma =>
            repeat (go_big_quiet_step (fail))
            refine wpQuiet_nil ?_
            intro _ hw'
            obtain ⟨nq, hw''⟩ := hw'
            subst hw''
            go_wp2
            go_ret
            obtain ⟨x1, x2, x3⟩ := HE.out
            simp only [bne_iff_ne, ne_eq, bne_eq_false_iff_eq] at hp0
            exact ⟨ret_bool (by simp [shownB, sameG, x1, x2, x3, hp0]), below_drewN bel1 _⟩
        repeat (go_big_quiet_step (fail))
        cases b1
        rotate_left
        · as_aux_lemma =>
            repeat (go_big_quiet_step (fail))
            refine wpQuiet_nil ?_
            intro _ hw'
            obtain ⟨nq, hw''⟩ := hw'
            subst hw''
            go_wp2
            go_ret
            obtain ⟨x1, x2, x3⟩ := HE.out
            simp only [bne_iff_ne, ne_eq, bne_eq_false_iff_eq] at hp0 hp1
            exact ⟨ret_bool (by simp [shownB, sameG, x1, x2, x3, hp0, hp1]), below_drewN bel1 _⟩
        repeat (go_big_quiet_step (fail))
        cases b2
        rotate_left
        · as_aux_lemma =>
            repeat (go_big_quiet_step (fail))
            refine wpQuiet_nil ?_
            intro _ hw'
            obtain ⟨nq, hw''⟩ := hw'
            subst hw''
            go_wp2
            go_ret
            obtain ⟨x1, x2, x3⟩ := HE.out
            simp only [bne_iff_ne, ne_eq, bne_eq_false_iff_eq] at hp0 hp1 hp2
            exact ⟨ret_bool (by simp [shownB, sameG, x1, x2, x3, hp0, hp1, hp2]), below_drewN bel1 _⟩
        repeat (go_big_quiet_step (fail))
        cases b3
        rotate_left
        · as_aux_lemma =>
            repeat (go_big_quiet_step (fail))
            refine wpQuiet_nil ?_
            intro _ hw'
            obtain ⟨nq, hw''⟩ := hw'
            subst hw''
            go_wp2
            go_ret
            obtain ⟨x1, x2, x3⟩ := HE.out
            simp only [bne_iff_ne, ne_eq, bne_eq_false_iff_eq] at hp0 hp1 hp2 hp3
            exact ⟨ret_bool (by simp [shownB, sameG, x1, x2, x3, hp0, hp1, hp2, hp3]), below_drewN bel1 _⟩
        repeat (go_big_quiet_step (fail))
        cases b4
        rotate_left
        · as_aux_lemma =>
            repeat (go_big_quiet_step (fail))
            refine wpQuiet_nil ?_
            intro _ hw'
            obtain ⟨nq, hw''⟩ := hw'
            subst hw''
            go_wp2
            go_ret
            obtain ⟨x1, x2, x3⟩ := HE.out
            simp only [bne_iff_ne, ne_eq, bne_eq_false_iff_eq] at hp0 hp1 hp2 hp3 hp4
            exact ⟨ret_bool (by simp [shownB, sameG, x1, x2, x3, hp0, hp1, hp2, hp3, hp4]), below_drewN bel1 _⟩
        repeat (go_big_quiet_step (fail))
        cases b5
        rotate_left
        · as_aux_lemma =>
            repeat (go_big_quiet_step (fail))
            refine wpQuiet_nil ?_
            intro _ hw'
            obtain ⟨nq, hw''⟩ := hw'
            subst hw''
            go_wp2
            go_ret
            obtain ⟨x1, x2, x3⟩ := HE.out
            simp only [bne_iff_ne, ne_eq, bne_eq_false_iff_eq] at hp0 hp1 hp2 hp3 hp4 hp5
            exact ⟨ret_bool (by simp [shownB, sameG, x1, x2, x3, hp0, hp1, hp2, hp3, hp4, hp5]), below_drewN bel1 _⟩
        repeat (go_big_quiet_step (fail))
        refine wpQuiet_nil ?_
        intro _ hw'
        obtain ⟨nq, hw''⟩ := hw'
        subst hw''
        have HE3 : Hid ((s.y == t.y) = true ∧ (s.x == t.x) = true ∧ (s.wrap == t.wrap) = true ∧ (s.attr == t.attr) = true ∧ (s.top == t.top) = true ∧ (s.bot == t.bot) = true) := hide (by simp only [bne_eq_false_iff_eq] at hp0 hp1 hp2 hp3 hp4 hp5; simp [hp0, hp1, hp2, hp3, hp4, hp5])
        clear hp0 hp1 hp2 hp3 hp4 hp5 hx2 A4 A5 A6 A7 A8 A9 B4 B5 B6 B7 B8 B9
        have hA := HA.out.drewN nq
        have hB := HB.out.drewN nq
        have bel2 := below_drewN bel1 nq
        have hr1 := HR1.out.below (below_drewN (Below.refl _ _) nq)
        have hr2 := HR2.out.below (below_drewN (Below.refl _ _) nq)
        clear HA HB bel1 HR1 HR2
        generalize w1.drewN nq = w2 at *
        have HR1 := hide hr1
        have HR2 := hide hr2
        clear hr1 hr2
        have A10 := hA.at 10 (scrA_10 s v1 v2 v3 v4)
        have A11 := hA.at 11 (scrA_11 s v1 v2 v3 v4)
        have A12 := hA.at 12 (scrA_12 s v1 v2 v3 v4)
        have A18 := hA.at 18 (scrA_18 s v1 v2 v3 v4)
        have B10 := hB.at 10 (scrA_10 t u1 u2 u3 u4)
        have B11 := hB.at 11 (scrA_11 t u1 u2 u3 u4)
        have B12 := hB.at 12 (scrA_12 t u1 u2 u3 u4)
        have B18 := hB.at 18 (scrA_18 t u1 u2 u3 u4)
        have HA := hide hA
        have HB := hide hB
        clear hA hB
        go_wp2_with fail
        obtain ⟨b0, hp0⟩ : ∃ x, (s.org != t.org) = x := ⟨_, rfl⟩
        have hx0 : (!(s.org == t.org)) = b0 := hp0
        obtain ⟨b1, hp1⟩ : ∃ x, (s.auto != t.auto) = x := ⟨_, rfl⟩
        have hx1 : (!(s.auto == t.auto)) = b1 := hp1
        obtain ⟨b2, hp2⟩ : ∃ x, (s.ins != t.ins) = x := ⟨_, rfl⟩
        have hx2 : (!(s.ins == t.ins)) = b2 := hp2
        obtain ⟨b3, hp3⟩ : ∃ x, (s.sh != t.sh) = x := ⟨_, rfl⟩
        refine wp_region_quiet_lit (by kernel_rfl) (by kernel_rfl) ?_
        repeat (go_big_quiet_step (fail))
        cases b0
        rotate_left
        · as_aux_lemma =>
            repeat (go_big_quiet_step (fail))
            refine wpQuiet_nil ?_
            intro _ hw'
            obtain ⟨nq, hw''⟩ := hw'
            subst hw''
            go_wp2
            go_ret
            obtain ⟨x1, x2, x3⟩ := HE.out
            obtain ⟨y1, y2, y3, y4, y5, y6⟩ := HE3.out
            simp only [bne_iff_ne, ne_eq, bne_eq_false_iff_eq] at hp0
            exact ⟨ret_bool (by simp [shownB, sameG, x1, x2, x3, y1, y2, y3, y4, y5, y6, hp0]), below_drewN bel2 _⟩
        repeat (go_big_quiet_step (fail))
        cases b1
        rotate_left
        · as_aux_lemma =>
            repeat (go_big_quiet_step (fail))
            refine wpQuiet_nil ?_
            intro _ hw'
            obtain ⟨nq, hw''⟩ := hw'
            subst hw''
            go_wp2
            go_ret
            obtain ⟨x1, x2, x3⟩ := HE.out
            obtain ⟨y1, y2, y3, y4, y5, y6⟩ := HE3.out
            simp only [bne_iff_ne, ne_eq, bne_eq_false_iff_eq] at hp0 hp1
            exact ⟨ret_bool (by simp [shownB, sameG, x1, x2, x3, y1, y2, y3, y4, y5, y6, hp0, hp1]), below_drewN bel2 _⟩
        repeat (go_big_quiet_step (fail))
        cases b2
        rotate_left
        · as_aux_lemma =>
            repeat (go_big_quiet_step (fail))
            refine wpQuiet_nil ?_
            intro _ hw'
            obtain ⟨nq, hw''⟩ := hw'
            subst hw''
            go_wp2
            go_ret
            obtain ⟨x1, x2, x3⟩ := HE.out
            obtain ⟨y1, y2, y3, y4, y5, y6⟩ := HE3.out
            simp only [bne_iff_ne, ne_eq, bne_eq_false_iff_eq] at hp0 hp1 hp2
            exact ⟨ret_bool (by simp [shownB, sameG, x1, x2, x3, y1, y2, y3, y4, y5, y6, hp0, hp1, hp2]), below_drewN bel2 _⟩
        repeat (go_big_quiet_step (fail))
        cases b3
        rotate_left
        · as_aux_lemma =>
            repeat (go_big_quiet_step (fail))
            refine wpQuiet_nil ?_
            intro _ hw'
            obtain ⟨nq, hw''⟩ := hw'
            subst hw''
            go_wp2
            go_ret
            obtain ⟨x1, x2, x3⟩ := HE.out
            obtain ⟨y1, y2, y3, y4, y5, y6⟩ := HE3.out
            simp only [bne_iff_ne, ne_eq, bne_eq_false_iff_eq] at hp0 hp1 hp2 hp3
            exact ⟨ret_bool (by simp [shownB, sameG, x1, x2, x3, y1, y2, y3, y4, y5, y6, hp0, hp1, hp2, hp3]), below_drewN bel2 _⟩
        repeat (go_big_quiet_step (fail))
        refine wpQuiet_nil ?_
        intro _ hw'
        obtain ⟨nq, hw''⟩ := hw'
        subst hw''
        have HE5 : Hid ((s.org == t.org) = true ∧ (s.auto == t.auto) = true ∧ (s.ins == t.ins) = true ∧ (s.sh == t.sh) = true) := hide (by simp only [bne_eq_false_iff_eq] at hp0 hp1 hp2 hp3; simp [hp0, hp1, hp2, hp3])
        clear hp0 hp1 hp2 hp3 hx0 hx1 hx2 A10 A11 A12 A18 B10 B11 B12 B18
        have hA := HA.out.drewN nq
        have hB := HB.out.drewN nq
        have bel3 := below_drewN bel2 nq
        have hr1 := HR1.out.below (below_drewN (Below.refl _ _) nq)
        have hr2 := HR2.out.below (below_drewN (Below.refl _ _) nq)
        clear HA HB bel2 HR1 HR2
        generalize w2.drewN nq = w3 at *
        have A13 := hA.at 13 (scrA_13 s v1 v2 v3 v4)
        have A17 := hA.at 17 (scrA_17 s v1 v2 v3 v4)
        have B13 := hB.at 13 (scrA_13 t u1 u2 u3 u4)
        have B17 := hB.at 17 (scrA_17 t u1 u2 u3 u4)
        clear hA hB
        have R3 := hide hr1.g3
        have R4 := hide hr1.g4
        have Q3 := hide hr2.g3
        have Q4 := hide hr2.g4
        clear hr1 hr2
        go_wp2_with fail
        refine wp_region_quiet_lit (by kernel_rfl) (by kernel_rfl) ?_
        obtain ⟨bt, ht⟩ : ∃ x, decide (s.tabs = t.tabs) = x := ⟨_, rfl⟩
        obtain ⟨bs, hs⟩ : ∃ x, decide (s.sets = t.sets) = x := ⟨_, rfl⟩
        have HT := hide ht
        have HS := hide hs
        clear ht hs
        repeat (go_big_quiet_step (first | (go_at_call 89; refine (l5Bools_calls s.tabs t.tabs _ _ _ (by omega) (by omega) (R3.out.below (below_drewN (Below.refl _ _) _)) (Q3.out.below (below_drewN (Below.refl _ _) _))).mono ?_; rintro e w' ⟨rfl, n', rfl⟩; rw [HT.out]; exact ⟨rfl, _, by first | rfl | (simp only [World.drewN_drewN]; rfl)⟩) | (go_at_call 90; refine (l4Ints_calls s.sets t.sets _ _ _ (by omega) (by omega) (R4.out.below (below_drewN (Below.refl _ _) _)) (Q4.out.below (below_drewN (Below.refl _ _) _))).mono ?_; rintro e w' ⟨rfl, n', rfl⟩; rw [HS.out]; exact ⟨rfl, _, by first | rfl | (simp only [World.drewN_drewN]; rfl)⟩)))
        cases bt
        · skip
          repeat (go_big_quiet_step (first | (go_at_call 89; refine (l5Bools_calls s.tabs t.tabs _ _ _ (by omega) (by omega) (R3.out.below (below_drewN (Below.refl _ _) _)) (Q3.out.below (below_drewN (Below.refl _ _) _))).mono ?_; rintro e w' ⟨rfl, n', rfl⟩; rw [HT.out]; exact ⟨rfl, _, by first | rfl | (simp only [World.drewN_drewN]; rfl)⟩) | (go_at_call 90; refine (l4Ints_calls s.sets t.sets _ _ _ (by omega) (by omega) (R4.out.below (below_drewN (Below.refl _ _) _)) (Q4.out.below (below_drewN (Below.refl _ _) _))).mono ?_; rintro e w' ⟨rfl, n', rfl⟩; rw [HS.out]; exact ⟨rfl, _, by first | rfl | (simp only [World.drewN_drewN]; rfl)⟩)))
          refine wpQuiet_nil ?_
          intro _ hw'
          obtain ⟨nq, hw''⟩ := hw'
          subst hw''
          go_wp2
          go_ret
          obtain ⟨x1, x2, x3⟩ := HE.out
          obtain ⟨y1, y2, y3, y4, y5, y6⟩ := HE3.out
          obtain ⟨z1, z2, z3, z4⟩ := HE5.out
          have ht := HT.out
          have hs := HS.out
          exact ⟨ret_bool (by simp only [shownB, sameG, sameL_nil, x1, x2, x3, y1, y2, y3, y4, y5, y6, z1, z2, z3, z4, ht, hs]; simp), below_drewN bel3 _⟩
        · skip
          repeat (go_big_quiet_step (first | (go_at_call 89; refine (l5Bools_calls s.tabs t.tabs _ _ _ (by omega) (by omega) (R3.out.below (below_drewN (Below.refl _ _) _)) (Q3.out.below (below_drewN (Below.refl _ _) _))).mono ?_; rintro e w' ⟨rfl, n', rfl⟩; rw [HT.out]; exact ⟨rfl, _, by first | rfl | (simp only [World.drewN_drewN]; rfl)⟩) | (go_at_call 90; refine (l4Ints_calls s.sets t.sets _ _ _ (by omega) (by omega) (R4.out.below (below_drewN (Below.refl _ _) _)) (Q4.out.below (below_drewN (Below.refl _ _) _))).mono ?_; rintro e w' ⟨rfl, n', rfl⟩; rw [HS.out]; exact ⟨rfl, _, by first | rfl | (simp only [World.drewN_drewN]; rfl)⟩)))
          refine wpQuiet_nil ?_
          intro _ hw'
          obtain ⟨nq, hw''⟩ := hw'
          subst hw''
          go_wp2
          go_ret
          obtain ⟨x1, x2, x3⟩ := HE.out
          obtain ⟨y1, y2, y3, y4, y5, y6⟩ := HE3.out
          obtain ⟨z1, z2, z3, z4⟩ := HE5.out
          have ht := HT.out
          have hs := HS.out
          exact ⟨ret_bool (by simp only [shownB, sameG, sameL_nil, x1, x2, x3, y1, y2, y3, y4, y5, y6, z1, z2, z3, z4, ht, hs]; simp), below_drewN bel3 _⟩
set_option maxHeartbeats 1000000 in
theorem specSameShown_calls (s t : Scr) (v1 v2 v3 v4 u1 u2 u3 u4 : Value) (w : World) (n1 : s.cs.length ≤ 1048576) (n2 : s.tabs.length ≤ 1048576) (n3 : s.sets.length ≤ 1048576) (m1 : t.cs.length ≤ 1048576) (m2 : t.tabs.length ≤ 1048576) (m3 : t.sets.length ≤ 1048576) (h : SRead w s v1 v2 v3 v4) (k : SRead w t u1 u2 u3 u4) :
    Calls Try.prog 10 #[.agg (scrA s v1 v2 v3 v4), .agg (scrA t u1 u2 u3 u4)] w fun e w' => e = .returned (.bool (shownB s t)) ∧ Below w.heap.size w w' := by
  have bel0 : Below w.heap.size w ((w.alloc (.cells (scrA s v1 v2 v3 v4) 35)).alloc (.cells (scrA t u1 u2 u3 u4) 35)) := (by repeat' (first | with_reducible exact Below.refl _ _ | with_reducible assumption | with_reducible refine Below.drew ?_ | with_reducible refine Below.alloc ?_ ?_ _ | with_reducible refine Below.setCell ?_ ?_ _ | (simp; done) | (simp; omega) | omega))
  go_enter Try.func10, Try.ntmps10
  go_wp2_with fail
  refine (l5Shown_o s t v1 v2 v3 v4 u1 u2 u3 u4 _ 0 _ 0 _ n1 n2 n3 m1 m2 m3 ((Blk.new w _ _).alloc _).seg (Blk.new_at (by simp) _ _).seg (h.below bel0) (k.below bel0)).mono ?_
  rintro e w1 ⟨rfl, hb1⟩
  go_wp2
  go_ret
  exact ⟨rfl, bel0.trans (hb1.mono bel0.size)⟩
end Go.Proofs.Ytceoehiaeanfkaa
