/-
  Whether two terminals are the same, for the model: l6Same, SameVts.
-/
import Derived.Test.YtceoehiaeanfkaaSameVt1
import Derived.Test.YtceoehiaeanfkaaSamePar2
import Derived.Test.YtceoehiaeanfkaaSameShown2
namespace Go.Proofs.Ytceoehiaeanfkaa
set_option maxRecDepth 20000
open Go.ChangeShapes Go.WideShapes Go.ChangeAt Go.RowKit
set_option linter.unusedVariables false
set_option linter.unusedSimpArgs false
set_option maxRecDepth 20000

/-- Two terminals that are parts of blocks, as a region keeps them. -/
structure KeepV (W : World) (a oa b ob : Nat) (t s : VtS) (u v1 v2 v3 v4 k k1 k2 k3 k4 : Value) (w1 : World) : Prop where
  bel : Below W.heap.size W w1
  A : Seg w1 a oa (vtA t u v1 v2 v3 v4)
  B : Seg w1 b ob (vtA s k k1 k2 k3 k4)
  r1 : VRead w1 t u v1 v2 v3 v4
  r2 : VRead w1 s k k1 k2 k3 k4
theorem KeepV.next {W : World} {a oa b ob : Nat} {t s : VtS} {u v1 v2 v3 v4 k k1 k2 k3 k4 : Value} {w1 w2 : World} (h : KeepV W a oa b ob t s u v1 v2 v3 v4 k k1 k2 k3 k4 w1) (hb : Below w1.heap.size w1 w2) : KeepV W a oa b ob t s u v1 v2 v3 v4 k k1 k2 k3 k4 w2 :=
  ⟨h.bel.trans (hb.mono h.bel.size), h.A.belowb hb, h.B.belowb hb, h.r1.below hb, h.r2.below hb⟩
theorem run_ldSeg {P : Program} {ρ : Operand → Value} {op : Oper} {w : World} (ty : TypeId) (x : Operand) (ho : op.op = .load ty x) (g of : Nat) (hx : ρ x = .pointer (some ⟨g, of, none⟩)) (v : Value) (h : (loadVar ty ⟨g, of, none⟩).run P w = .ok v w) :
    (execOp ρ op).run P w = .ok (Next.value v) w := by
  unfold execOp
  simp only [ho, hx, Instr.loadAt, Instr.sureAddr, Sem.run_bind, Sem.run_pure, Result.andThen_ok, h]
set_option maxHeartbeats 8000000 in
theorem l6Same_o (a oa b ob : Nat) (t s : VtS) (u v1 v2 v3 v4 k k1 k2 k3 k4 : Value) (w : World) (n0 : t.ns.length ≤ 1048576) (n1 : t.s.cs.length ≤ 1048576) (n2 : t.s.bs.length ≤ 1048576) (n3 : t.s.tabs.length ≤ 1048576) (n4 : t.s.sets.length ≤ 1048576) (m0 : s.ns.length ≤ 1048576) (m1 : s.s.cs.length ≤ 1048576) (m2 : s.s.bs.length ≤ 1048576) (m3 : s.s.tabs.length ≤ 1048576) (m4 : s.s.sets.length ≤ 1048576) (h : VRead w t u v1 v2 v3 v4) (g : VRead w s k k1 k2 k3 k4) (hA : Seg w a oa (vtA t u v1 v2 v3 v4)) (hB : Seg w b ob (vtA s k k1 k2 k3 k4)) :
    Calls Try.prog 84 #[.pointer (some ⟨a, oa, none⟩), .pointer (some ⟨b, ob, none⟩)] w fun e w' => e = .returned (.bool (sameVB t s)) ∧ Below w.heap.size w w' := by
  cases q0 : decB t s
  · skip
    go_enter Try.func84, Try.ntmps84
    go_wp2_with fail
    refine wp_region_held_drew (S := (fun w' => KeepV w a oa b ob t s u v1 v2 v3 v4 k k1 k2 k3 k4 w')) (by kernel_rfl) ?_ (fun hHeld => ?_)
    · (try dsimp only); exact ⟨Below.drew (Below.refl _ w), hA, hB, h.below (Below.drew (Below.refl _ _)), g.below (Below.drew (Below.refl _ _))⟩
    refine wpAnyH_take (i := 0) (oi := ⟨_, _, _, _, _, _⟩) (v := ?_) rfl (by kernel_rfl) (by kernel_rfl) (by kernel_rfl) (fun _ _ _ h => h) (Or.inl ⟨by rfl, ?_⟩) hHeld ?_
    rotate_left
    · (intro w hSw; (try dsimp only at hSw); have A10 := hSw.A.at 10 (vtA_10 t u v1 v2 v3 v4); have B10 := hSw.B.at 10 (vtA_10 s k k1 k2 k3 k4); clear hSw; have hnc := dec_neq; have hgc := guard_dec; go_simp; try (with_reducible rfl))
    try simp only [Act.put, List.setIfInBounds_toArray, List.set_cons_zero, List.set_cons_succ]
    refine wpAnyH_take (i := 1) (oi := ⟨_, _, _, _, _, _⟩) (v := ?_) rfl (by kernel_rfl) (by kernel_rfl) (by kernel_rfl) (fun _ _ _ h => h) (Or.inl ⟨by rfl, ?_⟩) hHeld ?_
    rotate_left
    · (intro w hSw; (try dsimp only at hSw); have A10 := hSw.A.at 10 (vtA_10 t u v1 v2 v3 v4); have B10 := hSw.B.at 10 (vtA_10 s k k1 k2 k3 k4); clear hSw; have hnc := dec_neq; have hgc := guard_dec; go_simp; try (with_reducible rfl))
    try simp only [Act.put, List.setIfInBounds_toArray, List.set_cons_zero, List.set_cons_succ]
    refine wpAnyH_take (i := 2) (oi := ⟨_, _, _, _, _, _⟩) (v := ?_) rfl (by kernel_rfl) (by kernel_rfl) (by kernel_rfl) (fun _ _ _ h => h) (Or.inl ⟨by rfl, ?_⟩) hHeld ?_
    rotate_left
    · (intro w hSw; (try dsimp only at hSw); have A10 := hSw.A.at 10 (vtA_10 t u v1 v2 v3 v4); have B10 := hSw.B.at 10 (vtA_10 s k k1 k2 k3 k4); clear hSw; have hnc := dec_neq; have hgc := guard_dec; go_simp; try (with_reducible rfl))
    try simp only [Act.put, List.setIfInBounds_toArray, List.set_cons_zero, List.set_cons_succ]
    refine wpAnyH_take (i := 3) (oi := ⟨_, _, _, _, _, _⟩) (v := .agg (decA t)) rfl (by kernel_rfl) (by kernel_rfl) (by kernel_rfl) (fun _ _ _ h => h) (Or.inl ⟨by rfl, ?_⟩) hHeld ?_
    · intro w hSw
      (try dsimp only at hSw)
      have hx := run_loadVar_seg (P := Try.prog) (k := 0) (ty := 58) (vs := decA t) hSw.A rfl Try.underlying58 rfl (by kernel_rfl)
      exact run_ldSeg _ _ rfl _ _ rfl _ hx
    try simp only [Act.put, List.setIfInBounds_toArray, List.set_cons_zero, List.set_cons_succ]
    refine wpAnyH_take (i := 4) (oi := ⟨_, _, _, _, _, _⟩) (v := ?_) rfl (by kernel_rfl) (by kernel_rfl) (by kernel_rfl) (fun _ _ _ h => h) (Or.inl ⟨by rfl, ?_⟩) hHeld ?_
    rotate_left
    · (intro w hSw; (try dsimp only at hSw); have A10 := hSw.A.at 10 (vtA_10 t u v1 v2 v3 v4); have B10 := hSw.B.at 10 (vtA_10 s k k1 k2 k3 k4); clear hSw; have hnc := dec_neq; have hgc := guard_dec; go_simp; try (with_reducible rfl))
    try simp only [Act.put, List.setIfInBounds_toArray, List.set_cons_zero, List.set_cons_succ]
    refine wpAnyH_take (i := 5) (oi := ⟨_, _, _, _, _, _⟩) (v := ?_) rfl (by kernel_rfl) (by kernel_rfl) (by kernel_rfl) (fun _ _ _ h => h) (Or.inl ⟨by rfl, ?_⟩) hHeld ?_
    rotate_left
    · (intro w hSw; (try dsimp only at hSw); have A10 := hSw.A.at 10 (vtA_10 t u v1 v2 v3 v4); have B10 := hSw.B.at 10 (vtA_10 s k k1 k2 k3 k4); clear hSw; have hnc := dec_neq; have hgc := guard_dec; go_simp; try (with_reducible rfl))
    try simp only [Act.put, List.setIfInBounds_toArray, List.set_cons_zero, List.set_cons_succ]
    refine wpAnyH_take (i := 6) (oi := ⟨_, _, _, _, _, _⟩) (v := ?_) rfl (by kernel_rfl) (by kernel_rfl) (by kernel_rfl) (fun _ _ _ h => h) (Or.inl ⟨by rfl, ?_⟩) hHeld ?_
    rotate_left
    · (intro w hSw; (try dsimp only at hSw); have A10 := hSw.A.at 10 (vtA_10 t u v1 v2 v3 v4); have B10 := hSw.B.at 10 (vtA_10 s k k1 k2 k3 k4); clear hSw; have hnc := dec_neq; have hgc := guard_dec; go_simp; try (with_reducible rfl))
    try simp only [Act.put, List.setIfInBounds_toArray, List.set_cons_zero, List.set_cons_succ]
    refine wpAnyH_take (i := 7) (oi := ⟨_, _, _, _, _, _⟩) (v := .agg (decA s)) rfl (by kernel_rfl) (by kernel_rfl) (by kernel_rfl) (fun _ _ _ h => h) (Or.inl ⟨by rfl, ?_⟩) hHeld ?_
    · intro w hSw
      (try dsimp only at hSw)
      have hx := run_loadVar_seg (P := Try.prog) (k := 0) (ty := 58) (vs := decA s) hSw.B rfl Try.underlying58 rfl (by kernel_rfl)
      exact run_ldSeg _ _ rfl _ _ rfl _ hx
    try simp only [Act.put, List.setIfInBounds_toArray, List.set_cons_zero, List.set_cons_succ]
    refine wpAnyH_take (i := 8) (oi := ⟨_, _, _, _, _, _⟩) (v := ?_) rfl (by kernel_rfl) (by kernel_rfl) (by kernel_rfl) (fun _ _ _ h => h) (Or.inl ⟨by rfl, ?_⟩) hHeld ?_
    rotate_left
    · (intro w hSw; (try dsimp only at hSw); have A10 := hSw.A.at 10 (vtA_10 t u v1 v2 v3 v4); have B10 := hSw.B.at 10 (vtA_10 s k k1 k2 k3 k4); clear hSw; have hnc := dec_neq; have hgc := guard_dec; go_simp; try (with_reducible rfl))
    try simp only [Act.put, List.setIfInBounds_toArray, List.set_cons_zero, List.set_cons_succ]
    refine wpAnyH_take (i := 9) (oi := ⟨_, _, _, _, _, _⟩) (v := ?_) rfl (by kernel_rfl) (by kernel_rfl) (by kernel_rfl) (fun _ _ _ h => h) (Or.inl ⟨by rfl, ?_⟩) hHeld ?_
    rotate_left
    · (intro w hSw; (try dsimp only at hSw); have A10 := hSw.A.at 10 (vtA_10 t u v1 v2 v3 v4); have B10 := hSw.B.at 10 (vtA_10 s k k1 k2 k3 k4); clear hSw; have hnc := dec_neq; have hgc := guard_dec; go_simp; try (with_reducible rfl))
    try simp only [Act.put, List.setIfInBounds_toArray, List.set_cons_zero, List.set_cons_succ]
    refine wpAnyH_take (i := 10) (oi := ⟨_, _, _, _, _, _⟩) (v := undef) rfl (by kernel_rfl) (by kernel_rfl) (by kernel_rfl) (fun _ _ _ h => h) (Or.inr ⟨by rfl, rfl⟩) hHeld ?_
    try simp only [Act.put, List.setIfInBounds_toArray, List.set_cons_zero, List.set_cons_succ]
    refine wpAnyH_take (i := 11) (oi := ⟨_, _, _, _, _, _⟩) (v := undef) rfl (by kernel_rfl) (by kernel_rfl) (by kernel_rfl) (fun _ _ _ h => h) (Or.inr ⟨by rfl, rfl⟩) hHeld ?_
    try simp only [Act.put, List.setIfInBounds_toArray, List.set_cons_zero, List.set_cons_succ]
    refine wpAnyH_take (i := 12) (oi := ⟨_, _, _, _, _, _⟩) (v := undef) rfl (by kernel_rfl) (by kernel_rfl) (by kernel_rfl) (fun _ _ _ h => h) (Or.inr ⟨by rfl, rfl⟩) hHeld ?_
    try simp only [Act.put, List.setIfInBounds_toArray, List.set_cons_zero, List.set_cons_succ]
    refine wpAnyH_take (i := 13) (oi := ⟨_, _, _, _, _, _⟩) (v := undef) rfl (by kernel_rfl) (by kernel_rfl) (by kernel_rfl) (fun _ _ _ h => h) (Or.inr ⟨by rfl, rfl⟩) hHeld ?_
    try simp only [Act.put, List.setIfInBounds_toArray, List.set_cons_zero, List.set_cons_succ]
    refine wpAnyH_take (i := 14) (oi := ⟨_, _, _, _, _, _⟩) (v := undef) rfl (by kernel_rfl) (by kernel_rfl) (by kernel_rfl) (fun _ _ _ h => h) (Or.inr ⟨by rfl, rfl⟩) hHeld ?_
    try simp only [Act.put, List.setIfInBounds_toArray, List.set_cons_zero, List.set_cons_succ]
    refine wpAnyH_take (i := 15) (oi := ⟨_, _, _, _, _, _⟩) (v := undef) rfl (by kernel_rfl) (by kernel_rfl) (by kernel_rfl) (fun _ _ _ h => h) (Or.inr ⟨by rfl, rfl⟩) hHeld ?_
    try simp only [Act.put, List.setIfInBounds_toArray, List.set_cons_zero, List.set_cons_succ]
    refine wpAnyH_take (i := 16) (oi := ⟨_, _, _, _, _, _⟩) (v := undef) rfl (by kernel_rfl) (by kernel_rfl) (by kernel_rfl) (fun _ _ _ h => h) (Or.inr ⟨by rfl, rfl⟩) hHeld ?_
    try simp only [Act.put, List.setIfInBounds_toArray, List.set_cons_zero, List.set_cons_succ]
    refine wpAnyH_take (i := 17) (oi := ⟨_, _, _, _, _, _⟩) (v := undef) rfl (by kernel_rfl) (by kernel_rfl) (by kernel_rfl) (fun _ _ _ h => h) (Or.inr ⟨by rfl, rfl⟩) hHeld ?_
    try simp only [Act.put, List.setIfInBounds_toArray, List.set_cons_zero, List.set_cons_succ]
    refine wpAnyH_take (i := 18) (oi := ⟨_, _, _, _, _, _⟩) (v := ?_) rfl (by kernel_rfl) (by kernel_rfl) (by kernel_rfl) (fun _ _ _ h => h) (Or.inl ⟨by rfl, ?_⟩) hHeld ?_
    rotate_left
    · (intro w hSw; (try dsimp only at hSw); have A10 := hSw.A.at 10 (vtA_10 t u v1 v2 v3 v4); have B10 := hSw.B.at 10 (vtA_10 s k k1 k2 k3 k4); clear hSw; have hnc := dec_neq; have hgc := guard_dec; go_simp; try (with_reducible rfl))
    try simp only [Act.put, List.setIfInBounds_toArray, List.set_cons_zero, List.set_cons_succ]
    refine wpAnyH_take (i := 19) (oi := ⟨_, _, _, _, _, _⟩) (v := ?_) rfl (by kernel_rfl) (by kernel_rfl) (by kernel_rfl) (fun _ _ _ h => h) (Or.inl ⟨by rfl, ?_⟩) hHeld ?_
    rotate_left
    · (intro w hSw; (try dsimp only at hSw); have A10 := hSw.A.at 10 (vtA_10 t u v1 v2 v3 v4); have B10 := hSw.B.at 10 (vtA_10 s k k1 k2 k3 k4); clear hSw; have hnc := dec_neq; have hgc := guard_dec; go_simp; try (with_reducible rfl))
    try simp only [Act.put, List.setIfInBounds_toArray, List.set_cons_zero, List.set_cons_succ]
    refine wpAnyH_take (i := 20) (oi := ⟨_, _, _, _, _, _⟩) (v := undef) rfl (by kernel_rfl) (by kernel_rfl) (by kernel_rfl) (fun _ _ _ h => h) (Or.inr ⟨by rfl, rfl⟩) hHeld ?_
    try simp only [Act.put, List.setIfInBounds_toArray, List.set_cons_zero, List.set_cons_succ]
    refine wpAnyH_take (i := 21) (oi := ⟨_, _, _, _, _, _⟩) (v := undef) rfl (by kernel_rfl) (by kernel_rfl) (by kernel_rfl) (fun _ _ _ h => h) (Or.inr ⟨by rfl, rfl⟩) hHeld ?_
    try simp only [Act.put, List.setIfInBounds_toArray, List.set_cons_zero, List.set_cons_succ]
    refine wpAnyH_take (i := 22) (oi := ⟨_, _, _, _, _, _⟩) (v := undef) rfl (by kernel_rfl) (by kernel_rfl) (by kernel_rfl) (fun _ _ _ h => h) (Or.inr ⟨by rfl, rfl⟩) hHeld ?_
    try simp only [Act.put, List.setIfInBounds_toArray, List.set_cons_zero, List.set_cons_succ]
    refine wpAnyH_take (i := 23) (oi := ⟨_, _, _, _, _, _⟩) (v := undef) rfl (by kernel_rfl) (by kernel_rfl) (by kernel_rfl) (fun _ _ _ h => h) (Or.inr ⟨by rfl, rfl⟩) hHeld ?_
    try simp only [Act.put, List.setIfInBounds_toArray, List.set_cons_zero, List.set_cons_succ]
    refine wpAnyH_take (i := 24) (oi := ⟨_, _, _, _, _, _⟩) (v := ?_) rfl (by kernel_rfl) (by kernel_rfl) (by kernel_rfl) (fun _ _ _ h => h) (Or.inl ⟨by rfl, ?_⟩) hHeld ?_
    rotate_left
    · (intro w hSw; (try dsimp only at hSw); have A10 := hSw.A.at 10 (vtA_10 t u v1 v2 v3 v4); have B10 := hSw.B.at 10 (vtA_10 s k k1 k2 k3 k4); clear hSw; have hnc := dec_neq; have hgc := guard_dec; go_simp; try (with_reducible rfl))
    try simp only [Act.put, List.setIfInBounds_toArray, List.set_cons_zero, List.set_cons_succ]
    refine wpAnyH_take (i := 25) (oi := ⟨_, _, _, _, _, _⟩) (v := ?_) rfl (by kernel_rfl) (by kernel_rfl) (by kernel_rfl) (fun _ _ _ h => h) (Or.inl ⟨by rfl, ?_⟩) hHeld ?_
    rotate_left
    · (intro w hSw; (try dsimp only at hSw); have A10 := hSw.A.at 10 (vtA_10 t u v1 v2 v3 v4); have B10 := hSw.B.at 10 (vtA_10 s k k1 k2 k3 k4); clear hSw; have hnc := dec_neq; have hgc := guard_dec; go_simp; try (with_reducible rfl))
    try simp only [Act.put, List.setIfInBounds_toArray, List.set_cons_zero, List.set_cons_succ]
    refine wpAnyH_take (i := 26) (oi := ⟨_, _, _, _, _, _⟩) (v := undef) rfl (by kernel_rfl) (by kernel_rfl) (by kernel_rfl) (fun _ _ _ h => h) (Or.inr ⟨by rfl, rfl⟩) hHeld ?_
    try simp only [Act.put, List.setIfInBounds_toArray, List.set_cons_zero, List.set_cons_succ]
    refine wpAnyH_take (i := 27) (oi := ⟨_, _, _, _, _, _⟩) (v := undef) rfl (by kernel_rfl) (by kernel_rfl) (by kernel_rfl) (fun _ _ _ h => h) (Or.inr ⟨by rfl, rfl⟩) hHeld ?_
    try simp only [Act.put, List.setIfInBounds_toArray, List.set_cons_zero, List.set_cons_succ]
    refine wpAnyH_take (i := 28) (oi := ⟨_, _, _, _, _, _⟩) (v := undef) rfl (by kernel_rfl) (by kernel_rfl) (by kernel_rfl) (fun _ _ _ h => h) (Or.inr ⟨by rfl, rfl⟩) hHeld ?_
    try simp only [Act.put, List.setIfInBounds_toArray, List.set_cons_zero, List.set_cons_succ]
    refine wpAnyH_take (i := 29) (oi := ⟨_, _, _, _, _, _⟩) (v := undef) rfl (by kernel_rfl) (by kernel_rfl) (by kernel_rfl) (fun _ _ _ h => h) (Or.inr ⟨by rfl, rfl⟩) hHeld ?_
    try simp only [Act.put, List.setIfInBounds_toArray, List.set_cons_zero, List.set_cons_succ]
    refine wpAnyH_take (i := 30) (oi := ⟨_, _, _, _, _, _⟩) (v := undef) rfl (by kernel_rfl) (by kernel_rfl) (by kernel_rfl) (fun _ _ _ h => h) (Or.inr ⟨by rfl, rfl⟩) hHeld ?_
    try simp only [Act.put, List.setIfInBounds_toArray, List.set_cons_zero, List.set_cons_succ]
    refine wpAnyH_take (i := 31) (oi := ⟨_, _, _, _, _, _⟩) (v := undef) rfl (by kernel_rfl) (by kernel_rfl) (by kernel_rfl) (fun _ _ _ h => h) (Or.inr ⟨by rfl, rfl⟩) hHeld ?_
    try simp only [Act.put, List.setIfInBounds_toArray, List.set_cons_zero, List.set_cons_succ]
    refine wpAnyH_take (i := 32) (oi := ⟨_, _, _, _, _, _⟩) (v := undef) rfl (by kernel_rfl) (by kernel_rfl) (by kernel_rfl) (fun _ _ _ h => h) (Or.inr ⟨by rfl, rfl⟩) hHeld ?_
    try simp only [Act.put, List.setIfInBounds_toArray, List.set_cons_zero, List.set_cons_succ]
    refine wpAnyH_take (i := 33) (oi := ⟨_, _, _, _, _, _⟩) (v := undef) rfl (by kernel_rfl) (by kernel_rfl) (by kernel_rfl) (fun _ _ _ h => h) (Or.inr ⟨by rfl, rfl⟩) hHeld ?_
    try simp only [Act.put, List.setIfInBounds_toArray, List.set_cons_zero, List.set_cons_succ]
    refine wpAnyH_take (i := 34) (oi := ⟨_, _, _, _, _, _⟩) (v := undef) rfl (by kernel_rfl) (by kernel_rfl) (by kernel_rfl) (fun _ _ _ h => h) (Or.inr ⟨by rfl, rfl⟩) hHeld ?_
    try simp only [Act.put, List.setIfInBounds_toArray, List.set_cons_zero, List.set_cons_succ]
    refine wpAnyH_take (i := 35) (oi := ⟨_, _, _, _, _, _⟩) (v := undef) rfl (by kernel_rfl) (by kernel_rfl) (by kernel_rfl) (fun _ _ _ h => h) (Or.inr ⟨by rfl, rfl⟩) hHeld ?_
    try simp only [Act.put, List.setIfInBounds_toArray, List.set_cons_zero, List.set_cons_succ]
    refine wpAnyH_take (i := 36) (oi := ⟨_, _, _, _, _, _⟩) (v := undef) rfl (by kernel_rfl) (by kernel_rfl) (by kernel_rfl) (fun _ _ _ h => h) (Or.inr ⟨by rfl, rfl⟩) hHeld ?_
    try simp only [Act.put, List.setIfInBounds_toArray, List.set_cons_zero, List.set_cons_succ]
    refine wpAnyH_take (i := 37) (oi := ⟨_, _, _, _, _, _⟩) (v := undef) rfl (by kernel_rfl) (by kernel_rfl) (by kernel_rfl) (fun _ _ _ h => h) (Or.inr ⟨by rfl, rfl⟩) hHeld ?_
    try simp only [Act.put, List.setIfInBounds_toArray, List.set_cons_zero, List.set_cons_succ]
    refine wpAnyH_take (i := 38) (oi := ⟨_, _, _, _, _, _⟩) (v := ?_) rfl (by kernel_rfl) (by kernel_rfl) (by kernel_rfl) (fun _ _ _ h => h) (Or.inl ⟨by rfl, ?_⟩) hHeld ?_
    rotate_left
    · (intro w hSw; (try dsimp only at hSw); have A10 := hSw.A.at 10 (vtA_10 t u v1 v2 v3 v4); have B10 := hSw.B.at 10 (vtA_10 s k k1 k2 k3 k4); clear hSw; have hnc := dec_neq; have hgc := guard_dec; go_simp; try (with_reducible rfl))
    try simp only [Act.put, List.setIfInBounds_toArray, List.set_cons_zero, List.set_cons_succ]
    refine wpAnyH_done (by kernel_rfl) ?_ _
    go_wp2
    go_ret
    exact ⟨ret_bool (by simp [sameVB, sameSB, q0]), hHeld.bel⟩
  · skip
    cases q1 : samePB t.md t.st t.pv t.ns s.md s.st s.pv s.ns
    · skip
      go_enter Try.func84, Try.ntmps84
      go_wp2_with fail
      refine wp_region_held_drew (S := (fun w' => KeepV w a oa b ob t s u v1 v2 v3 v4 k k1 k2 k3 k4 w')) (by kernel_rfl) ?_ (fun hHeld => ?_)
      · (try dsimp only); exact ⟨Below.drew (Below.refl _ w), hA, hB, h.below (Below.drew (Below.refl _ _)), g.below (Below.drew (Below.refl _ _))⟩
      refine wpAnyH_take (i := 0) (oi := ⟨_, _, _, _, _, _⟩) (v := ?_) rfl (by kernel_rfl) (by kernel_rfl) (by kernel_rfl) (fun _ _ _ h => h) (Or.inl ⟨by rfl, ?_⟩) hHeld ?_
      rotate_left
      · (intro w hSw; (try dsimp only at hSw); have A10 := hSw.A.at 10 (vtA_10 t u v1 v2 v3 v4); have B10 := hSw.B.at 10 (vtA_10 s k k1 k2 k3 k4); clear hSw; have hnc := dec_neq; have hgc := guard_dec; go_simp; try (with_reducible rfl))
      try simp only [Act.put, List.setIfInBounds_toArray, List.set_cons_zero, List.set_cons_succ]
      refine wpAnyH_take (i := 1) (oi := ⟨_, _, _, _, _, _⟩) (v := ?_) rfl (by kernel_rfl) (by kernel_rfl) (by kernel_rfl) (fun _ _ _ h => h) (Or.inl ⟨by rfl, ?_⟩) hHeld ?_
      rotate_left
      · (intro w hSw; (try dsimp only at hSw); have A10 := hSw.A.at 10 (vtA_10 t u v1 v2 v3 v4); have B10 := hSw.B.at 10 (vtA_10 s k k1 k2 k3 k4); clear hSw; have hnc := dec_neq; have hgc := guard_dec; go_simp; try (with_reducible rfl))
      try simp only [Act.put, List.setIfInBounds_toArray, List.set_cons_zero, List.set_cons_succ]
      refine wpAnyH_take (i := 2) (oi := ⟨_, _, _, _, _, _⟩) (v := ?_) rfl (by kernel_rfl) (by kernel_rfl) (by kernel_rfl) (fun _ _ _ h => h) (Or.inl ⟨by rfl, ?_⟩) hHeld ?_
      rotate_left
      · (intro w hSw; (try dsimp only at hSw); have A10 := hSw.A.at 10 (vtA_10 t u v1 v2 v3 v4); have B10 := hSw.B.at 10 (vtA_10 s k k1 k2 k3 k4); clear hSw; have hnc := dec_neq; have hgc := guard_dec; go_simp; try (with_reducible rfl))
      try simp only [Act.put, List.setIfInBounds_toArray, List.set_cons_zero, List.set_cons_succ]
      refine wpAnyH_take (i := 3) (oi := ⟨_, _, _, _, _, _⟩) (v := .agg (decA t)) rfl (by kernel_rfl) (by kernel_rfl) (by kernel_rfl) (fun _ _ _ h => h) (Or.inl ⟨by rfl, ?_⟩) hHeld ?_
      · intro w hSw
        (try dsimp only at hSw)
        have hx := run_loadVar_seg (P := Try.prog) (k := 0) (ty := 58) (vs := decA t) hSw.A rfl Try.underlying58 rfl (by kernel_rfl)
        exact run_ldSeg _ _ rfl _ _ rfl _ hx
      try simp only [Act.put, List.setIfInBounds_toArray, List.set_cons_zero, List.set_cons_succ]
      refine wpAnyH_take (i := 4) (oi := ⟨_, _, _, _, _, _⟩) (v := ?_) rfl (by kernel_rfl) (by kernel_rfl) (by kernel_rfl) (fun _ _ _ h => h) (Or.inl ⟨by rfl, ?_⟩) hHeld ?_
      rotate_left
      · (intro w hSw; (try dsimp only at hSw); have A10 := hSw.A.at 10 (vtA_10 t u v1 v2 v3 v4); have B10 := hSw.B.at 10 (vtA_10 s k k1 k2 k3 k4); clear hSw; have hnc := dec_neq; have hgc := guard_dec; go_simp; try (with_reducible rfl))
      try simp only [Act.put, List.setIfInBounds_toArray, List.set_cons_zero, List.set_cons_succ]
      refine wpAnyH_take (i := 5) (oi := ⟨_, _, _, _, _, _⟩) (v := ?_) rfl (by kernel_rfl) (by kernel_rfl) (by kernel_rfl) (fun _ _ _ h => h) (Or.inl ⟨by rfl, ?_⟩) hHeld ?_
      rotate_left
      · (intro w hSw; (try dsimp only at hSw); have A10 := hSw.A.at 10 (vtA_10 t u v1 v2 v3 v4); have B10 := hSw.B.at 10 (vtA_10 s k k1 k2 k3 k4); clear hSw; have hnc := dec_neq; have hgc := guard_dec; go_simp; try (with_reducible rfl))
      try simp only [Act.put, List.setIfInBounds_toArray, List.set_cons_zero, List.set_cons_succ]
      refine wpAnyH_take (i := 6) (oi := ⟨_, _, _, _, _, _⟩) (v := ?_) rfl (by kernel_rfl) (by kernel_rfl) (by kernel_rfl) (fun _ _ _ h => h) (Or.inl ⟨by rfl, ?_⟩) hHeld ?_
      rotate_left
      · (intro w hSw; (try dsimp only at hSw); have A10 := hSw.A.at 10 (vtA_10 t u v1 v2 v3 v4); have B10 := hSw.B.at 10 (vtA_10 s k k1 k2 k3 k4); clear hSw; have hnc := dec_neq; have hgc := guard_dec; go_simp; try (with_reducible rfl))
      try simp only [Act.put, List.setIfInBounds_toArray, List.set_cons_zero, List.set_cons_succ]
      refine wpAnyH_take (i := 7) (oi := ⟨_, _, _, _, _, _⟩) (v := .agg (decA s)) rfl (by kernel_rfl) (by kernel_rfl) (by kernel_rfl) (fun _ _ _ h => h) (Or.inl ⟨by rfl, ?_⟩) hHeld ?_
      · intro w hSw
        (try dsimp only at hSw)
        have hx := run_loadVar_seg (P := Try.prog) (k := 0) (ty := 58) (vs := decA s) hSw.B rfl Try.underlying58 rfl (by kernel_rfl)
        exact run_ldSeg _ _ rfl _ _ rfl _ hx
      try simp only [Act.put, List.setIfInBounds_toArray, List.set_cons_zero, List.set_cons_succ]
      refine wpAnyH_take (i := 8) (oi := ⟨_, _, _, _, _, _⟩) (v := ?_) rfl (by kernel_rfl) (by kernel_rfl) (by kernel_rfl) (fun _ _ _ h => h) (Or.inl ⟨by rfl, ?_⟩) hHeld ?_
      rotate_left
      · (intro w hSw; (try dsimp only at hSw); have A10 := hSw.A.at 10 (vtA_10 t u v1 v2 v3 v4); have B10 := hSw.B.at 10 (vtA_10 s k k1 k2 k3 k4); clear hSw; have hnc := dec_neq; have hgc := guard_dec; go_simp; try (with_reducible rfl))
      try simp only [Act.put, List.setIfInBounds_toArray, List.set_cons_zero, List.set_cons_succ]
      refine wpAnyH_take (i := 9) (oi := ⟨_, _, _, _, _, _⟩) (v := ?_) rfl (by kernel_rfl) (by kernel_rfl) (by kernel_rfl) (fun _ _ _ h => h) (Or.inl ⟨by rfl, ?_⟩) hHeld ?_
      rotate_left
      · (intro w hSw; (try dsimp only at hSw); have A10 := hSw.A.at 10 (vtA_10 t u v1 v2 v3 v4); have B10 := hSw.B.at 10 (vtA_10 s k k1 k2 k3 k4); clear hSw; have hnc := dec_neq; have hgc := guard_dec; go_simp; try (with_reducible rfl))
      try simp only [Act.put, List.setIfInBounds_toArray, List.set_cons_zero, List.set_cons_succ]
      refine wpAnyH_take (i := 10) (oi := ⟨_, _, _, _, _, _⟩) (v := ?_) rfl (by kernel_rfl) (by kernel_rfl) (by kernel_rfl) (fun _ _ _ h => h) (Or.inl ⟨by rfl, ?_⟩) hHeld ?_
      rotate_left
      · (intro w hSw; (try dsimp only at hSw); have A10 := hSw.A.at 10 (vtA_10 t u v1 v2 v3 v4); have B10 := hSw.B.at 10 (vtA_10 s k k1 k2 k3 k4); clear hSw; have hnc := dec_neq; have hgc := guard_dec; go_simp; try (with_reducible rfl))
      try simp only [Act.put, List.setIfInBounds_toArray, List.set_cons_zero, List.set_cons_succ]
      refine wpAnyH_take (i := 11) (oi := ⟨_, _, _, _, _, _⟩) (v := ?_) rfl (by kernel_rfl) (by kernel_rfl) (by kernel_rfl) (fun _ _ _ h => h) (Or.inl ⟨by rfl, ?_⟩) hHeld ?_
      rotate_left
      · (intro w hSw; (try dsimp only at hSw); have A10 := hSw.A.at 10 (vtA_10 t u v1 v2 v3 v4); have B10 := hSw.B.at 10 (vtA_10 s k k1 k2 k3 k4); clear hSw; have hnc := dec_neq; have hgc := guard_dec; go_simp; try (with_reducible rfl))
      try simp only [Act.put, List.setIfInBounds_toArray, List.set_cons_zero, List.set_cons_succ]
      refine wpAnyH_take (i := 12) (oi := ⟨_, _, _, _, _, _⟩) (v := ?_) rfl (by kernel_rfl) (by kernel_rfl) (by kernel_rfl) (fun _ _ _ h => h) (Or.inl ⟨by rfl, ?_⟩) hHeld ?_
      rotate_left
      · (intro w hSw; (try dsimp only at hSw); have A10 := hSw.A.at 10 (vtA_10 t u v1 v2 v3 v4); have B10 := hSw.B.at 10 (vtA_10 s k k1 k2 k3 k4); clear hSw; have hnc := dec_neq; have hgc := guard_dec; go_simp; try (with_reducible rfl))
      try simp only [Act.put, List.setIfInBounds_toArray, List.set_cons_zero, List.set_cons_succ]
      refine wpAnyH_take (i := 13) (oi := ⟨_, _, _, _, _, _⟩) (v := ?_) rfl (by kernel_rfl) (by kernel_rfl) (by kernel_rfl) (fun _ _ _ h => h) (Or.inl ⟨by rfl, ?_⟩) hHeld ?_
      rotate_left
      · (intro w hSw; (try dsimp only at hSw); have A10 := hSw.A.at 10 (vtA_10 t u v1 v2 v3 v4); have B10 := hSw.B.at 10 (vtA_10 s k k1 k2 k3 k4); clear hSw; have hnc := dec_neq; have hgc := guard_dec; go_simp; try (with_reducible rfl))
      try simp only [Act.put, List.setIfInBounds_toArray, List.set_cons_zero, List.set_cons_succ]
      refine wpAnyH_take (i := 14) (oi := ⟨_, _, _, _, _, _⟩) (v := ?_) rfl (by kernel_rfl) (by kernel_rfl) (by kernel_rfl) (fun _ _ _ h => h) (Or.inl ⟨by rfl, ?_⟩) hHeld ?_
      rotate_left
      · (intro w hSw; (try dsimp only at hSw); have A10 := hSw.A.at 10 (vtA_10 t u v1 v2 v3 v4); have B10 := hSw.B.at 10 (vtA_10 s k k1 k2 k3 k4); clear hSw; have hnc := dec_neq; have hgc := guard_dec; go_simp; try (with_reducible rfl))
      try simp only [Act.put, List.setIfInBounds_toArray, List.set_cons_zero, List.set_cons_succ]
      refine wpAnyH_take (i := 15) (oi := ⟨_, _, _, _, _, _⟩) (v := ?_) rfl (by kernel_rfl) (by kernel_rfl) (by kernel_rfl) (fun _ _ _ h => h) (Or.inl ⟨by rfl, ?_⟩) hHeld ?_
      rotate_left
      · (intro w hSw; (try dsimp only at hSw); have A10 := hSw.A.at 10 (vtA_10 t u v1 v2 v3 v4); have B10 := hSw.B.at 10 (vtA_10 s k k1 k2 k3 k4); clear hSw; have hnc := dec_neq; have hgc := guard_dec; go_simp; try (with_reducible rfl))
      try simp only [Act.put, List.setIfInBounds_toArray, List.set_cons_zero, List.set_cons_succ]
      refine wpAnyH_ready (rs := [16]) (by kernel_rfl) (by simp) ?_
      refine AllReadyH.cons (o := ⟨_, _, _, _, _, _⟩) rfl (fun K hK => ?_) AllReadyH.nil
      go_simp
      go_at_call 133
      refine (l4Same_o t.md t.st t.pv t.ns s.md s.st s.pv s.ns u k a b (oa + 3) (ob + 3) _ (by omega) (by omega) hHeld.r1.p hHeld.r2.p (hHeld.A.at 3 rfl) (hHeld.A.at 4 rfl) (hHeld.A.at 5 rfl) (hHeld.A.at 6 rfl) (hHeld.B.at 3 rfl) (hHeld.B.at 4 rfl) (hHeld.B.at 5 rfl) (hHeld.B.at 6 rfl)).mono ?_
      rintro e w1 ⟨rfl, hb1⟩
      rw [q1]
      try go_wp2_with fail
      refine hK.out _ _ ?_ ?_
      · (try dsimp only); exact hHeld.next hb1
      clear hHeld hK K
      intro hHeld
      try simp only [Act.put, List.setIfInBounds_toArray, List.set_cons_zero, List.set_cons_succ]
      refine wpAnyH_take (i := 17) (oi := ⟨_, _, _, _, _, _⟩) (v := ?_) rfl (by kernel_rfl) (by kernel_rfl) (by kernel_rfl) (fun _ _ _ h => h) (Or.inl ⟨by rfl, ?_⟩) hHeld ?_
      rotate_left
      · (intro w hSw; (try dsimp only at hSw); have A10 := hSw.A.at 10 (vtA_10 t u v1 v2 v3 v4); have B10 := hSw.B.at 10 (vtA_10 s k k1 k2 k3 k4); clear hSw; have hnc := dec_neq; have hgc := guard_dec; go_simp; try (with_reducible rfl))
      try simp only [Act.put, List.setIfInBounds_toArray, List.set_cons_zero, List.set_cons_succ]
      refine wpAnyH_take (i := 18) (oi := ⟨_, _, _, _, _, _⟩) (v := ?_) rfl (by kernel_rfl) (by kernel_rfl) (by kernel_rfl) (fun _ _ _ h => h) (Or.inl ⟨by rfl, ?_⟩) hHeld ?_
      rotate_left
      · (intro w hSw; (try dsimp only at hSw); have A10 := hSw.A.at 10 (vtA_10 t u v1 v2 v3 v4); have B10 := hSw.B.at 10 (vtA_10 s k k1 k2 k3 k4); clear hSw; have hnc := dec_neq; have hgc := guard_dec; go_simp; try (with_reducible rfl))
      try simp only [Act.put, List.setIfInBounds_toArray, List.set_cons_zero, List.set_cons_succ]
      refine wpAnyH_take (i := 19) (oi := ⟨_, _, _, _, _, _⟩) (v := ?_) rfl (by kernel_rfl) (by kernel_rfl) (by kernel_rfl) (fun _ _ _ h => h) (Or.inl ⟨by rfl, ?_⟩) hHeld ?_
      rotate_left
      · (intro w hSw; (try dsimp only at hSw); have A10 := hSw.A.at 10 (vtA_10 t u v1 v2 v3 v4); have B10 := hSw.B.at 10 (vtA_10 s k k1 k2 k3 k4); clear hSw; have hnc := dec_neq; have hgc := guard_dec; go_simp; try (with_reducible rfl))
      try simp only [Act.put, List.setIfInBounds_toArray, List.set_cons_zero, List.set_cons_succ]
      refine wpAnyH_take (i := 20) (oi := ⟨_, _, _, _, _, _⟩) (v := undef) rfl (by kernel_rfl) (by kernel_rfl) (by kernel_rfl) (fun _ _ _ h => h) (Or.inr ⟨by rfl, rfl⟩) hHeld ?_
      try simp only [Act.put, List.setIfInBounds_toArray, List.set_cons_zero, List.set_cons_succ]
      refine wpAnyH_take (i := 21) (oi := ⟨_, _, _, _, _, _⟩) (v := undef) rfl (by kernel_rfl) (by kernel_rfl) (by kernel_rfl) (fun _ _ _ h => h) (Or.inr ⟨by rfl, rfl⟩) hHeld ?_
      try simp only [Act.put, List.setIfInBounds_toArray, List.set_cons_zero, List.set_cons_succ]
      refine wpAnyH_take (i := 22) (oi := ⟨_, _, _, _, _, _⟩) (v := undef) rfl (by kernel_rfl) (by kernel_rfl) (by kernel_rfl) (fun _ _ _ h => h) (Or.inr ⟨by rfl, rfl⟩) hHeld ?_
      try simp only [Act.put, List.setIfInBounds_toArray, List.set_cons_zero, List.set_cons_succ]
      refine wpAnyH_take (i := 23) (oi := ⟨_, _, _, _, _, _⟩) (v := undef) rfl (by kernel_rfl) (by kernel_rfl) (by kernel_rfl) (fun _ _ _ h => h) (Or.inr ⟨by rfl, rfl⟩) hHeld ?_
      try simp only [Act.put, List.setIfInBounds_toArray, List.set_cons_zero, List.set_cons_succ]
      refine wpAnyH_take (i := 24) (oi := ⟨_, _, _, _, _, _⟩) (v := ?_) rfl (by kernel_rfl) (by kernel_rfl) (by kernel_rfl) (fun _ _ _ h => h) (Or.inl ⟨by rfl, ?_⟩) hHeld ?_
      rotate_left
      · (intro w hSw; (try dsimp only at hSw); have A10 := hSw.A.at 10 (vtA_10 t u v1 v2 v3 v4); have B10 := hSw.B.at 10 (vtA_10 s k k1 k2 k3 k4); clear hSw; have hnc := dec_neq; have hgc := guard_dec; go_simp; try (with_reducible rfl))
      try simp only [Act.put, List.setIfInBounds_toArray, List.set_cons_zero, List.set_cons_succ]
      refine wpAnyH_take (i := 25) (oi := ⟨_, _, _, _, _, _⟩) (v := ?_) rfl (by kernel_rfl) (by kernel_rfl) (by kernel_rfl) (fun _ _ _ h => h) (Or.inl ⟨by rfl, ?_⟩) hHeld ?_
      rotate_left
      · (intro w hSw; (try dsimp only at hSw); have A10 := hSw.A.at 10 (vtA_10 t u v1 v2 v3 v4); have B10 := hSw.B.at 10 (vtA_10 s k k1 k2 k3 k4); clear hSw; have hnc := dec_neq; have hgc := guard_dec; go_simp; try (with_reducible rfl))
      try simp only [Act.put, List.setIfInBounds_toArray, List.set_cons_zero, List.set_cons_succ]
      refine wpAnyH_take (i := 26) (oi := ⟨_, _, _, _, _, _⟩) (v := undef) rfl (by kernel_rfl) (by kernel_rfl) (by kernel_rfl) (fun _ _ _ h => h) (Or.inr ⟨by rfl, rfl⟩) hHeld ?_
      try simp only [Act.put, List.setIfInBounds_toArray, List.set_cons_zero, List.set_cons_succ]
      refine wpAnyH_take (i := 27) (oi := ⟨_, _, _, _, _, _⟩) (v := undef) rfl (by kernel_rfl) (by kernel_rfl) (by kernel_rfl) (fun _ _ _ h => h) (Or.inr ⟨by rfl, rfl⟩) hHeld ?_
      try simp only [Act.put, List.setIfInBounds_toArray, List.set_cons_zero, List.set_cons_succ]
      refine wpAnyH_take (i := 28) (oi := ⟨_, _, _, _, _, _⟩) (v := undef) rfl (by kernel_rfl) (by kernel_rfl) (by kernel_rfl) (fun _ _ _ h => h) (Or.inr ⟨by rfl, rfl⟩) hHeld ?_
      try simp only [Act.put, List.setIfInBounds_toArray, List.set_cons_zero, List.set_cons_succ]
      refine wpAnyH_take (i := 29) (oi := ⟨_, _, _, _, _, _⟩) (v := undef) rfl (by kernel_rfl) (by kernel_rfl) (by kernel_rfl) (fun _ _ _ h => h) (Or.inr ⟨by rfl, rfl⟩) hHeld ?_
      try simp only [Act.put, List.setIfInBounds_toArray, List.set_cons_zero, List.set_cons_succ]
      refine wpAnyH_take (i := 30) (oi := ⟨_, _, _, _, _, _⟩) (v := undef) rfl (by kernel_rfl) (by kernel_rfl) (by kernel_rfl) (fun _ _ _ h => h) (Or.inr ⟨by rfl, rfl⟩) hHeld ?_
      try simp only [Act.put, List.setIfInBounds_toArray, List.set_cons_zero, List.set_cons_succ]
      refine wpAnyH_take (i := 31) (oi := ⟨_, _, _, _, _, _⟩) (v := undef) rfl (by kernel_rfl) (by kernel_rfl) (by kernel_rfl) (fun _ _ _ h => h) (Or.inr ⟨by rfl, rfl⟩) hHeld ?_
      try simp only [Act.put, List.setIfInBounds_toArray, List.set_cons_zero, List.set_cons_succ]
      refine wpAnyH_take (i := 32) (oi := ⟨_, _, _, _, _, _⟩) (v := undef) rfl (by kernel_rfl) (by kernel_rfl) (by kernel_rfl) (fun _ _ _ h => h) (Or.inr ⟨by rfl, rfl⟩) hHeld ?_
      try simp only [Act.put, List.setIfInBounds_toArray, List.set_cons_zero, List.set_cons_succ]
      refine wpAnyH_take (i := 33) (oi := ⟨_, _, _, _, _, _⟩) (v := undef) rfl (by kernel_rfl) (by kernel_rfl) (by kernel_rfl) (fun _ _ _ h => h) (Or.inr ⟨by rfl, rfl⟩) hHeld ?_
      try simp only [Act.put, List.setIfInBounds_toArray, List.set_cons_zero, List.set_cons_succ]
      refine wpAnyH_take (i := 34) (oi := ⟨_, _, _, _, _, _⟩) (v := undef) rfl (by kernel_rfl) (by kernel_rfl) (by kernel_rfl) (fun _ _ _ h => h) (Or.inr ⟨by rfl, rfl⟩) hHeld ?_
      try simp only [Act.put, List.setIfInBounds_toArray, List.set_cons_zero, List.set_cons_succ]
      refine wpAnyH_take (i := 35) (oi := ⟨_, _, _, _, _, _⟩) (v := undef) rfl (by kernel_rfl) (by kernel_rfl) (by kernel_rfl) (fun _ _ _ h => h) (Or.inr ⟨by rfl, rfl⟩) hHeld ?_
      try simp only [Act.put, List.setIfInBounds_toArray, List.set_cons_zero, List.set_cons_succ]
      refine wpAnyH_take (i := 36) (oi := ⟨_, _, _, _, _, _⟩) (v := undef) rfl (by kernel_rfl) (by kernel_rfl) (by kernel_rfl) (fun _ _ _ h => h) (Or.inr ⟨by rfl, rfl⟩) hHeld ?_
      try simp only [Act.put, List.setIfInBounds_toArray, List.set_cons_zero, List.set_cons_succ]
      refine wpAnyH_take (i := 37) (oi := ⟨_, _, _, _, _, _⟩) (v := undef) rfl (by kernel_rfl) (by kernel_rfl) (by kernel_rfl) (fun _ _ _ h => h) (Or.inr ⟨by rfl, rfl⟩) hHeld ?_
      try simp only [Act.put, List.setIfInBounds_toArray, List.set_cons_zero, List.set_cons_succ]
      refine wpAnyH_take (i := 38) (oi := ⟨_, _, _, _, _, _⟩) (v := ?_) rfl (by kernel_rfl) (by kernel_rfl) (by kernel_rfl) (fun _ _ _ h => h) (Or.inl ⟨by rfl, ?_⟩) hHeld ?_
      rotate_left
      · (intro w hSw; (try dsimp only at hSw); have A10 := hSw.A.at 10 (vtA_10 t u v1 v2 v3 v4); have B10 := hSw.B.at 10 (vtA_10 s k k1 k2 k3 k4); clear hSw; have hnc := dec_neq; have hgc := guard_dec; go_simp; try (with_reducible rfl))
      try simp only [Act.put, List.setIfInBounds_toArray, List.set_cons_zero, List.set_cons_succ]
      refine wpAnyH_done (by kernel_rfl) ?_ _
      go_wp2
      go_ret
      exact ⟨ret_bool (by simp [sameVB, sameSB, q0, q1]), hHeld.bel⟩
    · skip
      cases q2 : shownB t.s s.s
      · skip
        go_enter Try.func84, Try.ntmps84
        go_wp2_with fail
        refine wp_region_held_drew (S := (fun w' => KeepV w a oa b ob t s u v1 v2 v3 v4 k k1 k2 k3 k4 w')) (by kernel_rfl) ?_ (fun hHeld => ?_)
        · (try dsimp only); exact ⟨Below.drew (Below.refl _ w), hA, hB, h.below (Below.drew (Below.refl _ _)), g.below (Below.drew (Below.refl _ _))⟩
        refine wpAnyH_take (i := 0) (oi := ⟨_, _, _, _, _, _⟩) (v := ?_) rfl (by kernel_rfl) (by kernel_rfl) (by kernel_rfl) (fun _ _ _ h => h) (Or.inl ⟨by rfl, ?_⟩) hHeld ?_
        rotate_left
        · (intro w hSw; (try dsimp only at hSw); have A10 := hSw.A.at 10 (vtA_10 t u v1 v2 v3 v4); have B10 := hSw.B.at 10 (vtA_10 s k k1 k2 k3 k4); clear hSw; have hnc := dec_neq; have hgc := guard_dec; go_simp; try (with_reducible rfl))
        try simp only [Act.put, List.setIfInBounds_toArray, List.set_cons_zero, List.set_cons_succ]
        refine wpAnyH_take (i := 1) (oi := ⟨_, _, _, _, _, _⟩) (v := ?_) rfl (by kernel_rfl) (by kernel_rfl) (by kernel_rfl) (fun _ _ _ h => h) (Or.inl ⟨by rfl, ?_⟩) hHeld ?_
        rotate_left
        · (intro w hSw; (try dsimp only at hSw); have A10 := hSw.A.at 10 (vtA_10 t u v1 v2 v3 v4); have B10 := hSw.B.at 10 (vtA_10 s k k1 k2 k3 k4); clear hSw; have hnc := dec_neq; have hgc := guard_dec; go_simp; try (with_reducible rfl))
        try simp only [Act.put, List.setIfInBounds_toArray, List.set_cons_zero, List.set_cons_succ]
        refine wpAnyH_take (i := 2) (oi := ⟨_, _, _, _, _, _⟩) (v := ?_) rfl (by kernel_rfl) (by kernel_rfl) (by kernel_rfl) (fun _ _ _ h => h) (Or.inl ⟨by rfl, ?_⟩) hHeld ?_
        rotate_left
        · (intro w hSw; (try dsimp only at hSw); have A10 := hSw.A.at 10 (vtA_10 t u v1 v2 v3 v4); have B10 := hSw.B.at 10 (vtA_10 s k k1 k2 k3 k4); clear hSw; have hnc := dec_neq; have hgc := guard_dec; go_simp; try (with_reducible rfl))
        try simp only [Act.put, List.setIfInBounds_toArray, List.set_cons_zero, List.set_cons_succ]
        refine wpAnyH_take (i := 3) (oi := ⟨_, _, _, _, _, _⟩) (v := .agg (decA t)) rfl (by kernel_rfl) (by kernel_rfl) (by kernel_rfl) (fun _ _ _ h => h) (Or.inl ⟨by rfl, ?_⟩) hHeld ?_
        · intro w hSw
          (try dsimp only at hSw)
          have hx := run_loadVar_seg (P := Try.prog) (k := 0) (ty := 58) (vs := decA t) hSw.A rfl Try.underlying58 rfl (by kernel_rfl)
          exact run_ldSeg _ _ rfl _ _ rfl _ hx
        try simp only [Act.put, List.setIfInBounds_toArray, List.set_cons_zero, List.set_cons_succ]
        refine wpAnyH_take (i := 4) (oi := ⟨_, _, _, _, _, _⟩) (v := ?_) rfl (by kernel_rfl) (by kernel_rfl) (by kernel_rfl) (fun _ _ _ h => h) (Or.inl ⟨by rfl, ?_⟩) hHeld ?_
        rotate_left
        · (intro w hSw; (try dsimp only at hSw); have A10 := hSw.A.at 10 (vtA_10 t u v1 v2 v3 v4); have B10 := hSw.B.at 10 (vtA_10 s k k1 k2 k3 k4); clear hSw; have hnc := dec_neq; have hgc := guard_dec; go_simp; try (with_reducible rfl))
        try simp only [Act.put, List.setIfInBounds_toArray, List.set_cons_zero, List.set_cons_succ]
        refine wpAnyH_take (i := 5) (oi := ⟨_, _, _, _, _, _⟩) (v := ?_) rfl (by kernel_rfl) (by kernel_rfl) (by kernel_rfl) (fun _ _ _ h => h) (Or.inl ⟨by rfl, ?_⟩) hHeld ?_
        rotate_left
        · (intro w hSw; (try dsimp only at hSw); have A10 := hSw.A.at 10 (vtA_10 t u v1 v2 v3 v4); have B10 := hSw.B.at 10 (vtA_10 s k k1 k2 k3 k4); clear hSw; have hnc := dec_neq; have hgc := guard_dec; go_simp; try (with_reducible rfl))
        try simp only [Act.put, List.setIfInBounds_toArray, List.set_cons_zero, List.set_cons_succ]
        refine wpAnyH_take (i := 6) (oi := ⟨_, _, _, _, _, _⟩) (v := ?_) rfl (by kernel_rfl) (by kernel_rfl) (by kernel_rfl) (fun _ _ _ h => h) (Or.inl ⟨by rfl, ?_⟩) hHeld ?_
        rotate_left
        · (intro w hSw; (try dsimp only at hSw); have A10 := hSw.A.at 10 (vtA_10 t u v1 v2 v3 v4); have B10 := hSw.B.at 10 (vtA_10 s k k1 k2 k3 k4); clear hSw; have hnc := dec_neq; have hgc := guard_dec; go_simp; try (with_reducible rfl))
        try simp only [Act.put, List.setIfInBounds_toArray, List.set_cons_zero, List.set_cons_succ]
        refine wpAnyH_take (i := 7) (oi := ⟨_, _, _, _, _, _⟩) (v := .agg (decA s)) rfl (by kernel_rfl) (by kernel_rfl) (by kernel_rfl) (fun _ _ _ h => h) (Or.inl ⟨by rfl, ?_⟩) hHeld ?_
        · intro w hSw
          (try dsimp only at hSw)
          have hx := run_loadVar_seg (P := Try.prog) (k := 0) (ty := 58) (vs := decA s) hSw.B rfl Try.underlying58 rfl (by kernel_rfl)
          exact run_ldSeg _ _ rfl _ _ rfl _ hx
        try simp only [Act.put, List.setIfInBounds_toArray, List.set_cons_zero, List.set_cons_succ]
        refine wpAnyH_take (i := 8) (oi := ⟨_, _, _, _, _, _⟩) (v := ?_) rfl (by kernel_rfl) (by kernel_rfl) (by kernel_rfl) (fun _ _ _ h => h) (Or.inl ⟨by rfl, ?_⟩) hHeld ?_
        rotate_left
        · (intro w hSw; (try dsimp only at hSw); have A10 := hSw.A.at 10 (vtA_10 t u v1 v2 v3 v4); have B10 := hSw.B.at 10 (vtA_10 s k k1 k2 k3 k4); clear hSw; have hnc := dec_neq; have hgc := guard_dec; go_simp; try (with_reducible rfl))
        try simp only [Act.put, List.setIfInBounds_toArray, List.set_cons_zero, List.set_cons_succ]
        refine wpAnyH_take (i := 9) (oi := ⟨_, _, _, _, _, _⟩) (v := ?_) rfl (by kernel_rfl) (by kernel_rfl) (by kernel_rfl) (fun _ _ _ h => h) (Or.inl ⟨by rfl, ?_⟩) hHeld ?_
        rotate_left
        · (intro w hSw; (try dsimp only at hSw); have A10 := hSw.A.at 10 (vtA_10 t u v1 v2 v3 v4); have B10 := hSw.B.at 10 (vtA_10 s k k1 k2 k3 k4); clear hSw; have hnc := dec_neq; have hgc := guard_dec; go_simp; try (with_reducible rfl))
        try simp only [Act.put, List.setIfInBounds_toArray, List.set_cons_zero, List.set_cons_succ]
        refine wpAnyH_take (i := 10) (oi := ⟨_, _, _, _, _, _⟩) (v := ?_) rfl (by kernel_rfl) (by kernel_rfl) (by kernel_rfl) (fun _ _ _ h => h) (Or.inl ⟨by rfl, ?_⟩) hHeld ?_
        rotate_left
        · (intro w hSw; (try dsimp only at hSw); have A10 := hSw.A.at 10 (vtA_10 t u v1 v2 v3 v4); have B10 := hSw.B.at 10 (vtA_10 s k k1 k2 k3 k4); clear hSw; have hnc := dec_neq; have hgc := guard_dec; go_simp; try (with_reducible rfl))
        try simp only [Act.put, List.setIfInBounds_toArray, List.set_cons_zero, List.set_cons_succ]
        refine wpAnyH_take (i := 11) (oi := ⟨_, _, _, _, _, _⟩) (v := ?_) rfl (by kernel_rfl) (by kernel_rfl) (by kernel_rfl) (fun _ _ _ h => h) (Or.inl ⟨by rfl, ?_⟩) hHeld ?_
        rotate_left
        · (intro w hSw; (try dsimp only at hSw); have A10 := hSw.A.at 10 (vtA_10 t u v1 v2 v3 v4); have B10 := hSw.B.at 10 (vtA_10 s k k1 k2 k3 k4); clear hSw; have hnc := dec_neq; have hgc := guard_dec; go_simp; try (with_reducible rfl))
        try simp only [Act.put, List.setIfInBounds_toArray, List.set_cons_zero, List.set_cons_succ]
        refine wpAnyH_take (i := 12) (oi := ⟨_, _, _, _, _, _⟩) (v := ?_) rfl (by kernel_rfl) (by kernel_rfl) (by kernel_rfl) (fun _ _ _ h => h) (Or.inl ⟨by rfl, ?_⟩) hHeld ?_
        rotate_left
        · (intro w hSw; (try dsimp only at hSw); have A10 := hSw.A.at 10 (vtA_10 t u v1 v2 v3 v4); have B10 := hSw.B.at 10 (vtA_10 s k k1 k2 k3 k4); clear hSw; have hnc := dec_neq; have hgc := guard_dec; go_simp; try (with_reducible rfl))
        try simp only [Act.put, List.setIfInBounds_toArray, List.set_cons_zero, List.set_cons_succ]
        refine wpAnyH_take (i := 13) (oi := ⟨_, _, _, _, _, _⟩) (v := ?_) rfl (by kernel_rfl) (by kernel_rfl) (by kernel_rfl) (fun _ _ _ h => h) (Or.inl ⟨by rfl, ?_⟩) hHeld ?_
        rotate_left
        · (intro w hSw; (try dsimp only at hSw); have A10 := hSw.A.at 10 (vtA_10 t u v1 v2 v3 v4); have B10 := hSw.B.at 10 (vtA_10 s k k1 k2 k3 k4); clear hSw; have hnc := dec_neq; have hgc := guard_dec; go_simp; try (with_reducible rfl))
        try simp only [Act.put, List.setIfInBounds_toArray, List.set_cons_zero, List.set_cons_succ]
        refine wpAnyH_take (i := 14) (oi := ⟨_, _, _, _, _, _⟩) (v := ?_) rfl (by kernel_rfl) (by kernel_rfl) (by kernel_rfl) (fun _ _ _ h => h) (Or.inl ⟨by rfl, ?_⟩) hHeld ?_
        rotate_left
        · (intro w hSw; (try dsimp only at hSw); have A10 := hSw.A.at 10 (vtA_10 t u v1 v2 v3 v4); have B10 := hSw.B.at 10 (vtA_10 s k k1 k2 k3 k4); clear hSw; have hnc := dec_neq; have hgc := guard_dec; go_simp; try (with_reducible rfl))
        try simp only [Act.put, List.setIfInBounds_toArray, List.set_cons_zero, List.set_cons_succ]
        refine wpAnyH_take (i := 15) (oi := ⟨_, _, _, _, _, _⟩) (v := ?_) rfl (by kernel_rfl) (by kernel_rfl) (by kernel_rfl) (fun _ _ _ h => h) (Or.inl ⟨by rfl, ?_⟩) hHeld ?_
        rotate_left
        · (intro w hSw; (try dsimp only at hSw); have A10 := hSw.A.at 10 (vtA_10 t u v1 v2 v3 v4); have B10 := hSw.B.at 10 (vtA_10 s k k1 k2 k3 k4); clear hSw; have hnc := dec_neq; have hgc := guard_dec; go_simp; try (with_reducible rfl))
        try simp only [Act.put, List.setIfInBounds_toArray, List.set_cons_zero, List.set_cons_succ]
        refine wpAnyH_ready (rs := [16]) (by kernel_rfl) (by simp) ?_
        refine AllReadyH.cons (o := ⟨_, _, _, _, _, _⟩) rfl (fun K hK => ?_) AllReadyH.nil
        go_simp
        go_at_call 133
        refine (l4Same_o t.md t.st t.pv t.ns s.md s.st s.pv s.ns u k a b (oa + 3) (ob + 3) _ (by omega) (by omega) hHeld.r1.p hHeld.r2.p (hHeld.A.at 3 rfl) (hHeld.A.at 4 rfl) (hHeld.A.at 5 rfl) (hHeld.A.at 6 rfl) (hHeld.B.at 3 rfl) (hHeld.B.at 4 rfl) (hHeld.B.at 5 rfl) (hHeld.B.at 6 rfl)).mono ?_
        rintro e w1 ⟨rfl, hb1⟩
        rw [q1]
        try go_wp2_with fail
        refine hK.out _ _ ?_ ?_
        · (try dsimp only); exact hHeld.next hb1
        clear hHeld hK K
        intro hHeld
        try simp only [Act.put, List.setIfInBounds_toArray, List.set_cons_zero, List.set_cons_succ]
        refine wpAnyH_take (i := 17) (oi := ⟨_, _, _, _, _, _⟩) (v := ?_) rfl (by kernel_rfl) (by kernel_rfl) (by kernel_rfl) (fun _ _ _ h => h) (Or.inl ⟨by rfl, ?_⟩) hHeld ?_
        rotate_left
        · (intro w hSw; (try dsimp only at hSw); have A10 := hSw.A.at 10 (vtA_10 t u v1 v2 v3 v4); have B10 := hSw.B.at 10 (vtA_10 s k k1 k2 k3 k4); clear hSw; have hnc := dec_neq; have hgc := guard_dec; go_simp; try (with_reducible rfl))
        try simp only [Act.put, List.setIfInBounds_toArray, List.set_cons_zero, List.set_cons_succ]
        refine wpAnyH_take (i := 18) (oi := ⟨_, _, _, _, _, _⟩) (v := ?_) rfl (by kernel_rfl) (by kernel_rfl) (by kernel_rfl) (fun _ _ _ h => h) (Or.inl ⟨by rfl, ?_⟩) hHeld ?_
        rotate_left
        · (intro w hSw; (try dsimp only at hSw); have A10 := hSw.A.at 10 (vtA_10 t u v1 v2 v3 v4); have B10 := hSw.B.at 10 (vtA_10 s k k1 k2 k3 k4); clear hSw; have hnc := dec_neq; have hgc := guard_dec; go_simp; try (with_reducible rfl))
        try simp only [Act.put, List.setIfInBounds_toArray, List.set_cons_zero, List.set_cons_succ]
        refine wpAnyH_take (i := 19) (oi := ⟨_, _, _, _, _, _⟩) (v := ?_) rfl (by kernel_rfl) (by kernel_rfl) (by kernel_rfl) (fun _ _ _ h => h) (Or.inl ⟨by rfl, ?_⟩) hHeld ?_
        rotate_left
        · (intro w hSw; (try dsimp only at hSw); have A10 := hSw.A.at 10 (vtA_10 t u v1 v2 v3 v4); have B10 := hSw.B.at 10 (vtA_10 s k k1 k2 k3 k4); clear hSw; have hnc := dec_neq; have hgc := guard_dec; go_simp; try (with_reducible rfl))
        try simp only [Act.put, List.setIfInBounds_toArray, List.set_cons_zero, List.set_cons_succ]
        refine wpAnyH_take (i := 20) (oi := ⟨_, _, _, _, _, _⟩) (v := ?_) rfl (by kernel_rfl) (by kernel_rfl) (by kernel_rfl) (fun _ _ _ h => h) (Or.inl ⟨by rfl, ?_⟩) hHeld ?_
        rotate_left
        · (intro w hSw; (try dsimp only at hSw); have A10 := hSw.A.at 10 (vtA_10 t u v1 v2 v3 v4); have B10 := hSw.B.at 10 (vtA_10 s k k1 k2 k3 k4); clear hSw; have hnc := dec_neq; have hgc := guard_dec; go_simp; try (with_reducible rfl))
        try simp only [Act.put, List.setIfInBounds_toArray, List.set_cons_zero, List.set_cons_succ]
        refine wpAnyH_take (i := 21) (oi := ⟨_, _, _, _, _, _⟩) (v := ?_) rfl (by kernel_rfl) (by kernel_rfl) (by kernel_rfl) (fun _ _ _ h => h) (Or.inl ⟨by rfl, ?_⟩) hHeld ?_
        rotate_left
        · (intro w hSw; (try dsimp only at hSw); have A10 := hSw.A.at 10 (vtA_10 t u v1 v2 v3 v4); have B10 := hSw.B.at 10 (vtA_10 s k k1 k2 k3 k4); clear hSw; have hnc := dec_neq; have hgc := guard_dec; go_simp; try (with_reducible rfl))
        try simp only [Act.put, List.setIfInBounds_toArray, List.set_cons_zero, List.set_cons_succ]
        refine wpAnyH_ready (rs := [22]) (by kernel_rfl) (by simp) ?_
        refine AllReadyH.cons (o := ⟨_, _, _, _, _, _⟩) rfl (fun K hK => ?_) AllReadyH.nil
        go_simp
        go_at_call 38
        refine (l5Shown_o t.s s.s v1 v2 v3 v4 k1 k2 k3 k4 a (oa + 7) b (ob + 7) _ n1 n3 n4 m1 m3 m4 (hHeld.A.part 7 rfl rfl) (hHeld.B.part 7 rfl rfl) hHeld.r1.s hHeld.r2.s).mono ?_
        rintro e w2 ⟨rfl, hb2⟩
        rw [q2]
        try go_wp2_with fail
        refine hK.out _ _ ?_ ?_
        · (try dsimp only); exact hHeld.next hb2
        clear hHeld hK K
        intro hHeld
        try simp only [Act.put, List.setIfInBounds_toArray, List.set_cons_zero, List.set_cons_succ]
        refine wpAnyH_take (i := 23) (oi := ⟨_, _, _, _, _, _⟩) (v := ?_) rfl (by kernel_rfl) (by kernel_rfl) (by kernel_rfl) (fun _ _ _ h => h) (Or.inl ⟨by rfl, ?_⟩) hHeld ?_
        rotate_left
        · (intro w hSw; (try dsimp only at hSw); have A10 := hSw.A.at 10 (vtA_10 t u v1 v2 v3 v4); have B10 := hSw.B.at 10 (vtA_10 s k k1 k2 k3 k4); clear hSw; have hnc := dec_neq; have hgc := guard_dec; go_simp; try (with_reducible rfl))
        try simp only [Act.put, List.setIfInBounds_toArray, List.set_cons_zero, List.set_cons_succ]
        refine wpAnyH_take (i := 24) (oi := ⟨_, _, _, _, _, _⟩) (v := ?_) rfl (by kernel_rfl) (by kernel_rfl) (by kernel_rfl) (fun _ _ _ h => h) (Or.inl ⟨by rfl, ?_⟩) hHeld ?_
        rotate_left
        · (intro w hSw; (try dsimp only at hSw); have A10 := hSw.A.at 10 (vtA_10 t u v1 v2 v3 v4); have B10 := hSw.B.at 10 (vtA_10 s k k1 k2 k3 k4); clear hSw; have hnc := dec_neq; have hgc := guard_dec; go_simp; try (with_reducible rfl))
        try simp only [Act.put, List.setIfInBounds_toArray, List.set_cons_zero, List.set_cons_succ]
        refine wpAnyH_take (i := 25) (oi := ⟨_, _, _, _, _, _⟩) (v := ?_) rfl (by kernel_rfl) (by kernel_rfl) (by kernel_rfl) (fun _ _ _ h => h) (Or.inl ⟨by rfl, ?_⟩) hHeld ?_
        rotate_left
        · (intro w hSw; (try dsimp only at hSw); have A10 := hSw.A.at 10 (vtA_10 t u v1 v2 v3 v4); have B10 := hSw.B.at 10 (vtA_10 s k k1 k2 k3 k4); clear hSw; have hnc := dec_neq; have hgc := guard_dec; go_simp; try (with_reducible rfl))
        try simp only [Act.put, List.setIfInBounds_toArray, List.set_cons_zero, List.set_cons_succ]
        refine wpAnyH_take (i := 26) (oi := ⟨_, _, _, _, _, _⟩) (v := undef) rfl (by kernel_rfl) (by kernel_rfl) (by kernel_rfl) (fun _ _ _ h => h) (Or.inr ⟨by rfl, rfl⟩) hHeld ?_
        try simp only [Act.put, List.setIfInBounds_toArray, List.set_cons_zero, List.set_cons_succ]
        refine wpAnyH_take (i := 27) (oi := ⟨_, _, _, _, _, _⟩) (v := undef) rfl (by kernel_rfl) (by kernel_rfl) (by kernel_rfl) (fun _ _ _ h => h) (Or.inr ⟨by rfl, rfl⟩) hHeld ?_
        try simp only [Act.put, List.setIfInBounds_toArray, List.set_cons_zero, List.set_cons_succ]
        refine wpAnyH_take (i := 28) (oi := ⟨_, _, _, _, _, _⟩) (v := undef) rfl (by kernel_rfl) (by kernel_rfl) (by kernel_rfl) (fun _ _ _ h => h) (Or.inr ⟨by rfl, rfl⟩) hHeld ?_
        try simp only [Act.put, List.setIfInBounds_toArray, List.set_cons_zero, List.set_cons_succ]
        refine wpAnyH_take (i := 29) (oi := ⟨_, _, _, _, _, _⟩) (v := undef) rfl (by kernel_rfl) (by kernel_rfl) (by kernel_rfl) (fun _ _ _ h => h) (Or.inr ⟨by rfl, rfl⟩) hHeld ?_
        try simp only [Act.put, List.setIfInBounds_toArray, List.set_cons_zero, List.set_cons_succ]
        refine wpAnyH_take (i := 30) (oi := ⟨_, _, _, _, _, _⟩) (v := undef) rfl (by kernel_rfl) (by kernel_rfl) (by kernel_rfl) (fun _ _ _ h => h) (Or.inr ⟨by rfl, rfl⟩) hHeld ?_
        try simp only [Act.put, List.setIfInBounds_toArray, List.set_cons_zero, List.set_cons_succ]
        refine wpAnyH_take (i := 31) (oi := ⟨_, _, _, _, _, _⟩) (v := undef) rfl (by kernel_rfl) (by kernel_rfl) (by kernel_rfl) (fun _ _ _ h => h) (Or.inr ⟨by rfl, rfl⟩) hHeld ?_
        try simp only [Act.put, List.setIfInBounds_toArray, List.set_cons_zero, List.set_cons_succ]
        refine wpAnyH_take (i := 32) (oi := ⟨_, _, _, _, _, _⟩) (v := undef) rfl (by kernel_rfl) (by kernel_rfl) (by kernel_rfl) (fun _ _ _ h => h) (Or.inr ⟨by rfl, rfl⟩) hHeld ?_
        try simp only [Act.put, List.setIfInBounds_toArray, List.set_cons_zero, List.set_cons_succ]
        refine wpAnyH_take (i := 33) (oi := ⟨_, _, _, _, _, _⟩) (v := undef) rfl (by kernel_rfl) (by kernel_rfl) (by kernel_rfl) (fun _ _ _ h => h) (Or.inr ⟨by rfl, rfl⟩) hHeld ?_
        try simp only [Act.put, List.setIfInBounds_toArray, List.set_cons_zero, List.set_cons_succ]
        refine wpAnyH_take (i := 34) (oi := ⟨_, _, _, _, _, _⟩) (v := undef) rfl (by kernel_rfl) (by kernel_rfl) (by kernel_rfl) (fun _ _ _ h => h) (Or.inr ⟨by rfl, rfl⟩) hHeld ?_
        try simp only [Act.put, List.setIfInBounds_toArray, List.set_cons_zero, List.set_cons_succ]
        refine wpAnyH_take (i := 35) (oi := ⟨_, _, _, _, _, _⟩) (v := undef) rfl (by kernel_rfl) (by kernel_rfl) (by kernel_rfl) (fun _ _ _ h => h) (Or.inr ⟨by rfl, rfl⟩) hHeld ?_
        try simp only [Act.put, List.setIfInBounds_toArray, List.set_cons_zero, List.set_cons_succ]
        refine wpAnyH_take (i := 36) (oi := ⟨_, _, _, _, _, _⟩) (v := undef) rfl (by kernel_rfl) (by kernel_rfl) (by kernel_rfl) (fun _ _ _ h => h) (Or.inr ⟨by rfl, rfl⟩) hHeld ?_
        try simp only [Act.put, List.setIfInBounds_toArray, List.set_cons_zero, List.set_cons_succ]
        refine wpAnyH_take (i := 37) (oi := ⟨_, _, _, _, _, _⟩) (v := undef) rfl (by kernel_rfl) (by kernel_rfl) (by kernel_rfl) (fun _ _ _ h => h) (Or.inr ⟨by rfl, rfl⟩) hHeld ?_
        try simp only [Act.put, List.setIfInBounds_toArray, List.set_cons_zero, List.set_cons_succ]
        refine wpAnyH_take (i := 38) (oi := ⟨_, _, _, _, _, _⟩) (v := ?_) rfl (by kernel_rfl) (by kernel_rfl) (by kernel_rfl) (fun _ _ _ h => h) (Or.inl ⟨by rfl, ?_⟩) hHeld ?_
        rotate_left
        · (intro w hSw; (try dsimp only at hSw); have A10 := hSw.A.at 10 (vtA_10 t u v1 v2 v3 v4); have B10 := hSw.B.at 10 (vtA_10 s k k1 k2 k3 k4); clear hSw; have hnc := dec_neq; have hgc := guard_dec; go_simp; try (with_reducible rfl))
        try simp only [Act.put, List.setIfInBounds_toArray, List.set_cons_zero, List.set_cons_succ]
        refine wpAnyH_done (by kernel_rfl) ?_ _
        go_wp2
        go_ret
        exact ⟨ret_bool (by simp [sameVB, sameSB, q0, q1, q2]), hHeld.bel⟩
      · skip
        cases q3 : sameL t.s.bs s.s.bs 0
        · skip
          go_enter Try.func84, Try.ntmps84
          go_wp2_with fail
          refine wp_region_held_drew (S := (fun w' => KeepV w a oa b ob t s u v1 v2 v3 v4 k k1 k2 k3 k4 w')) (by kernel_rfl) ?_ (fun hHeld => ?_)
          · (try dsimp only); exact ⟨Below.drew (Below.refl _ w), hA, hB, h.below (Below.drew (Below.refl _ _)), g.below (Below.drew (Below.refl _ _))⟩
          refine wpAnyH_take (i := 0) (oi := ⟨_, _, _, _, _, _⟩) (v := ?_) rfl (by kernel_rfl) (by kernel_rfl) (by kernel_rfl) (fun _ _ _ h => h) (Or.inl ⟨by rfl, ?_⟩) hHeld ?_
          rotate_left
          · (intro w hSw; (try dsimp only at hSw); have A10 := hSw.A.at 10 (vtA_10 t u v1 v2 v3 v4); have B10 := hSw.B.at 10 (vtA_10 s k k1 k2 k3 k4); clear hSw; have hnc := dec_neq; have hgc := guard_dec; go_simp; try (with_reducible rfl))
          try simp only [Act.put, List.setIfInBounds_toArray, List.set_cons_zero, List.set_cons_succ]
          refine wpAnyH_take (i := 1) (oi := ⟨_, _, _, _, _, _⟩) (v := ?_) rfl (by kernel_rfl) (by kernel_rfl) (by kernel_rfl) (fun _ _ _ h => h) (Or.inl ⟨by rfl, ?_⟩) hHeld ?_
          rotate_left
          · (intro w hSw; (try dsimp only at hSw); have A10 := hSw.A.at 10 (vtA_10 t u v1 v2 v3 v4); have B10 := hSw.B.at 10 (vtA_10 s k k1 k2 k3 k4); clear hSw; have hnc := dec_neq; have hgc := guard_dec; go_simp; try (with_reducible rfl))
          try simp only [Act.put, List.setIfInBounds_toArray, List.set_cons_zero, List.set_cons_succ]
          refine wpAnyH_take (i := 2) (oi := ⟨_, _, _, _, _, _⟩) (v := ?_) rfl (by kernel_rfl) (by kernel_rfl) (by kernel_rfl) (fun _ _ _ h => h) (Or.inl ⟨by rfl, ?_⟩) hHeld ?_
          rotate_left
          · (intro w hSw; (try dsimp only at hSw); have A10 := hSw.A.at 10 (vtA_10 t u v1 v2 v3 v4); have B10 := hSw.B.at 10 (vtA_10 s k k1 k2 k3 k4); clear hSw; have hnc := dec_neq; have hgc := guard_dec; go_simp; try (with_reducible rfl))
          try simp only [Act.put, List.setIfInBounds_toArray, List.set_cons_zero, List.set_cons_succ]
          refine wpAnyH_take (i := 3) (oi := ⟨_, _, _, _, _, _⟩) (v := .agg (decA t)) rfl (by kernel_rfl) (by kernel_rfl) (by kernel_rfl) (fun _ _ _ h => h) (Or.inl ⟨by rfl, ?_⟩) hHeld ?_
          · intro w hSw
            (try dsimp only at hSw)
            have hx := run_loadVar_seg (P := Try.prog) (k := 0) (ty := 58) (vs := decA t) hSw.A rfl Try.underlying58 rfl (by kernel_rfl)
            exact run_ldSeg _ _ rfl _ _ rfl _ hx
          try simp only [Act.put, List.setIfInBounds_toArray, List.set_cons_zero, List.set_cons_succ]
          refine wpAnyH_take (i := 4) (oi := ⟨_, _, _, _, _, _⟩) (v := ?_) rfl (by kernel_rfl) (by kernel_rfl) (by kernel_rfl) (fun _ _ _ h => h) (Or.inl ⟨by rfl, ?_⟩) hHeld ?_
          rotate_left
          · (intro w hSw; (try dsimp only at hSw); have A10 := hSw.A.at 10 (vtA_10 t u v1 v2 v3 v4); have B10 := hSw.B.at 10 (vtA_10 s k k1 k2 k3 k4); clear hSw; have hnc := dec_neq; have hgc := guard_dec; go_simp; try (with_reducible rfl))
          try simp only [Act.put, List.setIfInBounds_toArray, List.set_cons_zero, List.set_cons_succ]
          refine wpAnyH_take (i := 5) (oi := ⟨_, _, _, _, _, _⟩) (v := ?_) rfl (by kernel_rfl) (by kernel_rfl) (by kernel_rfl) (fun _ _ _ h => h) (Or.inl ⟨by rfl, ?_⟩) hHeld ?_
          rotate_left
          · (intro w hSw; (try dsimp only at hSw); have A10 := hSw.A.at 10 (vtA_10 t u v1 v2 v3 v4); have B10 := hSw.B.at 10 (vtA_10 s k k1 k2 k3 k4); clear hSw; have hnc := dec_neq; have hgc := guard_dec; go_simp; try (with_reducible rfl))
          try simp only [Act.put, List.setIfInBounds_toArray, List.set_cons_zero, List.set_cons_succ]
          refine wpAnyH_take (i := 6) (oi := ⟨_, _, _, _, _, _⟩) (v := ?_) rfl (by kernel_rfl) (by kernel_rfl) (by kernel_rfl) (fun _ _ _ h => h) (Or.inl ⟨by rfl, ?_⟩) hHeld ?_
          rotate_left
          · (intro w hSw; (try dsimp only at hSw); have A10 := hSw.A.at 10 (vtA_10 t u v1 v2 v3 v4); have B10 := hSw.B.at 10 (vtA_10 s k k1 k2 k3 k4); clear hSw; have hnc := dec_neq; have hgc := guard_dec; go_simp; try (with_reducible rfl))
          try simp only [Act.put, List.setIfInBounds_toArray, List.set_cons_zero, List.set_cons_succ]
          refine wpAnyH_take (i := 7) (oi := ⟨_, _, _, _, _, _⟩) (v := .agg (decA s)) rfl (by kernel_rfl) (by kernel_rfl) (by kernel_rfl) (fun _ _ _ h => h) (Or.inl ⟨by rfl, ?_⟩) hHeld ?_
          · intro w hSw
            (try dsimp only at hSw)
            have hx := run_loadVar_seg (P := Try.prog) (k := 0) (ty := 58) (vs := decA s) hSw.B rfl Try.underlying58 rfl (by kernel_rfl)
            exact run_ldSeg _ _ rfl _ _ rfl _ hx
          try simp only [Act.put, List.setIfInBounds_toArray, List.set_cons_zero, List.set_cons_succ]
          refine wpAnyH_take (i := 8) (oi := ⟨_, _, _, _, _, _⟩) (v := ?_) rfl (by kernel_rfl) (by kernel_rfl) (by kernel_rfl) (fun _ _ _ h => h) (Or.inl ⟨by rfl, ?_⟩) hHeld ?_
          rotate_left
          · (intro w hSw; (try dsimp only at hSw); have A10 := hSw.A.at 10 (vtA_10 t u v1 v2 v3 v4); have B10 := hSw.B.at 10 (vtA_10 s k k1 k2 k3 k4); clear hSw; have hnc := dec_neq; have hgc := guard_dec; go_simp; try (with_reducible rfl))
          try simp only [Act.put, List.setIfInBounds_toArray, List.set_cons_zero, List.set_cons_succ]
          refine wpAnyH_take (i := 9) (oi := ⟨_, _, _, _, _, _⟩) (v := ?_) rfl (by kernel_rfl) (by kernel_rfl) (by kernel_rfl) (fun _ _ _ h => h) (Or.inl ⟨by rfl, ?_⟩) hHeld ?_
          rotate_left
          · (intro w hSw; (try dsimp only at hSw); have A10 := hSw.A.at 10 (vtA_10 t u v1 v2 v3 v4); have B10 := hSw.B.at 10 (vtA_10 s k k1 k2 k3 k4); clear hSw; have hnc := dec_neq; have hgc := guard_dec; go_simp; try (with_reducible rfl))
          try simp only [Act.put, List.setIfInBounds_toArray, List.set_cons_zero, List.set_cons_succ]
          refine wpAnyH_take (i := 10) (oi := ⟨_, _, _, _, _, _⟩) (v := ?_) rfl (by kernel_rfl) (by kernel_rfl) (by kernel_rfl) (fun _ _ _ h => h) (Or.inl ⟨by rfl, ?_⟩) hHeld ?_
          rotate_left
          · (intro w hSw; (try dsimp only at hSw); have A10 := hSw.A.at 10 (vtA_10 t u v1 v2 v3 v4); have B10 := hSw.B.at 10 (vtA_10 s k k1 k2 k3 k4); clear hSw; have hnc := dec_neq; have hgc := guard_dec; go_simp; try (with_reducible rfl))
          try simp only [Act.put, List.setIfInBounds_toArray, List.set_cons_zero, List.set_cons_succ]
          refine wpAnyH_take (i := 11) (oi := ⟨_, _, _, _, _, _⟩) (v := ?_) rfl (by kernel_rfl) (by kernel_rfl) (by kernel_rfl) (fun _ _ _ h => h) (Or.inl ⟨by rfl, ?_⟩) hHeld ?_
          rotate_left
          · (intro w hSw; (try dsimp only at hSw); have A10 := hSw.A.at 10 (vtA_10 t u v1 v2 v3 v4); have B10 := hSw.B.at 10 (vtA_10 s k k1 k2 k3 k4); clear hSw; have hnc := dec_neq; have hgc := guard_dec; go_simp; try (with_reducible rfl))
          try simp only [Act.put, List.setIfInBounds_toArray, List.set_cons_zero, List.set_cons_succ]
          refine wpAnyH_take (i := 12) (oi := ⟨_, _, _, _, _, _⟩) (v := ?_) rfl (by kernel_rfl) (by kernel_rfl) (by kernel_rfl) (fun _ _ _ h => h) (Or.inl ⟨by rfl, ?_⟩) hHeld ?_
          rotate_left
          · (intro w hSw; (try dsimp only at hSw); have A10 := hSw.A.at 10 (vtA_10 t u v1 v2 v3 v4); have B10 := hSw.B.at 10 (vtA_10 s k k1 k2 k3 k4); clear hSw; have hnc := dec_neq; have hgc := guard_dec; go_simp; try (with_reducible rfl))
          try simp only [Act.put, List.setIfInBounds_toArray, List.set_cons_zero, List.set_cons_succ]
          refine wpAnyH_take (i := 13) (oi := ⟨_, _, _, _, _, _⟩) (v := ?_) rfl (by kernel_rfl) (by kernel_rfl) (by kernel_rfl) (fun _ _ _ h => h) (Or.inl ⟨by rfl, ?_⟩) hHeld ?_
          rotate_left
          · (intro w hSw; (try dsimp only at hSw); have A10 := hSw.A.at 10 (vtA_10 t u v1 v2 v3 v4); have B10 := hSw.B.at 10 (vtA_10 s k k1 k2 k3 k4); clear hSw; have hnc := dec_neq; have hgc := guard_dec; go_simp; try (with_reducible rfl))
          try simp only [Act.put, List.setIfInBounds_toArray, List.set_cons_zero, List.set_cons_succ]
          refine wpAnyH_take (i := 14) (oi := ⟨_, _, _, _, _, _⟩) (v := ?_) rfl (by kernel_rfl) (by kernel_rfl) (by kernel_rfl) (fun _ _ _ h => h) (Or.inl ⟨by rfl, ?_⟩) hHeld ?_
          rotate_left
          · (intro w hSw; (try dsimp only at hSw); have A10 := hSw.A.at 10 (vtA_10 t u v1 v2 v3 v4); have B10 := hSw.B.at 10 (vtA_10 s k k1 k2 k3 k4); clear hSw; have hnc := dec_neq; have hgc := guard_dec; go_simp; try (with_reducible rfl))
          try simp only [Act.put, List.setIfInBounds_toArray, List.set_cons_zero, List.set_cons_succ]
          refine wpAnyH_take (i := 15) (oi := ⟨_, _, _, _, _, _⟩) (v := ?_) rfl (by kernel_rfl) (by kernel_rfl) (by kernel_rfl) (fun _ _ _ h => h) (Or.inl ⟨by rfl, ?_⟩) hHeld ?_
          rotate_left
          · (intro w hSw; (try dsimp only at hSw); have A10 := hSw.A.at 10 (vtA_10 t u v1 v2 v3 v4); have B10 := hSw.B.at 10 (vtA_10 s k k1 k2 k3 k4); clear hSw; have hnc := dec_neq; have hgc := guard_dec; go_simp; try (with_reducible rfl))
          try simp only [Act.put, List.setIfInBounds_toArray, List.set_cons_zero, List.set_cons_succ]
          refine wpAnyH_ready (rs := [16]) (by kernel_rfl) (by simp) ?_
          refine AllReadyH.cons (o := ⟨_, _, _, _, _, _⟩) rfl (fun K hK => ?_) AllReadyH.nil
          go_simp
          go_at_call 133
          refine (l4Same_o t.md t.st t.pv t.ns s.md s.st s.pv s.ns u k a b (oa + 3) (ob + 3) _ (by omega) (by omega) hHeld.r1.p hHeld.r2.p (hHeld.A.at 3 rfl) (hHeld.A.at 4 rfl) (hHeld.A.at 5 rfl) (hHeld.A.at 6 rfl) (hHeld.B.at 3 rfl) (hHeld.B.at 4 rfl) (hHeld.B.at 5 rfl) (hHeld.B.at 6 rfl)).mono ?_
          rintro e w1 ⟨rfl, hb1⟩
          rw [q1]
          try go_wp2_with fail
          refine hK.out _ _ ?_ ?_
          · (try dsimp only); exact hHeld.next hb1
          clear hHeld hK K
          intro hHeld
          try simp only [Act.put, List.setIfInBounds_toArray, List.set_cons_zero, List.set_cons_succ]
          refine wpAnyH_take (i := 17) (oi := ⟨_, _, _, _, _, _⟩) (v := ?_) rfl (by kernel_rfl) (by kernel_rfl) (by kernel_rfl) (fun _ _ _ h => h) (Or.inl ⟨by rfl, ?_⟩) hHeld ?_
          rotate_left
          · (intro w hSw; (try dsimp only at hSw); have A10 := hSw.A.at 10 (vtA_10 t u v1 v2 v3 v4); have B10 := hSw.B.at 10 (vtA_10 s k k1 k2 k3 k4); clear hSw; have hnc := dec_neq; have hgc := guard_dec; go_simp; try (with_reducible rfl))
          try simp only [Act.put, List.setIfInBounds_toArray, List.set_cons_zero, List.set_cons_succ]
          refine wpAnyH_take (i := 18) (oi := ⟨_, _, _, _, _, _⟩) (v := ?_) rfl (by kernel_rfl) (by kernel_rfl) (by kernel_rfl) (fun _ _ _ h => h) (Or.inl ⟨by rfl, ?_⟩) hHeld ?_
          rotate_left
          · (intro w hSw; (try dsimp only at hSw); have A10 := hSw.A.at 10 (vtA_10 t u v1 v2 v3 v4); have B10 := hSw.B.at 10 (vtA_10 s k k1 k2 k3 k4); clear hSw; have hnc := dec_neq; have hgc := guard_dec; go_simp; try (with_reducible rfl))
          try simp only [Act.put, List.setIfInBounds_toArray, List.set_cons_zero, List.set_cons_succ]
          refine wpAnyH_take (i := 19) (oi := ⟨_, _, _, _, _, _⟩) (v := ?_) rfl (by kernel_rfl) (by kernel_rfl) (by kernel_rfl) (fun _ _ _ h => h) (Or.inl ⟨by rfl, ?_⟩) hHeld ?_
          rotate_left
          · (intro w hSw; (try dsimp only at hSw); have A10 := hSw.A.at 10 (vtA_10 t u v1 v2 v3 v4); have B10 := hSw.B.at 10 (vtA_10 s k k1 k2 k3 k4); clear hSw; have hnc := dec_neq; have hgc := guard_dec; go_simp; try (with_reducible rfl))
          try simp only [Act.put, List.setIfInBounds_toArray, List.set_cons_zero, List.set_cons_succ]
          refine wpAnyH_take (i := 20) (oi := ⟨_, _, _, _, _, _⟩) (v := ?_) rfl (by kernel_rfl) (by kernel_rfl) (by kernel_rfl) (fun _ _ _ h => h) (Or.inl ⟨by rfl, ?_⟩) hHeld ?_
          rotate_left
          · (intro w hSw; (try dsimp only at hSw); have A10 := hSw.A.at 10 (vtA_10 t u v1 v2 v3 v4); have B10 := hSw.B.at 10 (vtA_10 s k k1 k2 k3 k4); clear hSw; have hnc := dec_neq; have hgc := guard_dec; go_simp; try (with_reducible rfl))
          try simp only [Act.put, List.setIfInBounds_toArray, List.set_cons_zero, List.set_cons_succ]
          refine wpAnyH_take (i := 21) (oi := ⟨_, _, _, _, _, _⟩) (v := ?_) rfl (by kernel_rfl) (by kernel_rfl) (by kernel_rfl) (fun _ _ _ h => h) (Or.inl ⟨by rfl, ?_⟩) hHeld ?_
          rotate_left
          · (intro w hSw; (try dsimp only at hSw); have A10 := hSw.A.at 10 (vtA_10 t u v1 v2 v3 v4); have B10 := hSw.B.at 10 (vtA_10 s k k1 k2 k3 k4); clear hSw; have hnc := dec_neq; have hgc := guard_dec; go_simp; try (with_reducible rfl))
          try simp only [Act.put, List.setIfInBounds_toArray, List.set_cons_zero, List.set_cons_succ]
          refine wpAnyH_ready (rs := [22]) (by kernel_rfl) (by simp) ?_
          refine AllReadyH.cons (o := ⟨_, _, _, _, _, _⟩) rfl (fun K hK => ?_) AllReadyH.nil
          go_simp
          go_at_call 38
          refine (l5Shown_o t.s s.s v1 v2 v3 v4 k1 k2 k3 k4 a (oa + 7) b (ob + 7) _ n1 n3 n4 m1 m3 m4 (hHeld.A.part 7 rfl rfl) (hHeld.B.part 7 rfl rfl) hHeld.r1.s hHeld.r2.s).mono ?_
          rintro e w2 ⟨rfl, hb2⟩
          rw [q2]
          try go_wp2_with fail
          refine hK.out _ _ ?_ ?_
          · (try dsimp only); exact hHeld.next hb2
          clear hHeld hK K
          intro hHeld
          try simp only [Act.put, List.setIfInBounds_toArray, List.set_cons_zero, List.set_cons_succ]
          refine wpAnyH_take (i := 23) (oi := ⟨_, _, _, _, _, _⟩) (v := ?_) rfl (by kernel_rfl) (by kernel_rfl) (by kernel_rfl) (fun _ _ _ h => h) (Or.inl ⟨by rfl, ?_⟩) hHeld ?_
          rotate_left
          · (intro w hSw; (try dsimp only at hSw); have A10 := hSw.A.at 10 (vtA_10 t u v1 v2 v3 v4); have B10 := hSw.B.at 10 (vtA_10 s k k1 k2 k3 k4); clear hSw; have hnc := dec_neq; have hgc := guard_dec; go_simp; try (with_reducible rfl))
          try simp only [Act.put, List.setIfInBounds_toArray, List.set_cons_zero, List.set_cons_succ]
          refine wpAnyH_take (i := 24) (oi := ⟨_, _, _, _, _, _⟩) (v := ?_) rfl (by kernel_rfl) (by kernel_rfl) (by kernel_rfl) (fun _ _ _ h => h) (Or.inl ⟨by rfl, ?_⟩) hHeld ?_
          rotate_left
          · (intro w hSw; (try dsimp only at hSw); have A10 := hSw.A.at 10 (vtA_10 t u v1 v2 v3 v4); have B10 := hSw.B.at 10 (vtA_10 s k k1 k2 k3 k4); clear hSw; have hnc := dec_neq; have hgc := guard_dec; go_simp; try (with_reducible rfl))
          try simp only [Act.put, List.setIfInBounds_toArray, List.set_cons_zero, List.set_cons_succ]
          refine wpAnyH_take (i := 25) (oi := ⟨_, _, _, _, _, _⟩) (v := ?_) rfl (by kernel_rfl) (by kernel_rfl) (by kernel_rfl) (fun _ _ _ h => h) (Or.inl ⟨by rfl, ?_⟩) hHeld ?_
          rotate_left
          · (intro w hSw; (try dsimp only at hSw); have A10 := hSw.A.at 10 (vtA_10 t u v1 v2 v3 v4); have B10 := hSw.B.at 10 (vtA_10 s k k1 k2 k3 k4); clear hSw; have hnc := dec_neq; have hgc := guard_dec; go_simp; try (with_reducible rfl))
          try simp only [Act.put, List.setIfInBounds_toArray, List.set_cons_zero, List.set_cons_succ]
          refine wpAnyH_take (i := 26) (oi := ⟨_, _, _, _, _, _⟩) (v := ?_) rfl (by kernel_rfl) (by kernel_rfl) (by kernel_rfl) (fun _ _ _ h => h) (Or.inl ⟨by rfl, ?_⟩) hHeld ?_
          rotate_left
          · (intro w hSw; (try dsimp only at hSw); have A10 := hSw.A.at 10 (vtA_10 t u v1 v2 v3 v4); have B10 := hSw.B.at 10 (vtA_10 s k k1 k2 k3 k4); clear hSw; have hnc := dec_neq; have hgc := guard_dec; go_simp; try (with_reducible rfl))
          try simp only [Act.put, List.setIfInBounds_toArray, List.set_cons_zero, List.set_cons_succ]
          refine wpAnyH_take (i := 27) (oi := ⟨_, _, _, _, _, _⟩) (v := ?_) rfl (by kernel_rfl) (by kernel_rfl) (by kernel_rfl) (fun _ _ _ h => h) (Or.inl ⟨by rfl, ?_⟩) hHeld ?_
          rotate_left
          · (intro w hSw; (try dsimp only at hSw); have A10 := hSw.A.at 10 (vtA_10 t u v1 v2 v3 v4); have B10 := hSw.B.at 10 (vtA_10 s k k1 k2 k3 k4); clear hSw; have hnc := dec_neq; have hgc := guard_dec; go_simp; try (with_reducible rfl))
          try simp only [Act.put, List.setIfInBounds_toArray, List.set_cons_zero, List.set_cons_succ]
          refine wpAnyH_take (i := 28) (oi := ⟨_, _, _, _, _, _⟩) (v := ?_) rfl (by kernel_rfl) (by kernel_rfl) (by kernel_rfl) (fun _ _ _ h => h) (Or.inl ⟨by rfl, ?_⟩) hHeld ?_
          rotate_left
          · (intro w hSw; (try dsimp only at hSw); have A10 := hSw.A.at 10 (vtA_10 t u v1 v2 v3 v4); have B10 := hSw.B.at 10 (vtA_10 s k k1 k2 k3 k4); clear hSw; have hnc := dec_neq; have hgc := guard_dec; go_simp; try (with_reducible rfl))
          try simp only [Act.put, List.setIfInBounds_toArray, List.set_cons_zero, List.set_cons_succ]
          refine wpAnyH_take (i := 29) (oi := ⟨_, _, _, _, _, _⟩) (v := ?_) rfl (by kernel_rfl) (by kernel_rfl) (by kernel_rfl) (fun _ _ _ h => h) (Or.inl ⟨by rfl, ?_⟩) hHeld ?_
          rotate_left
          · (intro w hSw; (try dsimp only at hSw); have A10 := hSw.A.at 10 (vtA_10 t u v1 v2 v3 v4); have B10 := hSw.B.at 10 (vtA_10 s k k1 k2 k3 k4); clear hSw; have hnc := dec_neq; have hgc := guard_dec; go_simp; try (with_reducible rfl))
          try simp only [Act.put, List.setIfInBounds_toArray, List.set_cons_zero, List.set_cons_succ]
          refine wpAnyH_take (i := 30) (oi := ⟨_, _, _, _, _, _⟩) (v := ?_) rfl (by kernel_rfl) (by kernel_rfl) (by kernel_rfl) (fun _ _ _ h => h) (Or.inl ⟨by rfl, ?_⟩) hHeld ?_
          rotate_left
          · (intro w hSw; (try dsimp only at hSw); have A10 := hSw.A.at 10 (vtA_10 t u v1 v2 v3 v4); have B10 := hSw.B.at 10 (vtA_10 s k k1 k2 k3 k4); clear hSw; have hnc := dec_neq; have hgc := guard_dec; go_simp; try (with_reducible rfl))
          try simp only [Act.put, List.setIfInBounds_toArray, List.set_cons_zero, List.set_cons_succ]
          refine wpAnyH_take (i := 31) (oi := ⟨_, _, _, _, _, _⟩) (v := ?_) rfl (by kernel_rfl) (by kernel_rfl) (by kernel_rfl) (fun _ _ _ h => h) (Or.inl ⟨by rfl, ?_⟩) hHeld ?_
          rotate_left
          · (intro w hSw; (try dsimp only at hSw); have A10 := hSw.A.at 10 (vtA_10 t u v1 v2 v3 v4); have B10 := hSw.B.at 10 (vtA_10 s k k1 k2 k3 k4); clear hSw; have hnc := dec_neq; have hgc := guard_dec; go_simp; try (with_reducible rfl))
          try simp only [Act.put, List.setIfInBounds_toArray, List.set_cons_zero, List.set_cons_succ]
          refine wpAnyH_take (i := 32) (oi := ⟨_, _, _, _, _, _⟩) (v := ?_) rfl (by kernel_rfl) (by kernel_rfl) (by kernel_rfl) (fun _ _ _ h => h) (Or.inl ⟨by rfl, ?_⟩) hHeld ?_
          rotate_left
          · (intro w hSw; (try dsimp only at hSw); have A10 := hSw.A.at 10 (vtA_10 t u v1 v2 v3 v4); have B10 := hSw.B.at 10 (vtA_10 s k k1 k2 k3 k4); clear hSw; have hnc := dec_neq; have hgc := guard_dec; go_simp; try (with_reducible rfl))
          try simp only [Act.put, List.setIfInBounds_toArray, List.set_cons_zero, List.set_cons_succ]
          refine wpAnyH_take (i := 33) (oi := ⟨_, _, _, _, _, _⟩) (v := ?_) rfl (by kernel_rfl) (by kernel_rfl) (by kernel_rfl) (fun _ _ _ h => h) (Or.inl ⟨by rfl, ?_⟩) hHeld ?_
          rotate_left
          · (intro w hSw; (try dsimp only at hSw); have A10 := hSw.A.at 10 (vtA_10 t u v1 v2 v3 v4); have B10 := hSw.B.at 10 (vtA_10 s k k1 k2 k3 k4); clear hSw; have hnc := dec_neq; have hgc := guard_dec; go_simp; try (with_reducible rfl))
          try simp only [Act.put, List.setIfInBounds_toArray, List.set_cons_zero, List.set_cons_succ]
          refine wpAnyH_take (i := 34) (oi := ⟨_, _, _, _, _, _⟩) (v := ?_) rfl (by kernel_rfl) (by kernel_rfl) (by kernel_rfl) (fun _ _ _ h => h) (Or.inl ⟨by rfl, ?_⟩) hHeld ?_
          rotate_left
          · (intro w hSw; (try dsimp only at hSw); have A10 := hSw.A.at 10 (vtA_10 t u v1 v2 v3 v4); have B10 := hSw.B.at 10 (vtA_10 s k k1 k2 k3 k4); clear hSw; have hnc := dec_neq; have hgc := guard_dec; go_simp; try (with_reducible rfl))
          try simp only [Act.put, List.setIfInBounds_toArray, List.set_cons_zero, List.set_cons_succ]
          refine wpAnyH_take (i := 35) (oi := ⟨_, _, _, _, _, _⟩) (v := ?_) rfl (by kernel_rfl) (by kernel_rfl) (by kernel_rfl) (fun _ _ _ h => h) (Or.inl ⟨by rfl, ?_⟩) hHeld ?_
          rotate_left
          · (intro w hSw; (try dsimp only at hSw); have A10 := hSw.A.at 10 (vtA_10 t u v1 v2 v3 v4); have B10 := hSw.B.at 10 (vtA_10 s k k1 k2 k3 k4); clear hSw; have hnc := dec_neq; have hgc := guard_dec; go_simp; try (with_reducible rfl))
          try simp only [Act.put, List.setIfInBounds_toArray, List.set_cons_zero, List.set_cons_succ]
          refine wpAnyH_ready (rs := [36]) (by kernel_rfl) (by simp) ?_
          refine AllReadyH.cons (o := ⟨_, _, _, _, _, _⟩) rfl (fun K hK => ?_) AllReadyH.nil
          go_simp
          go_at_call 88
          refine (l3SameCells_calls t.s.bs s.s.bs _ _ _ n2 m2 hHeld.r1.s.g2 hHeld.r2.s.g2).mono ?_
          rintro e w3 ⟨rfl, hb3⟩
          rw [q3]
          try go_wp2_with fail
          refine hK.out _ _ ?_ ?_
          · (try dsimp only); exact hHeld.next hb3
          clear hHeld hK K
          intro hHeld
          try simp only [Act.put, List.setIfInBounds_toArray, List.set_cons_zero, List.set_cons_succ]
          refine wpAnyH_take (i := 37) (oi := ⟨_, _, _, _, _, _⟩) (v := ?_) rfl (by kernel_rfl) (by kernel_rfl) (by kernel_rfl) (fun _ _ _ h => h) (Or.inl ⟨by rfl, ?_⟩) hHeld ?_
          rotate_left
          · (intro w hSw; (try dsimp only at hSw); have A10 := hSw.A.at 10 (vtA_10 t u v1 v2 v3 v4); have B10 := hSw.B.at 10 (vtA_10 s k k1 k2 k3 k4); clear hSw; have hnc := dec_neq; have hgc := guard_dec; go_simp; try (with_reducible rfl))
          try simp only [Act.put, List.setIfInBounds_toArray, List.set_cons_zero, List.set_cons_succ]
          refine wpAnyH_take (i := 38) (oi := ⟨_, _, _, _, _, _⟩) (v := ?_) rfl (by kernel_rfl) (by kernel_rfl) (by kernel_rfl) (fun _ _ _ h => h) (Or.inl ⟨by rfl, ?_⟩) hHeld ?_
          rotate_left
          · (intro w hSw; (try dsimp only at hSw); have A10 := hSw.A.at 10 (vtA_10 t u v1 v2 v3 v4); have B10 := hSw.B.at 10 (vtA_10 s k k1 k2 k3 k4); clear hSw; have hnc := dec_neq; have hgc := guard_dec; go_simp; try (with_reducible rfl))
          try simp only [Act.put, List.setIfInBounds_toArray, List.set_cons_zero, List.set_cons_succ]
          refine wpAnyH_done (by kernel_rfl) ?_ _
          go_wp2
          go_ret
          exact ⟨ret_bool (by simp [sameVB, sameSB, q0, q1, q2, q3]), hHeld.bel⟩
        · skip
          go_enter Try.func84, Try.ntmps84
          go_wp2_with fail
          refine wp_region_held_drew (S := (fun w' => KeepV w a oa b ob t s u v1 v2 v3 v4 k k1 k2 k3 k4 w')) (by kernel_rfl) ?_ (fun hHeld => ?_)
          · (try dsimp only); exact ⟨Below.drew (Below.refl _ w), hA, hB, h.below (Below.drew (Below.refl _ _)), g.below (Below.drew (Below.refl _ _))⟩
          refine wpAnyH_take (i := 0) (oi := ⟨_, _, _, _, _, _⟩) (v := ?_) rfl (by kernel_rfl) (by kernel_rfl) (by kernel_rfl) (fun _ _ _ h => h) (Or.inl ⟨by rfl, ?_⟩) hHeld ?_
          rotate_left
          · (intro w hSw; (try dsimp only at hSw); have A10 := hSw.A.at 10 (vtA_10 t u v1 v2 v3 v4); have B10 := hSw.B.at 10 (vtA_10 s k k1 k2 k3 k4); clear hSw; have hnc := dec_neq; have hgc := guard_dec; go_simp; try (with_reducible rfl))
          try simp only [Act.put, List.setIfInBounds_toArray, List.set_cons_zero, List.set_cons_succ]
          refine wpAnyH_take (i := 1) (oi := ⟨_, _, _, _, _, _⟩) (v := ?_) rfl (by kernel_rfl) (by kernel_rfl) (by kernel_rfl) (fun _ _ _ h => h) (Or.inl ⟨by rfl, ?_⟩) hHeld ?_
          rotate_left
          · (intro w hSw; (try dsimp only at hSw); have A10 := hSw.A.at 10 (vtA_10 t u v1 v2 v3 v4); have B10 := hSw.B.at 10 (vtA_10 s k k1 k2 k3 k4); clear hSw; have hnc := dec_neq; have hgc := guard_dec; go_simp; try (with_reducible rfl))
          try simp only [Act.put, List.setIfInBounds_toArray, List.set_cons_zero, List.set_cons_succ]
          refine wpAnyH_take (i := 2) (oi := ⟨_, _, _, _, _, _⟩) (v := ?_) rfl (by kernel_rfl) (by kernel_rfl) (by kernel_rfl) (fun _ _ _ h => h) (Or.inl ⟨by rfl, ?_⟩) hHeld ?_
          rotate_left
          · (intro w hSw; (try dsimp only at hSw); have A10 := hSw.A.at 10 (vtA_10 t u v1 v2 v3 v4); have B10 := hSw.B.at 10 (vtA_10 s k k1 k2 k3 k4); clear hSw; have hnc := dec_neq; have hgc := guard_dec; go_simp; try (with_reducible rfl))
          try simp only [Act.put, List.setIfInBounds_toArray, List.set_cons_zero, List.set_cons_succ]
          refine wpAnyH_take (i := 3) (oi := ⟨_, _, _, _, _, _⟩) (v := .agg (decA t)) rfl (by kernel_rfl) (by kernel_rfl) (by kernel_rfl) (fun _ _ _ h => h) (Or.inl ⟨by rfl, ?_⟩) hHeld ?_
          · intro w hSw
            (try dsimp only at hSw)
            have hx := run_loadVar_seg (P := Try.prog) (k := 0) (ty := 58) (vs := decA t) hSw.A rfl Try.underlying58 rfl (by kernel_rfl)
            exact run_ldSeg _ _ rfl _ _ rfl _ hx
          try simp only [Act.put, List.setIfInBounds_toArray, List.set_cons_zero, List.set_cons_succ]
          refine wpAnyH_take (i := 4) (oi := ⟨_, _, _, _, _, _⟩) (v := ?_) rfl (by kernel_rfl) (by kernel_rfl) (by kernel_rfl) (fun _ _ _ h => h) (Or.inl ⟨by rfl, ?_⟩) hHeld ?_
          rotate_left
          · (intro w hSw; (try dsimp only at hSw); have A10 := hSw.A.at 10 (vtA_10 t u v1 v2 v3 v4); have B10 := hSw.B.at 10 (vtA_10 s k k1 k2 k3 k4); clear hSw; have hnc := dec_neq; have hgc := guard_dec; go_simp; try (with_reducible rfl))
          try simp only [Act.put, List.setIfInBounds_toArray, List.set_cons_zero, List.set_cons_succ]
          refine wpAnyH_take (i := 5) (oi := ⟨_, _, _, _, _, _⟩) (v := ?_) rfl (by kernel_rfl) (by kernel_rfl) (by kernel_rfl) (fun _ _ _ h => h) (Or.inl ⟨by rfl, ?_⟩) hHeld ?_
          rotate_left
          · (intro w hSw; (try dsimp only at hSw); have A10 := hSw.A.at 10 (vtA_10 t u v1 v2 v3 v4); have B10 := hSw.B.at 10 (vtA_10 s k k1 k2 k3 k4); clear hSw; have hnc := dec_neq; have hgc := guard_dec; go_simp; try (with_reducible rfl))
          try simp only [Act.put, List.setIfInBounds_toArray, List.set_cons_zero, List.set_cons_succ]
          refine wpAnyH_take (i := 6) (oi := ⟨_, _, _, _, _, _⟩) (v := ?_) rfl (by kernel_rfl) (by kernel_rfl) (by kernel_rfl) (fun _ _ _ h => h) (Or.inl ⟨by rfl, ?_⟩) hHeld ?_
          rotate_left
          · (intro w hSw; (try dsimp only at hSw); have A10 := hSw.A.at 10 (vtA_10 t u v1 v2 v3 v4); have B10 := hSw.B.at 10 (vtA_10 s k k1 k2 k3 k4); clear hSw; have hnc := dec_neq; have hgc := guard_dec; go_simp; try (with_reducible rfl))
          try simp only [Act.put, List.setIfInBounds_toArray, List.set_cons_zero, List.set_cons_succ]
          refine wpAnyH_take (i := 7) (oi := ⟨_, _, _, _, _, _⟩) (v := .agg (decA s)) rfl (by kernel_rfl) (by kernel_rfl) (by kernel_rfl) (fun _ _ _ h => h) (Or.inl ⟨by rfl, ?_⟩) hHeld ?_
          · intro w hSw
            (try dsimp only at hSw)
            have hx := run_loadVar_seg (P := Try.prog) (k := 0) (ty := 58) (vs := decA s) hSw.B rfl Try.underlying58 rfl (by kernel_rfl)
            exact run_ldSeg _ _ rfl _ _ rfl _ hx
          try simp only [Act.put, List.setIfInBounds_toArray, List.set_cons_zero, List.set_cons_succ]
          refine wpAnyH_take (i := 8) (oi := ⟨_, _, _, _, _, _⟩) (v := ?_) rfl (by kernel_rfl) (by kernel_rfl) (by kernel_rfl) (fun _ _ _ h => h) (Or.inl ⟨by rfl, ?_⟩) hHeld ?_
          rotate_left
          · (intro w hSw; (try dsimp only at hSw); have A10 := hSw.A.at 10 (vtA_10 t u v1 v2 v3 v4); have B10 := hSw.B.at 10 (vtA_10 s k k1 k2 k3 k4); clear hSw; have hnc := dec_neq; have hgc := guard_dec; go_simp; try (with_reducible rfl))
          try simp only [Act.put, List.setIfInBounds_toArray, List.set_cons_zero, List.set_cons_succ]
          refine wpAnyH_take (i := 9) (oi := ⟨_, _, _, _, _, _⟩) (v := ?_) rfl (by kernel_rfl) (by kernel_rfl) (by kernel_rfl) (fun _ _ _ h => h) (Or.inl ⟨by rfl, ?_⟩) hHeld ?_
          rotate_left
          · (intro w hSw; (try dsimp only at hSw); have A10 := hSw.A.at 10 (vtA_10 t u v1 v2 v3 v4); have B10 := hSw.B.at 10 (vtA_10 s k k1 k2 k3 k4); clear hSw; have hnc := dec_neq; have hgc := guard_dec; go_simp; try (with_reducible rfl))
          try simp only [Act.put, List.setIfInBounds_toArray, List.set_cons_zero, List.set_cons_succ]
          refine wpAnyH_take (i := 10) (oi := ⟨_, _, _, _, _, _⟩) (v := ?_) rfl (by kernel_rfl) (by kernel_rfl) (by kernel_rfl) (fun _ _ _ h => h) (Or.inl ⟨by rfl, ?_⟩) hHeld ?_
          rotate_left
          · (intro w hSw; (try dsimp only at hSw); have A10 := hSw.A.at 10 (vtA_10 t u v1 v2 v3 v4); have B10 := hSw.B.at 10 (vtA_10 s k k1 k2 k3 k4); clear hSw; have hnc := dec_neq; have hgc := guard_dec; go_simp; try (with_reducible rfl))
          try simp only [Act.put, List.setIfInBounds_toArray, List.set_cons_zero, List.set_cons_succ]
          refine wpAnyH_take (i := 11) (oi := ⟨_, _, _, _, _, _⟩) (v := ?_) rfl (by kernel_rfl) (by kernel_rfl) (by kernel_rfl) (fun _ _ _ h => h) (Or.inl ⟨by rfl, ?_⟩) hHeld ?_
          rotate_left
          · (intro w hSw; (try dsimp only at hSw); have A10 := hSw.A.at 10 (vtA_10 t u v1 v2 v3 v4); have B10 := hSw.B.at 10 (vtA_10 s k k1 k2 k3 k4); clear hSw; have hnc := dec_neq; have hgc := guard_dec; go_simp; try (with_reducible rfl))
          try simp only [Act.put, List.setIfInBounds_toArray, List.set_cons_zero, List.set_cons_succ]
          refine wpAnyH_take (i := 12) (oi := ⟨_, _, _, _, _, _⟩) (v := ?_) rfl (by kernel_rfl) (by kernel_rfl) (by kernel_rfl) (fun _ _ _ h => h) (Or.inl ⟨by rfl, ?_⟩) hHeld ?_
          rotate_left
          · (intro w hSw; (try dsimp only at hSw); have A10 := hSw.A.at 10 (vtA_10 t u v1 v2 v3 v4); have B10 := hSw.B.at 10 (vtA_10 s k k1 k2 k3 k4); clear hSw; have hnc := dec_neq; have hgc := guard_dec; go_simp; try (with_reducible rfl))
          try simp only [Act.put, List.setIfInBounds_toArray, List.set_cons_zero, List.set_cons_succ]
          refine wpAnyH_take (i := 13) (oi := ⟨_, _, _, _, _, _⟩) (v := ?_) rfl (by kernel_rfl) (by kernel_rfl) (by kernel_rfl) (fun _ _ _ h => h) (Or.inl ⟨by rfl, ?_⟩) hHeld ?_
          rotate_left
          · (intro w hSw; (try dsimp only at hSw); have A10 := hSw.A.at 10 (vtA_10 t u v1 v2 v3 v4); have B10 := hSw.B.at 10 (vtA_10 s k k1 k2 k3 k4); clear hSw; have hnc := dec_neq; have hgc := guard_dec; go_simp; try (with_reducible rfl))
          try simp only [Act.put, List.setIfInBounds_toArray, List.set_cons_zero, List.set_cons_succ]
          refine wpAnyH_take (i := 14) (oi := ⟨_, _, _, _, _, _⟩) (v := ?_) rfl (by kernel_rfl) (by kernel_rfl) (by kernel_rfl) (fun _ _ _ h => h) (Or.inl ⟨by rfl, ?_⟩) hHeld ?_
          rotate_left
          · (intro w hSw; (try dsimp only at hSw); have A10 := hSw.A.at 10 (vtA_10 t u v1 v2 v3 v4); have B10 := hSw.B.at 10 (vtA_10 s k k1 k2 k3 k4); clear hSw; have hnc := dec_neq; have hgc := guard_dec; go_simp; try (with_reducible rfl))
          try simp only [Act.put, List.setIfInBounds_toArray, List.set_cons_zero, List.set_cons_succ]
          refine wpAnyH_take (i := 15) (oi := ⟨_, _, _, _, _, _⟩) (v := ?_) rfl (by kernel_rfl) (by kernel_rfl) (by kernel_rfl) (fun _ _ _ h => h) (Or.inl ⟨by rfl, ?_⟩) hHeld ?_
          rotate_left
          · (intro w hSw; (try dsimp only at hSw); have A10 := hSw.A.at 10 (vtA_10 t u v1 v2 v3 v4); have B10 := hSw.B.at 10 (vtA_10 s k k1 k2 k3 k4); clear hSw; have hnc := dec_neq; have hgc := guard_dec; go_simp; try (with_reducible rfl))
          try simp only [Act.put, List.setIfInBounds_toArray, List.set_cons_zero, List.set_cons_succ]
          refine wpAnyH_ready (rs := [16]) (by kernel_rfl) (by simp) ?_
          refine AllReadyH.cons (o := ⟨_, _, _, _, _, _⟩) rfl (fun K hK => ?_) AllReadyH.nil
          go_simp
          go_at_call 133
          refine (l4Same_o t.md t.st t.pv t.ns s.md s.st s.pv s.ns u k a b (oa + 3) (ob + 3) _ (by omega) (by omega) hHeld.r1.p hHeld.r2.p (hHeld.A.at 3 rfl) (hHeld.A.at 4 rfl) (hHeld.A.at 5 rfl) (hHeld.A.at 6 rfl) (hHeld.B.at 3 rfl) (hHeld.B.at 4 rfl) (hHeld.B.at 5 rfl) (hHeld.B.at 6 rfl)).mono ?_
          rintro e w1 ⟨rfl, hb1⟩
          rw [q1]
          try go_wp2_with fail
          refine hK.out _ _ ?_ ?_
          · (try dsimp only); exact hHeld.next hb1
          clear hHeld hK K
          intro hHeld
          try simp only [Act.put, List.setIfInBounds_toArray, List.set_cons_zero, List.set_cons_succ]
          refine wpAnyH_take (i := 17) (oi := ⟨_, _, _, _, _, _⟩) (v := ?_) rfl (by kernel_rfl) (by kernel_rfl) (by kernel_rfl) (fun _ _ _ h => h) (Or.inl ⟨by rfl, ?_⟩) hHeld ?_
          rotate_left
          · (intro w hSw; (try dsimp only at hSw); have A10 := hSw.A.at 10 (vtA_10 t u v1 v2 v3 v4); have B10 := hSw.B.at 10 (vtA_10 s k k1 k2 k3 k4); clear hSw; have hnc := dec_neq; have hgc := guard_dec; go_simp; try (with_reducible rfl))
          try simp only [Act.put, List.setIfInBounds_toArray, List.set_cons_zero, List.set_cons_succ]
          refine wpAnyH_take (i := 18) (oi := ⟨_, _, _, _, _, _⟩) (v := ?_) rfl (by kernel_rfl) (by kernel_rfl) (by kernel_rfl) (fun _ _ _ h => h) (Or.inl ⟨by rfl, ?_⟩) hHeld ?_
          rotate_left
          · (intro w hSw; (try dsimp only at hSw); have A10 := hSw.A.at 10 (vtA_10 t u v1 v2 v3 v4); have B10 := hSw.B.at 10 (vtA_10 s k k1 k2 k3 k4); clear hSw; have hnc := dec_neq; have hgc := guard_dec; go_simp; try (with_reducible rfl))
          try simp only [Act.put, List.setIfInBounds_toArray, List.set_cons_zero, List.set_cons_succ]
          refine wpAnyH_take (i := 19) (oi := ⟨_, _, _, _, _, _⟩) (v := ?_) rfl (by kernel_rfl) (by kernel_rfl) (by kernel_rfl) (fun _ _ _ h => h) (Or.inl ⟨by rfl, ?_⟩) hHeld ?_
          rotate_left
          · (intro w hSw; (try dsimp only at hSw); have A10 := hSw.A.at 10 (vtA_10 t u v1 v2 v3 v4); have B10 := hSw.B.at 10 (vtA_10 s k k1 k2 k3 k4); clear hSw; have hnc := dec_neq; have hgc := guard_dec; go_simp; try (with_reducible rfl))
          try simp only [Act.put, List.setIfInBounds_toArray, List.set_cons_zero, List.set_cons_succ]
          refine wpAnyH_take (i := 20) (oi := ⟨_, _, _, _, _, _⟩) (v := ?_) rfl (by kernel_rfl) (by kernel_rfl) (by kernel_rfl) (fun _ _ _ h => h) (Or.inl ⟨by rfl, ?_⟩) hHeld ?_
          rotate_left
          · (intro w hSw; (try dsimp only at hSw); have A10 := hSw.A.at 10 (vtA_10 t u v1 v2 v3 v4); have B10 := hSw.B.at 10 (vtA_10 s k k1 k2 k3 k4); clear hSw; have hnc := dec_neq; have hgc := guard_dec; go_simp; try (with_reducible rfl))
          try simp only [Act.put, List.setIfInBounds_toArray, List.set_cons_zero, List.set_cons_succ]
          refine wpAnyH_take (i := 21) (oi := ⟨_, _, _, _, _, _⟩) (v := ?_) rfl (by kernel_rfl) (by kernel_rfl) (by kernel_rfl) (fun _ _ _ h => h) (Or.inl ⟨by rfl, ?_⟩) hHeld ?_
          rotate_left
          · (intro w hSw; (try dsimp only at hSw); have A10 := hSw.A.at 10 (vtA_10 t u v1 v2 v3 v4); have B10 := hSw.B.at 10 (vtA_10 s k k1 k2 k3 k4); clear hSw; have hnc := dec_neq; have hgc := guard_dec; go_simp; try (with_reducible rfl))
          try simp only [Act.put, List.setIfInBounds_toArray, List.set_cons_zero, List.set_cons_succ]
          refine wpAnyH_ready (rs := [22]) (by kernel_rfl) (by simp) ?_
          refine AllReadyH.cons (o := ⟨_, _, _, _, _, _⟩) rfl (fun K hK => ?_) AllReadyH.nil
          go_simp
          go_at_call 38
          refine (l5Shown_o t.s s.s v1 v2 v3 v4 k1 k2 k3 k4 a (oa + 7) b (ob + 7) _ n1 n3 n4 m1 m3 m4 (hHeld.A.part 7 rfl rfl) (hHeld.B.part 7 rfl rfl) hHeld.r1.s hHeld.r2.s).mono ?_
          rintro e w2 ⟨rfl, hb2⟩
          rw [q2]
          try go_wp2_with fail
          refine hK.out _ _ ?_ ?_
          · (try dsimp only); exact hHeld.next hb2
          clear hHeld hK K
          intro hHeld
          try simp only [Act.put, List.setIfInBounds_toArray, List.set_cons_zero, List.set_cons_succ]
          refine wpAnyH_take (i := 23) (oi := ⟨_, _, _, _, _, _⟩) (v := ?_) rfl (by kernel_rfl) (by kernel_rfl) (by kernel_rfl) (fun _ _ _ h => h) (Or.inl ⟨by rfl, ?_⟩) hHeld ?_
          rotate_left
          · (intro w hSw; (try dsimp only at hSw); have A10 := hSw.A.at 10 (vtA_10 t u v1 v2 v3 v4); have B10 := hSw.B.at 10 (vtA_10 s k k1 k2 k3 k4); clear hSw; have hnc := dec_neq; have hgc := guard_dec; go_simp; try (with_reducible rfl))
          try simp only [Act.put, List.setIfInBounds_toArray, List.set_cons_zero, List.set_cons_succ]
          refine wpAnyH_take (i := 24) (oi := ⟨_, _, _, _, _, _⟩) (v := ?_) rfl (by kernel_rfl) (by kernel_rfl) (by kernel_rfl) (fun _ _ _ h => h) (Or.inl ⟨by rfl, ?_⟩) hHeld ?_
          rotate_left
          · (intro w hSw; (try dsimp only at hSw); have A10 := hSw.A.at 10 (vtA_10 t u v1 v2 v3 v4); have B10 := hSw.B.at 10 (vtA_10 s k k1 k2 k3 k4); clear hSw; have hnc := dec_neq; have hgc := guard_dec; go_simp; try (with_reducible rfl))
          try simp only [Act.put, List.setIfInBounds_toArray, List.set_cons_zero, List.set_cons_succ]
          refine wpAnyH_take (i := 25) (oi := ⟨_, _, _, _, _, _⟩) (v := ?_) rfl (by kernel_rfl) (by kernel_rfl) (by kernel_rfl) (fun _ _ _ h => h) (Or.inl ⟨by rfl, ?_⟩) hHeld ?_
          rotate_left
          · (intro w hSw; (try dsimp only at hSw); have A10 := hSw.A.at 10 (vtA_10 t u v1 v2 v3 v4); have B10 := hSw.B.at 10 (vtA_10 s k k1 k2 k3 k4); clear hSw; have hnc := dec_neq; have hgc := guard_dec; go_simp; try (with_reducible rfl))
          try simp only [Act.put, List.setIfInBounds_toArray, List.set_cons_zero, List.set_cons_succ]
          refine wpAnyH_take (i := 26) (oi := ⟨_, _, _, _, _, _⟩) (v := ?_) rfl (by kernel_rfl) (by kernel_rfl) (by kernel_rfl) (fun _ _ _ h => h) (Or.inl ⟨by rfl, ?_⟩) hHeld ?_
          rotate_left
          · (intro w hSw; (try dsimp only at hSw); have A10 := hSw.A.at 10 (vtA_10 t u v1 v2 v3 v4); have B10 := hSw.B.at 10 (vtA_10 s k k1 k2 k3 k4); clear hSw; have hnc := dec_neq; have hgc := guard_dec; go_simp; try (with_reducible rfl))
          try simp only [Act.put, List.setIfInBounds_toArray, List.set_cons_zero, List.set_cons_succ]
          refine wpAnyH_take (i := 27) (oi := ⟨_, _, _, _, _, _⟩) (v := ?_) rfl (by kernel_rfl) (by kernel_rfl) (by kernel_rfl) (fun _ _ _ h => h) (Or.inl ⟨by rfl, ?_⟩) hHeld ?_
          rotate_left
          · (intro w hSw; (try dsimp only at hSw); have A10 := hSw.A.at 10 (vtA_10 t u v1 v2 v3 v4); have B10 := hSw.B.at 10 (vtA_10 s k k1 k2 k3 k4); clear hSw; have hnc := dec_neq; have hgc := guard_dec; go_simp; try (with_reducible rfl))
          try simp only [Act.put, List.setIfInBounds_toArray, List.set_cons_zero, List.set_cons_succ]
          refine wpAnyH_take (i := 28) (oi := ⟨_, _, _, _, _, _⟩) (v := ?_) rfl (by kernel_rfl) (by kernel_rfl) (by kernel_rfl) (fun _ _ _ h => h) (Or.inl ⟨by rfl, ?_⟩) hHeld ?_
          rotate_left
          · (intro w hSw; (try dsimp only at hSw); have A10 := hSw.A.at 10 (vtA_10 t u v1 v2 v3 v4); have B10 := hSw.B.at 10 (vtA_10 s k k1 k2 k3 k4); clear hSw; have hnc := dec_neq; have hgc := guard_dec; go_simp; try (with_reducible rfl))
          try simp only [Act.put, List.setIfInBounds_toArray, List.set_cons_zero, List.set_cons_succ]
          refine wpAnyH_take (i := 29) (oi := ⟨_, _, _, _, _, _⟩) (v := ?_) rfl (by kernel_rfl) (by kernel_rfl) (by kernel_rfl) (fun _ _ _ h => h) (Or.inl ⟨by rfl, ?_⟩) hHeld ?_
          rotate_left
          · (intro w hSw; (try dsimp only at hSw); have A10 := hSw.A.at 10 (vtA_10 t u v1 v2 v3 v4); have B10 := hSw.B.at 10 (vtA_10 s k k1 k2 k3 k4); clear hSw; have hnc := dec_neq; have hgc := guard_dec; go_simp; try (with_reducible rfl))
          try simp only [Act.put, List.setIfInBounds_toArray, List.set_cons_zero, List.set_cons_succ]
          refine wpAnyH_take (i := 30) (oi := ⟨_, _, _, _, _, _⟩) (v := ?_) rfl (by kernel_rfl) (by kernel_rfl) (by kernel_rfl) (fun _ _ _ h => h) (Or.inl ⟨by rfl, ?_⟩) hHeld ?_
          rotate_left
          · (intro w hSw; (try dsimp only at hSw); have A10 := hSw.A.at 10 (vtA_10 t u v1 v2 v3 v4); have B10 := hSw.B.at 10 (vtA_10 s k k1 k2 k3 k4); clear hSw; have hnc := dec_neq; have hgc := guard_dec; go_simp; try (with_reducible rfl))
          try simp only [Act.put, List.setIfInBounds_toArray, List.set_cons_zero, List.set_cons_succ]
          refine wpAnyH_take (i := 31) (oi := ⟨_, _, _, _, _, _⟩) (v := ?_) rfl (by kernel_rfl) (by kernel_rfl) (by kernel_rfl) (fun _ _ _ h => h) (Or.inl ⟨by rfl, ?_⟩) hHeld ?_
          rotate_left
          · (intro w hSw; (try dsimp only at hSw); have A10 := hSw.A.at 10 (vtA_10 t u v1 v2 v3 v4); have B10 := hSw.B.at 10 (vtA_10 s k k1 k2 k3 k4); clear hSw; have hnc := dec_neq; have hgc := guard_dec; go_simp; try (with_reducible rfl))
          try simp only [Act.put, List.setIfInBounds_toArray, List.set_cons_zero, List.set_cons_succ]
          refine wpAnyH_take (i := 32) (oi := ⟨_, _, _, _, _, _⟩) (v := ?_) rfl (by kernel_rfl) (by kernel_rfl) (by kernel_rfl) (fun _ _ _ h => h) (Or.inl ⟨by rfl, ?_⟩) hHeld ?_
          rotate_left
          · (intro w hSw; (try dsimp only at hSw); have A10 := hSw.A.at 10 (vtA_10 t u v1 v2 v3 v4); have B10 := hSw.B.at 10 (vtA_10 s k k1 k2 k3 k4); clear hSw; have hnc := dec_neq; have hgc := guard_dec; go_simp; try (with_reducible rfl))
          try simp only [Act.put, List.setIfInBounds_toArray, List.set_cons_zero, List.set_cons_succ]
          refine wpAnyH_take (i := 33) (oi := ⟨_, _, _, _, _, _⟩) (v := ?_) rfl (by kernel_rfl) (by kernel_rfl) (by kernel_rfl) (fun _ _ _ h => h) (Or.inl ⟨by rfl, ?_⟩) hHeld ?_
          rotate_left
          · (intro w hSw; (try dsimp only at hSw); have A10 := hSw.A.at 10 (vtA_10 t u v1 v2 v3 v4); have B10 := hSw.B.at 10 (vtA_10 s k k1 k2 k3 k4); clear hSw; have hnc := dec_neq; have hgc := guard_dec; go_simp; try (with_reducible rfl))
          try simp only [Act.put, List.setIfInBounds_toArray, List.set_cons_zero, List.set_cons_succ]
          refine wpAnyH_take (i := 34) (oi := ⟨_, _, _, _, _, _⟩) (v := ?_) rfl (by kernel_rfl) (by kernel_rfl) (by kernel_rfl) (fun _ _ _ h => h) (Or.inl ⟨by rfl, ?_⟩) hHeld ?_
          rotate_left
          · (intro w hSw; (try dsimp only at hSw); have A10 := hSw.A.at 10 (vtA_10 t u v1 v2 v3 v4); have B10 := hSw.B.at 10 (vtA_10 s k k1 k2 k3 k4); clear hSw; have hnc := dec_neq; have hgc := guard_dec; go_simp; try (with_reducible rfl))
          try simp only [Act.put, List.setIfInBounds_toArray, List.set_cons_zero, List.set_cons_succ]
          refine wpAnyH_take (i := 35) (oi := ⟨_, _, _, _, _, _⟩) (v := ?_) rfl (by kernel_rfl) (by kernel_rfl) (by kernel_rfl) (fun _ _ _ h => h) (Or.inl ⟨by rfl, ?_⟩) hHeld ?_
          rotate_left
          · (intro w hSw; (try dsimp only at hSw); have A10 := hSw.A.at 10 (vtA_10 t u v1 v2 v3 v4); have B10 := hSw.B.at 10 (vtA_10 s k k1 k2 k3 k4); clear hSw; have hnc := dec_neq; have hgc := guard_dec; go_simp; try (with_reducible rfl))
          try simp only [Act.put, List.setIfInBounds_toArray, List.set_cons_zero, List.set_cons_succ]
          refine wpAnyH_ready (rs := [36]) (by kernel_rfl) (by simp) ?_
          refine AllReadyH.cons (o := ⟨_, _, _, _, _, _⟩) rfl (fun K hK => ?_) AllReadyH.nil
          go_simp
          go_at_call 88
          refine (l3SameCells_calls t.s.bs s.s.bs _ _ _ n2 m2 hHeld.r1.s.g2 hHeld.r2.s.g2).mono ?_
          rintro e w3 ⟨rfl, hb3⟩
          rw [q3]
          try go_wp2_with fail
          refine hK.out _ _ ?_ ?_
          · (try dsimp only); exact hHeld.next hb3
          clear hHeld hK K
          intro hHeld
          try simp only [Act.put, List.setIfInBounds_toArray, List.set_cons_zero, List.set_cons_succ]
          refine wpAnyH_take (i := 37) (oi := ⟨_, _, _, _, _, _⟩) (v := ?_) rfl (by kernel_rfl) (by kernel_rfl) (by kernel_rfl) (fun _ _ _ h => h) (Or.inl ⟨by rfl, ?_⟩) hHeld ?_
          rotate_left
          · (intro w hSw; (try dsimp only at hSw); have A10 := hSw.A.at 10 (vtA_10 t u v1 v2 v3 v4); have B10 := hSw.B.at 10 (vtA_10 s k k1 k2 k3 k4); clear hSw; have hnc := dec_neq; have hgc := guard_dec; go_simp; try (with_reducible rfl))
          try simp only [Act.put, List.setIfInBounds_toArray, List.set_cons_zero, List.set_cons_succ]
          refine wpAnyH_take (i := 38) (oi := ⟨_, _, _, _, _, _⟩) (v := ?_) rfl (by kernel_rfl) (by kernel_rfl) (by kernel_rfl) (fun _ _ _ h => h) (Or.inl ⟨by rfl, ?_⟩) hHeld ?_
          rotate_left
          · (intro w hSw; (try dsimp only at hSw); have A10 := hSw.A.at 10 (vtA_10 t u v1 v2 v3 v4); have B10 := hSw.B.at 10 (vtA_10 s k k1 k2 k3 k4); clear hSw; have hnc := dec_neq; have hgc := guard_dec; go_simp; try (with_reducible rfl))
          try simp only [Act.put, List.setIfInBounds_toArray, List.set_cons_zero, List.set_cons_succ]
          refine wpAnyH_done (by kernel_rfl) ?_ _
          obtain ⟨bel1, hA1, hB1, hr1, hr2⟩ := hHeld
          clear hA hB h g hr1 hr2
          have A21 := hA1.at 21 (vtA_21 t u v1 v2 v3 v4)
          have B21 := hB1.at 21 (vtA_21 s k k1 k2 k3 k4)
          have A22 := hA1.at 22 (vtA_22 t u v1 v2 v3 v4)
          have B22 := hB1.at 22 (vtA_22 s k k1 k2 k3 k4)
          have A23 := hA1.at 23 (vtA_23 t u v1 v2 v3 v4)
          have B23 := hB1.at 23 (vtA_23 s k k1 k2 k3 k4)
          have A26 := hA1.at 26 (vtA_26 t u v1 v2 v3 v4)
          have B26 := hB1.at 26 (vtA_26 s k k1 k2 k3 k4)
          clear hA1 hB1
          have HQ := hide (And.intro q0 (And.intro q1 (And.intro q2 q3)))
          clear q0 q1 q2 q3
          go_wp2_with fail
          obtain ⟨b0, hp0⟩ : ∃ x, (t.s.ky == s.s.ky) = x := ⟨_, rfl⟩
          obtain ⟨b1, hp1⟩ : ∃ x, (t.s.kx == s.s.kx) = x := ⟨_, rfl⟩
          obtain ⟨b2, hp2⟩ : ∃ x, (t.s.ka == s.s.ka) = x := ⟨_, rfl⟩
          obtain ⟨b3, hp3⟩ : ∃ x, (t.s.bells == s.s.bells) = x := ⟨_, rfl⟩
          refine wp_region_quiet_lit (by kernel_rfl) (by kernel_rfl) ?_
          repeat (go_big_quiet_step (fail))
          cases b0
          · as_aux_lemma =>
              repeat (go_big_quiet_step (fail))
              refine wpQuiet_nil ?_
              intro _ hw'
              obtain ⟨nq, hw''⟩ := hw'
              subst hw''
              go_wp2
              go_ret
              obtain ⟨q0, q1, q2, q3⟩ := HQ.out
              exact ⟨ret_bool (by simp [sameVB, sameSB, q0, q1, q2, q3, hp0, hp1, hp2, hp3]), below_drewN bel1 _⟩
          · skip
            repeat (go_big_quiet_step (fail))
            cases b1
            · as_aux_lemma =>
                repeat (go_big_quiet_step (fail))
                refine wpQuiet_nil ?_
                intro _ hw'
                obtain ⟨nq, hw''⟩ := hw'
                subst hw''
                go_wp2
                go_ret
                obtain ⟨q0, q1, q2, q3⟩ := HQ.out
                exact ⟨ret_bool (by simp [sameVB, sameSB, q0, q1, q2, q3, hp0, hp1, hp2, hp3]), below_drewN bel1 _⟩
            · skip
              repeat (go_big_quiet_step (fail))
              cases b2
              · as_aux_lemma =>
                  repeat (go_big_quiet_step (fail))
                  refine wpQuiet_nil ?_
                  intro _ hw'
                  obtain ⟨nq, hw''⟩ := hw'
                  subst hw''
                  go_wp2
                  go_ret
                  obtain ⟨q0, q1, q2, q3⟩ := HQ.out
                  exact ⟨ret_bool (by simp [sameVB, sameSB, q0, q1, q2, q3, hp0, hp1, hp2, hp3]), below_drewN bel1 _⟩
              · skip
                repeat (go_big_quiet_step (fail))
                refine wpQuiet_nil ?_
                intro _ hw'
                obtain ⟨nq, hw''⟩ := hw'
                subst hw''
                go_wp2
                go_ret
                obtain ⟨q0, q1, q2, q3⟩ := HQ.out
                exact ⟨ret_bool (by simp [sameVB, sameSB, q0, q1, q2, q3, hp0, hp1, hp2, hp3]), below_drewN bel1 _⟩
set_option maxHeartbeats 1000000 in
theorem specSameVts_calls (t s : VtS) (u v1 v2 v3 v4 k k1 k2 k3 k4 : Value) (w : World) (n0 : t.ns.length ≤ 1048576) (n1 : t.s.cs.length ≤ 1048576) (n2 : t.s.bs.length ≤ 1048576) (n3 : t.s.tabs.length ≤ 1048576) (n4 : t.s.sets.length ≤ 1048576) (m0 : s.ns.length ≤ 1048576) (m1 : s.s.cs.length ≤ 1048576) (m2 : s.s.bs.length ≤ 1048576) (m3 : s.s.tabs.length ≤ 1048576) (m4 : s.s.sets.length ≤ 1048576) (h : VRead w t u v1 v2 v3 v4) (g : VRead w s k k1 k2 k3 k4) :
    Calls Try.prog 33 #[.agg (vtA t u v1 v2 v3 v4), .agg (vtA s k k1 k2 k3 k4)] w fun e w' => e = .returned (.bool (sameVB t s)) ∧ Below w.heap.size w w' := by
  have bel0 : Below w.heap.size w ((w.alloc (.cells (vtA t u v1 v2 v3 v4) 61)).alloc (.cells (vtA s k k1 k2 k3 k4) 61)) := (by repeat' (first | with_reducible exact Below.refl _ _ | with_reducible assumption | with_reducible refine Below.drew ?_ | with_reducible refine Below.alloc ?_ ?_ _ | with_reducible refine Below.setCell ?_ ?_ _ | (simp; done) | (simp; omega) | omega))
  go_enter Try.func33, Try.ntmps33
  go_wp2_with fail
  refine (l6Same_o _ 0 _ 0 t s _ _ _ _ _ _ _ _ _ _ _ n0 n1 n2 n3 n4 m0 m1 m2 m3 m4 (h.below bel0) (g.below bel0) ((Blk.new w _ _).alloc _).seg (Blk.new_at (by simp) _ _).seg).mono ?_
  rintro e w1 ⟨rfl, hb1⟩
  go_wp2
  go_ret
  exact ⟨rfl, bel0.trans (hb1.mono bel0.size)⟩
end Go.Proofs.Ytceoehiaeanfkaa
