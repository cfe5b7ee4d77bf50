/-
  For every two parsers the law FnExactSameParsers returns true: impl.SameParsers answers at each two parsers what the model's SameParsers answers, and turns no argument. No condition (the law itself passes parsers of together more than 1048576 numbers by).
-/
import Derived.Test.YtaljegjflkebcaaRows
import Derived.Test.YtaljegjflkebcaaSamePar
import Derived.Test.YtaljegjflkebcaaParFns
import Derived.Test.YtaljegjflkebcaaParOpen
import Derived.Deep.RegionHeld
import Derived.ShutString
import Derived.ChangeOld
import Derived.Lib.SmallJoins
namespace Go.Proofs.Ytaljegjflkebcaa
open Go.ChangeShapes Go.WideShapes Go.ChangeAt Go.RowKit Go.Joins
set_option linter.unusedVariables false
set_option linter.unusedSimpArgs false

/-- Two boxes and their lists, as a region keeps them. -/
structure KeepParser (W : World) (b c : Nat) (md st : Int) (pv : Bool) (u v : Value) (ns : List Int) (w1 : World) : Prop where
  bel : Below W.heap.size W w1
  a0 : w1.cell? ⟨b, 0, none⟩ = some (.int .i64 md)
  a1 : w1.cell? ⟨b, 1, none⟩ = some (.int .i64 st)
  a2 : w1.cell? ⟨b, 2, none⟩ = some (.bool pv)
  a3 : w1.cell? ⟨b, 3, none⟩ = some (u)
  c0 : w1.cell? ⟨c, 0, none⟩ = some (.int .i64 md)
  c1 : w1.cell? ⟨c, 1, none⟩ = some (.int .i64 st)
  c2 : w1.cell? ⟨c, 2, none⟩ = some (.bool pv)
  c3 : w1.cell? ⟨c, 3, none⟩ = some (v)
  r1 : ReadAt .i64 w1 u ns
  r2 : ReadAt .i64 w1 v ns
theorem KeepParser.next {W : World} {b c : Nat} {md st : Int} {pv : Bool} {u v : Value} {ns : List Int} {w1 w2 : World} (h : KeepParser W b c md st pv u v ns w1) (hb : Below w1.heap.size w1 w2) : KeepParser W b c md st pv u v ns w2 :=
  ⟨h.bel.trans (hb.mono h.bel.size), cellb hb h.a0, cellb hb h.a1, cellb hb h.a2, cellb hb h.a3, cellb hb h.c0, cellb hb h.c1, cellb hb h.c2, cellb hb h.c3, h.r1.below hb, h.r2.below hb⟩

set_option maxRecDepth 20000 in
set_option maxHeartbeats 4000000 in
theorem lawSP_walk (md st : Int) (pv : Bool) (v1 : Value) (ns : List Int) (md2 st2 : Int) (pv2 : Bool) (v2 : Value) (ns2 : List Int) (w : World) (hr1 : ReadAt .i64 w v1 ns) (hr2 : ReadAt .i64 w v2 ns2) (hm1 : ns.length ≤ maxLen) (hm2 : ns2.length ≤ maxLen) :
    Calls Try.prog 7 #[.agg #[.int .i64 md, .int .i64 st, .bool pv, v1], .agg #[.int .i64 md2, .int .i64 st2, .bool pv2, v2]] w fun e w' => e = .returned (.bool true) ∧ Below w.heap.size w w' := by
  have hr1' := hr1
  obtain ⟨av, cv, rfl, hz1⟩ := hr1'
  clear hz1
  have hr2' := hr2
  obtain ⟨au, cu, rfl, hz2⟩ := hr2'
  clear hz2
  by_cases hn0 : (ns.length : Int) ≤ 1048576
  · by_cases hn0' : (ns2.length : Int) ≤ 1048576 - (ns.length : Int)
    · have hn1 : ns.length ≤ 1048576 := by omega
      have hn2 : ns2.length ≤ 1048576 := by omega
      go_enter Try.func7, Try.ntmps7
      go_wp2_with fail
      have q1 : Below w.heap.size w ((w.alloc (.cells #[.int .i64 md, .int .i64 st, .bool pv, .slice av ns.length cv] 24)).alloc (.cells #[.int .i64 md2, .int .i64 st2, .bool pv2, .slice au ns2.length cu] 24)) := (by repeat' (first | with_reducible exact Below.refl _ _ | with_reducible assumption | with_reducible refine Below.drew ?_ | with_reducible refine Below.alloc ?_ ?_ _ | with_reducible refine Below.setCell ?_ ?_ _ | (simp; done) | (simp; omega) | omega))
      refine (szParser_calls md st pv ns.length av cv 1048576 (by omega) (by omega) _ hm1).mono ?_
      rintro e w1 ⟨rfl, hb1⟩
      have A0 : w1.cell? ⟨w.heap.size, 0, none⟩ = some (.int .i64 md) := cellb hb1 (by simp)
      have A1 : w1.cell? ⟨w.heap.size, 1, none⟩ = some (.int .i64 st) := cellb hb1 (by simp)
      have A2 : w1.cell? ⟨w.heap.size, 2, none⟩ = some (.bool pv) := cellb hb1 (by simp)
      have A3 : w1.cell? ⟨w.heap.size, 3, none⟩ = some (.slice av ns.length cv) := cellb hb1 (by simp)
      have C0 : w1.cell? ⟨w.heap.size + 1, 0, none⟩ = some (.int .i64 md2) := cellb hb1 (by simp)
      have C1 : w1.cell? ⟨w.heap.size + 1, 1, none⟩ = some (.int .i64 st2) := cellb hb1 (by simp)
      have C2 : w1.cell? ⟨w.heap.size + 1, 2, none⟩ = some (.bool pv2) := cellb hb1 (by simp)
      have C3 : w1.cell? ⟨w.heap.size + 1, 3, none⟩ = some (.slice au ns2.length cu) := cellb hb1 (by simp)
      have z1 : w.heap.size + 2 ≤ w1.heap.size := by have := hb1.size; simp at this; omega
      have r1 : Below w.heap.size w w1 := q1.trans (hb1.mono (by simp; try omega))
      clear q1 hb1
      have b1 : Below w.heap.size w w1 := r1
      clear r1
      have lt1_0 : w.heap.size < w1.heap.size := by omega
      have lt1_1 : w.heap.size + 1 < w1.heap.size := by omega
      rw [if_pos hn0]
      have hge : ¬ ((1048576 - (ns.length : Int)) < 0) := by omega
      go_wp2_with fail
      refine (szParser_calls md2 st2 pv2 ns2.length au cu (1048576 - (ns.length : Int)) (by omega) (by omega) _ hm2).mono ?_
      rintro e w2 ⟨rfl, hb2⟩
      have z2 : w1.heap.size ≤ w2.heap.size := hb2.size
      have r2 := hb2
      clear hb2
      replace A0 := cellb r2 A0
      replace A1 := cellb r2 A1
      replace A2 := cellb r2 A2
      replace A3 := cellb r2 A3
      replace C0 := cellb r2 C0
      replace C1 := cellb r2 C1
      replace C2 := cellb r2 C2
      replace C3 := cellb r2 C3
      have b2 : Below w.heap.size w w2 := b1.trans (r2.mono (by omega))
      clear r2 b1
      clear lt1_0 lt1_1
      have lt2_0 : w.heap.size < w2.heap.size := by omega
      have lt2_1 : w.heap.size + 1 < w2.heap.size := by omega
      rw [if_pos hn0']
      have hge2 : ¬ ((1048576 - (ns.length : Int) - (ns2.length : Int)) < 0) := by omega
      go_wp2_with fail
      have hq0 := hr1.below b2
      have hq1 := hr2.below b2
      have hw0 : Below w2.heap.size w2 w2.drew := Below.drew (Below.refl _ _)
      refine wp_region_held_drew (S := (fun w' => Below w2.heap.size w2 w' ∧ w'.cell? ⟨w.heap.size, 0, none⟩ = some (.int .i64 md) ∧ w'.cell? ⟨w.heap.size, 1, none⟩ = some (.int .i64 st) ∧ w'.cell? ⟨w.heap.size, 2, none⟩ = some (.bool pv) ∧ w'.cell? ⟨w.heap.size, 3, none⟩ = some (.slice av ns.length cv) ∧ w'.cell? ⟨w.heap.size + 1, 0, none⟩ = some (.int .i64 md2) ∧ w'.cell? ⟨w.heap.size + 1, 1, none⟩ = some (.int .i64 st2) ∧ w'.cell? ⟨w.heap.size + 1, 2, none⟩ = some (.bool pv2) ∧ w'.cell? ⟨w.heap.size + 1, 3, none⟩ = some (.slice au ns2.length cu))) (by kernel_rfl) ?_ (fun hHeld => ?_)
      · (try dsimp only); exact ⟨hw0, A0, A1, A2, A3, C0, C1, C2, C3⟩
      refine wpAnyH_take (i := 0) (oi := ⟨_, _, _, _, _, _⟩) (v := ?_) rfl (by kernel_rfl) (by kernel_rfl) (by kernel_rfl) (fun _ _ _ h => h) (Or.inl ⟨by rfl, ?_⟩) hHeld ?_
      rotate_left
      · (intro w hSw; (try dsimp only at hSw); go_simp; try (with_reducible rfl))
      try simp only [Act.put, List.setIfInBounds_toArray, List.set_cons_zero, List.set_cons_succ]
      refine wpAnyH_take (i := 2) (oi := ⟨_, _, _, _, _, _⟩) (v := ?_) rfl (by kernel_rfl) (by kernel_rfl) (by kernel_rfl) (fun _ _ _ h => h) (Or.inl ⟨by rfl, ?_⟩) hHeld ?_
      rotate_left
      · (intro w hSw; (try dsimp only at hSw); go_simp; try (with_reducible rfl))
      try simp only [Act.put, List.setIfInBounds_toArray, List.set_cons_zero, List.set_cons_succ]
      refine wpAnyH_ready (rs := [1]) (by kernel_rfl) (by simp) ?_
      refine AllReadyH.cons (o := ⟨_, _, _, _, _, _⟩) rfl (fun K hK => ?_) AllReadyH.nil
      go_simp
      go_at_call 10
      refine (toParser_calls md st pv ns _ _ hn1 (hq0.below (Below.drew (Below.refl _ _)))).mono ?_
      rintro e u1 ⟨y1, rfl, hy1, hbu1⟩
      replace hbu1 : Below w2.heap.size w2 u1 := hw0.trans hbu1
      replace A0 := cellb hbu1 A0
      replace A1 := cellb hbu1 A1
      replace A2 := cellb hbu1 A2
      replace A3 := cellb hbu1 A3
      replace C0 := cellb hbu1 C0
      replace C1 := cellb hbu1 C1
      replace C2 := cellb hbu1 C2
      replace C3 := cellb hbu1 C3
      replace hq0 := hq0.below hbu1
      replace hq1 := hq1.below hbu1
      have hw1 := hbu1
      have p1 := hy1.read
      obtain ⟨x1, x2, rfl, hyy1⟩ := hy1
      clear hyy1
      try go_wp2_with fail
      refine hK.out _ _ ?_ ?_
      · (try dsimp only); exact ⟨hw1, A0, A1, A2, A3, C0, C1, C2, C3⟩
      clear hHeld hK K
      intro hHeld
      try simp only [Act.put, List.setIfInBounds_toArray, List.set_cons_zero, List.set_cons_succ]
      refine wpAnyH_ready (rs := [3]) (by kernel_rfl) (by simp) ?_
      refine AllReadyH.cons (o := ⟨_, _, _, _, _, _⟩) rfl (fun K hK => ?_) AllReadyH.nil
      go_simp
      go_at_call 10
      refine (toParser_calls md2 st2 pv2 ns2 _ _ hn2 hq1).mono ?_
      rintro e u2 ⟨y2, rfl, hy2, hbu2⟩
      replace A0 := cellb hbu2 A0
      replace A1 := cellb hbu2 A1
      replace A2 := cellb hbu2 A2
      replace A3 := cellb hbu2 A3
      replace C0 := cellb hbu2 C0
      replace C1 := cellb hbu2 C1
      replace C2 := cellb hbu2 C2
      replace C3 := cellb hbu2 C3
      replace hq0 := hq0.below hbu2
      replace hq1 := hq1.below hbu2
      have hw2 := hw1.trans (hbu2.mono hw1.size)
      replace p1 := p1.below hbu2
      have p2 := hy2.read
      obtain ⟨x3, x4, rfl, hyy2⟩ := hy2
      clear hyy2
      try go_wp2_with fail
      refine hK.out _ _ ?_ ?_
      · (try dsimp only); exact ⟨hw2, A0, A1, A2, A3, C0, C1, C2, C3⟩
      clear hHeld hK K
      intro hHeld
      try simp only [Act.put, List.setIfInBounds_toArray, List.set_cons_zero, List.set_cons_succ]
      refine wpAnyH_ready (rs := [4]) (by kernel_rfl) (by simp) ?_
      refine AllReadyH.cons (o := ⟨_, _, _, _, _, _⟩) rfl (fun K hK => ?_) AllReadyH.nil
      go_simp
      go_at_call 32
      refine (specSameParsers_calls md st pv ns md2 st2 pv2 ns2 _ _ _ (by omega) (by omega) p1 p2).mono ?_
      rintro e w3 ⟨rfl, hbu3⟩
      replace A0 := cellb hbu3 A0
      replace A1 := cellb hbu3 A1
      replace A2 := cellb hbu3 A2
      replace A3 := cellb hbu3 A3
      replace C0 := cellb hbu3 C0
      replace C1 := cellb hbu3 C1
      replace C2 := cellb hbu3 C2
      replace C3 := cellb hbu3 C3
      replace hq0 := hq0.below hbu3
      replace hq1 := hq1.below hbu3
      have hw3 := hw2.trans (hbu3.mono hw2.size)
      try go_wp2_with fail
      refine hK.out _ _ ?_ ?_
      · (try dsimp only); exact ⟨hw3, A0, A1, A2, A3, C0, C1, C2, C3⟩
      clear hHeld hK K
      intro hHeld
      try simp only [Act.put, List.setIfInBounds_toArray, List.set_cons_zero, List.set_cons_succ]
      refine wpAnyH_take (i := 5) (oi := ⟨_, _, _, _, _, _⟩) (v := ?_) rfl (by kernel_rfl) (by kernel_rfl) (by kernel_rfl) (fun _ _ _ h => h) (Or.inl ⟨by rfl, ?_⟩) hHeld ?_
      rotate_left
      · (intro w hSw; (try dsimp only at hSw); go_simp; try (with_reducible rfl))
      try simp only [Act.put, List.setIfInBounds_toArray, List.set_cons_zero, List.set_cons_succ]
      refine wpAnyH_done (by kernel_rfl) ?_ _
      have z3 : w2.heap.size ≤ w3.heap.size := hw3.size
      have b3 : Below w.heap.size w w3 := b2.trans (hw3.mono (by omega))
      clear hHeld hw0 hw1 hw2 hw3 hbu1 hbu2 hbu3 p1 p2 hq0 hq1 b2
      clear lt2_0 lt2_1
      have lt3_0 : w.heap.size < w3.heap.size := by omega
      have lt3_1 : w.heap.size + 1 < w3.heap.size := by omega
      go_wp2_with fail
      refine (toParser_calls md st pv ns _ _ hn1 ((hr1.below b3))).mono ?_
      rintro e w4 ⟨xp, rfl, hp, hb4⟩
      have z4 : w3.heap.size ≤ w4.heap.size := hb4.size
      have r4 := hb4
      clear hb4
      replace A0 := cellb r4 A0
      replace A1 := cellb r4 A1
      replace A2 := cellb r4 A2
      replace A3 := cellb r4 A3
      replace C0 := cellb r4 C0
      replace C1 := cellb r4 C1
      replace C2 := cellb r4 C2
      replace C3 := cellb r4 C3
      have b4 : Below w.heap.size w w4 := b3.trans (r4.mono (by omega))
      clear r4 b3
      clear lt3_0 lt3_1
      have lt4_0 : w.heap.size < w4.heap.size := by omega
      have lt4_1 : w.heap.size + 1 < w4.heap.size := by omega
      obtain ⟨ap, cp, rfl, hp'⟩ := hp
      have hp : IntsAt .i64 w3.heap.size w4.heap.size w4 (.slice ap ns.length cp) ns := ⟨ap, cp, rfl, hp'⟩
      clear hp'
      go_wp2_with fail
      have q5 : Below w4.heap.size w4 (w4.alloc (.cells #[.int .i64 md, .int .i64 st, .bool pv, .slice ap ns.length cp] 27)) := (by repeat' (first | with_reducible exact Below.refl _ _ | with_reducible assumption | with_reducible refine Below.drew ?_ | with_reducible refine Below.alloc ?_ ?_ _ | with_reducible refine Below.setCell ?_ ?_ _ | (simp; done) | (simp; omega) | omega))
      refine (toParser_calls md2 st2 pv2 ns2 _ _ hn2 ((hr2.below b4).below q5)).mono ?_
      rintro e w5 ⟨xq, rfl, hq, hb5⟩
      have X0 : w5.cell? ⟨w4.heap.size, 0, none⟩ = some (.int .i64 md) := cellb hb5 (by simp)
      have X1 : w5.cell? ⟨w4.heap.size, 1, none⟩ = some (.int .i64 st) := cellb hb5 (by simp)
      have X2 : w5.cell? ⟨w4.heap.size, 2, none⟩ = some (.bool pv) := cellb hb5 (by simp)
      have X3 : w5.cell? ⟨w4.heap.size, 3, none⟩ = some (.slice ap ns.length cp) := cellb hb5 (by simp)
      have z5 : w4.heap.size + 1 ≤ w5.heap.size := by have := hb5.size; simp at this; omega
      have r5 : Below w4.heap.size w4 w5 := q5.trans (hb5.mono (by simp; try omega))
      clear q5 hb5
      replace A0 := cellb r5 A0
      replace A1 := cellb r5 A1
      replace A2 := cellb r5 A2
      replace A3 := cellb r5 A3
      replace C0 := cellb r5 C0
      replace C1 := cellb r5 C1
      replace C2 := cellb r5 C2
      replace C3 := cellb r5 C3
      replace hp := hp.below r5 (by omega)
      have b5 : Below w.heap.size w w5 := b4.trans (r5.mono (by omega))
      clear r5 b4
      clear lt4_0 lt4_1
      have lt5_0 : w.heap.size < w5.heap.size := by omega
      have lt5_1 : w.heap.size + 1 < w5.heap.size := by omega
      have lt5_2 : w4.heap.size < w5.heap.size := by omega
      replace hq := hq.mono (lo' := (w4.heap.size + 1)) (by simp) (Nat.le_refl _)
      obtain ⟨aq, cq, rfl, hq'⟩ := hq
      have hq : IntsAt .i64 (w4.heap.size + 1) w5.heap.size w5 (.slice aq ns2.length cq) ns2 := ⟨aq, cq, rfl, hq'⟩
      clear hq'
      go_wp2_with fail
      have q6 : Below w5.heap.size w5 (w5.alloc (.cells #[.int .i64 md2, .int .i64 st2, .bool pv2, .slice aq ns2.length cq] 27)) := (by repeat' (first | with_reducible exact Below.refl _ _ | with_reducible assumption | with_reducible refine Below.drew ?_ | with_reducible refine Below.alloc ?_ ?_ _ | with_reducible refine Below.setCell ?_ ?_ _ | (simp; done) | (simp; omega) | omega))
      refine (implSameParsers_calls md st pv ns md2 st2 pv2 ns2 _ _ _ (by omega) (by omega) (hp.read.below q6) (hq.read.below q6)).mono ?_
      rintro e w6 ⟨rfl, hb6⟩
      have Y0 : w6.cell? ⟨w5.heap.size, 0, none⟩ = some (.int .i64 md2) := cellb hb6 (by simp)
      have Y1 : w6.cell? ⟨w5.heap.size, 1, none⟩ = some (.int .i64 st2) := cellb hb6 (by simp)
      have Y2 : w6.cell? ⟨w5.heap.size, 2, none⟩ = some (.bool pv2) := cellb hb6 (by simp)
      have Y3 : w6.cell? ⟨w5.heap.size, 3, none⟩ = some (.slice aq ns2.length cq) := cellb hb6 (by simp)
      have z6 : w5.heap.size + 1 ≤ w6.heap.size := by have := hb6.size; simp at this; omega
      have r6 : Below w5.heap.size w5 w6 := q6.trans (hb6.mono (by simp; try omega))
      clear q6 hb6
      replace A0 := cellb r6 A0
      replace A1 := cellb r6 A1
      replace A2 := cellb r6 A2
      replace A3 := cellb r6 A3
      replace C0 := cellb r6 C0
      replace C1 := cellb r6 C1
      replace C2 := cellb r6 C2
      replace C3 := cellb r6 C3
      replace X0 := cellb r6 X0
      replace X1 := cellb r6 X1
      replace X2 := cellb r6 X2
      replace X3 := cellb r6 X3
      replace hp := hp.below r6 (by omega)
      replace hq := hq.below r6 (by omega)
      have b6 : Below w.heap.size w w6 := b5.trans (r6.mono (by omega))
      clear r6 b5
      clear lt5_0 lt5_1 lt5_2
      have lt6_0 : w.heap.size < w6.heap.size := by omega
      have lt6_1 : w.heap.size + 1 < w6.heap.size := by omega
      have lt6_2 : w4.heap.size < w6.heap.size := by omega
      have lt6_3 : w5.heap.size < w6.heap.size := by omega
      generalize samePB md st pv ns md2 st2 pv2 ns2 = ans at *
      have hne : (ans != ans) = false := by simp
      go_wp2_with fail
      have hq0 := hr1.below b6
      have hKG : KeepParser w6 (w.heap.size) (w4.heap.size) md st pv (.slice av ns.length cv) (.slice ap ns.length cp) ns w6.drew := ⟨Below.drew (Below.refl _ w6), A0, A1, A2, A3, X0, X1, X2, X3, hq0, hp.read⟩
      refine wp_region_held_drew (S := (fun w' => KeepParser w6 (w.heap.size) (w4.heap.size) md st pv (.slice av ns.length cv) (.slice ap ns.length cp) ns w')) (by kernel_rfl) ?_ (fun hHeld => ?_)
      · (try dsimp only); exact hKG
      refine wpAnyH_take (i := 0) (oi := ⟨_, _, _, _, _, _⟩) (v := ?_) rfl (by kernel_rfl) (by kernel_rfl) (by kernel_rfl) (fun _ _ _ h => h) (Or.inl ⟨by rfl, ?_⟩) hHeld ?_
      rotate_left
      · (intro w hSw; (try dsimp only at hSw); have s0 := hSw.a0; have s1 := hSw.a1; have s2 := hSw.a2; have s3 := hSw.a3; have t0 := hSw.c0; have t1 := hSw.c1; have t2 := hSw.c2; have t3 := hSw.c3; clear hSw; go_simp; try (with_reducible rfl))
      try simp only [Act.put, List.setIfInBounds_toArray, List.set_cons_zero, List.set_cons_succ]
      refine wpAnyH_take (i := 1) (oi := ⟨_, _, _, _, _, _⟩) (v := ?_) rfl (by kernel_rfl) (by kernel_rfl) (by kernel_rfl) (fun _ _ _ h => h) (Or.inl ⟨by rfl, ?_⟩) hHeld ?_
      rotate_left
      · (intro w hSw; (try dsimp only at hSw); have s0 := hSw.a0; have s1 := hSw.a1; have s2 := hSw.a2; have s3 := hSw.a3; have t0 := hSw.c0; have t1 := hSw.c1; have t2 := hSw.c2; have t3 := hSw.c3; clear hSw; go_simp; try (with_reducible rfl))
      try simp only [Act.put, List.setIfInBounds_toArray, List.set_cons_zero, List.set_cons_succ]
      refine wpAnyH_ready (rs := [2]) (by kernel_rfl) (by simp) ?_
      refine AllReadyH.cons (o := ⟨_, _, _, _, _, _⟩) rfl (fun K hK => ?_) AllReadyH.nil
      go_simp
      go_at_call 10
      refine (toParser_calls md st pv ns _ _ hn1 hHeld.r1).mono ?_
      rintro e v7 ⟨y7, rfl, hy7, hbv7⟩
      have hry7 := hy7.read
      obtain ⟨ay7, cy7, rfl, hyy7⟩ := hy7
      clear hyy7
      try go_wp2_with fail
      refine hK.out _ _ ?_ ?_
      · (try dsimp only); exact hHeld.next hbv7
      clear hHeld hK K
      intro hHeld
      try simp only [Act.put, List.setIfInBounds_toArray, List.set_cons_zero, List.set_cons_succ]
      refine wpAnyH_ready (rs := [3]) (by kernel_rfl) (by simp) ?_
      refine AllReadyH.cons (o := ⟨_, _, _, _, _, _⟩) rfl (fun K hK => ?_) AllReadyH.nil
      go_simp
      go_at_call 12
      refine (eqParser_calls md st pv ns _ _ _ (by omega) hHeld.r2 hry7).mono ?_
      rintro e w7 ⟨rfl, hbu7⟩
      try go_wp2_with fail
      refine hK.out _ _ ?_ ?_
      · (try dsimp only); exact hHeld.next hbu7
      clear hHeld hK K
      intro hHeld
      try simp only [Act.put, List.setIfInBounds_toArray, List.set_cons_zero, List.set_cons_succ]
      refine wpAnyH_take (i := 4) (oi := ⟨_, _, _, _, _, _⟩) (v := ?_) rfl (by kernel_rfl) (by kernel_rfl) (by kernel_rfl) (fun _ _ _ h => h) (Or.inl ⟨by rfl, ?_⟩) hHeld ?_
      rotate_left
      · (intro w hSw; (try dsimp only at hSw); have s0 := hSw.a0; have s1 := hSw.a1; have s2 := hSw.a2; have s3 := hSw.a3; have t0 := hSw.c0; have t1 := hSw.c1; have t2 := hSw.c2; have t3 := hSw.c3; clear hSw; go_simp; try (with_reducible rfl))
      try simp only [Act.put, List.setIfInBounds_toArray, List.set_cons_zero, List.set_cons_succ]
      refine wpAnyH_done (by kernel_rfl) ?_ _
      have r7 := hHeld.bel
      clear hHeld hry7 hbv7 hbu7 hKG hq0
      have z7 : w6.heap.size ≤ w7.heap.size := r7.size
      replace A0 := cellb r7 A0
      replace A1 := cellb r7 A1
      replace A2 := cellb r7 A2
      replace A3 := cellb r7 A3
      replace C0 := cellb r7 C0
      replace C1 := cellb r7 C1
      replace C2 := cellb r7 C2
      replace C3 := cellb r7 C3
      replace X0 := cellb r7 X0
      replace X1 := cellb r7 X1
      replace X2 := cellb r7 X2
      replace X3 := cellb r7 X3
      replace Y0 := cellb r7 Y0
      replace Y1 := cellb r7 Y1
      replace Y2 := cellb r7 Y2
      replace Y3 := cellb r7 Y3
      replace hp := hp.below r7 (by omega)
      replace hq := hq.below r7 (by omega)
      have b7 : Below w.heap.size w w7 := b6.trans (r7.mono (by omega))
      clear r7 b6
      clear lt6_0 lt6_1 lt6_2 lt6_3
      have lt7_0 : w.heap.size < w7.heap.size := by omega
      have lt7_1 : w.heap.size + 1 < w7.heap.size := by omega
      have lt7_2 : w4.heap.size < w7.heap.size := by omega
      have lt7_3 : w5.heap.size < w7.heap.size := by omega
      go_wp2_with fail
      have hq0 := hr2.below b7
      have hKG : KeepParser w7 (w.heap.size + 1) (w5.heap.size) md2 st2 pv2 (.slice au ns2.length cu) (.slice aq ns2.length cq) ns2 w7.drew := ⟨Below.drew (Below.refl _ w7), C0, C1, C2, C3, Y0, Y1, Y2, Y3, hq0, hq.read⟩
      refine wp_region_held_drew (S := (fun w' => KeepParser w7 (w.heap.size + 1) (w5.heap.size) md2 st2 pv2 (.slice au ns2.length cu) (.slice aq ns2.length cq) ns2 w')) (by kernel_rfl) ?_ (fun hHeld => ?_)
      · (try dsimp only); exact hKG
      refine wpAnyH_take (i := 0) (oi := ⟨_, _, _, _, _, _⟩) (v := ?_) rfl (by kernel_rfl) (by kernel_rfl) (by kernel_rfl) (fun _ _ _ h => h) (Or.inl ⟨by rfl, ?_⟩) hHeld ?_
      rotate_left
      · (intro w hSw; (try dsimp only at hSw); have s0 := hSw.a0; have s1 := hSw.a1; have s2 := hSw.a2; have s3 := hSw.a3; have t0 := hSw.c0; have t1 := hSw.c1; have t2 := hSw.c2; have t3 := hSw.c3; clear hSw; go_simp; try (with_reducible rfl))
      try simp only [Act.put, List.setIfInBounds_toArray, List.set_cons_zero, List.set_cons_succ]
      refine wpAnyH_take (i := 1) (oi := ⟨_, _, _, _, _, _⟩) (v := ?_) rfl (by kernel_rfl) (by kernel_rfl) (by kernel_rfl) (fun _ _ _ h => h) (Or.inl ⟨by rfl, ?_⟩) hHeld ?_
      rotate_left
      · (intro w hSw; (try dsimp only at hSw); have s0 := hSw.a0; have s1 := hSw.a1; have s2 := hSw.a2; have s3 := hSw.a3; have t0 := hSw.c0; have t1 := hSw.c1; have t2 := hSw.c2; have t3 := hSw.c3; clear hSw; go_simp; try (with_reducible rfl))
      try simp only [Act.put, List.setIfInBounds_toArray, List.set_cons_zero, List.set_cons_succ]
      refine wpAnyH_ready (rs := [2]) (by kernel_rfl) (by simp) ?_
      refine AllReadyH.cons (o := ⟨_, _, _, _, _, _⟩) rfl (fun K hK => ?_) AllReadyH.nil
      go_simp
      go_at_call 10
      refine (toParser_calls md2 st2 pv2 ns2 _ _ hn2 hHeld.r1).mono ?_
      rintro e v8 ⟨y8, rfl, hy8, hbv8⟩
      have hry8 := hy8.read
      obtain ⟨ay8, cy8, rfl, hyy8⟩ := hy8
      clear hyy8
      try go_wp2_with fail
      refine hK.out _ _ ?_ ?_
      · (try dsimp only); exact hHeld.next hbv8
      clear hHeld hK K
      intro hHeld
      try simp only [Act.put, List.setIfInBounds_toArray, List.set_cons_zero, List.set_cons_succ]
      refine wpAnyH_ready (rs := [3]) (by kernel_rfl) (by simp) ?_
      refine AllReadyH.cons (o := ⟨_, _, _, _, _, _⟩) rfl (fun K hK => ?_) AllReadyH.nil
      go_simp
      go_at_call 12
      refine (eqParser_calls md2 st2 pv2 ns2 _ _ _ (by omega) hHeld.r2 hry8).mono ?_
      rintro e w8 ⟨rfl, hbu8⟩
      try go_wp2_with fail
      refine hK.out _ _ ?_ ?_
      · (try dsimp only); exact hHeld.next hbu8
      clear hHeld hK K
      intro hHeld
      try simp only [Act.put, List.setIfInBounds_toArray, List.set_cons_zero, List.set_cons_succ]
      refine wpAnyH_take (i := 4) (oi := ⟨_, _, _, _, _, _⟩) (v := ?_) rfl (by kernel_rfl) (by kernel_rfl) (by kernel_rfl) (fun _ _ _ h => h) (Or.inl ⟨by rfl, ?_⟩) hHeld ?_
      rotate_left
      · (intro w hSw; (try dsimp only at hSw); have s0 := hSw.a0; have s1 := hSw.a1; have s2 := hSw.a2; have s3 := hSw.a3; have t0 := hSw.c0; have t1 := hSw.c1; have t2 := hSw.c2; have t3 := hSw.c3; clear hSw; go_simp; try (with_reducible rfl))
      try simp only [Act.put, List.setIfInBounds_toArray, List.set_cons_zero, List.set_cons_succ]
      refine wpAnyH_done (by kernel_rfl) ?_ _
      have r8 := hHeld.bel
      clear hHeld hry8 hbv8 hbu8 hKG hq0
      have z8 : w7.heap.size ≤ w8.heap.size := r8.size
      replace A0 := cellb r8 A0
      replace A1 := cellb r8 A1
      replace A2 := cellb r8 A2
      replace A3 := cellb r8 A3
      replace C0 := cellb r8 C0
      replace C1 := cellb r8 C1
      replace C2 := cellb r8 C2
      replace C3 := cellb r8 C3
      replace X0 := cellb r8 X0
      replace X1 := cellb r8 X1
      replace X2 := cellb r8 X2
      replace X3 := cellb r8 X3
      replace Y0 := cellb r8 Y0
      replace Y1 := cellb r8 Y1
      replace Y2 := cellb r8 Y2
      replace Y3 := cellb r8 Y3
      replace hp := hp.below r8 (by omega)
      replace hq := hq.below r8 (by omega)
      have b8 : Below w.heap.size w w8 := b7.trans (r8.mono (by omega))
      clear r8 b7
      clear lt7_0 lt7_1 lt7_2 lt7_3
      have lt8_0 : w.heap.size < w8.heap.size := by omega
      have lt8_1 : w.heap.size + 1 < w8.heap.size := by omega
      have lt8_2 : w4.heap.size < w8.heap.size := by omega
      have lt8_3 : w5.heap.size < w8.heap.size := by omega
      go_wp2
      go_ret
      exact ⟨rfl, b8⟩
    · go_enter Try.func7, Try.ntmps7
      go_wp2_with fail
      refine (szParser_calls md st pv ns.length av cv 1048576 (by omega) (by omega) _ hm1).mono ?_
      rintro e w1 ⟨rfl, hb1⟩
      have C0 : w1.cell? ⟨w.heap.size + 1, 0, none⟩ = some (.int .i64 md2) := cellb hb1 (by simp)
      have C1 : w1.cell? ⟨w.heap.size + 1, 1, none⟩ = some (.int .i64 st2) := cellb hb1 (by simp)
      have C2 : w1.cell? ⟨w.heap.size + 1, 2, none⟩ = some (.bool pv2) := cellb hb1 (by simp)
      have C3 : w1.cell? ⟨w.heap.size + 1, 3, none⟩ = some (.slice au ns2.length cu) := cellb hb1 (by simp)
      have b1 : Below w.heap.size w w1 := (show Below w.heap.size w _ from (by repeat' (first | with_reducible exact Below.refl _ _ | with_reducible assumption | with_reducible refine Below.drew ?_ | with_reducible refine Below.alloc ?_ ?_ _ | with_reducible refine Below.setCell ?_ ?_ _ | (simp; done) | (simp; omega) | omega))).trans (hb1.mono (by simp; try omega))
      rw [if_pos (by omega)]
      have hge : ¬ ((1048576 - (ns.length : Int)) < 0) := by omega
      go_wp2_with fail
      refine (szParser_calls md2 st2 pv2 ns2.length au cu (1048576 - (ns.length : Int)) (by omega) (by omega) _ hm2).mono ?_
      rintro e w2 ⟨rfl, hb2⟩
      rw [if_neg (by omega)]
      go_wp2
      go_ret
      exact ⟨rfl, b1.trans (hb2.mono b1.size)⟩
  · go_enter Try.func7, Try.ntmps7
    go_wp2_with fail
    refine (szParser_calls md st pv ns.length av cv 1048576 (by omega) (by omega) _ hm1).mono ?_
    rintro e w1 ⟨rfl, hb1⟩
    rw [if_neg (by omega)]
    go_wp2
    go_ret
    exact ⟨rfl, (show Below w.heap.size w _ from (by repeat' (first | with_reducible exact Below.refl _ _ | with_reducible assumption | with_reducible refine Below.drew ?_ | with_reducible refine Below.alloc ?_ ?_ _ | with_reducible refine Below.setCell ?_ ?_ _ | (simp; done) | (simp; omega) | omega))).trans (hb1.mono (by simp; try omega))⟩

theorem lawSP_laid : laidOutB Try.prog = true := by kernel_rfl
theorem lawSP_own : ownKnob Try.prog.godebug = none := by kernel_rfl
set_option maxRecDepth 100000 in
theorem lawSP_lifted (os : Os) (started : os.Started) (H : Type) (enc : TypeId × Value → H) :
    ReturnsInHanded {} Try.checked os 7 .any (Rows.fnExactSameParsersSpec.pre6 enc Try.prog Try.f7 Rows.fnExactSameParsersRow.domain false) (Rows.fnExactSameParsersSpec.post enc Try.prog Try.f7 false true false false) := by
  refine returnsInHanded_of_change (C := Try.checked) lawSP_own started (by kernel_rfl) Try.func7
    (ChangeSpec.witness6 (enc := enc) (C := Try.checked) false ⟨#[], #[.agg #[.int .i64 0, .int .i64 0, .bool false, .slice none 0 0], .agg #[.int .i64 0, .int .i64 0, .bool false, .slice none 0 0]], []⟩ 8 (by kernel_rfl) (by kernel_rfl) (by kernel_rfl) (by kernel_rfl)) ?_
  intro W base args ds gs before hval0 hW hcnd _
  have hval : ∀ (j : Nat) t v, Try.f7.params[j]? = some t → args[j]? = some v → Value.okWide Try.prog W .any base t v := hval0
  have hW' := hW
  obtain ⟨p, q, hA0, hV, rfl, hfz, hnd⟩ := hW
  have hA : DataW.TrodAll enc Try.prog W 0 (fun _ => true) true Try.f7.params.toList args.toList ds p := hA0
  rw [Try.params7] at hA hval
  obtain ⟨v0, v1, d0, d1, p0, p1, rfl, rfl, rfl, h0, h1⟩ := trodAll_two hA
  obtain ⟨rfl, rfl⟩ := trodVars_none hV
  have k0 := h0
  have lt0 : ∀ x ∈ p0, x.block < W.heap.size := by obtain ⟨m, hm⟩ := k0; exact DataW.trod_lt m _ _ _ hm
  have k1 := h1
  have lt1 : ∀ x ∈ p1, x.block < W.heap.size := by obtain ⟨m, hm⟩ := k1; exact DataW.trod_lt m _ _ _ hm
  obtain ⟨md, st, pv, x, ns, rfl, hx, hm1⟩ := open_parser (hval 0 24 v0 rfl rfl) h0
  obtain ⟨md2, st2, pv2, x2, ns2, rfl, hx2, hm2⟩ := open_parser (hval 1 24 v1 rfl rfl) h1
  clear hA0 hval0

  refine (lawSP_walk md st pv x ns md2 st2 pv2 x2 ns2 W hx hx2 hm1 hm2).mono fun e W' ⟨he, bel⟩ => ?_
  subst he
  exact ⟨_, rfl, _, _, _, [], _, [], hW', trodAll_mk1 (shut_bool Try.underlying4 _), trodAll_mk2 (Below.trod lawSP_laid (by kernel_rfl) (of_decide_eq_true (by kernel_rfl)) k0 bel lt0) (Below.trod lawSP_laid (by kernel_rfl) (of_decide_eq_true (by kernel_rfl)) k1 bel lt1), rfl, bel.frame _, fun h => by cases h⟩

theorem lawSP_over : Rows.fnExactSameParsersRow.holds Try.pinned (OpenSpec.ofChange Rows.fnExactSameParsersSpec) :=
  OpenClaim.holds_of_wide 7 Try.f7 rfl rfl rfl rfl rfl rfl rfl ⟨rfl, rfl, rfl, rfl, rfl⟩ rfl rfl rfl rfl rfl (by kernel_rfl) Try.func7 (by kernel_rfl)
    (of_decide_eq_true (by kernel_rfl)) (by unfold Func.isWrapper; first | (rw [if_pos (by decide +kernel)]; kernel_rfl) | (rw [if_neg (by decide +kernel)]; exact ⟨rfl, rfl⟩))
    (fun os started H enc _ => lawSP_lifted os started H enc)

theorem lawSP_proved : Rows.FnExactSameParsersSaid := lawSP_over
#print axioms lawSP_proved
end Go.Proofs.Ytaljegjflkebcaa
