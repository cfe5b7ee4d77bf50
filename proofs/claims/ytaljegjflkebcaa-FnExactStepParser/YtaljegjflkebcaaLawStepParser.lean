/-
  For every parser and every number the law FnExactStepParser returns true: impl.StepParser answers at each parser and character what the model's StepParser answers, turns no argument, and its answer's lists are its own. No condition (the law itself passes parsers of more than 1048576 numbers by).
-/
import Derived.Test.YtaljegjflkebcaaRows
import Derived.Test.YtaljegjflkebcaaStepTop
import Derived.Test.YtaljegjflkebcaaParFns
import Derived.Test.YtaljegjflkebcaaParOpen
import Derived.Deep.RegionHeld
import Derived.ShutString
import Derived.ChangeOld
import Derived.Lib.SmallJoins
namespace Go.Proofs.Ytaljegjflkebcaa
open Go.ChangeShapes Go.WideShapes Go.ChangeAt Go.RowKit Go.Joins
set_option linter.unusedVariables false
set_option linter.unusedSimpArgs false

/-- Two boxes and their lists, as a region keeps them. -/
structure KeepParser (W : World) (b c : Nat) (md st : Int) (pv : Bool) (u v : Value) (ns : List Int) (w1 : World) : Prop where
  bel : Below W.heap.size W w1
  a0 : w1.cell? ⟨b, 0, none⟩ = some (.int .i64 md)
  a1 : w1.cell? ⟨b, 1, none⟩ = some (.int .i64 st)
  a2 : w1.cell? ⟨b, 2, none⟩ = some (.bool pv)
  a3 : w1.cell? ⟨b, 3, none⟩ = some (u)
  c0 : w1.cell? ⟨c, 0, none⟩ = some (.int .i64 md)
  c1 : w1.cell? ⟨c, 1, none⟩ = some (.int .i64 st)
  c2 : w1.cell? ⟨c, 2, none⟩ = some (.bool pv)
  c3 : w1.cell? ⟨c, 3, none⟩ = some (v)
  r1 : ReadAt .i64 w1 u ns
  r2 : ReadAt .i64 w1 v ns
theorem KeepParser.next {W : World} {b c : Nat} {md st : Int} {pv : Bool} {u v : Value} {ns : List Int} {w1 w2 : World} (h : KeepParser W b c md st pv u v ns w1) (hb : Below w1.heap.size w1 w2) : KeepParser W b c md st pv u v ns w2 :=
  ⟨h.bel.trans (hb.mono h.bel.size), cellb hb h.a0, cellb hb h.a1, cellb hb h.a2, cellb hb h.a3, cellb hb h.c0, cellb hb h.c1, cellb hb h.c2, cellb hb h.c3, h.r1.below hb, h.r2.below hb⟩

theorem stepPA_len (p : Par) (c : Int) : (stepPA p c).1.ns.length ≤ p.ns.length + 1 ∧ (stepPA p c).2.ns.length ≤ p.ns.length := by
  unfold stepPA paramP digitL Par.zero Axn.zero
  repeat' split
  all_goals simp
theorem stepRes_len (p : Par) (c : Int) : (stepRes p c).2.1.ns.length ≤ 7 ∧ (stepRes p c).2.2.ns.length ≤ 7 := by
  unfold stepRes
  split
  · rename_i h
    have h1 := par_len h
    have h2 := stepPA_len p c
    split
    · dsimp only; omega
    · simp [Par.zero, Axn.zero]
  · simp [Par.zero, Axn.zero]
set_option maxRecDepth 20000 in
set_option maxHeartbeats 4000000 in
theorem lawST_walk (md st : Int) (pv : Bool) (v : Value) (ns : List Int) (c : Int) (w : World) (hr : ReadAt .i64 w v ns) (hm : ns.length ≤ maxLen) :
    Calls Try.prog 4 #[.agg #[.int .i64 md, .int .i64 st, .bool pv, v], .int .i64 c] w fun e w' => e = .returned (.bool true) ∧ Below w.heap.size w w' := by
  have hr' := hr
  obtain ⟨av, cv, rfl, _⟩ := hr'
  by_cases hn0 : (ns.length : Int) ≤ 1048576
  · have hn : ns.length ≤ 1048576 := by omega
    have hlen := stepRes_len ⟨md, st, pv, ns⟩ c
    generalize hX : stepRes ⟨md, st, pv, ns⟩ c = X at *
    obtain ⟨code, ⟨md', st', pv', ns'⟩, ⟨kd, ch, st2, pv2, al⟩⟩ := X
    have HX := hide hX
    clear hX
    have hl1 : ns'.length ≤ 7 := hlen.1
    have hl2 : al.length ≤ 7 := hlen.2
    clear hlen
    go_enter Try.func4, Try.ntmps4
    go_wp2_with fail
    have q1 : Below w.heap.size w (w.alloc (.cells #[.int .i64 md, .int .i64 st, .bool pv, .slice av ns.length cv] 24)) := (by repeat' (first | with_reducible exact Below.refl _ _ | with_reducible assumption | with_reducible refine Below.drew ?_ | with_reducible refine Below.alloc ?_ ?_ _ | with_reducible refine Below.setCell ?_ ?_ _ | (simp; done) | (simp; omega) | omega))
    refine (szParser_calls md st pv ns.length av cv 1048576 (by omega) (by omega) _ hm).mono ?_
    rintro e w1 ⟨rfl, hb1⟩
    have A0 : w1.cell? ⟨w.heap.size, 0, none⟩ = some (.int .i64 md) := cellb hb1 (by simp)
    have A1 : w1.cell? ⟨w.heap.size, 1, none⟩ = some (.int .i64 st) := cellb hb1 (by simp)
    have A2 : w1.cell? ⟨w.heap.size, 2, none⟩ = some (.bool pv) := cellb hb1 (by simp)
    have A3 : w1.cell? ⟨w.heap.size, 3, none⟩ = some (.slice av ns.length cv) := cellb hb1 (by simp)
    have z1 : w.heap.size + 1 ≤ w1.heap.size := by have := hb1.size; simp at this; omega
    have r1 : Below w.heap.size w w1 := q1.trans (hb1.mono (by simp; try omega))
    clear q1 hb1
    have b1 : Below w.heap.size w w1 := r1
    clear r1
    have lt1_0 : w.heap.size < w1.heap.size := by omega
    rw [if_pos hn0]
    have hge : ¬ ((1048576 - (ns.length : Int)) < 0) := by omega
    go_wp2_with fail
    refine (toParser_calls md st pv ns _ _ hn ((hr.below b1))).mono ?_
    rintro e w2 ⟨xp, rfl, hp, hb2⟩
    have z2 : w1.heap.size ≤ w2.heap.size := hb2.size
    have r2 := hb2
    clear hb2
    replace A0 := cellb r2 A0
    replace A1 := cellb r2 A1
    replace A2 := cellb r2 A2
    replace A3 := cellb r2 A3
    have b2 : Below w.heap.size w w2 := b1.trans (r2.mono (by omega))
    clear r2 b1
    clear lt1_0
    have lt2_0 : w.heap.size < w2.heap.size := by omega
    obtain ⟨ap, cp, rfl, hp'⟩ := hp
    have hp : IntsAt .i64 w1.heap.size w2.heap.size w2 (.slice ap ns.length cp) ns := ⟨ap, cp, rfl, hp'⟩
    clear hp'
    go_wp2_with fail
    refine (specStepParser_calls md st pv ns c _ _ (by unfold maxLen; omega) hp.read).mono ?_
    rintro e w3 ⟨xj, yj, rfl, hj, hb3⟩
    have z3 : w2.heap.size ≤ w3.heap.size := hb3.size
    have r3 := hb3
    clear hb3
    replace A0 := cellb r3 A0
    replace A1 := cellb r3 A1
    replace A2 := cellb r3 A2
    replace A3 := cellb r3 A3
    replace hp := hp.below r3 (by omega)
    have b3 : Below w.heap.size w w3 := b2.trans (r3.mono (by omega))
    clear r3 b2
    clear lt2_0
    have lt3_0 : w.heap.size < w3.heap.size := by omega
    rw [HX.out] at hj ⊢
    unfold resV
    dsimp only at hj ⊢
    obtain ⟨aj, cj, dj, ej, rfl, rfl⟩ := hj.forms
    clear hp
    go_wp2_with fail
    have q4 : Below w3.heap.size w3 (w3.alloc (.cells #[.int .i64 code, .int .i64 kd, .int .i64 ch, .int .i64 st2, .bool pv2, .slice aj al.length cj, .int .i64 md', .int .i64 st', .bool pv', .slice dj ns'.length ej] 34)) := (by repeat' (first | with_reducible exact Below.refl _ _ | with_reducible assumption | with_reducible refine Below.drew ?_ | with_reducible refine Below.alloc ?_ ?_ _ | with_reducible refine Below.setCell ?_ ?_ _ | (simp; done) | (simp; omega) | omega))
    refine (toParser_calls md st pv ns _ _ hn ((hr.below b3).below q4)).mono ?_
    rintro e w4 ⟨xq, rfl, hq, hb4⟩
    have B0 : w4.cell? ⟨w3.heap.size, 0, none⟩ = some (.int .i64 code) := cellb hb4 (by simp)
    have B1 : w4.cell? ⟨w3.heap.size, 1, none⟩ = some (.int .i64 kd) := cellb hb4 (by simp)
    have B2 : w4.cell? ⟨w3.heap.size, 2, none⟩ = some (.int .i64 ch) := cellb hb4 (by simp)
    have B3 : w4.cell? ⟨w3.heap.size, 3, none⟩ = some (.int .i64 st2) := cellb hb4 (by simp)
    have B4 : w4.cell? ⟨w3.heap.size, 4, none⟩ = some (.bool pv2) := cellb hb4 (by simp)
    have B5 : w4.cell? ⟨w3.heap.size, 5, none⟩ = some (.slice aj al.length cj) := cellb hb4 (by simp)
    have B6 : w4.cell? ⟨w3.heap.size, 6, none⟩ = some (.int .i64 md') := cellb hb4 (by simp)
    have B7 : w4.cell? ⟨w3.heap.size, 7, none⟩ = some (.int .i64 st') := cellb hb4 (by simp)
    have B8 : w4.cell? ⟨w3.heap.size, 8, none⟩ = some (.bool pv') := cellb hb4 (by simp)
    have B9 : w4.cell? ⟨w3.heap.size, 9, none⟩ = some (.slice dj ns'.length ej) := cellb hb4 (by simp)
    have z4 : w3.heap.size + 1 ≤ w4.heap.size := by have := hb4.size; simp at this; omega
    have r4 : Below w3.heap.size w3 w4 := q4.trans (hb4.mono (by simp; try omega))
    clear q4 hb4
    replace A0 := cellb r4 A0
    replace A1 := cellb r4 A1
    replace A2 := cellb r4 A2
    replace A3 := cellb r4 A3
    replace hj := hj.below r4 (by omega)
    have b4 : Below w.heap.size w w4 := b3.trans (r4.mono (by omega))
    clear r4 b3
    clear lt3_0
    have lt4_0 : w.heap.size < w4.heap.size := by omega
    have lt4_1 : w3.heap.size < w4.heap.size := by omega
    replace hq := hq.mono (lo' := (w3.heap.size + 1)) (by simp) (Nat.le_refl _)
    obtain ⟨aq, cq, rfl, hq'⟩ := hq
    have hq : IntsAt .i64 (w3.heap.size + 1) w4.heap.size w4 (.slice aq ns.length cq) ns := ⟨aq, cq, rfl, hq'⟩
    clear hq'
    go_wp2_with fail
    have q5 : Below w4.heap.size w4 (w4.alloc (.cells #[.int .i64 md, .int .i64 st, .bool pv, .slice aq ns.length cq] 27)) := (by repeat' (first | with_reducible exact Below.refl _ _ | with_reducible assumption | with_reducible refine Below.drew ?_ | with_reducible refine Below.alloc ?_ ?_ _ | with_reducible refine Below.setCell ?_ ?_ _ | (simp; done) | (simp; omega) | omega))
    refine (implStepParser_calls md st pv ns c _ _ (by unfold maxLen; omega) (hq.read.below q5)).mono ?_
    rintro e w5 ⟨xg, yg, rfl, hg, hb5⟩
    have X0 : w5.cell? ⟨w4.heap.size, 0, none⟩ = some (.int .i64 md) := cellb hb5 (by simp)
    have X1 : w5.cell? ⟨w4.heap.size, 1, none⟩ = some (.int .i64 st) := cellb hb5 (by simp)
    have X2 : w5.cell? ⟨w4.heap.size, 2, none⟩ = some (.bool pv) := cellb hb5 (by simp)
    have X3 : w5.cell? ⟨w4.heap.size, 3, none⟩ = some (.slice aq ns.length cq) := cellb hb5 (by simp)
    have z5 : w4.heap.size + 1 ≤ w5.heap.size := by have := hb5.size; simp at this; omega
    have r5 : Below w4.heap.size w4 w5 := q5.trans (hb5.mono (by simp; try omega))
    clear q5 hb5
    replace A0 := cellb r5 A0
    replace A1 := cellb r5 A1
    replace A2 := cellb r5 A2
    replace A3 := cellb r5 A3
    replace B0 := cellb r5 B0
    replace B1 := cellb r5 B1
    replace B2 := cellb r5 B2
    replace B3 := cellb r5 B3
    replace B4 := cellb r5 B4
    replace B5 := cellb r5 B5
    replace B6 := cellb r5 B6
    replace B7 := cellb r5 B7
    replace B8 := cellb r5 B8
    replace B9 := cellb r5 B9
    replace hj := hj.below r5 (by omega)
    replace hq := hq.below r5 (by omega)
    have b5 : Below w.heap.size w w5 := b4.trans (r5.mono (by omega))
    clear r5 b4
    clear lt4_0 lt4_1
    have lt5_0 : w.heap.size < w5.heap.size := by omega
    have lt5_1 : w3.heap.size < w5.heap.size := by omega
    have lt5_2 : w4.heap.size < w5.heap.size := by omega
    rw [HX.out] at hg ⊢
    unfold resV
    dsimp only at hg ⊢
    replace hg := hg.mono (lo' := (w4.heap.size + 1)) (by simp) (Nat.le_refl _)
    obtain ⟨ag, cg, dg, eg, rfl, rfl⟩ := hg.forms
    go_wp2_with fail
    have q6 : Below w5.heap.size w5 (w5.alloc (.cells #[.int .i64 code, .int .i64 kd, .int .i64 ch, .int .i64 st2, .bool pv2, .slice ag al.length cg, .int .i64 md', .int .i64 st', .bool pv', .slice dg ns'.length eg] 34)) := (by repeat' (first | with_reducible exact Below.refl _ _ | with_reducible assumption | with_reducible refine Below.drew ?_ | with_reducible refine Below.alloc ?_ ?_ _ | with_reducible refine Below.setCell ?_ ?_ _ | (simp; done) | (simp; omega) | omega))
    refine (eqParserResult_calls code kd ch st2 pv2 md' st' pv' al ns' _ _ _ _ _ (by omega) (by omega) (hg.read1.below q6) (hg.read2.below q6) (hj.read1.below q6) (hj.read2.below q6)).mono ?_
    rintro e w6 ⟨rfl, hb6⟩
    have G0 : w6.cell? ⟨w5.heap.size, 0, none⟩ = some (.int .i64 code) := cellb hb6 (by simp)
    have G1 : w6.cell? ⟨w5.heap.size, 1, none⟩ = some (.int .i64 kd) := cellb hb6 (by simp)
    have G2 : w6.cell? ⟨w5.heap.size, 2, none⟩ = some (.int .i64 ch) := cellb hb6 (by simp)
    have G3 : w6.cell? ⟨w5.heap.size, 3, none⟩ = some (.int .i64 st2) := cellb hb6 (by simp)
    have G4 : w6.cell? ⟨w5.heap.size, 4, none⟩ = some (.bool pv2) := cellb hb6 (by simp)
    have G5 : w6.cell? ⟨w5.heap.size, 5, none⟩ = some (.slice ag al.length cg) := cellb hb6 (by simp)
    have G6 : w6.cell? ⟨w5.heap.size, 6, none⟩ = some (.int .i64 md') := cellb hb6 (by simp)
    have G7 : w6.cell? ⟨w5.heap.size, 7, none⟩ = some (.int .i64 st') := cellb hb6 (by simp)
    have G8 : w6.cell? ⟨w5.heap.size, 8, none⟩ = some (.bool pv') := cellb hb6 (by simp)
    have G9 : w6.cell? ⟨w5.heap.size, 9, none⟩ = some (.slice dg ns'.length eg) := cellb hb6 (by simp)
    have z6 : w5.heap.size + 1 ≤ w6.heap.size := by have := hb6.size; simp at this; omega
    have r6 : Below w5.heap.size w5 w6 := q6.trans (hb6.mono (by simp; try omega))
    clear q6 hb6
    replace A0 := cellb r6 A0
    replace A1 := cellb r6 A1
    replace A2 := cellb r6 A2
    replace A3 := cellb r6 A3
    replace B0 := cellb r6 B0
    replace B1 := cellb r6 B1
    replace B2 := cellb r6 B2
    replace B3 := cellb r6 B3
    replace B4 := cellb r6 B4
    replace B5 := cellb r6 B5
    replace B6 := cellb r6 B6
    replace B7 := cellb r6 B7
    replace B8 := cellb r6 B8
    replace B9 := cellb r6 B9
    replace X0 := cellb r6 X0
    replace X1 := cellb r6 X1
    replace X2 := cellb r6 X2
    replace X3 := cellb r6 X3
    replace hj := hj.below r6 (by omega)
    replace hq := hq.below r6 (by omega)
    replace hg := hg.below r6 (by omega)
    have b6 : Below w.heap.size w w6 := b5.trans (r6.mono (by omega))
    clear r6 b5
    clear lt5_0 lt5_1 lt5_2
    have lt6_0 : w.heap.size < w6.heap.size := by omega
    have lt6_1 : w3.heap.size < w6.heap.size := by omega
    have lt6_2 : w4.heap.size < w6.heap.size := by omega
    have lt6_3 : w5.heap.size < w6.heap.size := by omega
    go_wp2_with fail
    have hq0 := hr.below b6
    have hKG : KeepParser w6 (w.heap.size) (w4.heap.size) md st pv (.slice av ns.length cv) (.slice aq ns.length cq) ns w6.drew := ⟨Below.drew (Below.refl _ w6), A0, A1, A2, A3, X0, X1, X2, X3, hq0, hq.read⟩
    refine wp_region_held_drew (S := (fun w' => KeepParser w6 (w.heap.size) (w4.heap.size) md st pv (.slice av ns.length cv) (.slice aq ns.length cq) ns w')) (by kernel_rfl) ?_ (fun hHeld => ?_)
    · (try dsimp only); exact hKG
    refine wpAnyH_take (i := 0) (oi := ⟨_, _, _, _, _, _⟩) (v := ?_) rfl (by kernel_rfl) (by kernel_rfl) (by kernel_rfl) (fun _ _ _ h => h) (Or.inl ⟨by rfl, ?_⟩) hHeld ?_
    rotate_left
    · (intro w hSw; (try dsimp only at hSw); have s0 := hSw.a0; have s1 := hSw.a1; have s2 := hSw.a2; have s3 := hSw.a3; have t0 := hSw.c0; have t1 := hSw.c1; have t2 := hSw.c2; have t3 := hSw.c3; clear hSw; go_simp; try (with_reducible rfl))
    try simp only [Act.put, List.setIfInBounds_toArray, List.set_cons_zero, List.set_cons_succ]
    refine wpAnyH_take (i := 1) (oi := ⟨_, _, _, _, _, _⟩) (v := ?_) rfl (by kernel_rfl) (by kernel_rfl) (by kernel_rfl) (fun _ _ _ h => h) (Or.inl ⟨by rfl, ?_⟩) hHeld ?_
    rotate_left
    · (intro w hSw; (try dsimp only at hSw); have s0 := hSw.a0; have s1 := hSw.a1; have s2 := hSw.a2; have s3 := hSw.a3; have t0 := hSw.c0; have t1 := hSw.c1; have t2 := hSw.c2; have t3 := hSw.c3; clear hSw; go_simp; try (with_reducible rfl))
    try simp only [Act.put, List.setIfInBounds_toArray, List.set_cons_zero, List.set_cons_succ]
    refine wpAnyH_ready (rs := [2]) (by kernel_rfl) (by simp) ?_
    refine AllReadyH.cons (o := ⟨_, _, _, _, _, _⟩) rfl (fun K hK => ?_) AllReadyH.nil
    go_simp
    go_at_call 10
    refine (toParser_calls md st pv ns _ _ hn hHeld.r1).mono ?_
    rintro e v7 ⟨y7, rfl, hy7, hbv7⟩
    have hry7 := hy7.read
    obtain ⟨ay7, cy7, rfl, hyy7⟩ := hy7
    clear hyy7
    try go_wp2_with fail
    refine hK.out _ _ ?_ ?_
    · (try dsimp only); exact hHeld.next hbv7
    clear hHeld hK K
    intro hHeld
    try simp only [Act.put, List.setIfInBounds_toArray, List.set_cons_zero, List.set_cons_succ]
    refine wpAnyH_ready (rs := [3]) (by kernel_rfl) (by simp) ?_
    refine AllReadyH.cons (o := ⟨_, _, _, _, _, _⟩) rfl (fun K hK => ?_) AllReadyH.nil
    go_simp
    go_at_call 12
    refine (eqParser_calls md st pv ns _ _ _ (by omega) hHeld.r2 hry7).mono ?_
    rintro e w7 ⟨rfl, hbu7⟩
    try go_wp2_with fail
    refine hK.out _ _ ?_ ?_
    · (try dsimp only); exact hHeld.next hbu7
    clear hHeld hK K
    intro hHeld
    try simp only [Act.put, List.setIfInBounds_toArray, List.set_cons_zero, List.set_cons_succ]
    refine wpAnyH_take (i := 4) (oi := ⟨_, _, _, _, _, _⟩) (v := ?_) rfl (by kernel_rfl) (by kernel_rfl) (by kernel_rfl) (fun _ _ _ h => h) (Or.inl ⟨by rfl, ?_⟩) hHeld ?_
    rotate_left
    · (intro w hSw; (try dsimp only at hSw); have s0 := hSw.a0; have s1 := hSw.a1; have s2 := hSw.a2; have s3 := hSw.a3; have t0 := hSw.c0; have t1 := hSw.c1; have t2 := hSw.c2; have t3 := hSw.c3; clear hSw; go_simp; try (with_reducible rfl))
    try simp only [Act.put, List.setIfInBounds_toArray, List.set_cons_zero, List.set_cons_succ]
    refine wpAnyH_done (by kernel_rfl) ?_ _
    have r7 := hHeld.bel
    clear hHeld hry7 hbv7 hbu7 hKG hq0
    have z7 : w6.heap.size ≤ w7.heap.size := r7.size
    replace A0 := cellb r7 A0
    replace A1 := cellb r7 A1
    replace A2 := cellb r7 A2
    replace A3 := cellb r7 A3
    replace B0 := cellb r7 B0
    replace B1 := cellb r7 B1
    replace B2 := cellb r7 B2
    replace B3 := cellb r7 B3
    replace B4 := cellb r7 B4
    replace B5 := cellb r7 B5
    replace B6 := cellb r7 B6
    replace B7 := cellb r7 B7
    replace B8 := cellb r7 B8
    replace B9 := cellb r7 B9
    replace X0 := cellb r7 X0
    replace X1 := cellb r7 X1
    replace X2 := cellb r7 X2
    replace X3 := cellb r7 X3
    replace G0 := cellb r7 G0
    replace G1 := cellb r7 G1
    replace G2 := cellb r7 G2
    replace G3 := cellb r7 G3
    replace G4 := cellb r7 G4
    replace G5 := cellb r7 G5
    replace G6 := cellb r7 G6
    replace G7 := cellb r7 G7
    replace G8 := cellb r7 G8
    replace G9 := cellb r7 G9
    replace hj := hj.below r7 (by omega)
    replace hq := hq.below r7 (by omega)
    replace hg := hg.below r7 (by omega)
    have b7 : Below w.heap.size w w7 := b6.trans (r7.mono (by omega))
    clear r7 b6
    clear lt6_0 lt6_1 lt6_2 lt6_3
    have lt7_0 : w.heap.size < w7.heap.size := by omega
    have lt7_1 : w3.heap.size < w7.heap.size := by omega
    have lt7_2 : w4.heap.size < w7.heap.size := by omega
    have lt7_3 : w5.heap.size < w7.heap.size := by omega
    go_wp2_with fail
    refine (markParser_calls md st pv ns 1 (w3.heap.size + 1) w4.heap.size _ _ (by omega) (by omega) (by omega) (by omega) hq).mono ?_
    rintro e w8 ⟨rfl, hm0, hb8⟩
    have z8 : w7.heap.size ≤ w8.heap.size := hb8.size
    replace A0 := hb8.cell (by omega) (by omega) A0
    replace A1 := hb8.cell (by omega) (by omega) A1
    replace A2 := hb8.cell (by omega) (by omega) A2
    replace A3 := hb8.cell (by omega) (by omega) A3
    replace B0 := hb8.cell (by omega) (by omega) B0
    replace B1 := hb8.cell (by omega) (by omega) B1
    replace B2 := hb8.cell (by omega) (by omega) B2
    replace B3 := hb8.cell (by omega) (by omega) B3
    replace B4 := hb8.cell (by omega) (by omega) B4
    replace B5 := hb8.cell (by omega) (by omega) B5
    replace B6 := hb8.cell (by omega) (by omega) B6
    replace B7 := hb8.cell (by omega) (by omega) B7
    replace B8 := hb8.cell (by omega) (by omega) B8
    replace B9 := hb8.cell (by omega) (by omega) B9
    replace X0 := hb8.cell (by omega) (by omega) X0
    replace X1 := hb8.cell (by omega) (by omega) X1
    replace X2 := hb8.cell (by omega) (by omega) X2
    replace X3 := hb8.cell (by omega) (by omega) X3
    replace G0 := hb8.cell (by omega) (by omega) G0
    replace G1 := hb8.cell (by omega) (by omega) G1
    replace G2 := hb8.cell (by omega) (by omega) G2
    replace G3 := hb8.cell (by omega) (by omega) G3
    replace G4 := hb8.cell (by omega) (by omega) G4
    replace G5 := hb8.cell (by omega) (by omega) G5
    replace G6 := hb8.cell (by omega) (by omega) G6
    replace G7 := hb8.cell (by omega) (by omega) G7
    replace G8 := hb8.cell (by omega) (by omega) G8
    replace G9 := hb8.cell (by omega) (by omega) G9
    replace hj := hj.within hb8 (by omega) (by omega)
    replace hg := hg.within hb8 (by omega) (by omega)
    have b8 : Below w.heap.size w w8 := b7.trans (hb8.below (by omega) (by omega))
    clear hb8 b7
    clear lt7_0 lt7_1 lt7_2 lt7_3
    have lt8_0 : w.heap.size < w8.heap.size := by omega
    have lt8_1 : w3.heap.size < w8.heap.size := by omega
    have lt8_2 : w4.heap.size < w8.heap.size := by omega
    have lt8_3 : w5.heap.size < w8.heap.size := by omega
    clear hq hm0
    have hk0 : ¬ ((1 : Int) + (ns.length : Int) < 0) := by omega
    go_wp2_with fail
    refine (eqParserResult_calls code kd ch st2 pv2 md' st' pv' al ns' _ _ _ _ _ (by omega) (by omega) hg.read1 hg.read2 hj.read1 hj.read2).mono ?_
    rintro e w9 ⟨rfl, hb9⟩
    have z9 : w8.heap.size ≤ w9.heap.size := hb9.size
    have r9 := hb9
    clear hb9
    replace A0 := cellb r9 A0
    replace A1 := cellb r9 A1
    replace A2 := cellb r9 A2
    replace A3 := cellb r9 A3
    replace B0 := cellb r9 B0
    replace B1 := cellb r9 B1
    replace B2 := cellb r9 B2
    replace B3 := cellb r9 B3
    replace B4 := cellb r9 B4
    replace B5 := cellb r9 B5
    replace B6 := cellb r9 B6
    replace B7 := cellb r9 B7
    replace B8 := cellb r9 B8
    replace B9 := cellb r9 B9
    replace X0 := cellb r9 X0
    replace X1 := cellb r9 X1
    replace X2 := cellb r9 X2
    replace X3 := cellb r9 X3
    replace G0 := cellb r9 G0
    replace G1 := cellb r9 G1
    replace G2 := cellb r9 G2
    replace G3 := cellb r9 G3
    replace G4 := cellb r9 G4
    replace G5 := cellb r9 G5
    replace G6 := cellb r9 G6
    replace G7 := cellb r9 G7
    replace G8 := cellb r9 G8
    replace G9 := cellb r9 G9
    replace hj := hj.below r9 (by omega)
    replace hg := hg.below r9 (by omega)
    have b9 : Below w.heap.size w w9 := b8.trans (r9.mono (by omega))
    clear r9 b8
    clear lt8_0 lt8_1 lt8_2 lt8_3
    have lt9_0 : w.heap.size < w9.heap.size := by omega
    have lt9_1 : w3.heap.size < w9.heap.size := by omega
    have lt9_2 : w4.heap.size < w9.heap.size := by omega
    have lt9_3 : w5.heap.size < w9.heap.size := by omega
    go_wp2_with fail
    refine (markParserResult_calls code kd ch st2 pv2 md' st' pv' al ns' 1 (w4.heap.size + 1) w5.heap.size _ _ _ (by omega) (by omega) (by omega) (by omega) (by omega) hg).mono ?_
    rintro e w10 ⟨rfl, hm1', hb10⟩
    have z10 : w9.heap.size ≤ w10.heap.size := hb10.size
    replace A0 := hb10.cell (by omega) (by omega) A0
    replace A1 := hb10.cell (by omega) (by omega) A1
    replace A2 := hb10.cell (by omega) (by omega) A2
    replace A3 := hb10.cell (by omega) (by omega) A3
    replace B0 := hb10.cell (by omega) (by omega) B0
    replace B1 := hb10.cell (by omega) (by omega) B1
    replace B2 := hb10.cell (by omega) (by omega) B2
    replace B3 := hb10.cell (by omega) (by omega) B3
    replace B4 := hb10.cell (by omega) (by omega) B4
    replace B5 := hb10.cell (by omega) (by omega) B5
    replace B6 := hb10.cell (by omega) (by omega) B6
    replace B7 := hb10.cell (by omega) (by omega) B7
    replace B8 := hb10.cell (by omega) (by omega) B8
    replace B9 := hb10.cell (by omega) (by omega) B9
    replace X0 := hb10.cell (by omega) (by omega) X0
    replace X1 := hb10.cell (by omega) (by omega) X1
    replace X2 := hb10.cell (by omega) (by omega) X2
    replace X3 := hb10.cell (by omega) (by omega) X3
    replace G0 := hb10.cell (by omega) (by omega) G0
    replace G1 := hb10.cell (by omega) (by omega) G1
    replace G2 := hb10.cell (by omega) (by omega) G2
    replace G3 := hb10.cell (by omega) (by omega) G3
    replace G4 := hb10.cell (by omega) (by omega) G4
    replace G5 := hb10.cell (by omega) (by omega) G5
    replace G6 := hb10.cell (by omega) (by omega) G6
    replace G7 := hb10.cell (by omega) (by omega) G7
    replace G8 := hb10.cell (by omega) (by omega) G8
    replace G9 := hb10.cell (by omega) (by omega) G9
    replace hj := hj.within hb10 (by omega) (by omega)
    have b10 : Below w.heap.size w w10 := b9.trans (hb10.below (by omega) (by omega))
    clear hb10 b9
    clear lt9_0 lt9_1 lt9_2 lt9_3
    have lt10_0 : w.heap.size < w10.heap.size := by omega
    have lt10_1 : w3.heap.size < w10.heap.size := by omega
    have lt10_2 : w4.heap.size < w10.heap.size := by omega
    have lt10_3 : w5.heap.size < w10.heap.size := by omega
    clear hg
    go_wp2_with fail
    refine (heldParserResult_calls code kd ch st2 pv2 md' st' pv' (marks 1 al.length) (marks (1 + al.length) ns'.length) 1 (.slice ag al.length cg) (.slice dg ns'.length eg) _ (by rw [marks_length]; omega) (by rw [marks_length]; omega) (by omega) (by omega) hm1'.read1 hm1'.read2 (marks_at 1 _) (by rw [marks_length 1]; exact marks_at _ _)).mono ?_
    rintro e w11 ⟨rfl, hb11⟩
    have z11 : w10.heap.size ≤ w11.heap.size := hb11.size
    have r11 := hb11
    clear hb11
    replace A0 := cellb r11 A0
    replace A1 := cellb r11 A1
    replace A2 := cellb r11 A2
    replace A3 := cellb r11 A3
    replace B0 := cellb r11 B0
    replace B1 := cellb r11 B1
    replace B2 := cellb r11 B2
    replace B3 := cellb r11 B3
    replace B4 := cellb r11 B4
    replace B5 := cellb r11 B5
    replace B6 := cellb r11 B6
    replace B7 := cellb r11 B7
    replace B8 := cellb r11 B8
    replace B9 := cellb r11 B9
    replace X0 := cellb r11 X0
    replace X1 := cellb r11 X1
    replace X2 := cellb r11 X2
    replace X3 := cellb r11 X3
    replace G0 := cellb r11 G0
    replace G1 := cellb r11 G1
    replace G2 := cellb r11 G2
    replace G3 := cellb r11 G3
    replace G4 := cellb r11 G4
    replace G5 := cellb r11 G5
    replace G6 := cellb r11 G6
    replace G7 := cellb r11 G7
    replace G8 := cellb r11 G8
    replace G9 := cellb r11 G9
    replace hj := hj.below r11 (by omega)
    replace hm1' := hm1'.below r11 (by omega)
    have b11 : Below w.heap.size w w11 := b10.trans (r11.mono (by omega))
    clear r11 b10
    clear lt10_0 lt10_1 lt10_2 lt10_3
    have lt11_0 : w.heap.size < w11.heap.size := by omega
    have lt11_1 : w3.heap.size < w11.heap.size := by omega
    have lt11_2 : w4.heap.size < w11.heap.size := by omega
    have lt11_3 : w5.heap.size < w11.heap.size := by omega
    rw [marks_length, marks_length]
    have hk1 : ¬ ((1 : Int) + (al.length : Int) + (ns'.length : Int) < 0) := by omega
    have hk2 : (((1 : Int) + (al.length : Int) + (ns'.length : Int)) != (1 + (al.length : Int) + (ns'.length : Int))) = false := by simp
    go_wp2_with fail
    refine (toParser_calls md st pv ns _ _ hn ((hr.below b11))).mono ?_
    rintro e w12 ⟨xo, rfl, ho, hb12⟩
    have z12 : w11.heap.size ≤ w12.heap.size := hb12.size
    have r12 := hb12
    clear hb12
    replace A0 := cellb r12 A0
    replace A1 := cellb r12 A1
    replace A2 := cellb r12 A2
    replace A3 := cellb r12 A3
    replace B0 := cellb r12 B0
    replace B1 := cellb r12 B1
    replace B2 := cellb r12 B2
    replace B3 := cellb r12 B3
    replace B4 := cellb r12 B4
    replace B5 := cellb r12 B5
    replace B6 := cellb r12 B6
    replace B7 := cellb r12 B7
    replace B8 := cellb r12 B8
    replace B9 := cellb r12 B9
    replace X0 := cellb r12 X0
    replace X1 := cellb r12 X1
    replace X2 := cellb r12 X2
    replace X3 := cellb r12 X3
    replace G0 := cellb r12 G0
    replace G1 := cellb r12 G1
    replace G2 := cellb r12 G2
    replace G3 := cellb r12 G3
    replace G4 := cellb r12 G4
    replace G5 := cellb r12 G5
    replace G6 := cellb r12 G6
    replace G7 := cellb r12 G7
    replace G8 := cellb r12 G8
    replace G9 := cellb r12 G9
    replace hj := hj.below r12 (by omega)
    replace hm1' := hm1'.below r12 (by omega)
    have b12 : Below w.heap.size w w12 := b11.trans (r12.mono (by omega))
    clear r12 b11
    clear lt11_0 lt11_1 lt11_2 lt11_3
    have lt12_0 : w.heap.size < w12.heap.size := by omega
    have lt12_1 : w3.heap.size < w12.heap.size := by omega
    have lt12_2 : w4.heap.size < w12.heap.size := by omega
    have lt12_3 : w5.heap.size < w12.heap.size := by omega
    obtain ⟨ao, co, rfl, ho'⟩ := ho
    have ho : IntsAt .i64 w11.heap.size w12.heap.size w12 (.slice ao ns.length co) ns := ⟨ao, co, rfl, ho'⟩
    clear ho'
    go_wp2_with fail
    refine (implStepParser_calls md st pv ns c _ _ (by unfold maxLen; omega) ho.read).mono ?_
    rintro e w13 ⟨xu, yu, rfl, hu, hb13⟩
    have z13 : w12.heap.size ≤ w13.heap.size := hb13.size
    have r13 := hb13
    clear hb13
    replace A0 := cellb r13 A0
    replace A1 := cellb r13 A1
    replace A2 := cellb r13 A2
    replace A3 := cellb r13 A3
    replace B0 := cellb r13 B0
    replace B1 := cellb r13 B1
    replace B2 := cellb r13 B2
    replace B3 := cellb r13 B3
    replace B4 := cellb r13 B4
    replace B5 := cellb r13 B5
    replace B6 := cellb r13 B6
    replace B7 := cellb r13 B7
    replace B8 := cellb r13 B8
    replace B9 := cellb r13 B9
    replace X0 := cellb r13 X0
    replace X1 := cellb r13 X1
    replace X2 := cellb r13 X2
    replace X3 := cellb r13 X3
    replace G0 := cellb r13 G0
    replace G1 := cellb r13 G1
    replace G2 := cellb r13 G2
    replace G3 := cellb r13 G3
    replace G4 := cellb r13 G4
    replace G5 := cellb r13 G5
    replace G6 := cellb r13 G6
    replace G7 := cellb r13 G7
    replace G8 := cellb r13 G8
    replace G9 := cellb r13 G9
    replace hj := hj.below r13 (by omega)
    replace hm1' := hm1'.below r13 (by omega)
    replace ho := ho.below r13 (by omega)
    have b13 : Below w.heap.size w w13 := b12.trans (r13.mono (by omega))
    clear r13 b12
    clear lt12_0 lt12_1 lt12_2 lt12_3
    have lt13_0 : w.heap.size < w13.heap.size := by omega
    have lt13_1 : w3.heap.size < w13.heap.size := by omega
    have lt13_2 : w4.heap.size < w13.heap.size := by omega
    have lt13_3 : w5.heap.size < w13.heap.size := by omega
    rw [HX.out] at hu ⊢
    unfold resV
    dsimp only at hu ⊢
    obtain ⟨au, cu, du, eu, rfl, rfl⟩ := hu.forms
    clear ho
    go_wp2_with fail
    have q14 : Below w13.heap.size w13 (w13.alloc (.cells #[.int .i64 code, .int .i64 kd, .int .i64 ch, .int .i64 st2, .bool pv2, .slice au al.length cu, .int .i64 md', .int .i64 st', .bool pv', .slice du ns'.length eu] 34)) := (by repeat' (first | with_reducible exact Below.refl _ _ | with_reducible assumption | with_reducible refine Below.drew ?_ | with_reducible refine Below.alloc ?_ ?_ _ | with_reducible refine Below.setCell ?_ ?_ _ | (simp; done) | (simp; omega) | omega))
    refine (eqParserResult_calls code kd ch st2 pv2 md' st' pv' al ns' _ _ _ _ _ (by omega) (by omega) (hu.read1.below q14) (hu.read2.below q14) (hj.read1.below q14) (hj.read2.below q14)).mono ?_
    rintro e w14 ⟨rfl, hb14⟩
    have H0 : w14.cell? ⟨w13.heap.size, 0, none⟩ = some (.int .i64 code) := cellb hb14 (by simp)
    have H1 : w14.cell? ⟨w13.heap.size, 1, none⟩ = some (.int .i64 kd) := cellb hb14 (by simp)
    have H2 : w14.cell? ⟨w13.heap.size, 2, none⟩ = some (.int .i64 ch) := cellb hb14 (by simp)
    have H3 : w14.cell? ⟨w13.heap.size, 3, none⟩ = some (.int .i64 st2) := cellb hb14 (by simp)
    have H4 : w14.cell? ⟨w13.heap.size, 4, none⟩ = some (.bool pv2) := cellb hb14 (by simp)
    have H5 : w14.cell? ⟨w13.heap.size, 5, none⟩ = some (.slice au al.length cu) := cellb hb14 (by simp)
    have H6 : w14.cell? ⟨w13.heap.size, 6, none⟩ = some (.int .i64 md') := cellb hb14 (by simp)
    have H7 : w14.cell? ⟨w13.heap.size, 7, none⟩ = some (.int .i64 st') := cellb hb14 (by simp)
    have H8 : w14.cell? ⟨w13.heap.size, 8, none⟩ = some (.bool pv') := cellb hb14 (by simp)
    have H9 : w14.cell? ⟨w13.heap.size, 9, none⟩ = some (.slice du ns'.length eu) := cellb hb14 (by simp)
    have z14 : w13.heap.size + 1 ≤ w14.heap.size := by have := hb14.size; simp at this; omega
    have r14 : Below w13.heap.size w13 w14 := q14.trans (hb14.mono (by simp; try omega))
    clear q14 hb14
    replace A0 := cellb r14 A0
    replace A1 := cellb r14 A1
    replace A2 := cellb r14 A2
    replace A3 := cellb r14 A3
    replace B0 := cellb r14 B0
    replace B1 := cellb r14 B1
    replace B2 := cellb r14 B2
    replace B3 := cellb r14 B3
    replace B4 := cellb r14 B4
    replace B5 := cellb r14 B5
    replace B6 := cellb r14 B6
    replace B7 := cellb r14 B7
    replace B8 := cellb r14 B8
    replace B9 := cellb r14 B9
    replace X0 := cellb r14 X0
    replace X1 := cellb r14 X1
    replace X2 := cellb r14 X2
    replace X3 := cellb r14 X3
    replace G0 := cellb r14 G0
    replace G1 := cellb r14 G1
    replace G2 := cellb r14 G2
    replace G3 := cellb r14 G3
    replace G4 := cellb r14 G4
    replace G5 := cellb r14 G5
    replace G6 := cellb r14 G6
    replace G7 := cellb r14 G7
    replace G8 := cellb r14 G8
    replace G9 := cellb r14 G9
    replace hj := hj.below r14 (by omega)
    replace hm1' := hm1'.below r14 (by omega)
    replace hu := hu.below r14 (by omega)
    have b14 : Below w.heap.size w w14 := b13.trans (r14.mono (by omega))
    clear r14 b13
    clear lt13_0 lt13_1 lt13_2 lt13_3
    have lt14_0 : w.heap.size < w14.heap.size := by omega
    have lt14_1 : w3.heap.size < w14.heap.size := by omega
    have lt14_2 : w4.heap.size < w14.heap.size := by omega
    have lt14_3 : w5.heap.size < w14.heap.size := by omega
    have lt14_4 : w13.heap.size < w14.heap.size := by omega
    go_wp2_with fail
    refine (heldParserResult_calls code kd ch st2 pv2 md' st' pv' (marks 1 al.length) (marks (1 + al.length) ns'.length) 1 (.slice ag al.length cg) (.slice dg ns'.length eg) _ (by rw [marks_length]; omega) (by rw [marks_length]; omega) (by omega) (by omega) hm1'.read1 hm1'.read2 (marks_at 1 _) (by rw [marks_length 1]; exact marks_at _ _)).mono ?_
    rintro e w15 ⟨rfl, hb15⟩
    have z15 : w14.heap.size ≤ w15.heap.size := hb15.size
    have r15 := hb15
    clear hb15
    replace A0 := cellb r15 A0
    replace A1 := cellb r15 A1
    replace A2 := cellb r15 A2
    replace A3 := cellb r15 A3
    replace B0 := cellb r15 B0
    replace B1 := cellb r15 B1
    replace B2 := cellb r15 B2
    replace B3 := cellb r15 B3
    replace B4 := cellb r15 B4
    replace B5 := cellb r15 B5
    replace B6 := cellb r15 B6
    replace B7 := cellb r15 B7
    replace B8 := cellb r15 B8
    replace B9 := cellb r15 B9
    replace X0 := cellb r15 X0
    replace X1 := cellb r15 X1
    replace X2 := cellb r15 X2
    replace X3 := cellb r15 X3
    replace G0 := cellb r15 G0
    replace G1 := cellb r15 G1
    replace G2 := cellb r15 G2
    replace G3 := cellb r15 G3
    replace G4 := cellb r15 G4
    replace G5 := cellb r15 G5
    replace G6 := cellb r15 G6
    replace G7 := cellb r15 G7
    replace G8 := cellb r15 G8
    replace G9 := cellb r15 G9
    replace H0 := cellb r15 H0
    replace H1 := cellb r15 H1
    replace H2 := cellb r15 H2
    replace H3 := cellb r15 H3
    replace H4 := cellb r15 H4
    replace H5 := cellb r15 H5
    replace H6 := cellb r15 H6
    replace H7 := cellb r15 H7
    replace H8 := cellb r15 H8
    replace H9 := cellb r15 H9
    replace hj := hj.below r15 (by omega)
    replace hm1' := hm1'.below r15 (by omega)
    replace hu := hu.below r15 (by omega)
    have b15 : Below w.heap.size w w15 := b14.trans (r15.mono (by omega))
    clear r15 b14
    clear lt14_0 lt14_1 lt14_2 lt14_3 lt14_4
    have lt15_0 : w.heap.size < w15.heap.size := by omega
    have lt15_1 : w3.heap.size < w15.heap.size := by omega
    have lt15_2 : w4.heap.size < w15.heap.size := by omega
    have lt15_3 : w5.heap.size < w15.heap.size := by omega
    have lt15_4 : w13.heap.size < w15.heap.size := by omega
    rw [marks_length, marks_length]
    go_wp2
    go_ret
    exact ⟨rfl, b15⟩
  · go_enter Try.func4, Try.ntmps4
    go_wp2_with fail
    refine (szParser_calls md st pv ns.length av cv 1048576 (by omega) (by omega) _ hm).mono ?_
    rintro e w1 ⟨rfl, hb1⟩
    rw [if_neg (by omega)]
    go_wp2
    go_ret
    exact ⟨rfl, (show Below w.heap.size w _ from (by repeat' (first | with_reducible exact Below.refl _ _ | with_reducible assumption | with_reducible refine Below.drew ?_ | with_reducible refine Below.alloc ?_ ?_ _ | with_reducible refine Below.setCell ?_ ?_ _ | (simp; done) | (simp; omega) | omega))).trans (hb1.mono (by simp; try omega))⟩

theorem lawST_laid : laidOutB Try.prog = true := by kernel_rfl
theorem lawST_own : ownKnob Try.prog.godebug = none := by kernel_rfl
set_option maxRecDepth 100000 in
theorem lawST_lifted (os : Os) (started : os.Started) (H : Type) (enc : TypeId × Value → H) :
    ReturnsInHanded {} Try.checked os 4 .any (Rows.fnExactStepParserSpec.pre6 enc Try.prog Try.f4 Rows.fnExactStepParserRow.domain false) (Rows.fnExactStepParserSpec.post enc Try.prog Try.f4 false true false false) := by
  refine returnsInHanded_of_change (C := Try.checked) lawST_own started (by kernel_rfl) Try.func4
    (ChangeSpec.witness6 (enc := enc) (C := Try.checked) false ⟨#[], #[.agg #[.int .i64 0, .int .i64 0, .bool false, .slice none 0 0], .int .i64 0], []⟩ 8 (by kernel_rfl) (by kernel_rfl) (by kernel_rfl) (by kernel_rfl)) ?_
  intro W base args ds gs before hval0 hW hcnd _
  have hval : ∀ (j : Nat) t v, Try.f4.params[j]? = some t → args[j]? = some v → Value.okWide Try.prog W .any base t v := hval0
  have hW' := hW
  obtain ⟨p, q, hA0, hV, rfl, hfz, hnd⟩ := hW
  have hA : DataW.TrodAll enc Try.prog W 0 (fun _ => true) true Try.f4.params.toList args.toList ds p := hA0
  rw [Try.params4] at hA hval
  obtain ⟨v0, v1, d0, d1, p0, p1, rfl, rfl, rfl, h0, h1⟩ := trodAll_two hA
  obtain ⟨rfl, rfl⟩ := trodVars_none hV
  have k0 := h0
  have lt0 : ∀ x ∈ p0, x.block < W.heap.size := by obtain ⟨m, hm⟩ := k0; exact DataW.trod_lt m _ _ _ hm
  obtain ⟨md, st, pv, x, ns, rfl, hx, hm⟩ := open_parser (hval 0 24 v0 rfl rfl) h0
  obtain ⟨c, rfl, rfl, rfl, wf1⟩ := open_int Try.underlying2 (hval 1 2 v1 rfl rfl) h1
  clear hA0 hval0

  refine (lawST_walk md st pv x ns c W hx hm).mono fun e W' ⟨he, bel⟩ => ?_
  subst he
  exact ⟨_, rfl, _, _, _, [], _, [], hW', trodAll_mk1 (shut_bool Try.underlying4 _), trodAll_mk2 (Below.trod lawST_laid (by kernel_rfl) (of_decide_eq_true (by kernel_rfl)) k0 bel lt0) (shut_int Try.underlying2 wf1), rfl, bel.frame _, fun h => by cases h⟩

theorem lawST_over : Rows.fnExactStepParserRow.holds Try.pinned (OpenSpec.ofChange Rows.fnExactStepParserSpec) :=
  OpenClaim.holds_of_wide 4 Try.f4 rfl rfl rfl rfl rfl rfl rfl ⟨rfl, rfl, rfl, rfl, rfl⟩ rfl rfl rfl rfl rfl (by kernel_rfl) Try.func4 (by kernel_rfl)
    (of_decide_eq_true (by kernel_rfl)) (by unfold Func.isWrapper; first | (rw [if_pos (by decide +kernel)]; kernel_rfl) | (rw [if_neg (by decide +kernel)]; exact ⟨rfl, rfl⟩))
    (fun os started H enc _ => lawST_lifted os started H enc)

theorem lawST_proved : Rows.FnExactStepParserSaid := lawST_over
#print axioms lawST_proved
end Go.Proofs.Ytaljegjflkebcaa
