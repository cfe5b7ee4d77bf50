/-
  For every parser and every list of numbers the law FnExactParseMany returns true: impl.ParseMany answers at each parser and list what the model's ParseMany answers, turns no argument, and its answer's lists are its own. No condition (the law itself passes parsers and lists of more than 1048576 numbers by).
-/
import Derived.Test.YtaljegjflkebcaaRows
import Derived.Test.YtaljegjflkebcaaManyS4
import Derived.Test.YtaljegjflkebcaaManyFns
import Derived.Test.YtaljegjflkebcaaParOpen
import Derived.Deep.RegionHeld
import Derived.ShutString
import Derived.ChangeOld
import Derived.Lib.SmallJoins
namespace Go.Proofs.Ytaljegjflkebcaa
open Go.ChangeShapes Go.WideShapes Go.ChangeAt Go.RowKit Go.Joins
set_option linter.unusedVariables false
set_option linter.unusedSimpArgs false

/-- Two boxes and their lists, as a region keeps them. -/
structure KeepParser (W : World) (b c : Nat) (md st : Int) (pv : Bool) (u v : Value) (ns : List Int) (w1 : World) : Prop where
  bel : Below W.heap.size W w1
  a0 : w1.cell? ⟨b, 0, none⟩ = some (.int .i64 md)
  a1 : w1.cell? ⟨b, 1, none⟩ = some (.int .i64 st)
  a2 : w1.cell? ⟨b, 2, none⟩ = some (.bool pv)
  a3 : w1.cell? ⟨b, 3, none⟩ = some (u)
  c0 : w1.cell? ⟨c, 0, none⟩ = some (.int .i64 md)
  c1 : w1.cell? ⟨c, 1, none⟩ = some (.int .i64 st)
  c2 : w1.cell? ⟨c, 2, none⟩ = some (.bool pv)
  c3 : w1.cell? ⟨c, 3, none⟩ = some (v)
  r1 : ReadAt .i64 w1 u ns
  r2 : ReadAt .i64 w1 v ns
theorem KeepParser.next {W : World} {b c : Nat} {md st : Int} {pv : Bool} {u v : Value} {ns : List Int} {w1 w2 : World} (h : KeepParser W b c md st pv u v ns w1) (hb : Below w1.heap.size w1 w2) : KeepParser W b c md st pv u v ns w2 :=
  ⟨h.bel.trans (hb.mono h.bel.size), cellb hb h.a0, cellb hb h.a1, cellb hb h.a2, cellb hb h.a3, cellb hb h.c0, cellb hb h.c1, cellb hb h.c2, cellb hb h.c3, h.r1.below hb, h.r2.below hb⟩

set_option maxRecDepth 20000 in
set_option maxHeartbeats 8000000 in
theorem lawPM_walk (md st : Int) (pv : Bool) (v : Value) (ns : List Int) (y : Value) (cs : List Int) (w : World) (hr : ReadAt .i64 w v ns) (hr2 : ReadAt .i64 w y cs) (hm : ns.length ≤ maxLen) (hm2' : cs.length ≤ maxLen) :
    Calls Try.prog 5 #[.agg #[.int .i64 md, .int .i64 st, .bool pv, v], y] w fun e w' => e = .returned (.bool true) ∧ Below w.heap.size w w' := by
  have hr' := hr
  obtain ⟨av, cv, rfl, hz1⟩ := hr'
  clear hz1
  have hr2' := hr2
  obtain ⟨au, cu, rfl, hz1⟩ := hr2'
  clear hz1
  by_cases hcs : cs.length ≤ 1048576
  · have hcl : ¬ ((1048576 : Int) < (cs.length : Int)) := by omega
    by_cases hn0 : (ns.length : Int) ≤ 1048576
    · have hn : ns.length ≤ 1048576 := by omega
      have hlen := manyRes_len ⟨md, st, pv, ns⟩ cs
      generalize hX : manyRes ⟨md, st, pv, ns⟩ cs = X at *
      obtain ⟨code, ⟨md', st', pv', ns'⟩, al⟩ := X
      have HX := hide hX
      clear hX
      have hl1 : ns'.length ≤ 6 := hlen.1
      have hl2 : al.length ≤ 2000 := hlen.2.1
      have HL := hide (fnOf_len hlen.2.2)
      clear hlen
      go_enter Try.func5, Try.ntmps5
      go_wp2_with fail
      have q1 : Below w.heap.size w (w.alloc (.cells #[.int .i64 md, .int .i64 st, .bool pv, .slice av ns.length cv] 24)) := (by repeat' (first | with_reducible exact Below.refl _ _ | with_reducible assumption | with_reducible refine Below.drew ?_ | with_reducible refine Below.alloc ?_ ?_ _ | with_reducible refine Below.setCell ?_ ?_ _ | (simp; done) | (simp; omega) | omega))
      refine (szParser_calls md st pv ns.length av cv 1048576 (by omega) (by omega) _ hm).mono ?_
      rintro e w1 ⟨rfl, hb1⟩
      have A0 : w1.cell? ⟨w.heap.size, 0, none⟩ = some (.int .i64 md) := cellb hb1 (by simp)
      have A1 : w1.cell? ⟨w.heap.size, 1, none⟩ = some (.int .i64 st) := cellb hb1 (by simp)
      have A2 : w1.cell? ⟨w.heap.size, 2, none⟩ = some (.bool pv) := cellb hb1 (by simp)
      have A3 : w1.cell? ⟨w.heap.size, 3, none⟩ = some (.slice av ns.length cv) := cellb hb1 (by simp)
      have z1 : w.heap.size + 1 ≤ w1.heap.size := by have := hb1.size; simp at this; omega
      have r1 : Below w.heap.size w w1 := q1.trans (hb1.mono (by simp; try omega))
      clear q1 hb1
      have b1 : Below w.heap.size w w1 := r1
      clear r1
      have lt1_0 : w.heap.size < w1.heap.size := by omega
      rw [if_pos hn0]
      have hge : ¬ ((1048576 - (ns.length : Int)) < 0) := by omega
      go_wp2_with fail
      refine (toParser_calls md st pv ns _ _ hn ((hr.below b1))).mono ?_
      rintro e w2 ⟨xp, rfl, hp, hb2⟩
      have z2 : w1.heap.size ≤ w2.heap.size := hb2.size
      have r2 := hb2
      clear hb2
      replace A0 := cellb r2 A0
      replace A1 := cellb r2 A1
      replace A2 := cellb r2 A2
      replace A3 := cellb r2 A3
      have b2 : Below w.heap.size w w2 := b1.trans (r2.mono (by omega))
      clear r2 b1
      clear lt1_0
      have lt2_0 : w.heap.size < w2.heap.size := by omega
      obtain ⟨ap, cp, rfl, hp'⟩ := hp
      have hp : IntsAt .i64 w1.heap.size w2.heap.size w2 (.slice ap ns.length cp) ns := ⟨ap, cp, rfl, hp'⟩
      clear hp'
      go_wp2_with fail
      refine (toInts_calls cs _ _ hcs ((hr2.below b2))).mono ?_
      rintro e w3 ⟨xz, rfl, hz, hb3⟩
      have z3 : w2.heap.size ≤ w3.heap.size := hb3.size
      have r3 := hb3
      clear hb3
      replace A0 := cellb r3 A0
      replace A1 := cellb r3 A1
      replace A2 := cellb r3 A2
      replace A3 := cellb r3 A3
      replace hp := hp.below r3 (by omega)
      have b3 : Below w.heap.size w w3 := b2.trans (r3.mono (by omega))
      clear r3 b2
      clear lt2_0
      have lt3_0 : w.heap.size < w3.heap.size := by omega
      obtain ⟨az, cz, rfl, hz'⟩ := hz
      have hz : IntsAt .i64 w2.heap.size w3.heap.size w3 (.slice az cs.length cz) cs := ⟨az, cz, rfl, hz'⟩
      clear hz'
      go_wp2_with fail
      refine (specMany_calls md st pv ns cs _ _ _ (by unfold maxLen; omega) (by unfold maxLen; omega) hp.read hz.read).mono ?_
      rintro e w4 ⟨xj, yj, rfl, hj, hb4⟩
      have z4 : w3.heap.size ≤ w4.heap.size := hb4.size
      have r4 := hb4
      clear hb4
      replace A0 := cellb r4 A0
      replace A1 := cellb r4 A1
      replace A2 := cellb r4 A2
      replace A3 := cellb r4 A3
      replace hp := hp.below r4 (by omega)
      replace hz := hz.below r4 (by omega)
      have b4 : Below w.heap.size w w4 := b3.trans (r4.mono (by omega))
      clear r4 b3
      clear lt3_0
      have lt4_0 : w.heap.size < w4.heap.size := by omega
      rw [HX.out] at hj ⊢
      unfold manyV
      dsimp only at hj ⊢
      replace hj := (ManyOwn.mk hj (by first | omega | (simp; omega))).mono (lo' := w3.heap.size) (by first | rfl | simp)
      obtain ⟨aj, cj, dj, ej, rfl, rfl⟩ := hj.forms
      clear hp hz
      go_wp2_with fail
      have q5 : Below w4.heap.size w4 (w4.alloc (.cells #[.int .i64 code, .slice aj al.length cj, .int .i64 md', .int .i64 st', .bool pv', .slice dj ns'.length ej] 42)) := (by repeat' (first | with_reducible exact Below.refl _ _ | with_reducible assumption | with_reducible refine Below.drew ?_ | with_reducible refine Below.alloc ?_ ?_ _ | with_reducible refine Below.setCell ?_ ?_ _ | (simp; done) | (simp; omega) | omega))
      refine (toParser_calls md st pv ns _ _ hn ((hr.below b4).below q5)).mono ?_
      rintro e w5 ⟨xq, rfl, hq, hb5⟩
      have B0 : w5.cell? ⟨w4.heap.size, 0, none⟩ = some (.int .i64 code) := cellb hb5 (by simp)
      have B1 : w5.cell? ⟨w4.heap.size, 1, none⟩ = some (.slice aj al.length cj) := cellb hb5 (by simp)
      have B2 : w5.cell? ⟨w4.heap.size, 2, none⟩ = some (.int .i64 md') := cellb hb5 (by simp)
      have B3 : w5.cell? ⟨w4.heap.size, 3, none⟩ = some (.int .i64 st') := cellb hb5 (by simp)
      have B4 : w5.cell? ⟨w4.heap.size, 4, none⟩ = some (.bool pv') := cellb hb5 (by simp)
      have B5 : w5.cell? ⟨w4.heap.size, 5, none⟩ = some (.slice dj ns'.length ej) := cellb hb5 (by simp)
      have z5 : w4.heap.size + 1 ≤ w5.heap.size := by have := hb5.size; simp at this; omega
      have r5 : Below w4.heap.size w4 w5 := q5.trans (hb5.mono (by simp; try omega))
      clear q5 hb5
      replace A0 := cellb r5 A0
      replace A1 := cellb r5 A1
      replace A2 := cellb r5 A2
      replace A3 := cellb r5 A3
      replace hj := hj.below r5 (by omega)
      have b5 : Below w.heap.size w w5 := b4.trans (r5.mono (by omega))
      clear r5 b4
      clear lt4_0
      have lt5_0 : w.heap.size < w5.heap.size := by omega
      have lt5_1 : w4.heap.size < w5.heap.size := by omega
      replace hq := hq.mono (lo' := (w4.heap.size + 1)) (by simp) (Nat.le_refl _)
      obtain ⟨aq, cq, rfl, hq'⟩ := hq
      have hq : IntsAt .i64 (w4.heap.size + 1) w5.heap.size w5 (.slice aq ns.length cq) ns := ⟨aq, cq, rfl, hq'⟩
      clear hq'
      go_wp2_with fail
      have q6 : Below w5.heap.size w5 (w5.alloc (.cells #[.int .i64 md, .int .i64 st, .bool pv, .slice aq ns.length cq] 27)) := (by repeat' (first | with_reducible exact Below.refl _ _ | with_reducible assumption | with_reducible refine Below.drew ?_ | with_reducible refine Below.alloc ?_ ?_ _ | with_reducible refine Below.setCell ?_ ?_ _ | (simp; done) | (simp; omega) | omega))
      refine (toInts_calls cs _ _ hcs ((hr2.below b5).below q6)).mono ?_
      rintro e w6 ⟨xk, rfl, hk, hb6⟩
      have X0 : w6.cell? ⟨w5.heap.size, 0, none⟩ = some (.int .i64 md) := cellb hb6 (by simp)
      have X1 : w6.cell? ⟨w5.heap.size, 1, none⟩ = some (.int .i64 st) := cellb hb6 (by simp)
      have X2 : w6.cell? ⟨w5.heap.size, 2, none⟩ = some (.bool pv) := cellb hb6 (by simp)
      have X3 : w6.cell? ⟨w5.heap.size, 3, none⟩ = some (.slice aq ns.length cq) := cellb hb6 (by simp)
      have z6 : w5.heap.size + 1 ≤ w6.heap.size := by have := hb6.size; simp at this; omega
      have r6 : Below w5.heap.size w5 w6 := q6.trans (hb6.mono (by simp; try omega))
      clear q6 hb6
      replace A0 := cellb r6 A0
      replace A1 := cellb r6 A1
      replace A2 := cellb r6 A2
      replace A3 := cellb r6 A3
      replace B0 := cellb r6 B0
      replace B1 := cellb r6 B1
      replace B2 := cellb r6 B2
      replace B3 := cellb r6 B3
      replace B4 := cellb r6 B4
      replace B5 := cellb r6 B5
      replace hj := hj.below r6 (by omega)
      replace hq := hq.below r6 (by omega)
      have b6 : Below w.heap.size w w6 := b5.trans (r6.mono (by omega))
      clear r6 b5
      clear lt5_0 lt5_1
      have lt6_0 : w.heap.size < w6.heap.size := by omega
      have lt6_1 : w4.heap.size < w6.heap.size := by omega
      have lt6_2 : w5.heap.size < w6.heap.size := by omega
      replace hk := hk.mono (lo' := (w5.heap.size + 1)) (by simp) (Nat.le_refl _)
      obtain ⟨ak, ck, rfl, hk'⟩ := hk
      have hk : IntsAt .i64 (w5.heap.size + 1) w6.heap.size w6 (.slice ak cs.length ck) cs := ⟨ak, ck, rfl, hk'⟩
      clear hk'
      go_wp2_with fail
      refine (implMany_calls md st pv ns cs _ _ _ (by unfold maxLen; omega) (by unfold maxLen; omega) hq.read hk.read).mono ?_
      rintro e w7 ⟨xg, yg, rfl, hg, hb7⟩
      have z7 : w6.heap.size ≤ w7.heap.size := hb7.size
      have r7 := hb7
      clear hb7
      replace A0 := cellb r7 A0
      replace A1 := cellb r7 A1
      replace A2 := cellb r7 A2
      replace A3 := cellb r7 A3
      replace B0 := cellb r7 B0
      replace B1 := cellb r7 B1
      replace B2 := cellb r7 B2
      replace B3 := cellb r7 B3
      replace B4 := cellb r7 B4
      replace B5 := cellb r7 B5
      replace X0 := cellb r7 X0
      replace X1 := cellb r7 X1
      replace X2 := cellb r7 X2
      replace X3 := cellb r7 X3
      replace hj := hj.below r7 (by omega)
      replace hq := hq.below r7 (by omega)
      replace hk := hk.below r7 (by omega)
      have b7 : Below w.heap.size w w7 := b6.trans (r7.mono (by omega))
      clear r7 b6
      clear lt6_0 lt6_1 lt6_2
      have lt7_0 : w.heap.size < w7.heap.size := by omega
      have lt7_1 : w4.heap.size < w7.heap.size := by omega
      have lt7_2 : w5.heap.size < w7.heap.size := by omega
      rw [HX.out] at hg ⊢
      unfold manyV
      dsimp only at hg ⊢
      replace hg := (ManyOwn.mk hg (by first | omega | (simp; omega))).mono (lo' := w6.heap.size) (by first | rfl | simp)
      obtain ⟨ag, cg, dg, eg, rfl, rfl⟩ := hg.forms
      go_wp2_with fail
      have q8 : Below w7.heap.size w7 (w7.alloc (.cells #[.int .i64 code, .slice ag al.length cg, .int .i64 md', .int .i64 st', .bool pv', .slice dg ns'.length eg] 42)) := (by repeat' (first | with_reducible exact Below.refl _ _ | with_reducible assumption | with_reducible refine Below.drew ?_ | with_reducible refine Below.alloc ?_ ?_ _ | with_reducible refine Below.setCell ?_ ?_ _ | (simp; done) | (simp; omega) | omega))
      refine (eqActionsResult_calls code md' st' pv' al ns' _ _ _ _ _ hl2 hl1 HL.out (hg.read1.below q8) (hg.read2.below q8) (hj.read1.below q8) (hj.read2.below q8)).mono ?_
      rintro e w8 ⟨rfl, hb8⟩
      have G0 : w8.cell? ⟨w7.heap.size, 0, none⟩ = some (.int .i64 code) := cellb hb8 (by simp)
      have G1 : w8.cell? ⟨w7.heap.size, 1, none⟩ = some (.slice ag al.length cg) := cellb hb8 (by simp)
      have G2 : w8.cell? ⟨w7.heap.size, 2, none⟩ = some (.int .i64 md') := cellb hb8 (by simp)
      have G3 : w8.cell? ⟨w7.heap.size, 3, none⟩ = some (.int .i64 st') := cellb hb8 (by simp)
      have G4 : w8.cell? ⟨w7.heap.size, 4, none⟩ = some (.bool pv') := cellb hb8 (by simp)
      have G5 : w8.cell? ⟨w7.heap.size, 5, none⟩ = some (.slice dg ns'.length eg) := cellb hb8 (by simp)
      have z8 : w7.heap.size + 1 ≤ w8.heap.size := by have := hb8.size; simp at this; omega
      have r8 : Below w7.heap.size w7 w8 := q8.trans (hb8.mono (by simp; try omega))
      clear q8 hb8
      replace A0 := cellb r8 A0
      replace A1 := cellb r8 A1
      replace A2 := cellb r8 A2
      replace A3 := cellb r8 A3
      replace B0 := cellb r8 B0
      replace B1 := cellb r8 B1
      replace B2 := cellb r8 B2
      replace B3 := cellb r8 B3
      replace B4 := cellb r8 B4
      replace B5 := cellb r8 B5
      replace X0 := cellb r8 X0
      replace X1 := cellb r8 X1
      replace X2 := cellb r8 X2
      replace X3 := cellb r8 X3
      replace hj := hj.below r8 (by omega)
      replace hq := hq.below r8 (by omega)
      replace hk := hk.below r8 (by omega)
      replace hg := hg.below r8 (by omega)
      have b8 : Below w.heap.size w w8 := b7.trans (r8.mono (by omega))
      clear r8 b7
      clear lt7_0 lt7_1 lt7_2
      have lt8_0 : w.heap.size < w8.heap.size := by omega
      have lt8_1 : w4.heap.size < w8.heap.size := by omega
      have lt8_2 : w5.heap.size < w8.heap.size := by omega
      have lt8_3 : w7.heap.size < w8.heap.size := by omega
      go_wp2_with fail
      have hq0 := hr.below b8
      have hKG : KeepParser w8 (w.heap.size) (w5.heap.size) md st pv (.slice av ns.length cv) (.slice aq ns.length cq) ns w8.drew := ⟨Below.drew (Below.refl _ w8), A0, A1, A2, A3, X0, X1, X2, X3, hq0, hq.read⟩
      refine wp_region_held_drew (S := (fun w' => KeepParser w8 (w.heap.size) (w5.heap.size) md st pv (.slice av ns.length cv) (.slice aq ns.length cq) ns w')) (by kernel_rfl) ?_ (fun hHeld => ?_)
      · (try dsimp only); exact hKG
      refine wpAnyH_take (i := 0) (oi := ⟨_, _, _, _, _, _⟩) (v := ?_) rfl (by kernel_rfl) (by kernel_rfl) (by kernel_rfl) (fun _ _ _ h => h) (Or.inl ⟨by rfl, ?_⟩) hHeld ?_
      rotate_left
      · (intro w hSw; (try dsimp only at hSw); have s0 := hSw.a0; have s1 := hSw.a1; have s2 := hSw.a2; have s3 := hSw.a3; have t0 := hSw.c0; have t1 := hSw.c1; have t2 := hSw.c2; have t3 := hSw.c3; clear hSw; go_simp; try (with_reducible rfl))
      try simp only [Act.put, List.setIfInBounds_toArray, List.set_cons_zero, List.set_cons_succ]
      refine wpAnyH_take (i := 1) (oi := ⟨_, _, _, _, _, _⟩) (v := ?_) rfl (by kernel_rfl) (by kernel_rfl) (by kernel_rfl) (fun _ _ _ h => h) (Or.inl ⟨by rfl, ?_⟩) hHeld ?_
      rotate_left
      · (intro w hSw; (try dsimp only at hSw); have s0 := hSw.a0; have s1 := hSw.a1; have s2 := hSw.a2; have s3 := hSw.a3; have t0 := hSw.c0; have t1 := hSw.c1; have t2 := hSw.c2; have t3 := hSw.c3; clear hSw; go_simp; try (with_reducible rfl))
      try simp only [Act.put, List.setIfInBounds_toArray, List.set_cons_zero, List.set_cons_succ]
      refine wpAnyH_ready (rs := [2]) (by kernel_rfl) (by simp) ?_
      refine AllReadyH.cons (o := ⟨_, _, _, _, _, _⟩) rfl (fun K hK => ?_) AllReadyH.nil
      go_simp
      go_at_call 10
      refine (toParser_calls md st pv ns _ _ hn hHeld.r1).mono ?_
      rintro e v9 ⟨y9, rfl, hy9, hbv9⟩
      have hry9 := hy9.read
      obtain ⟨ay9, cy9, rfl, hyy9⟩ := hy9
      clear hyy9
      try go_wp2_with fail
      refine hK.out _ _ ?_ ?_
      · (try dsimp only); exact hHeld.next hbv9
      clear hHeld hK K
      intro hHeld
      try simp only [Act.put, List.setIfInBounds_toArray, List.set_cons_zero, List.set_cons_succ]
      refine wpAnyH_ready (rs := [3]) (by kernel_rfl) (by simp) ?_
      refine AllReadyH.cons (o := ⟨_, _, _, _, _, _⟩) rfl (fun K hK => ?_) AllReadyH.nil
      go_simp
      go_at_call 12
      refine (eqParser_calls md st pv ns _ _ _ (by omega) hHeld.r2 hry9).mono ?_
      rintro e w9 ⟨rfl, hbu9⟩
      try go_wp2_with fail
      refine hK.out _ _ ?_ ?_
      · (try dsimp only); exact hHeld.next hbu9
      clear hHeld hK K
      intro hHeld
      try simp only [Act.put, List.setIfInBounds_toArray, List.set_cons_zero, List.set_cons_succ]
      refine wpAnyH_take (i := 4) (oi := ⟨_, _, _, _, _, _⟩) (v := ?_) rfl (by kernel_rfl) (by kernel_rfl) (by kernel_rfl) (fun _ _ _ h => h) (Or.inl ⟨by rfl, ?_⟩) hHeld ?_
      rotate_left
      · (intro w hSw; (try dsimp only at hSw); have s0 := hSw.a0; have s1 := hSw.a1; have s2 := hSw.a2; have s3 := hSw.a3; have t0 := hSw.c0; have t1 := hSw.c1; have t2 := hSw.c2; have t3 := hSw.c3; clear hSw; go_simp; try (with_reducible rfl))
      try simp only [Act.put, List.setIfInBounds_toArray, List.set_cons_zero, List.set_cons_succ]
      refine wpAnyH_done (by kernel_rfl) ?_ _
      have r9 := hHeld.bel
      clear hHeld hry9 hbv9 hbu9 hKG hq0
      have z9 : w8.heap.size ≤ w9.heap.size := r9.size
      replace A0 := cellb r9 A0
      replace A1 := cellb r9 A1
      replace A2 := cellb r9 A2
      replace A3 := cellb r9 A3
      replace B0 := cellb r9 B0
      replace B1 := cellb r9 B1
      replace B2 := cellb r9 B2
      replace B3 := cellb r9 B3
      replace B4 := cellb r9 B4
      replace B5 := cellb r9 B5
      replace X0 := cellb r9 X0
      replace X1 := cellb r9 X1
      replace X2 := cellb r9 X2
      replace X3 := cellb r9 X3
      replace G0 := cellb r9 G0
      replace G1 := cellb r9 G1
      replace G2 := cellb r9 G2
      replace G3 := cellb r9 G3
      replace G4 := cellb r9 G4
      replace G5 := cellb r9 G5
      replace hj := hj.below r9 (by omega)
      replace hq := hq.below r9 (by omega)
      replace hk := hk.below r9 (by omega)
      replace hg := hg.below r9 (by omega)
      have b9 : Below w.heap.size w w9 := b8.trans (r9.mono (by omega))
      clear r9 b8
      clear lt8_0 lt8_1 lt8_2 lt8_3
      have lt9_0 : w.heap.size < w9.heap.size := by omega
      have lt9_1 : w4.heap.size < w9.heap.size := by omega
      have lt9_2 : w5.heap.size < w9.heap.size := by omega
      have lt9_3 : w7.heap.size < w9.heap.size := by omega
      go_wp2_with fail
      refine (toInts_calls cs _ _ hcs ((hr2.below b9))).mono ?_
      rintro e w10 ⟨xv2, rfl, hv2, hb10⟩
      have z10 : w9.heap.size ≤ w10.heap.size := hb10.size
      have r10 := hb10
      clear hb10
      replace A0 := cellb r10 A0
      replace A1 := cellb r10 A1
      replace A2 := cellb r10 A2
      replace A3 := cellb r10 A3
      replace B0 := cellb r10 B0
      replace B1 := cellb r10 B1
      replace B2 := cellb r10 B2
      replace B3 := cellb r10 B3
      replace B4 := cellb r10 B4
      replace B5 := cellb r10 B5
      replace X0 := cellb r10 X0
      replace X1 := cellb r10 X1
      replace X2 := cellb r10 X2
      replace X3 := cellb r10 X3
      replace G0 := cellb r10 G0
      replace G1 := cellb r10 G1
      replace G2 := cellb r10 G2
      replace G3 := cellb r10 G3
      replace G4 := cellb r10 G4
      replace G5 := cellb r10 G5
      replace hj := hj.below r10 (by omega)
      replace hq := hq.below r10 (by omega)
      replace hk := hk.below r10 (by omega)
      replace hg := hg.below r10 (by omega)
      have b10 : Below w.heap.size w w10 := b9.trans (r10.mono (by omega))
      clear r10 b9
      clear lt9_0 lt9_1 lt9_2 lt9_3
      have lt10_0 : w.heap.size < w10.heap.size := by omega
      have lt10_1 : w4.heap.size < w10.heap.size := by omega
      have lt10_2 : w5.heap.size < w10.heap.size := by omega
      have lt10_3 : w7.heap.size < w10.heap.size := by omega
      obtain ⟨av2, cv2, rfl, hv2'⟩ := hv2
      have hv2 : IntsAt .i64 w9.heap.size w10.heap.size w10 (.slice av2 cs.length cv2) cs := ⟨av2, cv2, rfl, hv2'⟩
      clear hv2'
      go_wp2_with fail
      refine (eqInts_below cs _ _ _ (by omega) hk.read hv2.read).mono ?_
      rintro e w11 ⟨rfl, hb11⟩
      have z11 : w10.heap.size ≤ w11.heap.size := hb11.size
      have r11 := hb11
      clear hb11
      replace A0 := cellb r11 A0
      replace A1 := cellb r11 A1
      replace A2 := cellb r11 A2
      replace A3 := cellb r11 A3
      replace B0 := cellb r11 B0
      replace B1 := cellb r11 B1
      replace B2 := cellb r11 B2
      replace B3 := cellb r11 B3
      replace B4 := cellb r11 B4
      replace B5 := cellb r11 B5
      replace X0 := cellb r11 X0
      replace X1 := cellb r11 X1
      replace X2 := cellb r11 X2
      replace X3 := cellb r11 X3
      replace G0 := cellb r11 G0
      replace G1 := cellb r11 G1
      replace G2 := cellb r11 G2
      replace G3 := cellb r11 G3
      replace G4 := cellb r11 G4
      replace G5 := cellb r11 G5
      replace hj := hj.below r11 (by omega)
      replace hq := hq.below r11 (by omega)
      replace hk := hk.below r11 (by omega)
      replace hg := hg.below r11 (by omega)
      replace hv2 := hv2.below r11 (by omega)
      have b11 : Below w.heap.size w w11 := b10.trans (r11.mono (by omega))
      clear r11 b10
      clear lt10_0 lt10_1 lt10_2 lt10_3
      have lt11_0 : w.heap.size < w11.heap.size := by omega
      have lt11_1 : w4.heap.size < w11.heap.size := by omega
      have lt11_2 : w5.heap.size < w11.heap.size := by omega
      have lt11_3 : w7.heap.size < w11.heap.size := by omega
      clear hv2
      go_wp2_with fail
      refine (markParser_calls md st pv ns 1 (w4.heap.size + 1) w5.heap.size _ _ (by omega) (by omega) (by omega) (by omega) hq).mono ?_
      rintro e w12 ⟨rfl, hm0, hb12⟩
      have z12 : w11.heap.size ≤ w12.heap.size := hb12.size
      replace A0 := hb12.cell (by omega) (by omega) A0
      replace A1 := hb12.cell (by omega) (by omega) A1
      replace A2 := hb12.cell (by omega) (by omega) A2
      replace A3 := hb12.cell (by omega) (by omega) A3
      replace B0 := hb12.cell (by omega) (by omega) B0
      replace B1 := hb12.cell (by omega) (by omega) B1
      replace B2 := hb12.cell (by omega) (by omega) B2
      replace B3 := hb12.cell (by omega) (by omega) B3
      replace B4 := hb12.cell (by omega) (by omega) B4
      replace B5 := hb12.cell (by omega) (by omega) B5
      replace X0 := hb12.cell (by omega) (by omega) X0
      replace X1 := hb12.cell (by omega) (by omega) X1
      replace X2 := hb12.cell (by omega) (by omega) X2
      replace X3 := hb12.cell (by omega) (by omega) X3
      replace G0 := hb12.cell (by omega) (by omega) G0
      replace G1 := hb12.cell (by omega) (by omega) G1
      replace G2 := hb12.cell (by omega) (by omega) G2
      replace G3 := hb12.cell (by omega) (by omega) G3
      replace G4 := hb12.cell (by omega) (by omega) G4
      replace G5 := hb12.cell (by omega) (by omega) G5
      replace hj := hj.within hb12 (by omega) (by omega)
      replace hk := hk.within hb12 (by omega) (by omega)
      replace hg := hg.within hb12 (by omega) (by omega)
      have b12 : Below w.heap.size w w12 := b11.trans (hb12.below (by omega) (by omega))
      clear hb12 b11
      clear lt11_0 lt11_1 lt11_2 lt11_3
      have lt12_0 : w.heap.size < w12.heap.size := by omega
      have lt12_1 : w4.heap.size < w12.heap.size := by omega
      have lt12_2 : w5.heap.size < w12.heap.size := by omega
      have lt12_3 : w7.heap.size < w12.heap.size := by omega
      clear hq hm0
      go_wp2_with fail
      refine (markInts_calls cs (1 + ns.length) (w5.heap.size + 1) w6.heap.size _ _ (by omega) (by omega) (by omega) hk).mono ?_
      rintro e w13 ⟨rfl, hm0, hb13⟩
      have z13 : w12.heap.size ≤ w13.heap.size := hb13.size
      replace A0 := hb13.cell (by omega) (by omega) A0
      replace A1 := hb13.cell (by omega) (by omega) A1
      replace A2 := hb13.cell (by omega) (by omega) A2
      replace A3 := hb13.cell (by omega) (by omega) A3
      replace B0 := hb13.cell (by omega) (by omega) B0
      replace B1 := hb13.cell (by omega) (by omega) B1
      replace B2 := hb13.cell (by omega) (by omega) B2
      replace B3 := hb13.cell (by omega) (by omega) B3
      replace B4 := hb13.cell (by omega) (by omega) B4
      replace B5 := hb13.cell (by omega) (by omega) B5
      replace X0 := hb13.cell (by omega) (by omega) X0
      replace X1 := hb13.cell (by omega) (by omega) X1
      replace X2 := hb13.cell (by omega) (by omega) X2
      replace X3 := hb13.cell (by omega) (by omega) X3
      replace G0 := hb13.cell (by omega) (by omega) G0
      replace G1 := hb13.cell (by omega) (by omega) G1
      replace G2 := hb13.cell (by omega) (by omega) G2
      replace G3 := hb13.cell (by omega) (by omega) G3
      replace G4 := hb13.cell (by omega) (by omega) G4
      replace G5 := hb13.cell (by omega) (by omega) G5
      replace hj := hj.within hb13 (by omega) (by omega)
      replace hg := hg.within hb13 (by omega) (by omega)
      have b13 : Below w.heap.size w w13 := b12.trans (hb13.below (by omega) (by omega))
      clear hb13 b12
      clear lt12_0 lt12_1 lt12_2 lt12_3
      have lt13_0 : w.heap.size < w13.heap.size := by omega
      have lt13_1 : w4.heap.size < w13.heap.size := by omega
      have lt13_2 : w5.heap.size < w13.heap.size := by omega
      have lt13_3 : w7.heap.size < w13.heap.size := by omega
      clear hk hm0
      have hk0 : ¬ ((1 : Int) + (ns.length : Int) + (cs.length : Int) < 0) := by omega
      go_wp2_with fail
      refine (eqActionsResult_calls code md' st' pv' al ns' _ _ _ _ _ hl2 hl1 HL.out hg.read1 hg.read2 hj.read1 hj.read2).mono ?_
      rintro e w14 ⟨rfl, hb14⟩
      have z14 : w13.heap.size ≤ w14.heap.size := hb14.size
      have r14 := hb14
      clear hb14
      replace A0 := cellb r14 A0
      replace A1 := cellb r14 A1
      replace A2 := cellb r14 A2
      replace A3 := cellb r14 A3
      replace B0 := cellb r14 B0
      replace B1 := cellb r14 B1
      replace B2 := cellb r14 B2
      replace B3 := cellb r14 B3
      replace B4 := cellb r14 B4
      replace B5 := cellb r14 B5
      replace X0 := cellb r14 X0
      replace X1 := cellb r14 X1
      replace X2 := cellb r14 X2
      replace X3 := cellb r14 X3
      replace G0 := cellb r14 G0
      replace G1 := cellb r14 G1
      replace G2 := cellb r14 G2
      replace G3 := cellb r14 G3
      replace G4 := cellb r14 G4
      replace G5 := cellb r14 G5
      replace hj := hj.below r14 (by omega)
      replace hg := hg.below r14 (by omega)
      have b14 : Below w.heap.size w w14 := b13.trans (r14.mono (by omega))
      clear r14 b13
      clear lt13_0 lt13_1 lt13_2 lt13_3
      have lt14_0 : w.heap.size < w14.heap.size := by omega
      have lt14_1 : w4.heap.size < w14.heap.size := by omega
      have lt14_2 : w5.heap.size < w14.heap.size := by omega
      have lt14_3 : w7.heap.size < w14.heap.size := by omega
      go_wp2_with fail
      refine (markActionsResult_calls code md' st' pv' al ns' w6.heap.size w7.heap.size _ _ _ hl2 hl1 HL.out hg (by omega)).mono ?_
      rintro e w15 ⟨rfl, hm1, hm2, hb15⟩
      have z15 : w14.heap.size ≤ w15.heap.size := hb15.size
      replace A0 := hb15.cell (by omega) (by omega) A0
      replace A1 := hb15.cell (by omega) (by omega) A1
      replace A2 := hb15.cell (by omega) (by omega) A2
      replace A3 := hb15.cell (by omega) (by omega) A3
      replace B0 := hb15.cell (by omega) (by omega) B0
      replace B1 := hb15.cell (by omega) (by omega) B1
      replace B2 := hb15.cell (by omega) (by omega) B2
      replace B3 := hb15.cell (by omega) (by omega) B3
      replace B4 := hb15.cell (by omega) (by omega) B4
      replace B5 := hb15.cell (by omega) (by omega) B5
      replace X0 := hb15.cell (by omega) (by omega) X0
      replace X1 := hb15.cell (by omega) (by omega) X1
      replace X2 := hb15.cell (by omega) (by omega) X2
      replace X3 := hb15.cell (by omega) (by omega) X3
      replace G0 := hb15.cell (by omega) (by omega) G0
      replace G1 := hb15.cell (by omega) (by omega) G1
      replace G2 := hb15.cell (by omega) (by omega) G2
      replace G3 := hb15.cell (by omega) (by omega) G3
      replace G4 := hb15.cell (by omega) (by omega) G4
      replace G5 := hb15.cell (by omega) (by omega) G5
      replace hj := hj.within hb15 (by omega) (by omega)
      have b15 : Below w.heap.size w w15 := b14.trans (hb15.below (by omega) (by omega))
      clear hb15 b14
      clear lt14_0 lt14_1 lt14_2 lt14_3
      have lt15_0 : w.heap.size < w15.heap.size := by omega
      have lt15_1 : w4.heap.size < w15.heap.size := by omega
      have lt15_2 : w5.heap.size < w15.heap.size := by omega
      have lt15_3 : w7.heap.size < w15.heap.size := by omega
      clear hg
      replace hm1 : ActsR w15 _ al.length (markFn al) := hm1
      have HG1 := hide (fun i (hi : i < al.length) => by rw [markFn_len]; exact HL.out i hi : ∀ i, i < al.length → (markFn al i).ns.length ≤ 6)
      have HG2 := hide (fun i (hi : i < al.length) => markFn_self al i)
      have HG3 := hide (markFn_k al al.length)
      have hK := kF_ge 1 (fnOf al) al.length
      generalize kF 1 (fnOf al) al.length = K at *
      generalize markFn al = G at *
      go_wp2_with fail
      refine (heldActionsResult_calls code md' st' pv' al.length G (marks K ns'.length) _ _ _ hl2 (by rw [marks_length]; omega) HG1.out hm1 hm2 HG2.out (by intro i hi; rw [marks_length] at hi; rw [marks_get _ _ _ hi, HG3.out])).mono ?_
      rintro e w16 ⟨rfl, hb16⟩
      have z16 : w15.heap.size ≤ w16.heap.size := hb16.size
      have r16 := hb16
      clear hb16
      replace A0 := cellb r16 A0
      replace A1 := cellb r16 A1
      replace A2 := cellb r16 A2
      replace A3 := cellb r16 A3
      replace B0 := cellb r16 B0
      replace B1 := cellb r16 B1
      replace B2 := cellb r16 B2
      replace B3 := cellb r16 B3
      replace B4 := cellb r16 B4
      replace B5 := cellb r16 B5
      replace X0 := cellb r16 X0
      replace X1 := cellb r16 X1
      replace X2 := cellb r16 X2
      replace X3 := cellb r16 X3
      replace G0 := cellb r16 G0
      replace G1 := cellb r16 G1
      replace G2 := cellb r16 G2
      replace G3 := cellb r16 G3
      replace G4 := cellb r16 G4
      replace G5 := cellb r16 G5
      replace hj := hj.below r16 (by omega)
      replace hm1 := hm1.below r16
      replace hm2 := hm2.below r16
      have b16 : Below w.heap.size w w16 := b15.trans (r16.mono (by omega))
      clear r16 b15
      clear lt15_0 lt15_1 lt15_2 lt15_3
      have lt16_0 : w.heap.size < w16.heap.size := by omega
      have lt16_1 : w4.heap.size < w16.heap.size := by omega
      have lt16_2 : w5.heap.size < w16.heap.size := by omega
      have lt16_3 : w7.heap.size < w16.heap.size := by omega
      rw [marks_length, HG3.out]
      have hk1 : ¬ (K + (ns'.length : Int) < 0) := by omega
      have hk2 : ((K + (ns'.length : Int)) != (K + (ns'.length : Int))) = false := by simp
      go_wp2_with fail
      refine (toParser_calls md st pv ns _ _ hn ((hr.below b16))).mono ?_
      rintro e w17 ⟨xo, rfl, ho, hb17⟩
      have z17 : w16.heap.size ≤ w17.heap.size := hb17.size
      have r17 := hb17
      clear hb17
      replace A0 := cellb r17 A0
      replace A1 := cellb r17 A1
      replace A2 := cellb r17 A2
      replace A3 := cellb r17 A3
      replace B0 := cellb r17 B0
      replace B1 := cellb r17 B1
      replace B2 := cellb r17 B2
      replace B3 := cellb r17 B3
      replace B4 := cellb r17 B4
      replace B5 := cellb r17 B5
      replace X0 := cellb r17 X0
      replace X1 := cellb r17 X1
      replace X2 := cellb r17 X2
      replace X3 := cellb r17 X3
      replace G0 := cellb r17 G0
      replace G1 := cellb r17 G1
      replace G2 := cellb r17 G2
      replace G3 := cellb r17 G3
      replace G4 := cellb r17 G4
      replace G5 := cellb r17 G5
      replace hj := hj.below r17 (by omega)
      replace hm1 := hm1.below r17
      replace hm2 := hm2.below r17
      have b17 : Below w.heap.size w w17 := b16.trans (r17.mono (by omega))
      clear r17 b16
      clear lt16_0 lt16_1 lt16_2 lt16_3
      have lt17_0 : w.heap.size < w17.heap.size := by omega
      have lt17_1 : w4.heap.size < w17.heap.size := by omega
      have lt17_2 : w5.heap.size < w17.heap.size := by omega
      have lt17_3 : w7.heap.size < w17.heap.size := by omega
      obtain ⟨ao, co, rfl, ho'⟩ := ho
      have ho : IntsAt .i64 w16.heap.size w17.heap.size w17 (.slice ao ns.length co) ns := ⟨ao, co, rfl, ho'⟩
      clear ho'
      go_wp2_with fail
      refine (toInts_calls cs _ _ hcs ((hr2.below b17))).mono ?_
      rintro e w18 ⟨xw3x, rfl, hw3x, hb18⟩
      have z18 : w17.heap.size ≤ w18.heap.size := hb18.size
      have r18 := hb18
      clear hb18
      replace A0 := cellb r18 A0
      replace A1 := cellb r18 A1
      replace A2 := cellb r18 A2
      replace A3 := cellb r18 A3
      replace B0 := cellb r18 B0
      replace B1 := cellb r18 B1
      replace B2 := cellb r18 B2
      replace B3 := cellb r18 B3
      replace B4 := cellb r18 B4
      replace B5 := cellb r18 B5
      replace X0 := cellb r18 X0
      replace X1 := cellb r18 X1
      replace X2 := cellb r18 X2
      replace X3 := cellb r18 X3
      replace G0 := cellb r18 G0
      replace G1 := cellb r18 G1
      replace G2 := cellb r18 G2
      replace G3 := cellb r18 G3
      replace G4 := cellb r18 G4
      replace G5 := cellb r18 G5
      replace hj := hj.below r18 (by omega)
      replace ho := ho.below r18 (by omega)
      replace hm1 := hm1.below r18
      replace hm2 := hm2.below r18
      have b18 : Below w.heap.size w w18 := b17.trans (r18.mono (by omega))
      clear r18 b17
      clear lt17_0 lt17_1 lt17_2 lt17_3
      have lt18_0 : w.heap.size < w18.heap.size := by omega
      have lt18_1 : w4.heap.size < w18.heap.size := by omega
      have lt18_2 : w5.heap.size < w18.heap.size := by omega
      have lt18_3 : w7.heap.size < w18.heap.size := by omega
      obtain ⟨aw3x, cw3x, rfl, hw3x'⟩ := hw3x
      have hw3x : IntsAt .i64 w17.heap.size w18.heap.size w18 (.slice aw3x cs.length cw3x) cs := ⟨aw3x, cw3x, rfl, hw3x'⟩
      clear hw3x'
      go_wp2_with fail
      refine (implMany_calls md st pv ns cs _ _ _ (by unfold maxLen; omega) (by unfold maxLen; omega) ho.read hw3x.read).mono ?_
      rintro e w19 ⟨xu, yu, rfl, hu, hb19⟩
      have z19 : w18.heap.size ≤ w19.heap.size := hb19.size
      have r19 := hb19
      clear hb19
      replace A0 := cellb r19 A0
      replace A1 := cellb r19 A1
      replace A2 := cellb r19 A2
      replace A3 := cellb r19 A3
      replace B0 := cellb r19 B0
      replace B1 := cellb r19 B1
      replace B2 := cellb r19 B2
      replace B3 := cellb r19 B3
      replace B4 := cellb r19 B4
      replace B5 := cellb r19 B5
      replace X0 := cellb r19 X0
      replace X1 := cellb r19 X1
      replace X2 := cellb r19 X2
      replace X3 := cellb r19 X3
      replace G0 := cellb r19 G0
      replace G1 := cellb r19 G1
      replace G2 := cellb r19 G2
      replace G3 := cellb r19 G3
      replace G4 := cellb r19 G4
      replace G5 := cellb r19 G5
      replace hj := hj.below r19 (by omega)
      replace ho := ho.below r19 (by omega)
      replace hw3x := hw3x.below r19 (by omega)
      replace hm1 := hm1.below r19
      replace hm2 := hm2.below r19
      have b19 : Below w.heap.size w w19 := b18.trans (r19.mono (by omega))
      clear r19 b18
      clear lt18_0 lt18_1 lt18_2 lt18_3
      have lt19_0 : w.heap.size < w19.heap.size := by omega
      have lt19_1 : w4.heap.size < w19.heap.size := by omega
      have lt19_2 : w5.heap.size < w19.heap.size := by omega
      have lt19_3 : w7.heap.size < w19.heap.size := by omega
      rw [HX.out] at hu ⊢
      unfold manyV
      dsimp only at hu ⊢
      replace hu := (ManyOwn.mk hu (by first | omega | (simp; omega))).mono (lo' := w18.heap.size) (by first | rfl | simp)
      obtain ⟨au, cu, du, eu, rfl, rfl⟩ := hu.forms
      clear ho hw3x
      go_wp2_with fail
      have q20 : Below w19.heap.size w19 (w19.alloc (.cells #[.int .i64 code, .slice au al.length cu, .int .i64 md', .int .i64 st', .bool pv', .slice du ns'.length eu] 42)) := (by repeat' (first | with_reducible exact Below.refl _ _ | with_reducible assumption | with_reducible refine Below.drew ?_ | with_reducible refine Below.alloc ?_ ?_ _ | with_reducible refine Below.setCell ?_ ?_ _ | (simp; done) | (simp; omega) | omega))
      refine (eqActionsResult_calls code md' st' pv' al ns' _ _ _ _ _ hl2 hl1 HL.out (hu.read1.below q20) (hu.read2.below q20) (hj.read1.below q20) (hj.read2.below q20)).mono ?_
      rintro e w20 ⟨rfl, hb20⟩
      have H0 : w20.cell? ⟨w19.heap.size, 0, none⟩ = some (.int .i64 code) := cellb hb20 (by simp)
      have H1 : w20.cell? ⟨w19.heap.size, 1, none⟩ = some (.slice au al.length cu) := cellb hb20 (by simp)
      have H2 : w20.cell? ⟨w19.heap.size, 2, none⟩ = some (.int .i64 md') := cellb hb20 (by simp)
      have H3 : w20.cell? ⟨w19.heap.size, 3, none⟩ = some (.int .i64 st') := cellb hb20 (by simp)
      have H4 : w20.cell? ⟨w19.heap.size, 4, none⟩ = some (.bool pv') := cellb hb20 (by simp)
      have H5 : w20.cell? ⟨w19.heap.size, 5, none⟩ = some (.slice du ns'.length eu) := cellb hb20 (by simp)
      have z20 : w19.heap.size + 1 ≤ w20.heap.size := by have := hb20.size; simp at this; omega
      have r20 : Below w19.heap.size w19 w20 := q20.trans (hb20.mono (by simp; try omega))
      clear q20 hb20
      replace A0 := cellb r20 A0
      replace A1 := cellb r20 A1
      replace A2 := cellb r20 A2
      replace A3 := cellb r20 A3
      replace B0 := cellb r20 B0
      replace B1 := cellb r20 B1
      replace B2 := cellb r20 B2
      replace B3 := cellb r20 B3
      replace B4 := cellb r20 B4
      replace B5 := cellb r20 B5
      replace X0 := cellb r20 X0
      replace X1 := cellb r20 X1
      replace X2 := cellb r20 X2
      replace X3 := cellb r20 X3
      replace G0 := cellb r20 G0
      replace G1 := cellb r20 G1
      replace G2 := cellb r20 G2
      replace G3 := cellb r20 G3
      replace G4 := cellb r20 G4
      replace G5 := cellb r20 G5
      replace hj := hj.below r20 (by omega)
      replace hu := hu.below r20 (by omega)
      replace hm1 := hm1.below r20
      replace hm2 := hm2.below r20
      have b20 : Below w.heap.size w w20 := b19.trans (r20.mono (by omega))
      clear r20 b19
      clear lt19_0 lt19_1 lt19_2 lt19_3
      have lt20_0 : w.heap.size < w20.heap.size := by omega
      have lt20_1 : w4.heap.size < w20.heap.size := by omega
      have lt20_2 : w5.heap.size < w20.heap.size := by omega
      have lt20_3 : w7.heap.size < w20.heap.size := by omega
      have lt20_4 : w19.heap.size < w20.heap.size := by omega
      go_wp2_with fail
      refine (heldActionsResult_calls code md' st' pv' al.length G (marks K ns'.length) _ _ _ hl2 (by rw [marks_length]; omega) HG1.out hm1 hm2 HG2.out (by intro i hi; rw [marks_length] at hi; rw [marks_get _ _ _ hi, HG3.out])).mono ?_
      rintro e w21 ⟨rfl, hb21⟩
      have z21 : w20.heap.size ≤ w21.heap.size := hb21.size
      have r21 := hb21
      clear hb21
      replace A0 := cellb r21 A0
      replace A1 := cellb r21 A1
      replace A2 := cellb r21 A2
      replace A3 := cellb r21 A3
      replace B0 := cellb r21 B0
      replace B1 := cellb r21 B1
      replace B2 := cellb r21 B2
      replace B3 := cellb r21 B3
      replace B4 := cellb r21 B4
      replace B5 := cellb r21 B5
      replace X0 := cellb r21 X0
      replace X1 := cellb r21 X1
      replace X2 := cellb r21 X2
      replace X3 := cellb r21 X3
      replace G0 := cellb r21 G0
      replace G1 := cellb r21 G1
      replace G2 := cellb r21 G2
      replace G3 := cellb r21 G3
      replace G4 := cellb r21 G4
      replace G5 := cellb r21 G5
      replace H0 := cellb r21 H0
      replace H1 := cellb r21 H1
      replace H2 := cellb r21 H2
      replace H3 := cellb r21 H3
      replace H4 := cellb r21 H4
      replace H5 := cellb r21 H5
      replace hj := hj.below r21 (by omega)
      replace hu := hu.below r21 (by omega)
      replace hm1 := hm1.below r21
      replace hm2 := hm2.below r21
      have b21 : Below w.heap.size w w21 := b20.trans (r21.mono (by omega))
      clear r21 b20
      clear lt20_0 lt20_1 lt20_2 lt20_3 lt20_4
      have lt21_0 : w.heap.size < w21.heap.size := by omega
      have lt21_1 : w4.heap.size < w21.heap.size := by omega
      have lt21_2 : w5.heap.size < w21.heap.size := by omega
      have lt21_3 : w7.heap.size < w21.heap.size := by omega
      have lt21_4 : w19.heap.size < w21.heap.size := by omega
      rw [marks_length, HG3.out]
      go_wp2
      go_ret
      exact ⟨rfl, b21⟩
    · go_enter Try.func5, Try.ntmps5
      go_wp2_with fail
      refine (szParser_calls md st pv ns.length av cv 1048576 (by omega) (by omega) _ hm).mono ?_
      rintro e w1 ⟨rfl, hb1⟩
      rw [if_neg (by omega)]
      go_wp2
      go_ret
      exact ⟨rfl, (show Below w.heap.size w _ from (by repeat' (first | with_reducible exact Below.refl _ _ | with_reducible assumption | with_reducible refine Below.drew ?_ | with_reducible refine Below.alloc ?_ ?_ _ | with_reducible refine Below.setCell ?_ ?_ _ | (simp; done) | (simp; omega) | omega))).trans (hb1.mono (by simp; try omega))⟩
  · go_enter Try.func5, Try.ntmps5
    have hcl : (1048576 : Int) < (cs.length : Int) := by omega
    go_wp2
    go_ret
    exact ⟨rfl, (by repeat' (first | with_reducible exact Below.refl _ _ | with_reducible assumption | with_reducible refine Below.drew ?_ | with_reducible refine Below.alloc ?_ ?_ _ | with_reducible refine Below.setCell ?_ ?_ _ | (simp; done) | (simp; omega) | omega))⟩

theorem lawPM_laid : laidOutB Try.prog = true := by kernel_rfl
theorem lawPM_own : ownKnob Try.prog.godebug = none := by kernel_rfl
set_option maxRecDepth 100000 in
theorem lawPM_lifted (os : Os) (started : os.Started) (H : Type) (enc : TypeId × Value → H) :
    ReturnsInHanded {} Try.checked os 5 .any (Rows.fnExactParseManySpec.pre6 enc Try.prog Try.f5 Rows.fnExactParseManyRow.domain false) (Rows.fnExactParseManySpec.post enc Try.prog Try.f5 false true false false) := by
  refine returnsInHanded_of_change (C := Try.checked) lawPM_own started (by kernel_rfl) Try.func5
    (ChangeSpec.witness6 (enc := enc) (C := Try.checked) false ⟨#[], #[.agg #[.int .i64 0, .int .i64 0, .bool false, .slice none 0 0], .slice none 0 0], []⟩ 8 (by kernel_rfl) (by kernel_rfl) (by kernel_rfl) (by kernel_rfl)) ?_
  intro W base args ds gs before hval0 hW hcnd _
  have hval : ∀ (j : Nat) t v, Try.f5.params[j]? = some t → args[j]? = some v → Value.okWide Try.prog W .any base t v := hval0
  have hW' := hW
  obtain ⟨p, q, hA0, hV, rfl, hfz, hnd⟩ := hW
  have hA : DataW.TrodAll enc Try.prog W 0 (fun _ => true) true Try.f5.params.toList args.toList ds p := hA0
  rw [Try.params5] at hA hval
  obtain ⟨v0, v1, d0, d1, p0, p1, rfl, rfl, rfl, h0, h1⟩ := trodAll_two hA
  obtain ⟨rfl, rfl⟩ := trodVars_none hV
  have k0 := h0
  have lt0 : ∀ x ∈ p0, x.block < W.heap.size := by obtain ⟨m, hm⟩ := k0; exact DataW.trod_lt m _ _ _ hm
  have k1 := h1
  have lt1 : ∀ x ∈ p1, x.block < W.heap.size := by obtain ⟨m, hm⟩ := k1; exact DataW.trod_lt m _ _ _ hm
  obtain ⟨md, st, pv, x, ns, rfl, hx, hm⟩ := open_parser (hval 0 24 v0 rfl rfl) h0
  obtain ⟨a0, len0, cap0, rfl⟩ := okWide_slice Try.underlying22 (hval 1 22 v1 rfl rfl)
  obtain ⟨cs, w0⟩ : ∃ zs, ReadAt .i64 W (.slice a0 len0 cap0) zs ∧ zs.length ≤ maxLen := by
    obtain ⟨fuel, hf⟩ := h1
    rcases open_ints Try.underlying22 Try.underlying2 (by kernel_rfl) hf with ⟨hcs, _⟩ | ⟨x, l, c, zs, hcs, _, hl, hm, hz, _, hcell, hwz⟩
    · simp [Value.cells] at hcs
      obtain ⟨rfl, rfl, rfl⟩ := hcs
      exact ⟨[], ReadAt.nil _ _ _ _, by simp⟩
    · simp [Value.cells] at hcs
      obtain ⟨rfl, rfl, rfl⟩ := hcs
      exact read_take (by simpa using hz) hl hm hcell
  clear hA0 hval0

  refine (lawPM_walk md st pv x ns _ cs W hx w0.1 hm w0.2).mono fun e W' ⟨he, bel⟩ => ?_
  subst he
  exact ⟨_, rfl, _, _, _, [], _, [], hW', trodAll_mk1 (shut_bool Try.underlying4 _), trodAll_mk2 (Below.trod lawPM_laid (by kernel_rfl) (of_decide_eq_true (by kernel_rfl)) k0 bel lt0) (Below.trod lawPM_laid (by kernel_rfl) (of_decide_eq_true (by kernel_rfl)) k1 bel lt1), rfl, bel.frame _, fun h => by cases h⟩

theorem lawPM_over : Rows.fnExactParseManyRow.holds Try.pinned (OpenSpec.ofChange Rows.fnExactParseManySpec) :=
  OpenClaim.holds_of_wide 5 Try.f5 rfl rfl rfl rfl rfl rfl rfl ⟨rfl, rfl, rfl, rfl, rfl⟩ rfl rfl rfl rfl rfl (by kernel_rfl) Try.func5 (by kernel_rfl)
    (of_decide_eq_true (by kernel_rfl)) (by unfold Func.isWrapper; first | (rw [if_pos (by decide +kernel)]; kernel_rfl) | (rw [if_neg (by decide +kernel)]; exact ⟨rfl, rfl⟩))
    (fun os started H enc _ => lawPM_lifted os started H enc)

theorem lawPM_proved : Rows.FnExactParseManySaid := lawPM_over
#print axioms lawPM_proved
end Go.Proofs.Ytaljegjflkebcaa
