/-
  For every two grids the law FnExactSameGrids returns true: impl.SameGrids answers at each two grids what the model's SameGrids answers, and turns no argument. No condition (the law itself passes grids of together more than 1048576 cells by).
-/
import Derived.Test.YtakbobhafdeaeajRows
import Derived.Test.YtakbobhafdeaeajSameGrid
import Derived.Test.YtakbobhafdeaeajGridFns
import Derived.Test.YtakbobhafdeaeajGridOpen
import Derived.Deep.RegionHeld
import Derived.ShutString
import Derived.ChangeOld
import Derived.Lib.SmallJoins
namespace Go.Proofs.Ytakbobhafdeaeaj
open Go.ChangeShapes Go.WideShapes Go.ChangeAt Go.RowKit Go.Joins
set_option linter.unusedVariables false
set_option linter.unusedSimpArgs false

/-- Two grids' boxes and lists, as a region keeps them. -/
structure KeepG (W : World) (b c : Nat) (r wd : Int) (u2 u3 v2 v3 : Value) (cs bs : List (Int × Int)) (w1 : World) : Prop where
  bel : Below W.heap.size W w1
  a0 : w1.cell? ⟨b, 0, none⟩ = some (.int .i64 r)
  a1 : w1.cell? ⟨b, 1, none⟩ = some (.int .i64 wd)
  a2 : w1.cell? ⟨b, 2, none⟩ = some u2
  a3 : w1.cell? ⟨b, 3, none⟩ = some u3
  c0 : w1.cell? ⟨c, 0, none⟩ = some (.int .i64 r)
  c1 : w1.cell? ⟨c, 1, none⟩ = some (.int .i64 wd)
  c2 : w1.cell? ⟨c, 2, none⟩ = some v2
  c3 : w1.cell? ⟨c, 3, none⟩ = some v3
  r1 : PRead w1 u2 cs
  r2 : PRead w1 u3 bs
  r3 : PRead w1 v2 cs
  r4 : PRead w1 v3 bs
theorem KeepG.next {W : World} {b c : Nat} {r wd : Int} {u2 u3 v2 v3 : Value} {cs bs : List (Int × Int)} {w1 w2 : World} (h : KeepG W b c r wd u2 u3 v2 v3 cs bs w1) (hb : Below w1.heap.size w1 w2) : KeepG W b c r wd u2 u3 v2 v3 cs bs w2 :=
  ⟨h.bel.trans (hb.mono h.bel.size), cellb hb h.a0, cellb hb h.a1, cellb hb h.a2, cellb hb h.a3, cellb hb h.c0, cellb hb h.c1, cellb hb h.c2, cellb hb h.c3, h.r1.below hb, h.r2.below hb, h.r3.below hb, h.r4.below hb⟩

set_option maxRecDepth 20000 in
set_option maxHeartbeats 4000000 in
theorem lawSG_walk (r wd : Int) (v1 v2 : Value) (cs bs : List (Int × Int)) (r2 wd2 : Int) (v3 v4 : Value) (cs2 bs2 : List (Int × Int)) (w : World) (hr1 : PRead w v1 cs) (hr2 : PRead w v2 bs) (hr3 : PRead w v3 cs2) (hr4 : PRead w v4 bs2) (hm1 : cs.length ≤ maxLen) (hm2 : bs.length ≤ maxLen) (hm3 : cs2.length ≤ maxLen) (hm4 : bs2.length ≤ maxLen) :
    Calls Try.prog 3 #[.agg #[.int .i64 r, .int .i64 wd, v1, v2], .agg #[.int .i64 r2, .int .i64 wd2, v3, v4]] w fun e w' => e = .returned (.bool true) ∧ Below w.heap.size w w' := by
  have hr1' := hr1
  obtain ⟨av, cv, rfl, hz1⟩ := hr1'
  clear hz1
  have hr2' := hr2
  obtain ⟨bv, dv, rfl, hz2⟩ := hr2'
  clear hz2
  have hr3' := hr3
  obtain ⟨au, cu, rfl, hz3⟩ := hr3'
  clear hz3
  have hr4' := hr4
  obtain ⟨bu, du, rfl, hz4⟩ := hr4'
  clear hz4
  by_cases hn : (cs.length : Int) + bs.length ≤ 1048576
  · by_cases hn' : (cs2.length : Int) + bs2.length ≤ 1048576 - (cs.length : Int) - (bs.length : Int)
    · have hn1 : cs.length ≤ 1048576 := by omega
      have hn2 : bs.length ≤ 1048576 := by omega
      have hn3 : cs2.length ≤ 1048576 := by omega
      have hn4 : bs2.length ≤ 1048576 := by omega
      go_enter Try.func3, Try.ntmps3
      go_wp2_with fail
      have q1 : Below w.heap.size w ((w.alloc (.cells #[.int .i64 r, .int .i64 wd, .slice av cs.length cv, .slice bv bs.length dv] 24)).alloc (.cells #[.int .i64 r2, .int .i64 wd2, .slice au cs2.length cu, .slice bu bs2.length du] 24)) := (by repeat' (first | with_reducible exact Below.refl _ _ | with_reducible assumption | with_reducible refine Below.drew ?_ | with_reducible refine Below.alloc ?_ ?_ _ | with_reducible refine Below.setCell ?_ ?_ _ | (simp; done) | (simp; omega) | omega))
      refine (szGrid_calls r wd cs.length bs.length av bv cv dv 1048576 (by omega) (by omega) _ hm1 hm2).mono ?_
      rintro e w1 ⟨rfl, hb1⟩
      have A0 : w1.cell? ⟨w.heap.size, 0, none⟩ = some (.int .i64 r) := cellb hb1 (by simp)
      have A1 : w1.cell? ⟨w.heap.size, 1, none⟩ = some (.int .i64 wd) := cellb hb1 (by simp)
      have A2 : w1.cell? ⟨w.heap.size, 2, none⟩ = some (.slice av cs.length cv) := cellb hb1 (by simp)
      have A3 : w1.cell? ⟨w.heap.size, 3, none⟩ = some (.slice bv bs.length dv) := cellb hb1 (by simp)
      have C0 : w1.cell? ⟨w.heap.size + 1, 0, none⟩ = some (.int .i64 r2) := cellb hb1 (by simp)
      have C1 : w1.cell? ⟨w.heap.size + 1, 1, none⟩ = some (.int .i64 wd2) := cellb hb1 (by simp)
      have C2 : w1.cell? ⟨w.heap.size + 1, 2, none⟩ = some (.slice au cs2.length cu) := cellb hb1 (by simp)
      have C3 : w1.cell? ⟨w.heap.size + 1, 3, none⟩ = some (.slice bu bs2.length du) := cellb hb1 (by simp)
      have z1 : w.heap.size + 2 ≤ w1.heap.size := by have := hb1.size; simp at this; omega
      have r1 : Below w.heap.size w w1 := q1.trans (hb1.mono (by simp; try omega))
      clear q1 hb1
      have b1 : Below w.heap.size w w1 := r1
      clear r1
      have lt1_0 : w.heap.size < w1.heap.size := by omega
      have lt1_1 : w.heap.size + 1 < w1.heap.size := by omega
      rw [if_pos hn]
      have hge : ¬ ((1048576 - (cs.length : Int) - (bs.length : Int)) < 0) := by omega
      go_wp2_with fail
      refine (szGrid_calls r2 wd2 cs2.length bs2.length au bu cu du (1048576 - (cs.length : Int) - (bs.length : Int)) (by omega) (by omega) _ hm3 hm4).mono ?_
      rintro e w2 ⟨rfl, hb2⟩
      have z2 : w1.heap.size ≤ w2.heap.size := hb2.size
      have r2 := hb2
      clear hb2
      replace A0 := cellb r2 A0
      replace A1 := cellb r2 A1
      replace A2 := cellb r2 A2
      replace A3 := cellb r2 A3
      replace C0 := cellb r2 C0
      replace C1 := cellb r2 C1
      replace C2 := cellb r2 C2
      replace C3 := cellb r2 C3
      have b2 : Below w.heap.size w w2 := b1.trans (r2.mono (by omega))
      clear r2 b1
      clear lt1_0 lt1_1
      have lt2_0 : w.heap.size < w2.heap.size := by omega
      have lt2_1 : w.heap.size + 1 < w2.heap.size := by omega
      rw [if_pos hn']
      have hge2 : ¬ ((1048576 - (cs.length : Int) - (bs.length : Int) - (cs2.length : Int) - (bs2.length : Int)) < 0) := by omega
      go_wp2_with fail
      have hq0 := hr1.below b2
      have hq1 := hr2.below b2
      have hq2 := hr3.below b2
      have hq3 := hr4.below b2
      have hw0 : Below w2.heap.size w2 w2.drew := Below.drew (Below.refl _ _)
      refine wp_region_held_drew (S := (fun w' => Below w2.heap.size w2 w' ∧ w'.cell? ⟨w.heap.size, 0, none⟩ = some (.int .i64 r) ∧ w'.cell? ⟨w.heap.size, 1, none⟩ = some (.int .i64 wd) ∧ w'.cell? ⟨w.heap.size, 2, none⟩ = some (.slice av cs.length cv) ∧ w'.cell? ⟨w.heap.size, 3, none⟩ = some (.slice bv bs.length dv) ∧ w'.cell? ⟨w.heap.size + 1, 0, none⟩ = some (.int .i64 r2) ∧ w'.cell? ⟨w.heap.size + 1, 1, none⟩ = some (.int .i64 wd2) ∧ w'.cell? ⟨w.heap.size + 1, 2, none⟩ = some (.slice au cs2.length cu) ∧ w'.cell? ⟨w.heap.size + 1, 3, none⟩ = some (.slice bu bs2.length du))) (by kernel_rfl) ?_ (fun hHeld => ?_)
      · (try dsimp only); exact ⟨hw0, A0, A1, A2, A3, C0, C1, C2, C3⟩
      refine wpAnyH_take (i := 0) (oi := ⟨_, _, _, _, _, _⟩) (v := ?_) rfl (by kernel_rfl) (by kernel_rfl) (by kernel_rfl) (fun _ _ _ h => h) (Or.inl ⟨by rfl, ?_⟩) hHeld ?_
      rotate_left
      · (intro w hSw; (try dsimp only at hSw); go_simp; try (with_reducible rfl))
      try simp only [Act.put, List.setIfInBounds_toArray, List.set_cons_zero, List.set_cons_succ]
      refine wpAnyH_take (i := 2) (oi := ⟨_, _, _, _, _, _⟩) (v := ?_) rfl (by kernel_rfl) (by kernel_rfl) (by kernel_rfl) (fun _ _ _ h => h) (Or.inl ⟨by rfl, ?_⟩) hHeld ?_
      rotate_left
      · (intro w hSw; (try dsimp only at hSw); go_simp; try (with_reducible rfl))
      try simp only [Act.put, List.setIfInBounds_toArray, List.set_cons_zero, List.set_cons_succ]
      refine wpAnyH_ready (rs := [1]) (by kernel_rfl) (by simp) ?_
      refine AllReadyH.cons (o := ⟨_, _, _, _, _, _⟩) rfl (fun K hK => ?_) AllReadyH.nil
      go_simp
      go_at_call 6
      refine (toGrid_calls r wd cs bs _ _ _ hn1 hn2 (hq0.below (Below.drew (Below.refl _ _))) (hq1.below (Below.drew (Below.refl _ _)))).mono ?_
      rintro e u1 ⟨y1, z1, rfl, hy1, hbu1⟩
      replace hbu1 : Below w2.heap.size w2 u1 := hw0.trans hbu1
      replace A0 := cellb hbu1 A0
      replace A1 := cellb hbu1 A1
      replace A2 := cellb hbu1 A2
      replace A3 := cellb hbu1 A3
      replace C0 := cellb hbu1 C0
      replace C1 := cellb hbu1 C1
      replace C2 := cellb hbu1 C2
      replace C3 := cellb hbu1 C3
      replace hq0 := hq0.below hbu1
      replace hq1 := hq1.below hbu1
      replace hq2 := hq2.below hbu1
      replace hq3 := hq3.below hbu1
      have hw1 := hbu1
      have p1 := hy1.read1
      have p2 := hy1.read2
      obtain ⟨x1, x2, x3, x4, rfl, rfl⟩ := hy1.forms
      clear hy1
      try go_wp2_with fail
      refine hK.out _ _ ?_ ?_
      · (try dsimp only); exact ⟨hw1, A0, A1, A2, A3, C0, C1, C2, C3⟩
      clear hHeld hK K
      intro hHeld
      try simp only [Act.put, List.setIfInBounds_toArray, List.set_cons_zero, List.set_cons_succ]
      refine wpAnyH_ready (rs := [3]) (by kernel_rfl) (by simp) ?_
      refine AllReadyH.cons (o := ⟨_, _, _, _, _, _⟩) rfl (fun K hK => ?_) AllReadyH.nil
      go_simp
      go_at_call 6
      refine (toGrid_calls r2 wd2 cs2 bs2 _ _ _ hn3 hn4 hq2 hq3).mono ?_
      rintro e u2 ⟨y2, z2, rfl, hy2, hbu2⟩
      replace A0 := cellb hbu2 A0
      replace A1 := cellb hbu2 A1
      replace A2 := cellb hbu2 A2
      replace A3 := cellb hbu2 A3
      replace C0 := cellb hbu2 C0
      replace C1 := cellb hbu2 C1
      replace C2 := cellb hbu2 C2
      replace C3 := cellb hbu2 C3
      replace hq0 := hq0.below hbu2
      replace hq1 := hq1.below hbu2
      replace hq2 := hq2.below hbu2
      replace hq3 := hq3.below hbu2
      have hw2 := hw1.trans (hbu2.mono hw1.size)
      replace p1 := p1.below hbu2
      replace p2 := p2.below hbu2
      have p3 := hy2.read1
      have p4 := hy2.read2
      obtain ⟨x5, x6, x7, x8, rfl, rfl⟩ := hy2.forms
      clear hy2
      try go_wp2_with fail
      refine hK.out _ _ ?_ ?_
      · (try dsimp only); exact ⟨hw2, A0, A1, A2, A3, C0, C1, C2, C3⟩
      clear hHeld hK K
      intro hHeld
      try simp only [Act.put, List.setIfInBounds_toArray, List.set_cons_zero, List.set_cons_succ]
      refine wpAnyH_ready (rs := [4]) (by kernel_rfl) (by simp) ?_
      refine AllReadyH.cons (o := ⟨_, _, _, _, _, _⟩) rfl (fun K hK => ?_) AllReadyH.nil
      go_simp
      go_at_call 5
      refine (specSameGrids_calls r wd cs bs r2 wd2 cs2 bs2 _ _ _ _ _ hn1 hn2 hn3 hn4 p1 p2 p3 p4).mono ?_
      rintro e w3 ⟨rfl, hbu3⟩
      replace A0 := cellb hbu3 A0
      replace A1 := cellb hbu3 A1
      replace A2 := cellb hbu3 A2
      replace A3 := cellb hbu3 A3
      replace C0 := cellb hbu3 C0
      replace C1 := cellb hbu3 C1
      replace C2 := cellb hbu3 C2
      replace C3 := cellb hbu3 C3
      replace hq0 := hq0.below hbu3
      replace hq1 := hq1.below hbu3
      replace hq2 := hq2.below hbu3
      replace hq3 := hq3.below hbu3
      have hw3 := hw2.trans (hbu3.mono hw2.size)
      try go_wp2_with fail
      refine hK.out _ _ ?_ ?_
      · (try dsimp only); exact ⟨hw3, A0, A1, A2, A3, C0, C1, C2, C3⟩
      clear hHeld hK K
      intro hHeld
      try simp only [Act.put, List.setIfInBounds_toArray, List.set_cons_zero, List.set_cons_succ]
      refine wpAnyH_take (i := 5) (oi := ⟨_, _, _, _, _, _⟩) (v := ?_) rfl (by kernel_rfl) (by kernel_rfl) (by kernel_rfl) (fun _ _ _ h => h) (Or.inl ⟨by rfl, ?_⟩) hHeld ?_
      rotate_left
      · (intro w hSw; (try dsimp only at hSw); go_simp; try (with_reducible rfl))
      try simp only [Act.put, List.setIfInBounds_toArray, List.set_cons_zero, List.set_cons_succ]
      refine wpAnyH_done (by kernel_rfl) ?_ _
      have z3 : w2.heap.size ≤ w3.heap.size := hw3.size
      have b3 : Below w.heap.size w w3 := b2.trans (hw3.mono (by omega))
      clear hHeld hw0 hw1 hw2 hw3 hbu1 hbu2 hbu3 p1 p2 p3 p4 hq0 hq1 hq2 hq3 b2
      clear lt2_0 lt2_1
      have lt3_0 : w.heap.size < w3.heap.size := by omega
      have lt3_1 : w.heap.size + 1 < w3.heap.size := by omega
      go_wp2_with fail
      refine (toGrid_calls r wd cs bs _ _ _ hn1 hn2 ((hr1.below b3)) ((hr2.below b3))).mono ?_
      rintro e w4 ⟨xp, yp, rfl, hp, hb4⟩
      have z4 : w3.heap.size ≤ w4.heap.size := hb4.size
      have r4 := hb4
      clear hb4
      replace A0 := cellb r4 A0
      replace A1 := cellb r4 A1
      replace A2 := cellb r4 A2
      replace A3 := cellb r4 A3
      replace C0 := cellb r4 C0
      replace C1 := cellb r4 C1
      replace C2 := cellb r4 C2
      replace C3 := cellb r4 C3
      have b4 : Below w.heap.size w w4 := b3.trans (r4.mono (by omega))
      clear r4 b3
      clear lt3_0 lt3_1
      have lt4_0 : w.heap.size < w4.heap.size := by omega
      have lt4_1 : w.heap.size + 1 < w4.heap.size := by omega
      obtain ⟨ap, cp, dp, ep, rfl, rfl⟩ := hp.forms
      go_wp2_with fail
      have q5 : Below w4.heap.size w4 (w4.alloc (.cells #[.int .i64 r, .int .i64 wd, .slice ap cs.length cp, .slice dp bs.length ep] 29)) := (by repeat' (first | with_reducible exact Below.refl _ _ | with_reducible assumption | with_reducible refine Below.drew ?_ | with_reducible refine Below.alloc ?_ ?_ _ | with_reducible refine Below.setCell ?_ ?_ _ | (simp; done) | (simp; omega) | omega))
      refine (toGrid_calls r2 wd2 cs2 bs2 _ _ _ hn3 hn4 ((hr3.below b4).below q5) ((hr4.below b4).below q5)).mono ?_
      rintro e w5 ⟨xq, yq, rfl, hq, hb5⟩
      have X0 : w5.cell? ⟨w4.heap.size, 0, none⟩ = some (.int .i64 r) := cellb hb5 (by simp)
      have X1 : w5.cell? ⟨w4.heap.size, 1, none⟩ = some (.int .i64 wd) := cellb hb5 (by simp)
      have X2 : w5.cell? ⟨w4.heap.size, 2, none⟩ = some (.slice ap cs.length cp) := cellb hb5 (by simp)
      have X3 : w5.cell? ⟨w4.heap.size, 3, none⟩ = some (.slice dp bs.length ep) := cellb hb5 (by simp)
      have z5 : w4.heap.size + 1 ≤ w5.heap.size := by have := hb5.size; simp at this; omega
      have r5 : Below w4.heap.size w4 w5 := q5.trans (hb5.mono (by simp; try omega))
      clear q5 hb5
      replace A0 := cellb r5 A0
      replace A1 := cellb r5 A1
      replace A2 := cellb r5 A2
      replace A3 := cellb r5 A3
      replace C0 := cellb r5 C0
      replace C1 := cellb r5 C1
      replace C2 := cellb r5 C2
      replace C3 := cellb r5 C3
      replace hp := hp.below r5 (by omega)
      have b5 : Below w.heap.size w w5 := b4.trans (r5.mono (by omega))
      clear r5 b4
      clear lt4_0 lt4_1
      have lt5_0 : w.heap.size < w5.heap.size := by omega
      have lt5_1 : w.heap.size + 1 < w5.heap.size := by omega
      have lt5_2 : w4.heap.size < w5.heap.size := by omega
      replace hq := hq.mono (lo' := (w4.heap.size + 1)) (by simp) (Nat.le_refl _)
      obtain ⟨aq, cq, dq, eq, rfl, rfl⟩ := hq.forms
      go_wp2_with fail
      have q6 : Below w5.heap.size w5 (w5.alloc (.cells #[.int .i64 r2, .int .i64 wd2, .slice aq cs2.length cq, .slice dq bs2.length eq] 29)) := (by repeat' (first | with_reducible exact Below.refl _ _ | with_reducible assumption | with_reducible refine Below.drew ?_ | with_reducible refine Below.alloc ?_ ?_ _ | with_reducible refine Below.setCell ?_ ?_ _ | (simp; done) | (simp; omega) | omega))
      refine (implSameGrids_calls r wd cs bs r2 wd2 cs2 bs2 _ _ _ _ _ hn1 hn2 hn3 hn4 (hp.read1.below q6) (hp.read2.below q6) (hq.read1.below q6) (hq.read2.below q6)).mono ?_
      rintro e w6 ⟨rfl, hb6⟩
      have Y0 : w6.cell? ⟨w5.heap.size, 0, none⟩ = some (.int .i64 r2) := cellb hb6 (by simp)
      have Y1 : w6.cell? ⟨w5.heap.size, 1, none⟩ = some (.int .i64 wd2) := cellb hb6 (by simp)
      have Y2 : w6.cell? ⟨w5.heap.size, 2, none⟩ = some (.slice aq cs2.length cq) := cellb hb6 (by simp)
      have Y3 : w6.cell? ⟨w5.heap.size, 3, none⟩ = some (.slice dq bs2.length eq) := cellb hb6 (by simp)
      have z6 : w5.heap.size + 1 ≤ w6.heap.size := by have := hb6.size; simp at this; omega
      have r6 : Below w5.heap.size w5 w6 := q6.trans (hb6.mono (by simp; try omega))
      clear q6 hb6
      replace A0 := cellb r6 A0
      replace A1 := cellb r6 A1
      replace A2 := cellb r6 A2
      replace A3 := cellb r6 A3
      replace C0 := cellb r6 C0
      replace C1 := cellb r6 C1
      replace C2 := cellb r6 C2
      replace C3 := cellb r6 C3
      replace X0 := cellb r6 X0
      replace X1 := cellb r6 X1
      replace X2 := cellb r6 X2
      replace X3 := cellb r6 X3
      replace hp := hp.below r6 (by omega)
      replace hq := hq.below r6 (by omega)
      have b6 : Below w.heap.size w w6 := b5.trans (r6.mono (by omega))
      clear r6 b5
      clear lt5_0 lt5_1 lt5_2
      have lt6_0 : w.heap.size < w6.heap.size := by omega
      have lt6_1 : w.heap.size + 1 < w6.heap.size := by omega
      have lt6_2 : w4.heap.size < w6.heap.size := by omega
      have lt6_3 : w5.heap.size < w6.heap.size := by omega
      generalize sameG r wd cs bs r2 wd2 cs2 bs2 = ans at *
      have hne : (ans != ans) = false := by simp
      go_wp2_with fail
      have hq0 := hr1.below b6
      have hq1 := hr2.below b6
      have hKG : KeepG w6 (w.heap.size) (w4.heap.size) r wd (.slice av cs.length cv) (.slice bv bs.length dv) (.slice ap cs.length cp) (.slice dp bs.length ep) cs bs w6.drew := ⟨Below.drew (Below.refl _ w6), A0, A1, A2, A3, X0, X1, X2, X3, hq0, hq1, hp.read1, hp.read2⟩
      refine wp_region_held_drew (S := (fun w' => KeepG w6 (w.heap.size) (w4.heap.size) r wd (.slice av cs.length cv) (.slice bv bs.length dv) (.slice ap cs.length cp) (.slice dp bs.length ep) cs bs w')) (by kernel_rfl) ?_ (fun hHeld => ?_)
      · (try dsimp only); exact hKG
      refine wpAnyH_take (i := 0) (oi := ⟨_, _, _, _, _, _⟩) (v := ?_) rfl (by kernel_rfl) (by kernel_rfl) (by kernel_rfl) (fun _ _ _ h => h) (Or.inl ⟨by rfl, ?_⟩) hHeld ?_
      rotate_left
      · (intro w hSw; (try dsimp only at hSw); have s0 := hSw.a0; have s1 := hSw.a1; have s2 := hSw.a2; have s3 := hSw.a3; have t0 := hSw.c0; have t1 := hSw.c1; have t2 := hSw.c2; have t3 := hSw.c3; clear hSw; go_simp; try (with_reducible rfl))
      try simp only [Act.put, List.setIfInBounds_toArray, List.set_cons_zero, List.set_cons_succ]
      refine wpAnyH_take (i := 1) (oi := ⟨_, _, _, _, _, _⟩) (v := ?_) rfl (by kernel_rfl) (by kernel_rfl) (by kernel_rfl) (fun _ _ _ h => h) (Or.inl ⟨by rfl, ?_⟩) hHeld ?_
      rotate_left
      · (intro w hSw; (try dsimp only at hSw); have s0 := hSw.a0; have s1 := hSw.a1; have s2 := hSw.a2; have s3 := hSw.a3; have t0 := hSw.c0; have t1 := hSw.c1; have t2 := hSw.c2; have t3 := hSw.c3; clear hSw; go_simp; try (with_reducible rfl))
      try simp only [Act.put, List.setIfInBounds_toArray, List.set_cons_zero, List.set_cons_succ]
      refine wpAnyH_ready (rs := [2]) (by kernel_rfl) (by simp) ?_
      refine AllReadyH.cons (o := ⟨_, _, _, _, _, _⟩) rfl (fun K hK => ?_) AllReadyH.nil
      go_simp
      go_at_call 6
      refine (toGrid_calls r wd cs bs _ _ _ hn1 hn2 hHeld.r1 hHeld.r2).mono ?_
      rintro e v7 ⟨y7, z7, rfl, hy7, hbv7⟩
      have hry7 := hy7.read1
      have hrz7 := hy7.read2
      obtain ⟨ay7, cy7, az7, cz7, rfl, rfl⟩ := hy7.forms
      clear hy7
      try go_wp2_with fail
      refine hK.out _ _ ?_ ?_
      · (try dsimp only); exact hHeld.next hbv7
      clear hHeld hK K
      intro hHeld
      try simp only [Act.put, List.setIfInBounds_toArray, List.set_cons_zero, List.set_cons_succ]
      refine wpAnyH_ready (rs := [3]) (by kernel_rfl) (by simp) ?_
      refine AllReadyH.cons (o := ⟨_, _, _, _, _, _⟩) rfl (fun K hK => ?_) AllReadyH.nil
      go_simp
      go_at_call 8
      refine (eqGrid_calls r wd cs bs _ _ _ _ _ (by omega) (by omega) hHeld.r3 hHeld.r4 hry7 hrz7).mono ?_
      rintro e w7 ⟨rfl, hbu7⟩
      try go_wp2_with fail
      refine hK.out _ _ ?_ ?_
      · (try dsimp only); exact hHeld.next hbu7
      clear hHeld hK K
      intro hHeld
      try simp only [Act.put, List.setIfInBounds_toArray, List.set_cons_zero, List.set_cons_succ]
      refine wpAnyH_take (i := 4) (oi := ⟨_, _, _, _, _, _⟩) (v := ?_) rfl (by kernel_rfl) (by kernel_rfl) (by kernel_rfl) (fun _ _ _ h => h) (Or.inl ⟨by rfl, ?_⟩) hHeld ?_
      rotate_left
      · (intro w hSw; (try dsimp only at hSw); have s0 := hSw.a0; have s1 := hSw.a1; have s2 := hSw.a2; have s3 := hSw.a3; have t0 := hSw.c0; have t1 := hSw.c1; have t2 := hSw.c2; have t3 := hSw.c3; clear hSw; go_simp; try (with_reducible rfl))
      try simp only [Act.put, List.setIfInBounds_toArray, List.set_cons_zero, List.set_cons_succ]
      refine wpAnyH_done (by kernel_rfl) ?_ _
      have r7 := hHeld.bel
      clear hHeld hry7 hrz7 hbv7 hbu7 hKG hq0 hq1
      have z7 : w6.heap.size ≤ w7.heap.size := r7.size
      replace A0 := cellb r7 A0
      replace A1 := cellb r7 A1
      replace A2 := cellb r7 A2
      replace A3 := cellb r7 A3
      replace C0 := cellb r7 C0
      replace C1 := cellb r7 C1
      replace C2 := cellb r7 C2
      replace C3 := cellb r7 C3
      replace X0 := cellb r7 X0
      replace X1 := cellb r7 X1
      replace X2 := cellb r7 X2
      replace X3 := cellb r7 X3
      replace Y0 := cellb r7 Y0
      replace Y1 := cellb r7 Y1
      replace Y2 := cellb r7 Y2
      replace Y3 := cellb r7 Y3
      replace hp := hp.below r7 (by omega)
      replace hq := hq.below r7 (by omega)
      have b7 : Below w.heap.size w w7 := b6.trans (r7.mono (by omega))
      clear r7 b6
      clear lt6_0 lt6_1 lt6_2 lt6_3
      have lt7_0 : w.heap.size < w7.heap.size := by omega
      have lt7_1 : w.heap.size + 1 < w7.heap.size := by omega
      have lt7_2 : w4.heap.size < w7.heap.size := by omega
      have lt7_3 : w5.heap.size < w7.heap.size := by omega
      go_wp2_with fail
      have hq0 := hr3.below b7
      have hq1 := hr4.below b7
      have hKG : KeepG w7 (w.heap.size + 1) (w5.heap.size) r2 wd2 (.slice au cs2.length cu) (.slice bu bs2.length du) (.slice aq cs2.length cq) (.slice dq bs2.length eq) cs2 bs2 w7.drew := ⟨Below.drew (Below.refl _ w7), C0, C1, C2, C3, Y0, Y1, Y2, Y3, hq0, hq1, hq.read1, hq.read2⟩
      refine wp_region_held_drew (S := (fun w' => KeepG w7 (w.heap.size + 1) (w5.heap.size) r2 wd2 (.slice au cs2.length cu) (.slice bu bs2.length du) (.slice aq cs2.length cq) (.slice dq bs2.length eq) cs2 bs2 w')) (by kernel_rfl) ?_ (fun hHeld => ?_)
      · (try dsimp only); exact hKG
      refine wpAnyH_take (i := 0) (oi := ⟨_, _, _, _, _, _⟩) (v := ?_) rfl (by kernel_rfl) (by kernel_rfl) (by kernel_rfl) (fun _ _ _ h => h) (Or.inl ⟨by rfl, ?_⟩) hHeld ?_
      rotate_left
      · (intro w hSw; (try dsimp only at hSw); have s0 := hSw.a0; have s1 := hSw.a1; have s2 := hSw.a2; have s3 := hSw.a3; have t0 := hSw.c0; have t1 := hSw.c1; have t2 := hSw.c2; have t3 := hSw.c3; clear hSw; go_simp; try (with_reducible rfl))
      try simp only [Act.put, List.setIfInBounds_toArray, List.set_cons_zero, List.set_cons_succ]
      refine wpAnyH_take (i := 1) (oi := ⟨_, _, _, _, _, _⟩) (v := ?_) rfl (by kernel_rfl) (by kernel_rfl) (by kernel_rfl) (fun _ _ _ h => h) (Or.inl ⟨by rfl, ?_⟩) hHeld ?_
      rotate_left
      · (intro w hSw; (try dsimp only at hSw); have s0 := hSw.a0; have s1 := hSw.a1; have s2 := hSw.a2; have s3 := hSw.a3; have t0 := hSw.c0; have t1 := hSw.c1; have t2 := hSw.c2; have t3 := hSw.c3; clear hSw; go_simp; try (with_reducible rfl))
      try simp only [Act.put, List.setIfInBounds_toArray, List.set_cons_zero, List.set_cons_succ]
      refine wpAnyH_ready (rs := [2]) (by kernel_rfl) (by simp) ?_
      refine AllReadyH.cons (o := ⟨_, _, _, _, _, _⟩) rfl (fun K hK => ?_) AllReadyH.nil
      go_simp
      go_at_call 6
      refine (toGrid_calls r2 wd2 cs2 bs2 _ _ _ hn3 hn4 hHeld.r1 hHeld.r2).mono ?_
      rintro e v8 ⟨y8, z8, rfl, hy8, hbv8⟩
      have hry8 := hy8.read1
      have hrz8 := hy8.read2
      obtain ⟨ay8, cy8, az8, cz8, rfl, rfl⟩ := hy8.forms
      clear hy8
      try go_wp2_with fail
      refine hK.out _ _ ?_ ?_
      · (try dsimp only); exact hHeld.next hbv8
      clear hHeld hK K
      intro hHeld
      try simp only [Act.put, List.setIfInBounds_toArray, List.set_cons_zero, List.set_cons_succ]
      refine wpAnyH_ready (rs := [3]) (by kernel_rfl) (by simp) ?_
      refine AllReadyH.cons (o := ⟨_, _, _, _, _, _⟩) rfl (fun K hK => ?_) AllReadyH.nil
      go_simp
      go_at_call 8
      refine (eqGrid_calls r2 wd2 cs2 bs2 _ _ _ _ _ (by omega) (by omega) hHeld.r3 hHeld.r4 hry8 hrz8).mono ?_
      rintro e w8 ⟨rfl, hbu8⟩
      try go_wp2_with fail
      refine hK.out _ _ ?_ ?_
      · (try dsimp only); exact hHeld.next hbu8
      clear hHeld hK K
      intro hHeld
      try simp only [Act.put, List.setIfInBounds_toArray, List.set_cons_zero, List.set_cons_succ]
      refine wpAnyH_take (i := 4) (oi := ⟨_, _, _, _, _, _⟩) (v := ?_) rfl (by kernel_rfl) (by kernel_rfl) (by kernel_rfl) (fun _ _ _ h => h) (Or.inl ⟨by rfl, ?_⟩) hHeld ?_
      rotate_left
      · (intro w hSw; (try dsimp only at hSw); have s0 := hSw.a0; have s1 := hSw.a1; have s2 := hSw.a2; have s3 := hSw.a3; have t0 := hSw.c0; have t1 := hSw.c1; have t2 := hSw.c2; have t3 := hSw.c3; clear hSw; go_simp; try (with_reducible rfl))
      try simp only [Act.put, List.setIfInBounds_toArray, List.set_cons_zero, List.set_cons_succ]
      refine wpAnyH_done (by kernel_rfl) ?_ _
      have r8 := hHeld.bel
      clear hHeld hry8 hrz8 hbv8 hbu8 hKG hq0 hq1
      have z8 : w7.heap.size ≤ w8.heap.size := r8.size
      replace A0 := cellb r8 A0
      replace A1 := cellb r8 A1
      replace A2 := cellb r8 A2
      replace A3 := cellb r8 A3
      replace C0 := cellb r8 C0
      replace C1 := cellb r8 C1
      replace C2 := cellb r8 C2
      replace C3 := cellb r8 C3
      replace X0 := cellb r8 X0
      replace X1 := cellb r8 X1
      replace X2 := cellb r8 X2
      replace X3 := cellb r8 X3
      replace Y0 := cellb r8 Y0
      replace Y1 := cellb r8 Y1
      replace Y2 := cellb r8 Y2
      replace Y3 := cellb r8 Y3
      replace hp := hp.below r8 (by omega)
      replace hq := hq.below r8 (by omega)
      have b8 : Below w.heap.size w w8 := b7.trans (r8.mono (by omega))
      clear r8 b7
      clear lt7_0 lt7_1 lt7_2 lt7_3
      have lt8_0 : w.heap.size < w8.heap.size := by omega
      have lt8_1 : w.heap.size + 1 < w8.heap.size := by omega
      have lt8_2 : w4.heap.size < w8.heap.size := by omega
      have lt8_3 : w5.heap.size < w8.heap.size := by omega
      go_wp2
      go_ret
      exact ⟨rfl, b8⟩
    · go_enter Try.func3, Try.ntmps3
      go_wp2_with fail
      refine (szGrid_calls r wd cs.length bs.length av bv cv dv 1048576 (by omega) (by omega) _ hm1 hm2).mono ?_
      rintro e w1 ⟨rfl, hb1⟩
      have C0 : w1.cell? ⟨w.heap.size + 1, 0, none⟩ = some (.int .i64 r2) := cellb hb1 (by simp)
      have C1 : w1.cell? ⟨w.heap.size + 1, 1, none⟩ = some (.int .i64 wd2) := cellb hb1 (by simp)
      have C2 : w1.cell? ⟨w.heap.size + 1, 2, none⟩ = some (.slice au cs2.length cu) := cellb hb1 (by simp)
      have C3 : w1.cell? ⟨w.heap.size + 1, 3, none⟩ = some (.slice bu bs2.length du) := cellb hb1 (by simp)
      have b1 : Below w.heap.size w w1 := (show Below w.heap.size w _ from (by repeat' (first | with_reducible exact Below.refl _ _ | with_reducible assumption | with_reducible refine Below.drew ?_ | with_reducible refine Below.alloc ?_ ?_ _ | with_reducible refine Below.setCell ?_ ?_ _ | (simp; done) | (simp; omega) | omega))).trans (hb1.mono (by simp; try omega))
      rw [if_pos (by omega)]
      have hge : ¬ ((1048576 - (cs.length : Int) - (bs.length : Int)) < 0) := by omega
      go_wp2_with fail
      refine (szGrid_calls r2 wd2 cs2.length bs2.length au bu cu du (1048576 - (cs.length : Int) - (bs.length : Int)) (by omega) (by omega) _ hm3 hm4).mono ?_
      rintro e w2 ⟨rfl, hb2⟩
      rw [if_neg (by omega)]
      go_wp2
      go_ret
      exact ⟨rfl, b1.trans (hb2.mono b1.size)⟩
  · go_enter Try.func3, Try.ntmps3
    go_wp2_with fail
    refine (szGrid_calls r wd cs.length bs.length av bv cv dv 1048576 (by omega) (by omega) _ hm1 hm2).mono ?_
    rintro e w1 ⟨rfl, hb1⟩
    rw [if_neg (by omega)]
    go_wp2
    go_ret
    exact ⟨rfl, (show Below w.heap.size w _ from (by repeat' (first | with_reducible exact Below.refl _ _ | with_reducible assumption | with_reducible refine Below.drew ?_ | with_reducible refine Below.alloc ?_ ?_ _ | with_reducible refine Below.setCell ?_ ?_ _ | (simp; done) | (simp; omega) | omega))).trans (hb1.mono (by simp; try omega))⟩

theorem lawSG_laid : laidOutB Try.prog = true := by kernel_rfl
theorem lawSG_own : ownKnob Try.prog.godebug = none := by kernel_rfl
set_option maxRecDepth 100000 in
theorem lawSG_lifted (os : Os) (started : os.Started) (H : Type) (enc : TypeId × Value → H) :
    ReturnsInHanded {} Try.checked os 3 .any (Rows.fnExactSameGridsSpec.pre6 enc Try.prog Try.f3 Rows.fnExactSameGridsRow.domain false) (Rows.fnExactSameGridsSpec.post enc Try.prog Try.f3 false true false false) := by
  refine returnsInHanded_of_change (C := Try.checked) lawSG_own started (by kernel_rfl) Try.func3
    (ChangeSpec.witness6 (enc := enc) (C := Try.checked) false ⟨#[], #[.agg #[.int .i64 0, .int .i64 0, .slice none 0 0, .slice none 0 0], .agg #[.int .i64 0, .int .i64 0, .slice none 0 0, .slice none 0 0]], []⟩ 8 (by kernel_rfl) (by kernel_rfl) (by kernel_rfl) (by kernel_rfl)) ?_
  intro W base args ds gs before hval0 hW hcnd _
  have hval : ∀ (j : Nat) t v, Try.f3.params[j]? = some t → args[j]? = some v → Value.okWide Try.prog W .any base t v := hval0
  have hW' := hW
  obtain ⟨p, q, hA0, hV, rfl, hfz, hnd⟩ := hW
  have hA : DataW.TrodAll enc Try.prog W 0 (fun _ => true) true Try.f3.params.toList args.toList ds p := hA0
  rw [Try.params3] at hA hval
  obtain ⟨v0, v1, d0, d1, p0, p1, rfl, rfl, rfl, h0, h1⟩ := trodAll_two hA
  obtain ⟨rfl, rfl⟩ := trodVars_none hV
  have k0 := h0
  have lt0 : ∀ x ∈ p0, x.block < W.heap.size := by obtain ⟨m, hm⟩ := k0; exact DataW.trod_lt m _ _ _ hm
  have k1 := h1
  have lt1 : ∀ x ∈ p1, x.block < W.heap.size := by obtain ⟨m, hm⟩ := k1; exact DataW.trod_lt m _ _ _ hm
  obtain ⟨r, wd, x, y, cs, bs, rfl, hx, hy, hm1, hm2⟩ := open_grid (hval 0 24 v0 rfl rfl) h0
  obtain ⟨r2, wd2, x2, y2, cs2, bs2, rfl, hx2, hy2, hm3, hm4⟩ := open_grid (hval 1 24 v1 rfl rfl) h1
  clear hA0 hval0

  refine (lawSG_walk r wd x y cs bs r2 wd2 x2 y2 cs2 bs2 W hx hy hx2 hy2 hm1 hm2 hm3 hm4).mono fun e W' ⟨he, bel⟩ => ?_
  subst he
  exact ⟨_, rfl, _, _, _, [], _, [], hW', trodAll_mk1 (shut_bool Try.underlying4 _), trodAll_mk2 (Below.trod lawSG_laid (by kernel_rfl) (of_decide_eq_true (by kernel_rfl)) k0 bel lt0) (Below.trod lawSG_laid (by kernel_rfl) (of_decide_eq_true (by kernel_rfl)) k1 bel lt1), rfl, bel.frame _, fun h => by cases h⟩

theorem lawSG_over : Rows.fnExactSameGridsRow.holds Try.pinned (OpenSpec.ofChange Rows.fnExactSameGridsSpec) :=
  OpenClaim.holds_of_wide 3 Try.f3 rfl rfl rfl rfl rfl rfl rfl ⟨rfl, rfl, rfl, rfl, rfl⟩ rfl rfl rfl rfl rfl (by kernel_rfl) Try.func3 (by kernel_rfl)
    (of_decide_eq_true (by kernel_rfl)) (by unfold Func.isWrapper; first | (rw [if_pos (by decide +kernel)]; kernel_rfl) | (rw [if_neg (by decide +kernel)]; exact ⟨rfl, rfl⟩))
    (fun os started H enc _ => lawSG_lifted os started H enc)

theorem lawSG_proved : Rows.FnExactSameGridsSaid := lawSG_over
#print axioms lawSG_proved
end Go.Proofs.Ytakbobhafdeaeaj
