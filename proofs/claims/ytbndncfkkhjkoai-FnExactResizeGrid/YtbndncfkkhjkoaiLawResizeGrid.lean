/-
  For every grid and every two int64 the law FnExactResizeGrid returns true: impl.ResizeGrid answers at each grid and these numbers what the model's ResizeGrid answers, every field; it turns no argument, and its lists are memory of its own. No condition (the law itself passes grids of more than 1048576 cells by).
-/
import Derived.Test.YtbndncfkkhjkoaiRows
import Derived.Test.YtbndncfkkhjkoaiResizeTop2
import Derived.Test.YtbndncfkkhjkoaiGridFull
import Derived.Test.YtbndncfkkhjkoaiGridFns
import Derived.Test.YtbndncfkkhjkoaiGridOpen
import Derived.Deep.RegionHeld
import Derived.ShutString
import Derived.ChangeOld
import Derived.Lib.SmallJoins
namespace Go.Proofs.Ytbndncfkkhjkoai
open Go.ChangeShapes Go.WideShapes Go.ChangeAt Go.RowKit Go.Joins
set_option linter.unusedVariables false
set_option linter.unusedSimpArgs false

/-- Two grids' boxes and lists, as a region keeps them. -/
structure KeepG (W : World) (b c : Nat) (r wd : Int) (u2 u3 v2 v3 : Value) (cs bs : List (Int × Int)) (w1 : World) : Prop where
  bel : Below W.heap.size W w1
  a0 : w1.cell? ⟨b, 0, none⟩ = some (.int .i64 r)
  a1 : w1.cell? ⟨b, 1, none⟩ = some (.int .i64 wd)
  a2 : w1.cell? ⟨b, 2, none⟩ = some u2
  a3 : w1.cell? ⟨b, 3, none⟩ = some u3
  c0 : w1.cell? ⟨c, 0, none⟩ = some (.int .i64 r)
  c1 : w1.cell? ⟨c, 1, none⟩ = some (.int .i64 wd)
  c2 : w1.cell? ⟨c, 2, none⟩ = some v2
  c3 : w1.cell? ⟨c, 3, none⟩ = some v3
  r1 : PRead w1 u2 cs
  r2 : PRead w1 u3 bs
  r3 : PRead w1 v2 cs
  r4 : PRead w1 v3 bs
theorem KeepG.next {W : World} {b c : Nat} {r wd : Int} {u2 u3 v2 v3 : Value} {cs bs : List (Int × Int)} {w1 w2 : World} (h : KeepG W b c r wd u2 u3 v2 v3 cs bs w1) (hb : Below w1.heap.size w1 w2) : KeepG W b c r wd u2 u3 v2 v3 cs bs w2 :=
  ⟨h.bel.trans (hb.mono h.bel.size), cellb hb h.a0, cellb hb h.a1, cellb hb h.a2, cellb hb h.a3, cellb hb h.c0, cellb hb h.c1, cellb hb h.c2, cellb hb h.c3, h.r1.below hb, h.r2.below hb, h.r3.below hb, h.r4.below hb⟩

set_option maxRecDepth 20000 in
set_option maxHeartbeats 4000000 in
theorem lawRZ_walk (r wd : Int) (v1 v2 : Value) (cs bs : List (Int × Int)) (rw wt : Int) (w : World) (hr1 : PRead w v1 cs) (hr2 : PRead w v2 bs) (hm1 : cs.length ≤ maxLen) (hm2 : bs.length ≤ maxLen) :
    Calls Try.prog 8 #[.agg #[.int .i64 r, .int .i64 wd, v1, v2], .int .i64 rw, .int .i64 wt] w fun e w' => e = .returned (.bool true) ∧ Below w.heap.size w w' := by
  have hr1' := hr1
  obtain ⟨av, cv, rfl, _⟩ := hr1'
  have hr2' := hr2
  obtain ⟨bv, dv, rfl, _⟩ := hr2'
  by_cases hn : (cs.length : Int) + bs.length ≤ 1048576
  · have hn1 : cs.length ≤ 1048576 := by omega
    have hn2 : bs.length ≤ 1048576 := by omega
    have hlen := resizeRes_len r wd cs bs rw wt
    generalize hX : resizeRes r wd cs bs rw wt = X at *
    obtain ⟨code, rr, ww, xs, ys⟩ := X
    have HX := hide hX
    clear hX
    have hl1 : xs.length ≤ 72 := hlen.1
    have hl2 : ys.length ≤ 60 := hlen.2
    clear hlen
    go_enter Try.func8, Try.ntmps8
    go_wp2_with fail
    have q1 : Below w.heap.size w (w.alloc (.cells #[.int .i64 r, .int .i64 wd, .slice av cs.length cv, .slice bv bs.length dv] 33)) := (by repeat' (first | with_reducible exact Below.refl _ _ | with_reducible assumption | with_reducible refine Below.drew ?_ | with_reducible refine Below.alloc ?_ ?_ _ | with_reducible refine Below.setCell ?_ ?_ _ | (simp; done) | (simp; omega) | omega))
    refine (szGrid_calls r wd cs.length bs.length av bv cv dv 1048576 (by omega) (by omega) _ hm1 hm2).mono ?_
    rintro e w1 ⟨rfl, hb1⟩
    have A0 : w1.cell? ⟨w.heap.size, 0, none⟩ = some (.int .i64 r) := cellb hb1 (by simp)
    have A1 : w1.cell? ⟨w.heap.size, 1, none⟩ = some (.int .i64 wd) := cellb hb1 (by simp)
    have A2 : w1.cell? ⟨w.heap.size, 2, none⟩ = some (.slice av cs.length cv) := cellb hb1 (by simp)
    have A3 : w1.cell? ⟨w.heap.size, 3, none⟩ = some (.slice bv bs.length dv) := cellb hb1 (by simp)
    have z1 : w.heap.size + 1 ≤ w1.heap.size := by have := hb1.size; simp at this; omega
    have r1 : Below w.heap.size w w1 := q1.trans (hb1.mono (by simp; try omega))
    clear q1 hb1
    have b1 : Below w.heap.size w w1 := r1
    clear r1
    have lt1_0 : w.heap.size < w1.heap.size := by omega
    rw [if_pos hn]
    have hge : ¬ ((1048576 - (cs.length : Int) - (bs.length : Int)) < 0) := by omega
    go_wp2_with fail
    refine (toGrid_full r wd cs bs _ _ _ hn1 hn2 ((hr1.below b1)) ((hr2.below b1))).mono ?_
    rintro e w2 ⟨xp, yp, rfl, kxp, kyp, hp, hb2⟩
    have z2 : w1.heap.size ≤ w2.heap.size := hb2.size
    have r2 := hb2
    clear hb2
    replace A0 := cellb r2 A0
    replace A1 := cellb r2 A1
    replace A2 := cellb r2 A2
    replace A3 := cellb r2 A3
    have b2 : Below w.heap.size w w2 := b1.trans (r2.mono (by omega))
    clear r2 b1
    clear lt1_0
    have lt2_0 : w.heap.size < w2.heap.size := by omega
    obtain ⟨ap, cp, dp, ep, rfl, rfl⟩ := hp.forms
    go_wp2_with fail
    refine (specResizeGrid_calls r wd cs bs rw wt _ _ _ hn1 hn2 kxp kyp hp.read1 hp.read2).mono ?_
    rintro e w3 ⟨xj, yj, rfl, hj, hb3⟩
    have z3 : w2.heap.size ≤ w3.heap.size := hb3.size
    have r3 := hb3
    clear hb3
    replace A0 := cellb r3 A0
    replace A1 := cellb r3 A1
    replace A2 := cellb r3 A2
    replace A3 := cellb r3 A3
    replace hp := hp.below r3 (by omega)
    have b3 : Below w.heap.size w w3 := b2.trans (r3.mono (by omega))
    clear r3 b2
    clear lt2_0
    have lt3_0 : w.heap.size < w3.heap.size := by omega
    rw [HX.out] at hj ⊢
    dsimp only at hj ⊢
    obtain ⟨aj, cj, dj, ej, rfl, rfl⟩ := hj.forms
    clear hp
    go_wp2_with fail
    have q4 : Below w3.heap.size w3 (w3.alloc (.cells #[.int .i64 code, .int .i64 rr, .int .i64 ww, .slice aj xs.length cj, .slice dj ys.length ej] 26)) := (by repeat' (first | with_reducible exact Below.refl _ _ | with_reducible assumption | with_reducible refine Below.drew ?_ | with_reducible refine Below.alloc ?_ ?_ _ | with_reducible refine Below.setCell ?_ ?_ _ | (simp; done) | (simp; omega) | omega))
    refine (toGrid_calls r wd cs bs _ _ _ hn1 hn2 ((hr1.below b3).below q4) ((hr2.below b3).below q4)).mono ?_
    rintro e w4 ⟨xq, yq, rfl, hq, hb4⟩
    have B0 : w4.cell? ⟨w3.heap.size, 0, none⟩ = some (.int .i64 code) := cellb hb4 (by simp)
    have B1 : w4.cell? ⟨w3.heap.size, 1, none⟩ = some (.int .i64 rr) := cellb hb4 (by simp)
    have B2 : w4.cell? ⟨w3.heap.size, 2, none⟩ = some (.int .i64 ww) := cellb hb4 (by simp)
    have B3 : w4.cell? ⟨w3.heap.size, 3, none⟩ = some (.slice aj xs.length cj) := cellb hb4 (by simp)
    have B4 : w4.cell? ⟨w3.heap.size, 4, none⟩ = some (.slice dj ys.length ej) := cellb hb4 (by simp)
    have z4 : w3.heap.size + 1 ≤ w4.heap.size := by have := hb4.size; simp at this; omega
    have r4 : Below w3.heap.size w3 w4 := q4.trans (hb4.mono (by simp; try omega))
    clear q4 hb4
    replace A0 := cellb r4 A0
    replace A1 := cellb r4 A1
    replace A2 := cellb r4 A2
    replace A3 := cellb r4 A3
    replace hj := hj.below r4 (by omega)
    have b4 : Below w.heap.size w w4 := b3.trans (r4.mono (by omega))
    clear r4 b3
    clear lt3_0
    have lt4_0 : w.heap.size < w4.heap.size := by omega
    have lt4_1 : w3.heap.size < w4.heap.size := by omega
    replace hq := hq.mono (lo' := (w3.heap.size + 1)) (by simp) (Nat.le_refl _)
    obtain ⟨aq, cq, dq, eq, rfl, rfl⟩ := hq.forms
    go_wp2_with fail
    have q5 : Below w4.heap.size w4 (w4.alloc (.cells #[.int .i64 r, .int .i64 wd, .slice aq cs.length cq, .slice dq bs.length eq] 24)) := (by repeat' (first | with_reducible exact Below.refl _ _ | with_reducible assumption | with_reducible refine Below.drew ?_ | with_reducible refine Below.alloc ?_ ?_ _ | with_reducible refine Below.setCell ?_ ?_ _ | (simp; done) | (simp; omega) | omega))
    refine (implResizeGrid_calls r wd cs bs rw wt _ _ _ hn1 hn2 (hq.read1.below q5) (hq.read2.below q5)).mono ?_
    rintro e w5 ⟨xg, yg, rfl, hg, hb5⟩
    have X0 : w5.cell? ⟨w4.heap.size, 0, none⟩ = some (.int .i64 r) := cellb hb5 (by simp)
    have X1 : w5.cell? ⟨w4.heap.size, 1, none⟩ = some (.int .i64 wd) := cellb hb5 (by simp)
    have X2 : w5.cell? ⟨w4.heap.size, 2, none⟩ = some (.slice aq cs.length cq) := cellb hb5 (by simp)
    have X3 : w5.cell? ⟨w4.heap.size, 3, none⟩ = some (.slice dq bs.length eq) := cellb hb5 (by simp)
    have z5 : w4.heap.size + 1 ≤ w5.heap.size := by have := hb5.size; simp at this; omega
    have r5 : Below w4.heap.size w4 w5 := q5.trans (hb5.mono (by simp; try omega))
    clear q5 hb5
    replace A0 := cellb r5 A0
    replace A1 := cellb r5 A1
    replace A2 := cellb r5 A2
    replace A3 := cellb r5 A3
    replace B0 := cellb r5 B0
    replace B1 := cellb r5 B1
    replace B2 := cellb r5 B2
    replace B3 := cellb r5 B3
    replace B4 := cellb r5 B4
    replace hj := hj.below r5 (by omega)
    replace hq := hq.below r5 (by omega)
    have b5 : Below w.heap.size w w5 := b4.trans (r5.mono (by omega))
    clear r5 b4
    clear lt4_0 lt4_1
    have lt5_0 : w.heap.size < w5.heap.size := by omega
    have lt5_1 : w3.heap.size < w5.heap.size := by omega
    have lt5_2 : w4.heap.size < w5.heap.size := by omega
    rw [HX.out] at hg ⊢
    dsimp only at hg ⊢
    replace hg := hg.mono (lo' := (w4.heap.size + 1)) (by simp) (Nat.le_refl _)
    obtain ⟨ag, cg, dg, eg, rfl, rfl⟩ := hg.forms
    go_wp2_with fail
    have q6 : Below w5.heap.size w5 (w5.alloc (.cells #[.int .i64 code, .int .i64 rr, .int .i64 ww, .slice ag xs.length cg, .slice dg ys.length eg] 26)) := (by repeat' (first | with_reducible exact Below.refl _ _ | with_reducible assumption | with_reducible refine Below.drew ?_ | with_reducible refine Below.alloc ?_ ?_ _ | with_reducible refine Below.setCell ?_ ?_ _ | (simp; done) | (simp; omega) | omega))
    refine (eqGridResult_calls code rr ww xs ys _ _ _ _ _ (by omega) (by omega) (hg.read1.below q6) (hg.read2.below q6) (hj.read1.below q6) (hj.read2.below q6)).mono ?_
    rintro e w6 ⟨rfl, hb6⟩
    have G0 : w6.cell? ⟨w5.heap.size, 0, none⟩ = some (.int .i64 code) := cellb hb6 (by simp)
    have G1 : w6.cell? ⟨w5.heap.size, 1, none⟩ = some (.int .i64 rr) := cellb hb6 (by simp)
    have G2 : w6.cell? ⟨w5.heap.size, 2, none⟩ = some (.int .i64 ww) := cellb hb6 (by simp)
    have G3 : w6.cell? ⟨w5.heap.size, 3, none⟩ = some (.slice ag xs.length cg) := cellb hb6 (by simp)
    have G4 : w6.cell? ⟨w5.heap.size, 4, none⟩ = some (.slice dg ys.length eg) := cellb hb6 (by simp)
    have z6 : w5.heap.size + 1 ≤ w6.heap.size := by have := hb6.size; simp at this; omega
    have r6 : Below w5.heap.size w5 w6 := q6.trans (hb6.mono (by simp; try omega))
    clear q6 hb6
    replace A0 := cellb r6 A0
    replace A1 := cellb r6 A1
    replace A2 := cellb r6 A2
    replace A3 := cellb r6 A3
    replace B0 := cellb r6 B0
    replace B1 := cellb r6 B1
    replace B2 := cellb r6 B2
    replace B3 := cellb r6 B3
    replace B4 := cellb r6 B4
    replace X0 := cellb r6 X0
    replace X1 := cellb r6 X1
    replace X2 := cellb r6 X2
    replace X3 := cellb r6 X3
    replace hj := hj.below r6 (by omega)
    replace hq := hq.below r6 (by omega)
    replace hg := hg.below r6 (by omega)
    have b6 : Below w.heap.size w w6 := b5.trans (r6.mono (by omega))
    clear r6 b5
    clear lt5_0 lt5_1 lt5_2
    have lt6_0 : w.heap.size < w6.heap.size := by omega
    have lt6_1 : w3.heap.size < w6.heap.size := by omega
    have lt6_2 : w4.heap.size < w6.heap.size := by omega
    have lt6_3 : w5.heap.size < w6.heap.size := by omega
    go_wp2_with fail
    have hq0 := hr1.below b6
    have hq1 := hr2.below b6
    have hKG : KeepG w6 (w.heap.size) (w4.heap.size) r wd (.slice av cs.length cv) (.slice bv bs.length dv) (.slice aq cs.length cq) (.slice dq bs.length eq) cs bs w6.drew := ⟨Below.drew (Below.refl _ w6), A0, A1, A2, A3, X0, X1, X2, X3, hq0, hq1, hq.read1, hq.read2⟩
    refine wp_region_held_drew (S := (fun w' => KeepG w6 (w.heap.size) (w4.heap.size) r wd (.slice av cs.length cv) (.slice bv bs.length dv) (.slice aq cs.length cq) (.slice dq bs.length eq) cs bs w')) (by kernel_rfl) ?_ (fun hHeld => ?_)
    · (try dsimp only); exact hKG
    refine wpAnyH_take (i := 0) (oi := ⟨_, _, _, _, _, _⟩) (v := ?_) rfl (by kernel_rfl) (by kernel_rfl) (by kernel_rfl) (fun _ _ _ h => h) (Or.inl ⟨by rfl, ?_⟩) hHeld ?_
    rotate_left
    · (intro w hSw; (try dsimp only at hSw); have s0 := hSw.a0; have s1 := hSw.a1; have s2 := hSw.a2; have s3 := hSw.a3; have t0 := hSw.c0; have t1 := hSw.c1; have t2 := hSw.c2; have t3 := hSw.c3; clear hSw; go_simp; try (with_reducible rfl))
    try simp only [Act.put, List.setIfInBounds_toArray, List.set_cons_zero, List.set_cons_succ]
    refine wpAnyH_take (i := 1) (oi := ⟨_, _, _, _, _, _⟩) (v := ?_) rfl (by kernel_rfl) (by kernel_rfl) (by kernel_rfl) (fun _ _ _ h => h) (Or.inl ⟨by rfl, ?_⟩) hHeld ?_
    rotate_left
    · (intro w hSw; (try dsimp only at hSw); have s0 := hSw.a0; have s1 := hSw.a1; have s2 := hSw.a2; have s3 := hSw.a3; have t0 := hSw.c0; have t1 := hSw.c1; have t2 := hSw.c2; have t3 := hSw.c3; clear hSw; go_simp; try (with_reducible rfl))
    try simp only [Act.put, List.setIfInBounds_toArray, List.set_cons_zero, List.set_cons_succ]
    refine wpAnyH_ready (rs := [2]) (by kernel_rfl) (by simp) ?_
    refine AllReadyH.cons (o := ⟨_, _, _, _, _, _⟩) rfl (fun K hK => ?_) AllReadyH.nil
    go_simp
    go_at_call 16
    refine (toGrid_calls r wd cs bs _ _ _ hn1 hn2 hHeld.r1 hHeld.r2).mono ?_
    rintro e v7 ⟨y7, z7, rfl, hy7, hbv7⟩
    have hry7 := hy7.read1
    have hrz7 := hy7.read2
    obtain ⟨ay7, cy7, az7, cz7, rfl, rfl⟩ := hy7.forms
    clear hy7
    try go_wp2_with fail
    refine hK.out _ _ ?_ ?_
    · (try dsimp only); exact hHeld.next hbv7
    clear hHeld hK K
    intro hHeld
    try simp only [Act.put, List.setIfInBounds_toArray, List.set_cons_zero, List.set_cons_succ]
    refine wpAnyH_ready (rs := [3]) (by kernel_rfl) (by simp) ?_
    refine AllReadyH.cons (o := ⟨_, _, _, _, _, _⟩) rfl (fun K hK => ?_) AllReadyH.nil
    go_simp
    go_at_call 19
    refine (eqGrid_calls r wd cs bs _ _ _ _ _ (by omega) (by omega) hHeld.r3 hHeld.r4 hry7 hrz7).mono ?_
    rintro e w7 ⟨rfl, hbu7⟩
    try go_wp2_with fail
    refine hK.out _ _ ?_ ?_
    · (try dsimp only); exact hHeld.next hbu7
    clear hHeld hK K
    intro hHeld
    try simp only [Act.put, List.setIfInBounds_toArray, List.set_cons_zero, List.set_cons_succ]
    refine wpAnyH_take (i := 4) (oi := ⟨_, _, _, _, _, _⟩) (v := ?_) rfl (by kernel_rfl) (by kernel_rfl) (by kernel_rfl) (fun _ _ _ h => h) (Or.inl ⟨by rfl, ?_⟩) hHeld ?_
    rotate_left
    · (intro w hSw; (try dsimp only at hSw); have s0 := hSw.a0; have s1 := hSw.a1; have s2 := hSw.a2; have s3 := hSw.a3; have t0 := hSw.c0; have t1 := hSw.c1; have t2 := hSw.c2; have t3 := hSw.c3; clear hSw; go_simp; try (with_reducible rfl))
    try simp only [Act.put, List.setIfInBounds_toArray, List.set_cons_zero, List.set_cons_succ]
    refine wpAnyH_done (by kernel_rfl) ?_ _
    have r7 := hHeld.bel
    clear hHeld hry7 hrz7 hbv7 hbu7 hKG hq0 hq1
    have z7 : w6.heap.size ≤ w7.heap.size := r7.size
    replace A0 := cellb r7 A0
    replace A1 := cellb r7 A1
    replace A2 := cellb r7 A2
    replace A3 := cellb r7 A3
    replace B0 := cellb r7 B0
    replace B1 := cellb r7 B1
    replace B2 := cellb r7 B2
    replace B3 := cellb r7 B3
    replace B4 := cellb r7 B4
    replace X0 := cellb r7 X0
    replace X1 := cellb r7 X1
    replace X2 := cellb r7 X2
    replace X3 := cellb r7 X3
    replace G0 := cellb r7 G0
    replace G1 := cellb r7 G1
    replace G2 := cellb r7 G2
    replace G3 := cellb r7 G3
    replace G4 := cellb r7 G4
    replace hj := hj.below r7 (by omega)
    replace hq := hq.below r7 (by omega)
    replace hg := hg.below r7 (by omega)
    have b7 : Below w.heap.size w w7 := b6.trans (r7.mono (by omega))
    clear r7 b6
    clear lt6_0 lt6_1 lt6_2 lt6_3
    have lt7_0 : w.heap.size < w7.heap.size := by omega
    have lt7_1 : w3.heap.size < w7.heap.size := by omega
    have lt7_2 : w4.heap.size < w7.heap.size := by omega
    have lt7_3 : w5.heap.size < w7.heap.size := by omega
    go_wp2_with fail
    refine (markGrid_calls r wd cs bs 1 (w3.heap.size + 1) w4.heap.size _ _ _ hn1 hn2 (by omega) (by omega) (by omega) hq).mono ?_
    rintro e w8 ⟨rfl, hm0, hb8⟩
    have z8 : w7.heap.size ≤ w8.heap.size := hb8.size
    replace A0 := hb8.cell (by omega) (by omega) A0
    replace A1 := hb8.cell (by omega) (by omega) A1
    replace A2 := hb8.cell (by omega) (by omega) A2
    replace A3 := hb8.cell (by omega) (by omega) A3
    replace B0 := hb8.cell (by omega) (by omega) B0
    replace B1 := hb8.cell (by omega) (by omega) B1
    replace B2 := hb8.cell (by omega) (by omega) B2
    replace B3 := hb8.cell (by omega) (by omega) B3
    replace B4 := hb8.cell (by omega) (by omega) B4
    replace X0 := hb8.cell (by omega) (by omega) X0
    replace X1 := hb8.cell (by omega) (by omega) X1
    replace X2 := hb8.cell (by omega) (by omega) X2
    replace X3 := hb8.cell (by omega) (by omega) X3
    replace G0 := hb8.cell (by omega) (by omega) G0
    replace G1 := hb8.cell (by omega) (by omega) G1
    replace G2 := hb8.cell (by omega) (by omega) G2
    replace G3 := hb8.cell (by omega) (by omega) G3
    replace G4 := hb8.cell (by omega) (by omega) G4
    replace hj := hj.within hb8 (by omega) (by omega)
    replace hg := hg.within hb8 (by omega) (by omega)
    have b8 : Below w.heap.size w w8 := b7.trans (hb8.below (by omega) (by omega))
    clear hb8 b7
    clear lt7_0 lt7_1 lt7_2 lt7_3
    have lt8_0 : w.heap.size < w8.heap.size := by omega
    have lt8_1 : w3.heap.size < w8.heap.size := by omega
    have lt8_2 : w4.heap.size < w8.heap.size := by omega
    have lt8_3 : w5.heap.size < w8.heap.size := by omega
    clear hq hm0
    have hk0 : ¬ ((1 : Int) + 2 * (cs.length : Int) + 2 * (bs.length : Int) < 0) := by omega
    go_wp2_with fail
    refine (eqGridResult_calls code rr ww xs ys _ _ _ _ _ (by omega) (by omega) hg.read1 hg.read2 hj.read1 hj.read2).mono ?_
    rintro e w9 ⟨rfl, hb9⟩
    have z9 : w8.heap.size ≤ w9.heap.size := hb9.size
    have r9 := hb9
    clear hb9
    replace A0 := cellb r9 A0
    replace A1 := cellb r9 A1
    replace A2 := cellb r9 A2
    replace A3 := cellb r9 A3
    replace B0 := cellb r9 B0
    replace B1 := cellb r9 B1
    replace B2 := cellb r9 B2
    replace B3 := cellb r9 B3
    replace B4 := cellb r9 B4
    replace X0 := cellb r9 X0
    replace X1 := cellb r9 X1
    replace X2 := cellb r9 X2
    replace X3 := cellb r9 X3
    replace G0 := cellb r9 G0
    replace G1 := cellb r9 G1
    replace G2 := cellb r9 G2
    replace G3 := cellb r9 G3
    replace G4 := cellb r9 G4
    replace hj := hj.below r9 (by omega)
    replace hg := hg.below r9 (by omega)
    have b9 : Below w.heap.size w w9 := b8.trans (r9.mono (by omega))
    clear r9 b8
    clear lt8_0 lt8_1 lt8_2 lt8_3
    have lt9_0 : w.heap.size < w9.heap.size := by omega
    have lt9_1 : w3.heap.size < w9.heap.size := by omega
    have lt9_2 : w4.heap.size < w9.heap.size := by omega
    have lt9_3 : w5.heap.size < w9.heap.size := by omega
    go_wp2_with fail
    refine (markGridResult_calls code rr ww xs ys 1 (w4.heap.size + 1) w5.heap.size _ _ _ (by omega) (by omega) (by omega) (by omega) (by omega) hg).mono ?_
    rintro e w10 ⟨rfl, hm1', hb10⟩
    have z10 : w9.heap.size ≤ w10.heap.size := hb10.size
    replace A0 := hb10.cell (by omega) (by omega) A0
    replace A1 := hb10.cell (by omega) (by omega) A1
    replace A2 := hb10.cell (by omega) (by omega) A2
    replace A3 := hb10.cell (by omega) (by omega) A3
    replace B0 := hb10.cell (by omega) (by omega) B0
    replace B1 := hb10.cell (by omega) (by omega) B1
    replace B2 := hb10.cell (by omega) (by omega) B2
    replace B3 := hb10.cell (by omega) (by omega) B3
    replace B4 := hb10.cell (by omega) (by omega) B4
    replace X0 := hb10.cell (by omega) (by omega) X0
    replace X1 := hb10.cell (by omega) (by omega) X1
    replace X2 := hb10.cell (by omega) (by omega) X2
    replace X3 := hb10.cell (by omega) (by omega) X3
    replace G0 := hb10.cell (by omega) (by omega) G0
    replace G1 := hb10.cell (by omega) (by omega) G1
    replace G2 := hb10.cell (by omega) (by omega) G2
    replace G3 := hb10.cell (by omega) (by omega) G3
    replace G4 := hb10.cell (by omega) (by omega) G4
    replace hj := hj.within hb10 (by omega) (by omega)
    have b10 : Below w.heap.size w w10 := b9.trans (hb10.below (by omega) (by omega))
    clear hb10 b9
    clear lt9_0 lt9_1 lt9_2 lt9_3
    have lt10_0 : w.heap.size < w10.heap.size := by omega
    have lt10_1 : w3.heap.size < w10.heap.size := by omega
    have lt10_2 : w4.heap.size < w10.heap.size := by omega
    have lt10_3 : w5.heap.size < w10.heap.size := by omega
    clear hg
    go_wp2_with fail
    refine (heldGridResult_calls code rr ww (marksP 1 xs.length) (marksP (1 + 2 * xs.length) ys.length) 1 (.slice ag xs.length cg) (.slice dg ys.length eg) _ (by rw [marksP_length]; omega) (by rw [marksP_length]; omega) (by omega) (by omega) hm1'.read1 hm1'.read2 (marksP_at 1 _) (by rw [marksP_length 1]; exact marksP_at _ _)).mono ?_
    rintro e w11 ⟨rfl, hb11⟩
    have z11 : w10.heap.size ≤ w11.heap.size := hb11.size
    have r11 := hb11
    clear hb11
    replace A0 := cellb r11 A0
    replace A1 := cellb r11 A1
    replace A2 := cellb r11 A2
    replace A3 := cellb r11 A3
    replace B0 := cellb r11 B0
    replace B1 := cellb r11 B1
    replace B2 := cellb r11 B2
    replace B3 := cellb r11 B3
    replace B4 := cellb r11 B4
    replace X0 := cellb r11 X0
    replace X1 := cellb r11 X1
    replace X2 := cellb r11 X2
    replace X3 := cellb r11 X3
    replace G0 := cellb r11 G0
    replace G1 := cellb r11 G1
    replace G2 := cellb r11 G2
    replace G3 := cellb r11 G3
    replace G4 := cellb r11 G4
    replace hj := hj.below r11 (by omega)
    replace hm1' := hm1'.below r11 (by omega)
    have b11 : Below w.heap.size w w11 := b10.trans (r11.mono (by omega))
    clear r11 b10
    clear lt10_0 lt10_1 lt10_2 lt10_3
    have lt11_0 : w.heap.size < w11.heap.size := by omega
    have lt11_1 : w3.heap.size < w11.heap.size := by omega
    have lt11_2 : w4.heap.size < w11.heap.size := by omega
    have lt11_3 : w5.heap.size < w11.heap.size := by omega
    rw [marksP_length, marksP_length]
    have hk1 : ¬ ((1 : Int) + 2 * (xs.length : Int) + 2 * (ys.length : Int) < 0) := by omega
    have hk2 : (((1 : Int) + 2 * (xs.length : Int) + 2 * (ys.length : Int)) != (1 + 2 * (xs.length : Int) + 2 * (ys.length : Int))) = false := by simp
    go_wp2_with fail
    refine (toGrid_calls r wd cs bs _ _ _ hn1 hn2 ((hr1.below b11)) ((hr2.below b11))).mono ?_
    rintro e w12 ⟨xl, yl, rfl, hl, hb12⟩
    have z12 : w11.heap.size ≤ w12.heap.size := hb12.size
    have r12 := hb12
    clear hb12
    replace A0 := cellb r12 A0
    replace A1 := cellb r12 A1
    replace A2 := cellb r12 A2
    replace A3 := cellb r12 A3
    replace B0 := cellb r12 B0
    replace B1 := cellb r12 B1
    replace B2 := cellb r12 B2
    replace B3 := cellb r12 B3
    replace B4 := cellb r12 B4
    replace X0 := cellb r12 X0
    replace X1 := cellb r12 X1
    replace X2 := cellb r12 X2
    replace X3 := cellb r12 X3
    replace G0 := cellb r12 G0
    replace G1 := cellb r12 G1
    replace G2 := cellb r12 G2
    replace G3 := cellb r12 G3
    replace G4 := cellb r12 G4
    replace hj := hj.below r12 (by omega)
    replace hm1' := hm1'.below r12 (by omega)
    have b12 : Below w.heap.size w w12 := b11.trans (r12.mono (by omega))
    clear r12 b11
    clear lt11_0 lt11_1 lt11_2 lt11_3
    have lt12_0 : w.heap.size < w12.heap.size := by omega
    have lt12_1 : w3.heap.size < w12.heap.size := by omega
    have lt12_2 : w4.heap.size < w12.heap.size := by omega
    have lt12_3 : w5.heap.size < w12.heap.size := by omega
    obtain ⟨al, cl, dl, el, rfl, rfl⟩ := hl.forms
    go_wp2_with fail
    refine (implResizeGrid_calls r wd cs bs rw wt _ _ _ hn1 hn2 hl.read1 hl.read2).mono ?_
    rintro e w13 ⟨xu, yu, rfl, hu, hb13⟩
    have z13 : w12.heap.size ≤ w13.heap.size := hb13.size
    have r13 := hb13
    clear hb13
    replace A0 := cellb r13 A0
    replace A1 := cellb r13 A1
    replace A2 := cellb r13 A2
    replace A3 := cellb r13 A3
    replace B0 := cellb r13 B0
    replace B1 := cellb r13 B1
    replace B2 := cellb r13 B2
    replace B3 := cellb r13 B3
    replace B4 := cellb r13 B4
    replace X0 := cellb r13 X0
    replace X1 := cellb r13 X1
    replace X2 := cellb r13 X2
    replace X3 := cellb r13 X3
    replace G0 := cellb r13 G0
    replace G1 := cellb r13 G1
    replace G2 := cellb r13 G2
    replace G3 := cellb r13 G3
    replace G4 := cellb r13 G4
    replace hj := hj.below r13 (by omega)
    replace hm1' := hm1'.below r13 (by omega)
    replace hl := hl.below r13 (by omega)
    have b13 : Below w.heap.size w w13 := b12.trans (r13.mono (by omega))
    clear r13 b12
    clear lt12_0 lt12_1 lt12_2 lt12_3
    have lt13_0 : w.heap.size < w13.heap.size := by omega
    have lt13_1 : w3.heap.size < w13.heap.size := by omega
    have lt13_2 : w4.heap.size < w13.heap.size := by omega
    have lt13_3 : w5.heap.size < w13.heap.size := by omega
    rw [HX.out] at hu ⊢
    dsimp only at hu ⊢
    obtain ⟨au, cu, du, eu, rfl, rfl⟩ := hu.forms
    clear hl
    go_wp2_with fail
    have q14 : Below w13.heap.size w13 (w13.alloc (.cells #[.int .i64 code, .int .i64 rr, .int .i64 ww, .slice au xs.length cu, .slice du ys.length eu] 26)) := (by repeat' (first | with_reducible exact Below.refl _ _ | with_reducible assumption | with_reducible refine Below.drew ?_ | with_reducible refine Below.alloc ?_ ?_ _ | with_reducible refine Below.setCell ?_ ?_ _ | (simp; done) | (simp; omega) | omega))
    refine (eqGridResult_calls code rr ww xs ys _ _ _ _ _ (by omega) (by omega) (hu.read1.below q14) (hu.read2.below q14) (hj.read1.below q14) (hj.read2.below q14)).mono ?_
    rintro e w14 ⟨rfl, hb14⟩
    have H0 : w14.cell? ⟨w13.heap.size, 0, none⟩ = some (.int .i64 code) := cellb hb14 (by simp)
    have H1 : w14.cell? ⟨w13.heap.size, 1, none⟩ = some (.int .i64 rr) := cellb hb14 (by simp)
    have H2 : w14.cell? ⟨w13.heap.size, 2, none⟩ = some (.int .i64 ww) := cellb hb14 (by simp)
    have H3 : w14.cell? ⟨w13.heap.size, 3, none⟩ = some (.slice au xs.length cu) := cellb hb14 (by simp)
    have H4 : w14.cell? ⟨w13.heap.size, 4, none⟩ = some (.slice du ys.length eu) := cellb hb14 (by simp)
    have z14 : w13.heap.size + 1 ≤ w14.heap.size := by have := hb14.size; simp at this; omega
    have r14 : Below w13.heap.size w13 w14 := q14.trans (hb14.mono (by simp; try omega))
    clear q14 hb14
    replace A0 := cellb r14 A0
    replace A1 := cellb r14 A1
    replace A2 := cellb r14 A2
    replace A3 := cellb r14 A3
    replace B0 := cellb r14 B0
    replace B1 := cellb r14 B1
    replace B2 := cellb r14 B2
    replace B3 := cellb r14 B3
    replace B4 := cellb r14 B4
    replace X0 := cellb r14 X0
    replace X1 := cellb r14 X1
    replace X2 := cellb r14 X2
    replace X3 := cellb r14 X3
    replace G0 := cellb r14 G0
    replace G1 := cellb r14 G1
    replace G2 := cellb r14 G2
    replace G3 := cellb r14 G3
    replace G4 := cellb r14 G4
    replace hj := hj.below r14 (by omega)
    replace hm1' := hm1'.below r14 (by omega)
    replace hu := hu.below r14 (by omega)
    have b14 : Below w.heap.size w w14 := b13.trans (r14.mono (by omega))
    clear r14 b13
    clear lt13_0 lt13_1 lt13_2 lt13_3
    have lt14_0 : w.heap.size < w14.heap.size := by omega
    have lt14_1 : w3.heap.size < w14.heap.size := by omega
    have lt14_2 : w4.heap.size < w14.heap.size := by omega
    have lt14_3 : w5.heap.size < w14.heap.size := by omega
    have lt14_4 : w13.heap.size < w14.heap.size := by omega
    go_wp2_with fail
    refine (heldGridResult_calls code rr ww (marksP 1 xs.length) (marksP (1 + 2 * xs.length) ys.length) 1 (.slice ag xs.length cg) (.slice dg ys.length eg) _ (by rw [marksP_length]; omega) (by rw [marksP_length]; omega) (by omega) (by omega) hm1'.read1 hm1'.read2 (marksP_at 1 _) (by rw [marksP_length 1]; exact marksP_at _ _)).mono ?_
    rintro e w15 ⟨rfl, hb15⟩
    have z15 : w14.heap.size ≤ w15.heap.size := hb15.size
    have r15 := hb15
    clear hb15
    replace A0 := cellb r15 A0
    replace A1 := cellb r15 A1
    replace A2 := cellb r15 A2
    replace A3 := cellb r15 A3
    replace B0 := cellb r15 B0
    replace B1 := cellb r15 B1
    replace B2 := cellb r15 B2
    replace B3 := cellb r15 B3
    replace B4 := cellb r15 B4
    replace X0 := cellb r15 X0
    replace X1 := cellb r15 X1
    replace X2 := cellb r15 X2
    replace X3 := cellb r15 X3
    replace G0 := cellb r15 G0
    replace G1 := cellb r15 G1
    replace G2 := cellb r15 G2
    replace G3 := cellb r15 G3
    replace G4 := cellb r15 G4
    replace H0 := cellb r15 H0
    replace H1 := cellb r15 H1
    replace H2 := cellb r15 H2
    replace H3 := cellb r15 H3
    replace H4 := cellb r15 H4
    replace hj := hj.below r15 (by omega)
    replace hm1' := hm1'.below r15 (by omega)
    replace hu := hu.below r15 (by omega)
    have b15 : Below w.heap.size w w15 := b14.trans (r15.mono (by omega))
    clear r15 b14
    clear lt14_0 lt14_1 lt14_2 lt14_3 lt14_4
    have lt15_0 : w.heap.size < w15.heap.size := by omega
    have lt15_1 : w3.heap.size < w15.heap.size := by omega
    have lt15_2 : w4.heap.size < w15.heap.size := by omega
    have lt15_3 : w5.heap.size < w15.heap.size := by omega
    have lt15_4 : w13.heap.size < w15.heap.size := by omega
    rw [marksP_length, marksP_length]
    go_wp2
    go_ret
    exact ⟨rfl, b15⟩
  · go_enter Try.func8, Try.ntmps8
    go_wp2_with fail
    refine (szGrid_calls r wd cs.length bs.length av bv cv dv 1048576 (by omega) (by omega) _ hm1 hm2).mono ?_
    rintro e w1 ⟨rfl, hb1⟩
    rw [if_neg (by omega)]
    go_wp2
    go_ret
    exact ⟨rfl, (show Below w.heap.size w _ from (by repeat' (first | with_reducible exact Below.refl _ _ | with_reducible assumption | with_reducible refine Below.drew ?_ | with_reducible refine Below.alloc ?_ ?_ _ | with_reducible refine Below.setCell ?_ ?_ _ | (simp; done) | (simp; omega) | omega))).trans (hb1.mono (by simp; try omega))⟩

theorem lawRZ_laid : laidOutB Try.prog = true := by kernel_rfl
theorem lawRZ_own : ownKnob Try.prog.godebug = none := by kernel_rfl
set_option maxRecDepth 100000 in
theorem lawRZ_lifted (os : Os) (started : os.Started) (H : Type) (enc : TypeId × Value → H) :
    ReturnsInHanded {} Try.checked os 8 .any (Rows.fnExactResizeGridSpec.pre6 enc Try.prog Try.f8 Rows.fnExactResizeGridRow.domain false) (Rows.fnExactResizeGridSpec.post enc Try.prog Try.f8 false true false false) := by
  refine returnsInHanded_of_change (C := Try.checked) lawRZ_own started (by kernel_rfl) Try.func8
    (ChangeSpec.witness6 (enc := enc) (C := Try.checked) false ⟨#[], #[.agg #[.int .i64 0, .int .i64 0, .slice none 0 0, .slice none 0 0], .int .i64 0, .int .i64 0], []⟩ 8 (by kernel_rfl) (by kernel_rfl) (by kernel_rfl) (by kernel_rfl)) ?_
  intro W base args ds gs before hval0 hW hcnd _
  have hval : ∀ (j : Nat) t v, Try.f8.params[j]? = some t → args[j]? = some v → Value.okWide Try.prog W .any base t v := hval0
  have hW' := hW
  obtain ⟨p, q, hA0, hV, rfl, hfz, hnd⟩ := hW
  have hA : DataW.TrodAll enc Try.prog W 0 (fun _ => true) true Try.f8.params.toList args.toList ds p := hA0
  rw [Try.params8] at hA hval
  obtain ⟨v0, v1, v2, d0, d1, d2, p0, p1, p2, rfl, rfl, rfl, h0, h1, h2⟩ := trodAll_three hA
  obtain ⟨rfl, rfl⟩ := trodVars_none hV
  have k0 := h0
  have lt0 : ∀ x ∈ p0, x.block < W.heap.size := by obtain ⟨m, hm⟩ := k0; exact DataW.trod_lt m _ _ _ hm
  obtain ⟨r, wd, x, y, cs, bs, rfl, hx, hy, hm1, hm2⟩ := open_grid (hval 0 33 v0 rfl rfl) h0
  obtain ⟨rw, rfl, rfl, rfl, wf1⟩ := open_int Try.underlying2 (hval 1 2 v1 rfl rfl) h1
  obtain ⟨wt, rfl, rfl, rfl, wf2⟩ := open_int Try.underlying2 (hval 2 2 v2 rfl rfl) h2
  clear hA0 hval0

  refine (lawRZ_walk r wd x y cs bs rw wt W hx hy hm1 hm2).mono fun e W' ⟨he, bel⟩ => ?_
  subst he
  exact ⟨_, rfl, _, _, _, [], _, [], hW', trodAll_mk1 (shut_bool Try.underlying4 _), trodAll_mk3 (Below.trod lawRZ_laid (by kernel_rfl) (of_decide_eq_true (by kernel_rfl)) k0 bel lt0) (shut_int Try.underlying2 wf1) (shut_int Try.underlying2 wf2), rfl, bel.frame _, fun h => by cases h⟩

theorem lawRZ_over : Rows.fnExactResizeGridRow.holds Try.pinned (OpenSpec.ofChange Rows.fnExactResizeGridSpec) :=
  OpenClaim.holds_of_wide 8 Try.f8 rfl rfl rfl rfl rfl rfl rfl ⟨rfl, rfl, rfl, rfl, rfl⟩ rfl rfl rfl rfl rfl (by kernel_rfl) Try.func8 (by kernel_rfl)
    (of_decide_eq_true (by kernel_rfl)) (by unfold Func.isWrapper; first | (rw [if_pos (by decide +kernel)]; kernel_rfl) | (rw [if_neg (by decide +kernel)]; exact ⟨rfl, rfl⟩))
    (fun os started H enc _ => lawRZ_lifted os started H enc)

theorem lawRZ_proved : Rows.FnExactResizeGridSaid := lawRZ_over
#print axioms lawRZ_proved
end Go.Proofs.Ytbndncfkkhjkoai
