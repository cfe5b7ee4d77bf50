/-
  For every font and every int64 the law FnExactCharsOf returns true: impl.CharsOf answers at each font and each number what the model's CharsOf answers; it turns no argument, and its list is memory of its own. No condition (the law itself passes fonts of more than 1048576 pairs by).
-/
import Derived.Test.YtlkabmgindbbmahRows
import Derived.Test.YtlkabmgindbbmahCharsFns
import Derived.Test.YtlkabmgindbbmahIntsRes
import Derived.Test.YtlkabmgindbbmahFontFns
import Derived.Test.YtlkabmgindbbmahFontOpen
import Derived.Deep.RegionHeld
import Derived.ShutString
import Derived.ChangeOld
import Derived.Lib.SmallJoins
namespace Go.Proofs.Ytlkabmgindbbmah
open Go.ChangeShapes Go.WideShapes Go.ChangeAt Go.RowKit Go.Joins
set_option linter.unusedVariables false
set_option linter.unusedSimpArgs false

theorem keepF1 {W w1 : World} {b c : Nat} {u0 u1 v0 v1 : Value} {x y : Value} {ps qs : List (Int × Int)} (h : Below W.heap.size W w1 ∧ w1.cell? ⟨b, 0, none⟩ = some u0 ∧ w1.cell? ⟨b, 1, none⟩ = some u1 ∧ w1.cell? ⟨c, 0, none⟩ = some v0 ∧ w1.cell? ⟨c, 1, none⟩ = some v1 ∧ PRead w1 x ps ∧ PRead w1 y qs) : PRead w1 x ps := h.2.2.2.2.2.1
theorem keepF2 {W w1 : World} {b c : Nat} {u0 u1 v0 v1 : Value} {x y : Value} {ps qs : List (Int × Int)} (h : Below W.heap.size W w1 ∧ w1.cell? ⟨b, 0, none⟩ = some u0 ∧ w1.cell? ⟨b, 1, none⟩ = some u1 ∧ w1.cell? ⟨c, 0, none⟩ = some v0 ∧ w1.cell? ⟨c, 1, none⟩ = some v1 ∧ PRead w1 x ps ∧ PRead w1 y qs) : PRead w1 y qs := h.2.2.2.2.2.2
theorem keepF {W w1 w2 : World} {b c : Nat} {u0 u1 v0 v1 : Value} {x y : Value} {ps qs : List (Int × Int)} (h : Below W.heap.size W w1 ∧ w1.cell? ⟨b, 0, none⟩ = some u0 ∧ w1.cell? ⟨b, 1, none⟩ = some u1 ∧ w1.cell? ⟨c, 0, none⟩ = some v0 ∧ w1.cell? ⟨c, 1, none⟩ = some v1 ∧ PRead w1 x ps ∧ PRead w1 y qs) (hb : Below w1.heap.size w1 w2) :
    Below W.heap.size W w2 ∧ w2.cell? ⟨b, 0, none⟩ = some u0 ∧ w2.cell? ⟨b, 1, none⟩ = some u1 ∧ w2.cell? ⟨c, 0, none⟩ = some v0 ∧ w2.cell? ⟨c, 1, none⟩ = some v1 ∧ PRead w2 x ps ∧ PRead w2 y qs := by
  obtain ⟨h0, h1, h2, h3, h4, h5, h6⟩ := h
  exact ⟨h0.trans (hb.mono h0.size), cellb hb h1, cellb hb h2, cellb hb h3, cellb hb h4, h5.below hb, h6.below hb⟩

set_option maxHeartbeats 4000000 in
theorem lawCO_walk (fb : Int) (v : Value) (ps : List (Int × Int)) (c : Int) (w : World) (hv : PRead w v ps) (hmax : ps.length ≤ maxLen) :
    Calls Try.prog 6 #[.agg #[.int .i64 fb, v], .int .i64 c] w fun e w' => e = .returned (.bool true) ∧ Below w.heap.size w w' := by
  have hv' := hv
  obtain ⟨av, cv, rfl, _⟩ := hv'
  by_cases hn : ps.length ≤ 1048576
  · skip
    generalize hcode : chCode fb ps c = code
    generalize hprs : chList fb ps c = xs
    have hlen : xs.length ≤ 20 := by rw [← hprs]; exact chList_length fb ps c
    have HC := hide hcode
    have HX := hide hprs
    clear hcode hprs
    go_enter Try.func6, Try.ntmps6
    go_wp2_with fail
    have q1 : Below w.heap.size w (w.alloc (.cells #[.int .i64 fb, .slice av ps.length cv] 24)) := (by repeat' (first | with_reducible exact Below.refl _ _ | with_reducible assumption | with_reducible refine Below.drew ?_ | with_reducible refine Below.alloc ?_ ?_ _ | with_reducible refine Below.setCell ?_ ?_ _ | (simp; done) | (simp; omega) | omega))
    refine (szFont_calls fb ps.length av cv _ hmax).mono ?_
    rintro e w1 ⟨rfl, hb1⟩
    have A0 : w1.cell? ⟨w.heap.size, 0, none⟩ = some (.int .i64 fb) := cellb hb1 (by simp)
    have A1 : w1.cell? ⟨w.heap.size, 1, none⟩ = some (.slice av ps.length cv) := cellb hb1 (by simp)
    have z1 : w.heap.size + 1 ≤ w1.heap.size := by have := hb1.size; simp at this; omega
    have r1 : Below w.heap.size w w1 := q1.trans (hb1.mono (by simp; try omega))
    clear q1 hb1
    have b1 : Below w.heap.size w w1 := r1
    clear r1
    have lt1_0 : w.heap.size < w1.heap.size := by omega
    rw [if_pos hn]
    have hge : ¬ ((1048576 - (ps.length : Int)) < 0) := by omega
    go_wp2_with fail
    refine (toFont_calls fb ps _ _ hn ((hv.below b1))).mono ?_
    rintro e w2 ⟨y0, rfl, hy0, hb2⟩
    have z2 : w1.heap.size ≤ w2.heap.size := hb2.size
    have r2 := hb2
    clear hb2
    replace A0 := cellb r2 A0
    replace A1 := cellb r2 A1
    have b2 : Below w.heap.size w w2 := b1.trans (r2.mono (by omega))
    clear r2 b1
    clear lt1_0
    have lt2_0 : w.heap.size < w2.heap.size := by omega
    obtain ⟨ay0, cy0, rfl, hy0'⟩ := hy0
    have hy0 : PairsAt w1.heap.size w2.heap.size w2 (.slice ay0 ps.length cy0) ps := ⟨ay0, cy0, rfl, hy0'⟩
    clear hy0'
    go_wp2_with fail
    refine (specCharsOf_calls fb ps c _ _ hn hy0.read).mono ?_
    rintro e w3 ⟨x0, rfl, hx0, hb3⟩
    have z3 : w2.heap.size ≤ w3.heap.size := hb3.size
    have r3 := hb3
    clear hb3
    replace A0 := cellb r3 A0
    replace A1 := cellb r3 A1
    replace hy0 := hy0.below r3 (by omega)
    have b3 : Below w.heap.size w w3 := b2.trans (r3.mono (by omega))
    clear r3 b2
    clear lt2_0
    have lt3_0 : w.heap.size < w3.heap.size := by omega
    rw [HC.out]
    rw [HX.out] at hx0
    obtain ⟨a0, c0, rfl, hx0'⟩ := hx0
    have hx0 : IntsAt .i64 w2.heap.size w3.heap.size w3 (.slice a0 xs.length c0) xs := ⟨a0, c0, rfl, hx0'⟩
    clear hx0'
    clear hy0
    go_wp2_with fail
    have q4 : Below w3.heap.size w3 (w3.alloc (.cells #[.int .i64 code, .slice a0 xs.length c0] 50)) := (by repeat' (first | with_reducible exact Below.refl _ _ | with_reducible assumption | with_reducible refine Below.drew ?_ | with_reducible refine Below.alloc ?_ ?_ _ | with_reducible refine Below.setCell ?_ ?_ _ | (simp; done) | (simp; omega) | omega))
    refine (toFont_calls fb ps _ _ hn ((hv.below b3).below q4)).mono ?_
    rintro e w4 ⟨y1, rfl, hy1, hb4⟩
    have B0 : w4.cell? ⟨w3.heap.size, 0, none⟩ = some (.int .i64 code) := cellb hb4 (by simp)
    have B1 : w4.cell? ⟨w3.heap.size, 1, none⟩ = some (.slice a0 xs.length c0) := cellb hb4 (by simp)
    have z4 : w3.heap.size + 1 ≤ w4.heap.size := by have := hb4.size; simp at this; omega
    have r4 : Below w3.heap.size w3 w4 := q4.trans (hb4.mono (by simp; try omega))
    clear q4 hb4
    replace A0 := cellb r4 A0
    replace A1 := cellb r4 A1
    replace hx0 := hx0.below r4 (by omega)
    have b4 : Below w.heap.size w w4 := b3.trans (r4.mono (by omega))
    clear r4 b3
    clear lt3_0
    have lt4_0 : w.heap.size < w4.heap.size := by omega
    have lt4_1 : w3.heap.size < w4.heap.size := by omega
    replace hy1 := hy1.mono (lo' := (w3.heap.size + 1)) (by simp) (Nat.le_refl _)
    obtain ⟨ay1, cy1, rfl, hy1'⟩ := hy1
    have hy1 : PairsAt (w3.heap.size + 1) w4.heap.size w4 (.slice ay1 ps.length cy1) ps := ⟨ay1, cy1, rfl, hy1'⟩
    clear hy1'
    go_wp2_with fail
    have q5 : Below w4.heap.size w4 (w4.alloc (.cells #[.int .i64 fb, .slice ay1 ps.length cy1] 30)) := (by repeat' (first | with_reducible exact Below.refl _ _ | with_reducible assumption | with_reducible refine Below.drew ?_ | with_reducible refine Below.alloc ?_ ?_ _ | with_reducible refine Below.setCell ?_ ?_ _ | (simp; done) | (simp; omega) | omega))
    refine (implCharsOf_calls fb ps c _ _ hn (hy1.read.below q5)).mono ?_
    rintro e w5 ⟨x1, rfl, hx1, hb5⟩
    have X0 : w5.cell? ⟨w4.heap.size, 0, none⟩ = some (.int .i64 fb) := cellb hb5 (by simp)
    have X1 : w5.cell? ⟨w4.heap.size, 1, none⟩ = some (.slice ay1 ps.length cy1) := cellb hb5 (by simp)
    have z5 : w4.heap.size + 1 ≤ w5.heap.size := by have := hb5.size; simp at this; omega
    have r5 : Below w4.heap.size w4 w5 := q5.trans (hb5.mono (by simp; try omega))
    clear q5 hb5
    replace A0 := cellb r5 A0
    replace A1 := cellb r5 A1
    replace B0 := cellb r5 B0
    replace B1 := cellb r5 B1
    replace hx0 := hx0.below r5 (by omega)
    replace hy1 := hy1.below r5 (by omega)
    have b5 : Below w.heap.size w w5 := b4.trans (r5.mono (by omega))
    clear r5 b4
    clear lt4_0 lt4_1
    have lt5_0 : w.heap.size < w5.heap.size := by omega
    have lt5_1 : w3.heap.size < w5.heap.size := by omega
    have lt5_2 : w4.heap.size < w5.heap.size := by omega
    rw [HC.out]
    rw [HX.out] at hx1
    replace hx1 := hx1.mono (lo' := (w4.heap.size + 1)) (by simp) (Nat.le_refl _)
    obtain ⟨a1, c1, rfl, hx1'⟩ := hx1
    have hx1 : IntsAt .i64 (w4.heap.size + 1) w5.heap.size w5 (.slice a1 xs.length c1) xs := ⟨a1, c1, rfl, hx1'⟩
    clear hx1'
    go_wp2_with fail
    have q6 : Below w5.heap.size w5 (w5.alloc (.cells #[.int .i64 code, .slice a1 xs.length c1] 50)) := (by repeat' (first | with_reducible exact Below.refl _ _ | with_reducible assumption | with_reducible refine Below.drew ?_ | with_reducible refine Below.alloc ?_ ?_ _ | with_reducible refine Below.setCell ?_ ?_ _ | (simp; done) | (simp; omega) | omega))
    refine (eqIntsResult_calls code xs _ _ _ (by omega) (hx1.read.below q6) (hx0.read.below q6)).mono ?_
    rintro e w6 ⟨rfl, hb6⟩
    have G0 : w6.cell? ⟨w5.heap.size, 0, none⟩ = some (.int .i64 code) := cellb hb6 (by simp)
    have G1 : w6.cell? ⟨w5.heap.size, 1, none⟩ = some (.slice a1 xs.length c1) := cellb hb6 (by simp)
    have z6 : w5.heap.size + 1 ≤ w6.heap.size := by have := hb6.size; simp at this; omega
    have r6 : Below w5.heap.size w5 w6 := q6.trans (hb6.mono (by simp; try omega))
    clear q6 hb6
    replace A0 := cellb r6 A0
    replace A1 := cellb r6 A1
    replace B0 := cellb r6 B0
    replace B1 := cellb r6 B1
    replace X0 := cellb r6 X0
    replace X1 := cellb r6 X1
    replace hx0 := hx0.below r6 (by omega)
    replace hy1 := hy1.below r6 (by omega)
    replace hx1 := hx1.below r6 (by omega)
    have b6 : Below w.heap.size w w6 := b5.trans (r6.mono (by omega))
    clear r6 b5
    clear lt5_0 lt5_1 lt5_2
    have lt6_0 : w.heap.size < w6.heap.size := by omega
    have lt6_1 : w3.heap.size < w6.heap.size := by omega
    have lt6_2 : w4.heap.size < w6.heap.size := by omega
    have lt6_3 : w5.heap.size < w6.heap.size := by omega
    go_wp2_with fail
    have hyr7 := hy1.read
    have hvr7 := (hv.below b6)
    refine wp_region_held_drew (S := (fun w' => Below w6.heap.size w6 w' ∧ w'.cell? ⟨w.heap.size, 0, none⟩ = some (.int .i64 fb) ∧ w'.cell? ⟨w.heap.size, 1, none⟩ = some (.slice av ps.length cv) ∧ w'.cell? ⟨w4.heap.size, 0, none⟩ = some (.int .i64 fb) ∧ w'.cell? ⟨w4.heap.size, 1, none⟩ = some (.slice ay1 ps.length cy1) ∧ PRead w' (.slice av ps.length cv) ps ∧ PRead w' (.slice ay1 ps.length cy1) ps)) (by kernel_rfl) ?_ (fun hHeld => ?_)
    · (try dsimp only); exact ⟨Below.drew (Below.refl _ w6), A0, A1, X0, X1, hvr7, hyr7⟩
    refine wpAnyH_take (i := 0) (oi := ⟨_, _, _, _, _, _⟩) (v := ?_) rfl (by kernel_rfl) (by kernel_rfl) (by kernel_rfl) (fun _ _ _ h => h) (Or.inl ⟨by rfl, ?_⟩) hHeld ?_
    rotate_left
    · (intro w hSw; (try dsimp only at hSw); go_simp; try (with_reducible rfl))
    try simp only [Act.put, List.setIfInBounds_toArray, List.set_cons_zero, List.set_cons_succ]
    refine wpAnyH_take (i := 1) (oi := ⟨_, _, _, _, _, _⟩) (v := ?_) rfl (by kernel_rfl) (by kernel_rfl) (by kernel_rfl) (fun _ _ _ h => h) (Or.inl ⟨by rfl, ?_⟩) hHeld ?_
    rotate_left
    · (intro w hSw; (try dsimp only at hSw); go_simp; try (with_reducible rfl))
    try simp only [Act.put, List.setIfInBounds_toArray, List.set_cons_zero, List.set_cons_succ]
    refine wpAnyH_ready (rs := [2]) (by kernel_rfl) (by simp) ?_
    refine AllReadyH.cons (o := ⟨_, _, _, _, _, _⟩) rfl (fun K hK => ?_) AllReadyH.nil
    go_simp
    go_at_call 10
    refine (toFont_calls fb ps _ _ hn hHeld.2.2.2.2.2.1).mono ?_
    rintro e v7 ⟨y7, rfl, hy7, hbv7⟩
    have hry7 := hy7.read
    obtain ⟨ay7, cy7, rfl, hyy7⟩ := hy7
    clear hyy7
    try go_wp2_with fail
    refine hK.out _ _ ?_ ?_
    · (try dsimp only); exact keepF hHeld hbv7
    clear hHeld hK K
    intro hHeld
    try simp only [Act.put, List.setIfInBounds_toArray, List.set_cons_zero, List.set_cons_succ]
    refine wpAnyH_ready (rs := [3]) (by kernel_rfl) (by simp) ?_
    refine AllReadyH.cons (o := ⟨_, _, _, _, _, _⟩) rfl (fun K hK => ?_) AllReadyH.nil
    go_simp
    go_at_call 14
    refine (eqFont_calls fb ps _ _ _ (by omega) hHeld.2.2.2.2.2.2 hry7).mono ?_
    rintro e w7 ⟨rfl, hbu7⟩
    try go_wp2_with fail
    refine hK.out _ _ ?_ ?_
    · (try dsimp only); exact keepF hHeld hbu7
    clear hHeld hK K
    intro hHeld
    try simp only [Act.put, List.setIfInBounds_toArray, List.set_cons_zero, List.set_cons_succ]
    refine wpAnyH_take (i := 4) (oi := ⟨_, _, _, _, _, _⟩) (v := ?_) rfl (by kernel_rfl) (by kernel_rfl) (by kernel_rfl) (fun _ _ _ h => h) (Or.inl ⟨by rfl, ?_⟩) hHeld ?_
    rotate_left
    · (intro w hSw; (try dsimp only at hSw); go_simp; try (with_reducible rfl))
    try simp only [Act.put, List.setIfInBounds_toArray, List.set_cons_zero, List.set_cons_succ]
    refine wpAnyH_done (by kernel_rfl) ?_ _
    have r7 := hHeld.1
    clear hHeld hry7 hbv7 hbu7 hyr7 hvr7
    have z7 : w6.heap.size ≤ w7.heap.size := r7.size
    replace A0 := cellb r7 A0
    replace A1 := cellb r7 A1
    replace B0 := cellb r7 B0
    replace B1 := cellb r7 B1
    replace X0 := cellb r7 X0
    replace X1 := cellb r7 X1
    replace G0 := cellb r7 G0
    replace G1 := cellb r7 G1
    replace hx0 := hx0.below r7 (by omega)
    replace hy1 := hy1.below r7 (by omega)
    replace hx1 := hx1.below r7 (by omega)
    have b7 : Below w.heap.size w w7 := b6.trans (r7.mono (by omega))
    clear r7 b6
    clear lt6_0 lt6_1 lt6_2 lt6_3
    have lt7_0 : w.heap.size < w7.heap.size := by omega
    have lt7_1 : w3.heap.size < w7.heap.size := by omega
    have lt7_2 : w4.heap.size < w7.heap.size := by omega
    have lt7_3 : w5.heap.size < w7.heap.size := by omega
    go_wp2_with fail
    refine (markFont_calls fb ps 1 (w3.heap.size + 1) w4.heap.size _ _ (by omega) (by omega) (by omega) (by omega) hy1).mono ?_
    rintro e w8 ⟨rfl, hm0, hb8⟩
    have z8 : w7.heap.size ≤ w8.heap.size := hb8.size
    replace A0 := hb8.cell (by omega) (by omega) A0
    replace A1 := hb8.cell (by omega) (by omega) A1
    replace B0 := hb8.cell (by omega) (by omega) B0
    replace B1 := hb8.cell (by omega) (by omega) B1
    replace X0 := hb8.cell (by omega) (by omega) X0
    replace X1 := hb8.cell (by omega) (by omega) X1
    replace G0 := hb8.cell (by omega) (by omega) G0
    replace G1 := hb8.cell (by omega) (by omega) G1
    replace hx0 := hx0.within hb8 (by omega) (by omega)
    replace hx1 := hx1.within hb8 (by omega) (by omega)
    have b8 : Below w.heap.size w w8 := b7.trans (hb8.below (by omega) (by omega))
    clear hb8 b7
    clear lt7_0 lt7_1 lt7_2 lt7_3
    have lt8_0 : w.heap.size < w8.heap.size := by omega
    have lt8_1 : w3.heap.size < w8.heap.size := by omega
    have lt8_2 : w4.heap.size < w8.heap.size := by omega
    have lt8_3 : w5.heap.size < w8.heap.size := by omega
    clear hy1 hm0
    have hk0 : ¬ ((1 : Int) + 2 * (ps.length : Int) < 0) := by omega
    go_wp2_with fail
    refine (eqIntsResult_calls code xs _ _ _ (by omega) hx1.read hx0.read).mono ?_
    rintro e w9 ⟨rfl, hb9⟩
    have z9 : w8.heap.size ≤ w9.heap.size := hb9.size
    have r9 := hb9
    clear hb9
    replace A0 := cellb r9 A0
    replace A1 := cellb r9 A1
    replace B0 := cellb r9 B0
    replace B1 := cellb r9 B1
    replace X0 := cellb r9 X0
    replace X1 := cellb r9 X1
    replace G0 := cellb r9 G0
    replace G1 := cellb r9 G1
    replace hx0 := hx0.below r9 (by omega)
    replace hx1 := hx1.below r9 (by omega)
    have b9 : Below w.heap.size w w9 := b8.trans (r9.mono (by omega))
    clear r9 b8
    clear lt8_0 lt8_1 lt8_2 lt8_3
    have lt9_0 : w.heap.size < w9.heap.size := by omega
    have lt9_1 : w3.heap.size < w9.heap.size := by omega
    have lt9_2 : w4.heap.size < w9.heap.size := by omega
    have lt9_3 : w5.heap.size < w9.heap.size := by omega
    go_wp2_with fail
    refine (markIntsResult_calls code xs 1 (w4.heap.size + 1) w5.heap.size _ _ (by omega) (by omega) (by omega) (by omega) hx1).mono ?_
    rintro e w10 ⟨rfl, hm1, hb10⟩
    have z10 : w9.heap.size ≤ w10.heap.size := hb10.size
    replace A0 := hb10.cell (by omega) (by omega) A0
    replace A1 := hb10.cell (by omega) (by omega) A1
    replace B0 := hb10.cell (by omega) (by omega) B0
    replace B1 := hb10.cell (by omega) (by omega) B1
    replace X0 := hb10.cell (by omega) (by omega) X0
    replace X1 := hb10.cell (by omega) (by omega) X1
    replace G0 := hb10.cell (by omega) (by omega) G0
    replace G1 := hb10.cell (by omega) (by omega) G1
    replace hx0 := hx0.within hb10 (by omega) (by omega)
    have b10 : Below w.heap.size w w10 := b9.trans (hb10.below (by omega) (by omega))
    clear hb10 b9
    clear lt9_0 lt9_1 lt9_2 lt9_3
    have lt10_0 : w.heap.size < w10.heap.size := by omega
    have lt10_1 : w3.heap.size < w10.heap.size := by omega
    have lt10_2 : w4.heap.size < w10.heap.size := by omega
    have lt10_3 : w5.heap.size < w10.heap.size := by omega
    clear hx1
    go_wp2_with fail
    refine (heldIntsResult_calls code (marks 1 xs.length) 1 (.slice a1 xs.length c1) _ (by rw [marks_length]; omega) (by omega) (by omega) hm1.read (marks_at 1 _)).mono ?_
    rintro e w11 ⟨rfl, hb11⟩
    have z11 : w10.heap.size ≤ w11.heap.size := hb11.size
    have r11 := hb11
    clear hb11
    replace A0 := cellb r11 A0
    replace A1 := cellb r11 A1
    replace B0 := cellb r11 B0
    replace B1 := cellb r11 B1
    replace X0 := cellb r11 X0
    replace X1 := cellb r11 X1
    replace G0 := cellb r11 G0
    replace G1 := cellb r11 G1
    replace hx0 := hx0.below r11 (by omega)
    replace hm1 := hm1.below r11 (by omega)
    have b11 : Below w.heap.size w w11 := b10.trans (r11.mono (by omega))
    clear r11 b10
    clear lt10_0 lt10_1 lt10_2 lt10_3
    have lt11_0 : w.heap.size < w11.heap.size := by omega
    have lt11_1 : w3.heap.size < w11.heap.size := by omega
    have lt11_2 : w4.heap.size < w11.heap.size := by omega
    have lt11_3 : w5.heap.size < w11.heap.size := by omega
    rw [marks_length]
    go_wp2_with fail
    refine (toFont_calls fb ps _ _ hn ((hv.below b11))).mono ?_
    rintro e w12 ⟨y3, rfl, hy3, hb12⟩
    have z12 : w11.heap.size ≤ w12.heap.size := hb12.size
    have r12 := hb12
    clear hb12
    replace A0 := cellb r12 A0
    replace A1 := cellb r12 A1
    replace B0 := cellb r12 B0
    replace B1 := cellb r12 B1
    replace X0 := cellb r12 X0
    replace X1 := cellb r12 X1
    replace G0 := cellb r12 G0
    replace G1 := cellb r12 G1
    replace hx0 := hx0.below r12 (by omega)
    replace hm1 := hm1.below r12 (by omega)
    have b12 : Below w.heap.size w w12 := b11.trans (r12.mono (by omega))
    clear r12 b11
    clear lt11_0 lt11_1 lt11_2 lt11_3
    have lt12_0 : w.heap.size < w12.heap.size := by omega
    have lt12_1 : w3.heap.size < w12.heap.size := by omega
    have lt12_2 : w4.heap.size < w12.heap.size := by omega
    have lt12_3 : w5.heap.size < w12.heap.size := by omega
    obtain ⟨ay3, cy3, rfl, hy3'⟩ := hy3
    have hy3 : PairsAt w11.heap.size w12.heap.size w12 (.slice ay3 ps.length cy3) ps := ⟨ay3, cy3, rfl, hy3'⟩
    clear hy3'
    go_wp2_with fail
    refine (implCharsOf_calls fb ps c _ _ hn hy3.read).mono ?_
    rintro e w13 ⟨x2, rfl, hx2, hb13⟩
    have z13 : w12.heap.size ≤ w13.heap.size := hb13.size
    have r13 := hb13
    clear hb13
    replace A0 := cellb r13 A0
    replace A1 := cellb r13 A1
    replace B0 := cellb r13 B0
    replace B1 := cellb r13 B1
    replace X0 := cellb r13 X0
    replace X1 := cellb r13 X1
    replace G0 := cellb r13 G0
    replace G1 := cellb r13 G1
    replace hx0 := hx0.below r13 (by omega)
    replace hm1 := hm1.below r13 (by omega)
    replace hy3 := hy3.below r13 (by omega)
    have b13 : Below w.heap.size w w13 := b12.trans (r13.mono (by omega))
    clear r13 b12
    clear lt12_0 lt12_1 lt12_2 lt12_3
    have lt13_0 : w.heap.size < w13.heap.size := by omega
    have lt13_1 : w3.heap.size < w13.heap.size := by omega
    have lt13_2 : w4.heap.size < w13.heap.size := by omega
    have lt13_3 : w5.heap.size < w13.heap.size := by omega
    rw [HC.out]
    rw [HX.out] at hx2
    obtain ⟨a2, c2, rfl, hx2'⟩ := hx2
    have hx2 : IntsAt .i64 w12.heap.size w13.heap.size w13 (.slice a2 xs.length c2) xs := ⟨a2, c2, rfl, hx2'⟩
    clear hx2'
    clear hy3
    go_wp2_with fail
    have q14 : Below w13.heap.size w13 (w13.alloc (.cells #[.int .i64 code, .slice a2 xs.length c2] 50)) := (by repeat' (first | with_reducible exact Below.refl _ _ | with_reducible assumption | with_reducible refine Below.drew ?_ | with_reducible refine Below.alloc ?_ ?_ _ | with_reducible refine Below.setCell ?_ ?_ _ | (simp; done) | (simp; omega) | omega))
    refine (eqIntsResult_calls code xs _ _ _ (by omega) (hx2.read.below q14) (hx0.read.below q14)).mono ?_
    rintro e w14 ⟨rfl, hb14⟩
    have H0 : w14.cell? ⟨w13.heap.size, 0, none⟩ = some (.int .i64 code) := cellb hb14 (by simp)
    have H1 : w14.cell? ⟨w13.heap.size, 1, none⟩ = some (.slice a2 xs.length c2) := cellb hb14 (by simp)
    have z14 : w13.heap.size + 1 ≤ w14.heap.size := by have := hb14.size; simp at this; omega
    have r14 : Below w13.heap.size w13 w14 := q14.trans (hb14.mono (by simp; try omega))
    clear q14 hb14
    replace A0 := cellb r14 A0
    replace A1 := cellb r14 A1
    replace B0 := cellb r14 B0
    replace B1 := cellb r14 B1
    replace X0 := cellb r14 X0
    replace X1 := cellb r14 X1
    replace G0 := cellb r14 G0
    replace G1 := cellb r14 G1
    replace hx0 := hx0.below r14 (by omega)
    replace hm1 := hm1.below r14 (by omega)
    replace hx2 := hx2.below r14 (by omega)
    have b14 : Below w.heap.size w w14 := b13.trans (r14.mono (by omega))
    clear r14 b13
    clear lt13_0 lt13_1 lt13_2 lt13_3
    have lt14_0 : w.heap.size < w14.heap.size := by omega
    have lt14_1 : w3.heap.size < w14.heap.size := by omega
    have lt14_2 : w4.heap.size < w14.heap.size := by omega
    have lt14_3 : w5.heap.size < w14.heap.size := by omega
    have lt14_4 : w13.heap.size < w14.heap.size := by omega
    go_wp2_with fail
    refine (heldIntsResult_calls code (marks 1 xs.length) 1 (.slice a1 xs.length c1) _ (by rw [marks_length]; omega) (by omega) (by omega) hm1.read (marks_at 1 _)).mono ?_
    rintro e w15 ⟨rfl, hb15⟩
    have z15 : w14.heap.size ≤ w15.heap.size := hb15.size
    have r15 := hb15
    clear hb15
    replace A0 := cellb r15 A0
    replace A1 := cellb r15 A1
    replace B0 := cellb r15 B0
    replace B1 := cellb r15 B1
    replace X0 := cellb r15 X0
    replace X1 := cellb r15 X1
    replace G0 := cellb r15 G0
    replace G1 := cellb r15 G1
    replace H0 := cellb r15 H0
    replace H1 := cellb r15 H1
    replace hx0 := hx0.below r15 (by omega)
    replace hm1 := hm1.below r15 (by omega)
    replace hx2 := hx2.below r15 (by omega)
    have b15 : Below w.heap.size w w15 := b14.trans (r15.mono (by omega))
    clear r15 b14
    clear lt14_0 lt14_1 lt14_2 lt14_3 lt14_4
    have lt15_0 : w.heap.size < w15.heap.size := by omega
    have lt15_1 : w3.heap.size < w15.heap.size := by omega
    have lt15_2 : w4.heap.size < w15.heap.size := by omega
    have lt15_3 : w5.heap.size < w15.heap.size := by omega
    have lt15_4 : w13.heap.size < w15.heap.size := by omega
    rw [marks_length]
    go_wp2
    go_ret
    exact ⟨rfl, b15⟩
  · go_enter Try.func6, Try.ntmps6
    go_wp2_with fail
    refine (szFont_calls fb ps.length av cv _ hmax).mono ?_
    rintro e w1 ⟨rfl, hb1⟩
    rw [if_neg hn]
    go_wp2
    go_ret
    exact ⟨rfl, ((Below.refl _ _).alloc (Nat.le_refl _) _).trans (hb1.mono (by simp; try omega))⟩

theorem lawCO_laid : laidOutB Try.prog = true := by kernel_rfl
theorem lawCO_own : ownKnob Try.prog.godebug = none := by kernel_rfl
set_option maxRecDepth 100000 in
theorem lawCO_lifted (os : Os) (started : os.Started) (H : Type) (enc : TypeId × Value → H) :
    ReturnsInHanded {} Try.checked os 6 .any (Rows.fnExactCharsOfSpec.pre6 enc Try.prog Try.f6 Rows.fnExactCharsOfRow.domain false) (Rows.fnExactCharsOfSpec.post enc Try.prog Try.f6 false true false false) := by
  refine returnsInHanded_of_change (C := Try.checked) lawCO_own started (by kernel_rfl) Try.func6
    (ChangeSpec.witness6 (enc := enc) (C := Try.checked) false ⟨#[], #[.agg #[.int .i64 0, .slice none 0 0], .int .i64 0], []⟩ 8 (by kernel_rfl) (by kernel_rfl) (by kernel_rfl) (by kernel_rfl)) ?_
  intro W base args ds gs before hval0 hW hcnd _
  have hval : ∀ (j : Nat) t v, Try.f6.params[j]? = some t → args[j]? = some v → Value.okWide Try.prog W .any base t v := hval0
  have hW' := hW
  obtain ⟨p, q, hA0, hV, rfl, hfz, hnd⟩ := hW
  have hA : DataW.TrodAll enc Try.prog W 0 (fun _ => true) true Try.f6.params.toList args.toList ds p := hA0
  rw [Try.params6] at hA hval
  obtain ⟨v0, v1, d0, d1, p0, p1, rfl, rfl, rfl, h0, h1⟩ := trodAll_two hA
  obtain ⟨rfl, rfl⟩ := trodVars_none hV
  have k0 := h0
  have lt0 : ∀ x ∈ p0, x.block < W.heap.size := by obtain ⟨m, hm⟩ := k0; exact DataW.trod_lt m _ _ _ hm
  obtain ⟨fb, x, ps, rfl, hx, hmax⟩ := open_font (hval 0 24 v0 rfl rfl) h0
  obtain ⟨c, rfl, rfl, rfl, wc⟩ := open_int Try.underlying2 (hval 1 2 v1 rfl rfl) h1
  clear hA0 hval0

  refine (lawCO_walk fb x ps c W hx hmax).mono fun e W' ⟨he, bel⟩ => ?_
  subst he
  exact ⟨_, rfl, _, _, _, [], _, [], hW', trodAll_mk1 (shut_bool Try.underlying4 _), trodAll_mk2 (Below.trod lawCO_laid (by kernel_rfl) (of_decide_eq_true (by kernel_rfl)) k0 bel lt0) (shut_int Try.underlying2 wc), rfl, bel.frame _, fun h => by cases h⟩

theorem lawCO_over : Rows.fnExactCharsOfRow.holds Try.pinned (OpenSpec.ofChange Rows.fnExactCharsOfSpec) :=
  OpenClaim.holds_of_wide 6 Try.f6 rfl rfl rfl rfl rfl rfl rfl ⟨rfl, rfl, rfl, rfl, rfl⟩ rfl rfl rfl rfl rfl (by kernel_rfl) Try.func6 (by kernel_rfl)
    (of_decide_eq_true (by kernel_rfl)) (by unfold Func.isWrapper; first | (rw [if_pos (by decide +kernel)]; kernel_rfl) | (rw [if_neg (by decide +kernel)]; exact ⟨rfl, rfl⟩))
    (fun os started H enc _ => lawCO_lifted os started H enc)

theorem lawCO_proved : Rows.FnExactCharsOfSaid := lawCO_over
#print axioms lawCO_proved
end Go.Proofs.Ytlkabmgindbbmah
