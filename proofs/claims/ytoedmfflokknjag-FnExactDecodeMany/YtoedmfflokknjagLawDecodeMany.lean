/-
  For every decoder and all bytes the law FnExactDecodeMany returns true: impl.DecodeMany answers what the model's DecodeMany answers, field by field, turns no argument, and its list is memory of its own. No condition (the law itself passes more than 1048576 bytes by).
-/
import Derived.Test.YtoedmfflokknjagRows
import Derived.Test.YtoedmfflokknjagManyRes
import Derived.Test.YtoedmfflokknjagByteFns
import Derived.Test.YtoedmfflokknjagCopies
import Derived.ShutString
import Derived.ChangeOld
import Derived.Lib.SmallJoins
namespace Go.Proofs.Ytoedmfflokknjag
open Go.ChangeShapes Go.WideShapes Go.ChangeAt Go.RowKit Go.Joins
set_option linter.unusedVariables false
set_option linter.unusedSimpArgs false

set_option maxHeartbeats 4000000 in
theorem lawDM_walk (l lo v : Int) (zs : List Int) (y : Value) (w : World) (hv : ReadAt .u8 w y zs) (hmax : zs.length ≤ maxLen) (hz : ∀ z ∈ zs, 0 ≤ z ∧ z ≤ 255) :
    Calls Try.prog 4 #[.agg #[.int .i64 l, .int .i64 lo, .int .i64 v], y] w fun e w' => e = .returned (.bool true) ∧ Below w.heap.size w w' := by
  unfold maxLen at hmax
  have hv' := hv
  obtain ⟨av, cv, rfl, _⟩ := hv'
  by_cases hn : zs.length ≤ 1048576
  · skip
    generalize hxs : dmT l lo v zs = xs
    have hlen : xs.length ≤ 4000 := by rw [← hxs]; exact dmT_length l lo v zs hz
    have HXS := hide hxs
    clear hxs
    have HZ := hide hz
    clear hz
    have hle : ¬ ((1048576 : Int) < (zs.length : Int)) := by omega
    go_enter Try.func4, Try.ntmps4
    go_wp2_with fail
    have q1 : Below w.heap.size w (w.alloc (.cells #[.int .i64 l, .int .i64 lo, .int .i64 v] 23)) := (by repeat' (first | with_reducible exact Below.refl _ _ | with_reducible assumption | with_reducible refine Below.drew ?_ | with_reducible refine Below.alloc ?_ ?_ _ | with_reducible refine Below.setCell ?_ ?_ _ | (simp; done) | (simp; omega) | omega))
    refine (toDecoder_calls l lo v _).mono ?_
    rintro e w1 ⟨rfl, hb1⟩
    have A0 : w1.cell? ⟨w.heap.size, 0, none⟩ = some (.int .i64 l) := cellb hb1 (by simp)
    have A1 : w1.cell? ⟨w.heap.size, 1, none⟩ = some (.int .i64 lo) := cellb hb1 (by simp)
    have A2 : w1.cell? ⟨w.heap.size, 2, none⟩ = some (.int .i64 v) := cellb hb1 (by simp)
    have z1 : w.heap.size + 1 ≤ w1.heap.size := by have := hb1.size; simp at this; omega
    have r1 : Below w.heap.size w w1 := q1.trans (hb1.mono (by simp; try omega))
    clear q1 hb1
    have b1 : Below w.heap.size w w1 := r1
    clear r1
    have lt1_0 : w.heap.size < w1.heap.size := by omega
    go_wp2_with fail
    refine (toBytes_calls zs _ _ hn ((hv.below b1))).mono ?_
    rintro e w2 ⟨y0, rfl, hy0, hb2⟩
    have z2 : w1.heap.size ≤ w2.heap.size := hb2.size
    have r2 := hb2
    clear hb2
    replace A0 := cellb r2 A0
    replace A1 := cellb r2 A1
    replace A2 := cellb r2 A2
    have b2 : Below w.heap.size w w2 := b1.trans (r2.mono (by omega))
    clear r2 b1
    clear lt1_0
    have lt2_0 : w.heap.size < w2.heap.size := by omega
    obtain ⟨ay0, cy0, rfl, hy0'⟩ := hy0
    have hy0 : IntsAt .u8 w1.heap.size w2.heap.size w2 (.slice ay0 zs.length cy0) zs := ⟨ay0, cy0, rfl, hy0'⟩
    clear hy0'
    go_wp2_with fail
    refine (specMany_calls l lo v zs _ _ HZ.out hn hy0.read).mono ?_
    rintro e w3 ⟨x0, rfl, hx0, hb3⟩
    have z3 : w2.heap.size ≤ w3.heap.size := hb3.size
    have r3 := hb3
    clear hb3
    replace A0 := cellb r3 A0
    replace A1 := cellb r3 A1
    replace A2 := cellb r3 A2
    replace hy0 := hy0.below r3 (by omega)
    have b3 : Below w.heap.size w w3 := b2.trans (r3.mono (by omega))
    clear r3 b2
    clear lt2_0
    have lt3_0 : w.heap.size < w3.heap.size := by omega
    rw [unhide HXS] at hx0
    obtain ⟨a0, c0, rfl, hx0'⟩ := hx0
    have hx0 : IntsAt .i64 w2.heap.size w3.heap.size w3 (.slice a0 xs.length c0) xs := ⟨a0, c0, rfl, hx0'⟩
    clear hx0'
    clear hy0
    go_wp2_with fail
    have q4 : Below w3.heap.size w3 (w3.alloc (.cells #[.int .i64 (dmCode l lo v zs), .slice a0 xs.length c0, .int .i64 (dmL l lo v zs), .int .i64 (dmLo l lo v zs), .int .i64 (dmV l lo v zs)] 27)) := (by repeat' (first | with_reducible exact Below.refl _ _ | with_reducible assumption | with_reducible refine Below.drew ?_ | with_reducible refine Below.alloc ?_ ?_ _ | with_reducible refine Below.setCell ?_ ?_ _ | (simp; done) | (simp; omega) | omega))
    refine (toBytes_calls zs _ _ hn ((hv.below b3).below q4)).mono ?_
    rintro e w4 ⟨y1, rfl, hy1, hb4⟩
    have B0 : w4.cell? ⟨w3.heap.size, 0, none⟩ = some (.int .i64 (dmCode l lo v zs)) := cellb hb4 (by simp)
    have B1 : w4.cell? ⟨w3.heap.size, 1, none⟩ = some (.slice a0 xs.length c0) := cellb hb4 (by simp)
    have B2 : w4.cell? ⟨w3.heap.size, 2, none⟩ = some (.int .i64 (dmL l lo v zs)) := cellb hb4 (by simp)
    have B3 : w4.cell? ⟨w3.heap.size, 3, none⟩ = some (.int .i64 (dmLo l lo v zs)) := cellb hb4 (by simp)
    have B4 : w4.cell? ⟨w3.heap.size, 4, none⟩ = some (.int .i64 (dmV l lo v zs)) := cellb hb4 (by simp)
    have z4 : w3.heap.size + 1 ≤ w4.heap.size := by have := hb4.size; simp at this; omega
    have r4 : Below w3.heap.size w3 w4 := q4.trans (hb4.mono (by simp; try omega))
    clear q4 hb4
    replace A0 := cellb r4 A0
    replace A1 := cellb r4 A1
    replace A2 := cellb r4 A2
    replace hx0 := hx0.below r4 (by omega)
    have b4 : Below w.heap.size w w4 := b3.trans (r4.mono (by omega))
    clear r4 b3
    clear lt3_0
    have lt4_0 : w.heap.size < w4.heap.size := by omega
    have lt4_1 : w3.heap.size < w4.heap.size := by omega
    replace hy1 := hy1.mono (lo' := (w3.heap.size + 1)) (by simp) (Nat.le_refl _)
    obtain ⟨ay1, cy1, rfl, hy1'⟩ := hy1
    have hy1 : IntsAt .u8 (w3.heap.size + 1) w4.heap.size w4 (.slice ay1 zs.length cy1) zs := ⟨ay1, cy1, rfl, hy1'⟩
    clear hy1'
    go_wp2_with fail
    refine (toDecoder_calls l lo v _).mono ?_
    rintro e w5 ⟨rfl, hb5⟩
    have z5 : w4.heap.size ≤ w5.heap.size := hb5.size
    have r5 := hb5
    clear hb5
    replace A0 := cellb r5 A0
    replace A1 := cellb r5 A1
    replace A2 := cellb r5 A2
    replace B0 := cellb r5 B0
    replace B1 := cellb r5 B1
    replace B2 := cellb r5 B2
    replace B3 := cellb r5 B3
    replace B4 := cellb r5 B4
    replace hx0 := hx0.below r5 (by omega)
    replace hy1 := hy1.below r5 (by omega)
    have b5 : Below w.heap.size w w5 := b4.trans (r5.mono (by omega))
    clear r5 b4
    clear lt4_0 lt4_1
    have lt5_0 : w.heap.size < w5.heap.size := by omega
    have lt5_1 : w3.heap.size < w5.heap.size := by omega
    go_wp2_with fail
    refine (implMany_calls l lo v zs _ _ HZ.out hn hy1.read).mono ?_
    rintro e w6 ⟨x1, rfl, hx1, hb6⟩
    have z6 : w5.heap.size ≤ w6.heap.size := hb6.size
    have r6 := hb6
    clear hb6
    replace A0 := cellb r6 A0
    replace A1 := cellb r6 A1
    replace A2 := cellb r6 A2
    replace B0 := cellb r6 B0
    replace B1 := cellb r6 B1
    replace B2 := cellb r6 B2
    replace B3 := cellb r6 B3
    replace B4 := cellb r6 B4
    replace hx0 := hx0.below r6 (by omega)
    replace hy1 := hy1.below r6 (by omega)
    have b6 : Below w.heap.size w w6 := b5.trans (r6.mono (by omega))
    clear r6 b5
    clear lt5_0 lt5_1
    have lt6_0 : w.heap.size < w6.heap.size := by omega
    have lt6_1 : w3.heap.size < w6.heap.size := by omega
    rw [unhide HXS] at hx1
    obtain ⟨a1, c1, rfl, hx1'⟩ := hx1
    have hx1 : IntsAt .i64 w5.heap.size w6.heap.size w6 (.slice a1 xs.length c1) xs := ⟨a1, c1, rfl, hx1'⟩
    clear hx1'
    go_wp2_with fail
    have q7 : Below w6.heap.size w6 (w6.alloc (.cells #[.int .i64 (dmCode l lo v zs), .slice a1 xs.length c1, .int .i64 (dmL l lo v zs), .int .i64 (dmLo l lo v zs), .int .i64 (dmV l lo v zs)] 27)) := (by repeat' (first | with_reducible exact Below.refl _ _ | with_reducible assumption | with_reducible refine Below.drew ?_ | with_reducible refine Below.alloc ?_ ?_ _ | with_reducible refine Below.setCell ?_ ?_ _ | (simp; done) | (simp; omega) | omega))
    refine (eqDecoderResult_calls (dmCode l lo v zs) (dmL l lo v zs) (dmLo l lo v zs) (dmV l lo v zs) xs _ _ _ (by omega) (hx1.read.below q7) (hx0.read.below q7)).mono ?_
    rintro e w7 ⟨rfl, hb7⟩
    have G0 : w7.cell? ⟨w6.heap.size, 0, none⟩ = some (.int .i64 (dmCode l lo v zs)) := cellb hb7 (by simp)
    have G1 : w7.cell? ⟨w6.heap.size, 1, none⟩ = some (.slice a1 xs.length c1) := cellb hb7 (by simp)
    have G2 : w7.cell? ⟨w6.heap.size, 2, none⟩ = some (.int .i64 (dmL l lo v zs)) := cellb hb7 (by simp)
    have G3 : w7.cell? ⟨w6.heap.size, 3, none⟩ = some (.int .i64 (dmLo l lo v zs)) := cellb hb7 (by simp)
    have G4 : w7.cell? ⟨w6.heap.size, 4, none⟩ = some (.int .i64 (dmV l lo v zs)) := cellb hb7 (by simp)
    have z7 : w6.heap.size + 1 ≤ w7.heap.size := by have := hb7.size; simp at this; omega
    have r7 : Below w6.heap.size w6 w7 := q7.trans (hb7.mono (by simp; try omega))
    clear q7 hb7
    replace A0 := cellb r7 A0
    replace A1 := cellb r7 A1
    replace A2 := cellb r7 A2
    replace B0 := cellb r7 B0
    replace B1 := cellb r7 B1
    replace B2 := cellb r7 B2
    replace B3 := cellb r7 B3
    replace B4 := cellb r7 B4
    replace hx0 := hx0.below r7 (by omega)
    replace hy1 := hy1.below r7 (by omega)
    replace hx1 := hx1.below r7 (by omega)
    have b7 : Below w.heap.size w w7 := b6.trans (r7.mono (by omega))
    clear r7 b6
    clear lt6_0 lt6_1
    have lt7_0 : w.heap.size < w7.heap.size := by omega
    have lt7_1 : w3.heap.size < w7.heap.size := by omega
    have lt7_2 : w6.heap.size < w7.heap.size := by omega
    go_wp2_with fail
    refine (toBytes_calls zs _ _ hn ((hv.below b7))).mono ?_
    rintro e w8 ⟨y2, rfl, hy2, hb8⟩
    have z8 : w7.heap.size ≤ w8.heap.size := hb8.size
    have r8 := hb8
    clear hb8
    replace A0 := cellb r8 A0
    replace A1 := cellb r8 A1
    replace A2 := cellb r8 A2
    replace B0 := cellb r8 B0
    replace B1 := cellb r8 B1
    replace B2 := cellb r8 B2
    replace B3 := cellb r8 B3
    replace B4 := cellb r8 B4
    replace G0 := cellb r8 G0
    replace G1 := cellb r8 G1
    replace G2 := cellb r8 G2
    replace G3 := cellb r8 G3
    replace G4 := cellb r8 G4
    replace hx0 := hx0.below r8 (by omega)
    replace hy1 := hy1.below r8 (by omega)
    replace hx1 := hx1.below r8 (by omega)
    have b8 : Below w.heap.size w w8 := b7.trans (r8.mono (by omega))
    clear r8 b7
    clear lt7_0 lt7_1 lt7_2
    have lt8_0 : w.heap.size < w8.heap.size := by omega
    have lt8_1 : w3.heap.size < w8.heap.size := by omega
    have lt8_2 : w6.heap.size < w8.heap.size := by omega
    obtain ⟨ay2, cy2, rfl, hy2'⟩ := hy2
    have hy2 : IntsAt .u8 w7.heap.size w8.heap.size w8 (.slice ay2 zs.length cy2) zs := ⟨ay2, cy2, rfl, hy2'⟩
    clear hy2'
    go_wp2_with fail
    refine (eqBytes_below zs _ _ _ (by omega) hy1.read hy2.read).mono ?_
    rintro e w9 ⟨rfl, hb9⟩
    have z9 : w8.heap.size ≤ w9.heap.size := hb9.size
    have r9 := hb9
    clear hb9
    replace A0 := cellb r9 A0
    replace A1 := cellb r9 A1
    replace A2 := cellb r9 A2
    replace B0 := cellb r9 B0
    replace B1 := cellb r9 B1
    replace B2 := cellb r9 B2
    replace B3 := cellb r9 B3
    replace B4 := cellb r9 B4
    replace G0 := cellb r9 G0
    replace G1 := cellb r9 G1
    replace G2 := cellb r9 G2
    replace G3 := cellb r9 G3
    replace G4 := cellb r9 G4
    replace hx0 := hx0.below r9 (by omega)
    replace hy1 := hy1.below r9 (by omega)
    replace hx1 := hx1.below r9 (by omega)
    replace hy2 := hy2.below r9 (by omega)
    have b9 : Below w.heap.size w w9 := b8.trans (r9.mono (by omega))
    clear r9 b8
    clear lt8_0 lt8_1 lt8_2
    have lt9_0 : w.heap.size < w9.heap.size := by omega
    have lt9_1 : w3.heap.size < w9.heap.size := by omega
    have lt9_2 : w6.heap.size < w9.heap.size := by omega
    clear hy2
    go_wp2_with fail
    refine (markBytes_calls zs 1 (w3.heap.size + 1) w4.heap.size _ _ (by omega) (by omega) (by omega) hy1).mono ?_
    rintro e w10 ⟨rfl, hm0, hb10⟩
    have z10 : w9.heap.size ≤ w10.heap.size := hb10.size
    replace A0 := hb10.cell (by omega) (by omega) A0
    replace A1 := hb10.cell (by omega) (by omega) A1
    replace A2 := hb10.cell (by omega) (by omega) A2
    replace B0 := hb10.cell (by omega) (by omega) B0
    replace B1 := hb10.cell (by omega) (by omega) B1
    replace B2 := hb10.cell (by omega) (by omega) B2
    replace B3 := hb10.cell (by omega) (by omega) B3
    replace B4 := hb10.cell (by omega) (by omega) B4
    replace G0 := hb10.cell (by omega) (by omega) G0
    replace G1 := hb10.cell (by omega) (by omega) G1
    replace G2 := hb10.cell (by omega) (by omega) G2
    replace G3 := hb10.cell (by omega) (by omega) G3
    replace G4 := hb10.cell (by omega) (by omega) G4
    replace hx0 := hx0.within hb10 (by omega) (by omega)
    replace hx1 := hx1.within hb10 (by omega) (by omega)
    have b10 : Below w.heap.size w w10 := b9.trans (hb10.below (by omega) (by omega))
    clear hb10 b9
    clear lt9_0 lt9_1 lt9_2
    have lt10_0 : w.heap.size < w10.heap.size := by omega
    have lt10_1 : w3.heap.size < w10.heap.size := by omega
    have lt10_2 : w6.heap.size < w10.heap.size := by omega
    clear hy1 hm0
    go_wp2_with fail
    refine (eqDecoderResult_calls (dmCode l lo v zs) (dmL l lo v zs) (dmLo l lo v zs) (dmV l lo v zs) xs _ _ _ (by omega) hx1.read hx0.read).mono ?_
    rintro e w11 ⟨rfl, hb11⟩
    have z11 : w10.heap.size ≤ w11.heap.size := hb11.size
    have r11 := hb11
    clear hb11
    replace A0 := cellb r11 A0
    replace A1 := cellb r11 A1
    replace A2 := cellb r11 A2
    replace B0 := cellb r11 B0
    replace B1 := cellb r11 B1
    replace B2 := cellb r11 B2
    replace B3 := cellb r11 B3
    replace B4 := cellb r11 B4
    replace G0 := cellb r11 G0
    replace G1 := cellb r11 G1
    replace G2 := cellb r11 G2
    replace G3 := cellb r11 G3
    replace G4 := cellb r11 G4
    replace hx0 := hx0.below r11 (by omega)
    replace hx1 := hx1.below r11 (by omega)
    have b11 : Below w.heap.size w w11 := b10.trans (r11.mono (by omega))
    clear r11 b10
    clear lt10_0 lt10_1 lt10_2
    have lt11_0 : w.heap.size < w11.heap.size := by omega
    have lt11_1 : w3.heap.size < w11.heap.size := by omega
    have lt11_2 : w6.heap.size < w11.heap.size := by omega
    go_wp2_with fail
    refine (markDecoderResult_calls (dmCode l lo v zs) (dmL l lo v zs) (dmLo l lo v zs) (dmV l lo v zs) xs 1 w5.heap.size w6.heap.size _ _ (by omega) (by omega) (by omega) (by omega) hx1).mono ?_
    rintro e w12 ⟨rfl, hm1, hb12⟩
    have z12 : w11.heap.size ≤ w12.heap.size := hb12.size
    replace A0 := hb12.cell (by omega) (by omega) A0
    replace A1 := hb12.cell (by omega) (by omega) A1
    replace A2 := hb12.cell (by omega) (by omega) A2
    replace B0 := hb12.cell (by omega) (by omega) B0
    replace B1 := hb12.cell (by omega) (by omega) B1
    replace B2 := hb12.cell (by omega) (by omega) B2
    replace B3 := hb12.cell (by omega) (by omega) B3
    replace B4 := hb12.cell (by omega) (by omega) B4
    replace G0 := hb12.cell (by omega) (by omega) G0
    replace G1 := hb12.cell (by omega) (by omega) G1
    replace G2 := hb12.cell (by omega) (by omega) G2
    replace G3 := hb12.cell (by omega) (by omega) G3
    replace G4 := hb12.cell (by omega) (by omega) G4
    replace hx0 := hx0.within hb12 (by omega) (by omega)
    have b12 : Below w.heap.size w w12 := b11.trans (hb12.below (by omega) (by omega))
    clear hb12 b11
    clear lt11_0 lt11_1 lt11_2
    have lt12_0 : w.heap.size < w12.heap.size := by omega
    have lt12_1 : w3.heap.size < w12.heap.size := by omega
    have lt12_2 : w6.heap.size < w12.heap.size := by omega
    clear hx1
    go_wp2_with fail
    refine (heldDecoderResult_calls (dmCode l lo v zs) (dmL l lo v zs) (dmLo l lo v zs) (dmV l lo v zs) (marks 1 xs.length) 1 (.slice a1 xs.length c1) _ (by rw [marks_length]; omega) (by omega) (by omega) hm1.read (marks_at 1 _)).mono ?_
    rintro e w13 ⟨rfl, hb13⟩
    have z13 : w12.heap.size ≤ w13.heap.size := hb13.size
    have r13 := hb13
    clear hb13
    replace A0 := cellb r13 A0
    replace A1 := cellb r13 A1
    replace A2 := cellb r13 A2
    replace B0 := cellb r13 B0
    replace B1 := cellb r13 B1
    replace B2 := cellb r13 B2
    replace B3 := cellb r13 B3
    replace B4 := cellb r13 B4
    replace G0 := cellb r13 G0
    replace G1 := cellb r13 G1
    replace G2 := cellb r13 G2
    replace G3 := cellb r13 G3
    replace G4 := cellb r13 G4
    replace hx0 := hx0.below r13 (by omega)
    replace hm1 := hm1.below r13 (by omega)
    have b13 : Below w.heap.size w w13 := b12.trans (r13.mono (by omega))
    clear r13 b12
    clear lt12_0 lt12_1 lt12_2
    have lt13_0 : w.heap.size < w13.heap.size := by omega
    have lt13_1 : w3.heap.size < w13.heap.size := by omega
    have lt13_2 : w6.heap.size < w13.heap.size := by omega
    rw [marks_length]
    go_wp2_with fail
    refine (toDecoder_calls l lo v _).mono ?_
    rintro e w14 ⟨rfl, hb14⟩
    have z14 : w13.heap.size ≤ w14.heap.size := hb14.size
    have r14 := hb14
    clear hb14
    replace A0 := cellb r14 A0
    replace A1 := cellb r14 A1
    replace A2 := cellb r14 A2
    replace B0 := cellb r14 B0
    replace B1 := cellb r14 B1
    replace B2 := cellb r14 B2
    replace B3 := cellb r14 B3
    replace B4 := cellb r14 B4
    replace G0 := cellb r14 G0
    replace G1 := cellb r14 G1
    replace G2 := cellb r14 G2
    replace G3 := cellb r14 G3
    replace G4 := cellb r14 G4
    replace hx0 := hx0.below r14 (by omega)
    replace hm1 := hm1.below r14 (by omega)
    have b14 : Below w.heap.size w w14 := b13.trans (r14.mono (by omega))
    clear r14 b13
    clear lt13_0 lt13_1 lt13_2
    have lt14_0 : w.heap.size < w14.heap.size := by omega
    have lt14_1 : w3.heap.size < w14.heap.size := by omega
    have lt14_2 : w6.heap.size < w14.heap.size := by omega
    go_wp2_with fail
    refine (toBytes_calls zs _ _ hn ((hv.below b14))).mono ?_
    rintro e w15 ⟨y3, rfl, hy3, hb15⟩
    have z15 : w14.heap.size ≤ w15.heap.size := hb15.size
    have r15 := hb15
    clear hb15
    replace A0 := cellb r15 A0
    replace A1 := cellb r15 A1
    replace A2 := cellb r15 A2
    replace B0 := cellb r15 B0
    replace B1 := cellb r15 B1
    replace B2 := cellb r15 B2
    replace B3 := cellb r15 B3
    replace B4 := cellb r15 B4
    replace G0 := cellb r15 G0
    replace G1 := cellb r15 G1
    replace G2 := cellb r15 G2
    replace G3 := cellb r15 G3
    replace G4 := cellb r15 G4
    replace hx0 := hx0.below r15 (by omega)
    replace hm1 := hm1.below r15 (by omega)
    have b15 : Below w.heap.size w w15 := b14.trans (r15.mono (by omega))
    clear r15 b14
    clear lt14_0 lt14_1 lt14_2
    have lt15_0 : w.heap.size < w15.heap.size := by omega
    have lt15_1 : w3.heap.size < w15.heap.size := by omega
    have lt15_2 : w6.heap.size < w15.heap.size := by omega
    obtain ⟨ay3, cy3, rfl, hy3'⟩ := hy3
    have hy3 : IntsAt .u8 w14.heap.size w15.heap.size w15 (.slice ay3 zs.length cy3) zs := ⟨ay3, cy3, rfl, hy3'⟩
    clear hy3'
    go_wp2_with fail
    refine (implMany_calls l lo v zs _ _ HZ.out hn hy3.read).mono ?_
    rintro e w16 ⟨x2, rfl, hx2, hb16⟩
    have z16 : w15.heap.size ≤ w16.heap.size := hb16.size
    have r16 := hb16
    clear hb16
    replace A0 := cellb r16 A0
    replace A1 := cellb r16 A1
    replace A2 := cellb r16 A2
    replace B0 := cellb r16 B0
    replace B1 := cellb r16 B1
    replace B2 := cellb r16 B2
    replace B3 := cellb r16 B3
    replace B4 := cellb r16 B4
    replace G0 := cellb r16 G0
    replace G1 := cellb r16 G1
    replace G2 := cellb r16 G2
    replace G3 := cellb r16 G3
    replace G4 := cellb r16 G4
    replace hx0 := hx0.below r16 (by omega)
    replace hm1 := hm1.below r16 (by omega)
    replace hy3 := hy3.below r16 (by omega)
    have b16 : Below w.heap.size w w16 := b15.trans (r16.mono (by omega))
    clear r16 b15
    clear lt15_0 lt15_1 lt15_2
    have lt16_0 : w.heap.size < w16.heap.size := by omega
    have lt16_1 : w3.heap.size < w16.heap.size := by omega
    have lt16_2 : w6.heap.size < w16.heap.size := by omega
    rw [unhide HXS] at hx2
    obtain ⟨a2, c2, rfl, hx2'⟩ := hx2
    have hx2 : IntsAt .i64 w15.heap.size w16.heap.size w16 (.slice a2 xs.length c2) xs := ⟨a2, c2, rfl, hx2'⟩
    clear hx2'
    clear hy3
    go_wp2_with fail
    have q17 : Below w16.heap.size w16 (w16.alloc (.cells #[.int .i64 (dmCode l lo v zs), .slice a2 xs.length c2, .int .i64 (dmL l lo v zs), .int .i64 (dmLo l lo v zs), .int .i64 (dmV l lo v zs)] 27)) := (by repeat' (first | with_reducible exact Below.refl _ _ | with_reducible assumption | with_reducible refine Below.drew ?_ | with_reducible refine Below.alloc ?_ ?_ _ | with_reducible refine Below.setCell ?_ ?_ _ | (simp; done) | (simp; omega) | omega))
    refine (eqDecoderResult_calls (dmCode l lo v zs) (dmL l lo v zs) (dmLo l lo v zs) (dmV l lo v zs) xs _ _ _ (by omega) (hx2.read.below q17) (hx0.read.below q17)).mono ?_
    rintro e w17 ⟨rfl, hb17⟩
    have H0 : w17.cell? ⟨w16.heap.size, 0, none⟩ = some (.int .i64 (dmCode l lo v zs)) := cellb hb17 (by simp)
    have H1 : w17.cell? ⟨w16.heap.size, 1, none⟩ = some (.slice a2 xs.length c2) := cellb hb17 (by simp)
    have H2 : w17.cell? ⟨w16.heap.size, 2, none⟩ = some (.int .i64 (dmL l lo v zs)) := cellb hb17 (by simp)
    have H3 : w17.cell? ⟨w16.heap.size, 3, none⟩ = some (.int .i64 (dmLo l lo v zs)) := cellb hb17 (by simp)
    have H4 : w17.cell? ⟨w16.heap.size, 4, none⟩ = some (.int .i64 (dmV l lo v zs)) := cellb hb17 (by simp)
    have z17 : w16.heap.size + 1 ≤ w17.heap.size := by have := hb17.size; simp at this; omega
    have r17 : Below w16.heap.size w16 w17 := q17.trans (hb17.mono (by simp; try omega))
    clear q17 hb17
    replace A0 := cellb r17 A0
    replace A1 := cellb r17 A1
    replace A2 := cellb r17 A2
    replace B0 := cellb r17 B0
    replace B1 := cellb r17 B1
    replace B2 := cellb r17 B2
    replace B3 := cellb r17 B3
    replace B4 := cellb r17 B4
    replace G0 := cellb r17 G0
    replace G1 := cellb r17 G1
    replace G2 := cellb r17 G2
    replace G3 := cellb r17 G3
    replace G4 := cellb r17 G4
    replace hx0 := hx0.below r17 (by omega)
    replace hm1 := hm1.below r17 (by omega)
    replace hx2 := hx2.below r17 (by omega)
    have b17 : Below w.heap.size w w17 := b16.trans (r17.mono (by omega))
    clear r17 b16
    clear lt16_0 lt16_1 lt16_2
    have lt17_0 : w.heap.size < w17.heap.size := by omega
    have lt17_1 : w3.heap.size < w17.heap.size := by omega
    have lt17_2 : w6.heap.size < w17.heap.size := by omega
    have lt17_3 : w16.heap.size < w17.heap.size := by omega
    go_wp2_with fail
    refine (heldDecoderResult_calls (dmCode l lo v zs) (dmL l lo v zs) (dmLo l lo v zs) (dmV l lo v zs) (marks 1 xs.length) 1 (.slice a1 xs.length c1) _ (by rw [marks_length]; omega) (by omega) (by omega) hm1.read (marks_at 1 _)).mono ?_
    rintro e w18 ⟨rfl, hb18⟩
    have z18 : w17.heap.size ≤ w18.heap.size := hb18.size
    have r18 := hb18
    clear hb18
    replace A0 := cellb r18 A0
    replace A1 := cellb r18 A1
    replace A2 := cellb r18 A2
    replace B0 := cellb r18 B0
    replace B1 := cellb r18 B1
    replace B2 := cellb r18 B2
    replace B3 := cellb r18 B3
    replace B4 := cellb r18 B4
    replace G0 := cellb r18 G0
    replace G1 := cellb r18 G1
    replace G2 := cellb r18 G2
    replace G3 := cellb r18 G3
    replace G4 := cellb r18 G4
    replace H0 := cellb r18 H0
    replace H1 := cellb r18 H1
    replace H2 := cellb r18 H2
    replace H3 := cellb r18 H3
    replace H4 := cellb r18 H4
    replace hx0 := hx0.below r18 (by omega)
    replace hm1 := hm1.below r18 (by omega)
    replace hx2 := hx2.below r18 (by omega)
    have b18 : Below w.heap.size w w18 := b17.trans (r18.mono (by omega))
    clear r18 b17
    clear lt17_0 lt17_1 lt17_2 lt17_3
    have lt18_0 : w.heap.size < w18.heap.size := by omega
    have lt18_1 : w3.heap.size < w18.heap.size := by omega
    have lt18_2 : w6.heap.size < w18.heap.size := by omega
    have lt18_3 : w16.heap.size < w18.heap.size := by omega
    rw [marks_length]
    go_wp2
    go_ret
    exact ⟨rfl, b18⟩
  · have hgt : (1048576 : Int) < (zs.length : Int) := by omega
    go_enter Try.func4, Try.ntmps4
    go_wp2
    go_ret
    exact ⟨rfl, (by repeat' (first | with_reducible exact Below.refl _ _ | with_reducible assumption | with_reducible refine Below.drew ?_ | with_reducible refine Below.alloc ?_ ?_ _ | with_reducible refine Below.setCell ?_ ?_ _ | (simp; done) | (simp; omega) | omega))⟩

theorem lawDM_laid : laidOutB Try.prog = true := by kernel_rfl
theorem read_take_wf {k : IntKind} {w : World} {x : Addr} {len cap : Nat} {zs : List Int} (hz : zs.length = cap) (hl : len ≤ cap) (hm : cap ≤ maxLen) (hcell : ∀ i, i < zs.length → w.cell? (x.add i) = some (.int k (zs.getD i 0))) (P : Int → Prop) (hP : ∀ z ∈ zs, P z) : ∃ ys, ReadAt k w (.slice (some x) len cap) ys ∧ ys.length ≤ maxLen ∧ ∀ z ∈ ys, P z := by
  have hlen : (zs.take len).length = len := by rw [List.length_take]; omega
  refine ⟨zs.take len, ⟨_, _, by rw [hlen], ?_⟩, by omega, fun z h => hP z (List.mem_of_mem_take h)⟩
  by_cases h0 : len = 0
  · exact .inl (List.length_eq_zero_iff.1 (by omega))
  · right
    obtain ⟨b, off, spot⟩ := x
    have hc := hcell 0 (by omega)
    have hspot : spot = none := by simpa [Addr.add] using World.cell?_spot hc
    subst hspot
    refine ⟨b, off, rfl, fun i hi => ?_⟩
    rw [hlen] at hi
    have := hcell i (by omega)
    rw [show ((⟨b, off, none⟩ : Addr).add i) = ⟨b, off + i, none⟩ from by simp [Addr.add]] at this
    rw [show (zs.take len).getD i 0 = zs.getD i 0 from by simp [List.getD_eq_getElem?_getD, List.getElem?_take_of_lt hi]]
    exact this

theorem lawDM_cells : Try.prog.cellsOf 23 = 3 := by kernel_rfl
theorem lawDM_own : ownKnob Try.prog.godebug = none := by kernel_rfl
set_option maxRecDepth 100000 in
theorem lawDM_lifted (os : Os) (started : os.Started) (H : Type) (enc : TypeId × Value → H) :
    ReturnsInHanded {} Try.checked os 4 .any (Rows.fnExactDecodeManySpec.pre6 enc Try.prog Try.f4 Rows.fnExactDecodeManyRow.domain false) (Rows.fnExactDecodeManySpec.post enc Try.prog Try.f4 false true false false) := by
  refine returnsInHanded_of_change (C := Try.checked) lawDM_own started (by kernel_rfl) Try.func4
    (ChangeSpec.witness6 (enc := enc) (C := Try.checked) false ⟨#[], #[.agg #[.int .i64 0, .int .i64 0, .int .i64 0], .slice none 0 0], []⟩ 8 (by kernel_rfl) (by kernel_rfl) (by kernel_rfl) (by kernel_rfl)) ?_
  intro W base args ds gs before hval0 hW hcnd _
  have hval : ∀ (j : Nat) t v, Try.f4.params[j]? = some t → args[j]? = some v → Value.okWide Try.prog W .any base t v := hval0
  have hW' := hW
  obtain ⟨p, q, hA0, hV, rfl, hfz, hnd⟩ := hW
  have hA : DataW.TrodAll enc Try.prog W 0 (fun _ => true) true Try.f4.params.toList args.toList ds p := hA0
  rw [Try.params4] at hA hval
  obtain ⟨v0, v1, d0, d1, p0, p1, rfl, rfl, rfl, h0, h1⟩ := trodAll_two hA
  obtain ⟨rfl, rfl⟩ := trodVars_none hV
  obtain ⟨c0, c1, c2, y0, y1, y2, m, rfl, rfl, rfl, hy0, hy1, hy2⟩ := open_agg3 Try.underlying23 (by kernel_rfl) lawDM_cells (hval 0 23 v0 rfl rfl) h0
  obtain ⟨l, e0, rfl, wl⟩ := DataW.trod_int Try.underlying2 hy0
  obtain ⟨lo, e1, rfl, wlo⟩ := DataW.trod_int Try.underlying2 hy1
  obtain ⟨v, e2, rfl, wv⟩ := DataW.trod_int Try.underlying2 hy2
  simp at e0 e1 e2
  subst e0 e1 e2
  obtain ⟨a0, len0, cap0, rfl⟩ := okWide_slice Try.underlying33 (hval 1 33 v1 rfl rfl)
  have k1 := h1
  have lt1 : ∀ x ∈ p1, x.block < W.heap.size := by obtain ⟨m, hm⟩ := k1; exact DataW.trod_lt m _ _ _ hm
  obtain ⟨zs, w0⟩ : ∃ zs, ReadAt .u8 W (.slice a0 len0 cap0) zs ∧ zs.length ≤ maxLen ∧ ∀ z ∈ zs, 0 ≤ z ∧ z ≤ 255 := by
    obtain ⟨fuel, hf⟩ := h1
    rcases open_ints Try.underlying33 Try.underlying5 (by kernel_rfl) hf with ⟨hcs, _⟩ | ⟨x, l, c, zs, hcs, _, hl, hm, hz, _, hcell, hwz⟩
    · simp [Value.cells] at hcs
      obtain ⟨rfl, rfl, rfl⟩ := hcs
      exact ⟨[], ReadAt.nil _ _ _ _, by simp, by simp⟩
    · simp [Value.cells] at hcs
      obtain ⟨rfl, rfl, rfl⟩ := hcs
      exact read_take_wf (by simpa using hz) hl hm hcell _ (fun z h => by simpa [Lit.wf, IntKind.min, IntKind.max, IntKind.signed, IntKind.bits] using hwz z h)
  clear hA0 hval0
  have reads : ∀ (W' : World) (sp : Nat → Bool), DataW.Trod enc Try.prog W' 0 sp true 23 (.agg #[.int .i64 l, .int .i64 lo, .int .i64 v]) (.agg [.lit (.int .i64 l), .lit (.int .i64 lo), .lit (.int .i64 v)]) [] := fun W' sp =>
    shut_agg3 (y0 := (.lit (.int .i64 l), [])) (y1 := (.lit (.int .i64 lo), [])) (y2 := (.lit (.int .i64 v), [])) Try.underlying23 (by kernel_rfl) lawDM_cells ⟨1, by simp [DataW.trod, Try.underlying2, wl]⟩ ⟨1, by simp [DataW.trod, Try.underlying2, wlo]⟩ ⟨1, by simp [DataW.trod, Try.underlying2, wv]⟩
  refine (lawDM_walk l lo v zs _ W w0.1 w0.2.1 w0.2.2).mono fun e W' ⟨he, bel⟩ => ?_
  subst he
  exact ⟨_, rfl, _, _, _, [], _, [], hW', trodAll_mk1 (shut_bool Try.underlying4 _), trodAll_mk2 (reads _ _) (Below.trod lawDM_laid (by kernel_rfl) (of_decide_eq_true (by kernel_rfl)) k1 bel lt1), rfl, bel.frame _, fun h => by cases h⟩

theorem lawDM_over : Rows.fnExactDecodeManyRow.holds Try.pinned (OpenSpec.ofChange Rows.fnExactDecodeManySpec) :=
  OpenClaim.holds_of_wide 4 Try.f4 rfl rfl rfl rfl rfl rfl rfl ⟨rfl, rfl, rfl, rfl, rfl⟩ rfl rfl rfl rfl rfl (by kernel_rfl) Try.func4 (by kernel_rfl)
    (of_decide_eq_true (by kernel_rfl)) (by unfold Func.isWrapper; first | (rw [if_pos (by decide +kernel)]; kernel_rfl) | (rw [if_neg (by decide +kernel)]; exact ⟨rfl, rfl⟩))
    (fun os started H enc _ => lawDM_lifted os started H enc)

theorem lawDM_proved : Rows.FnExactDecodeManySaid := lawDM_over
#print axioms lawDM_proved
end Go.Proofs.Ytoedmfflokknjag
