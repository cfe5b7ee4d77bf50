/-
  For every decoder and every byte the law FnExactStepDecoder returns true: impl.StepDecoder answers what the model's StepDecoder answers, field by field, and its list is memory of its own. No condition.
-/
import Derived.Test.YtoedmfflokknjagRows
import Derived.Test.YtoedmfflokknjagStepRes2
import Derived.ShutString
import Derived.ChangeOld
import Derived.Lib.SmallJoins
namespace Go.Proofs.Ytoedmfflokknjag
open Go.ChangeShapes Go.WideShapes Go.ChangeAt Go.RowKit Go.Joins
set_option linter.unusedVariables false
set_option linter.unusedSimpArgs false

set_option maxHeartbeats 2000000 in
theorem lawSD_walk (l lo v b : Int) (w : World) (h0 : 0 ≤ b) (h1 : b ≤ 255) :
    Calls Try.prog 3 #[.agg #[.int .i64 l, .int .i64 lo, .int .i64 v], .int .u8 b] w fun e w' => e = .returned (.bool true) ∧ Below w.heap.size w w' := by
  generalize hxs : sdT l lo v b = xs
  have hlen : xs.length ≤ 2 := by rw [← hxs]; exact sdT_length l lo v b
  have HXS := hide hxs
  clear hxs
  go_enter Try.func3, Try.ntmps3
  go_wp2_with fail
  have q1 : Below w.heap.size w (w.alloc (.cells #[.int .i64 l, .int .i64 lo, .int .i64 v] 23)) := (by repeat' (first | with_reducible exact Below.refl _ _ | with_reducible assumption | with_reducible refine Below.drew ?_ | with_reducible refine Below.alloc ?_ ?_ _ | with_reducible refine Below.setCell ?_ ?_ _ | (simp; done) | (simp; omega) | omega))
  refine (toDecoder_calls l lo v _).mono ?_
  rintro e w1 ⟨rfl, hb1⟩
  have A0 : w1.cell? ⟨w.heap.size, 0, none⟩ = some (.int .i64 l) := cellb hb1 (by simp)
  have A1 : w1.cell? ⟨w.heap.size, 1, none⟩ = some (.int .i64 lo) := cellb hb1 (by simp)
  have A2 : w1.cell? ⟨w.heap.size, 2, none⟩ = some (.int .i64 v) := cellb hb1 (by simp)
  have z1 : w.heap.size + 1 ≤ w1.heap.size := by have := hb1.size; simp at this; omega
  have r1 : Below w.heap.size w w1 := q1.trans (hb1.mono (by simp; try omega))
  clear q1 hb1
  have b1 : Below w.heap.size w w1 := r1
  clear r1
  have lt1_0 : w.heap.size < w1.heap.size := by omega
  go_wp2_with fail
  refine (specStep_calls l lo v b _ h0 h1).mono ?_
  rintro e w2 ⟨x0, rfl, hx0, hb2⟩
  have z2 : w1.heap.size ≤ w2.heap.size := hb2.size
  have r2 := hb2
  clear hb2
  replace A0 := cellb r2 A0
  replace A1 := cellb r2 A1
  replace A2 := cellb r2 A2
  have b2 : Below w.heap.size w w2 := b1.trans (r2.mono (by omega))
  clear r2 b1
  clear lt1_0
  have lt2_0 : w.heap.size < w2.heap.size := by omega
  rw [unhide HXS] at hx0
  obtain ⟨a0, c0, rfl, hx0'⟩ := hx0
  have hx0 : IntsAt .i64 w1.heap.size w2.heap.size w2 (.slice a0 xs.length c0) xs := ⟨a0, c0, rfl, hx0'⟩
  clear hx0'
  go_wp2_with fail
  have q3 : Below w2.heap.size w2 (w2.alloc (.cells #[.int .i64 (dfault l lo v), .slice a0 xs.length c0, .int .i64 (sdL l lo v b), .int .i64 (sdLo l lo v b), .int .i64 (sdV l lo v b)] 27)) := (by repeat' (first | with_reducible exact Below.refl _ _ | with_reducible assumption | with_reducible refine Below.drew ?_ | with_reducible refine Below.alloc ?_ ?_ _ | with_reducible refine Below.setCell ?_ ?_ _ | (simp; done) | (simp; omega) | omega))
  refine (toDecoder_calls l lo v _).mono ?_
  rintro e w3 ⟨rfl, hb3⟩
  have B0 : w3.cell? ⟨w2.heap.size, 0, none⟩ = some (.int .i64 (dfault l lo v)) := cellb hb3 (by simp)
  have B1 : w3.cell? ⟨w2.heap.size, 1, none⟩ = some (.slice a0 xs.length c0) := cellb hb3 (by simp)
  have B2 : w3.cell? ⟨w2.heap.size, 2, none⟩ = some (.int .i64 (sdL l lo v b)) := cellb hb3 (by simp)
  have B3 : w3.cell? ⟨w2.heap.size, 3, none⟩ = some (.int .i64 (sdLo l lo v b)) := cellb hb3 (by simp)
  have B4 : w3.cell? ⟨w2.heap.size, 4, none⟩ = some (.int .i64 (sdV l lo v b)) := cellb hb3 (by simp)
  have z3 : w2.heap.size + 1 ≤ w3.heap.size := by have := hb3.size; simp at this; omega
  have r3 : Below w2.heap.size w2 w3 := q3.trans (hb3.mono (by simp; try omega))
  clear q3 hb3
  replace A0 := cellb r3 A0
  replace A1 := cellb r3 A1
  replace A2 := cellb r3 A2
  replace hx0 := hx0.below r3 (by omega)
  have b3 : Below w.heap.size w w3 := b2.trans (r3.mono (by omega))
  clear r3 b2
  clear lt2_0
  have lt3_0 : w.heap.size < w3.heap.size := by omega
  have lt3_1 : w2.heap.size < w3.heap.size := by omega
  go_wp2_with fail
  refine (implStep_calls l lo v b _ h0 h1).mono ?_
  rintro e w4 ⟨x1, rfl, hx1, hb4⟩
  have z4 : w3.heap.size ≤ w4.heap.size := hb4.size
  have r4 := hb4
  clear hb4
  replace A0 := cellb r4 A0
  replace A1 := cellb r4 A1
  replace A2 := cellb r4 A2
  replace B0 := cellb r4 B0
  replace B1 := cellb r4 B1
  replace B2 := cellb r4 B2
  replace B3 := cellb r4 B3
  replace B4 := cellb r4 B4
  replace hx0 := hx0.below r4 (by omega)
  have b4 : Below w.heap.size w w4 := b3.trans (r4.mono (by omega))
  clear r4 b3
  clear lt3_0 lt3_1
  have lt4_0 : w.heap.size < w4.heap.size := by omega
  have lt4_1 : w2.heap.size < w4.heap.size := by omega
  rw [unhide HXS] at hx1
  obtain ⟨a1, c1, rfl, hx1'⟩ := hx1
  have hx1 : IntsAt .i64 w3.heap.size w4.heap.size w4 (.slice a1 xs.length c1) xs := ⟨a1, c1, rfl, hx1'⟩
  clear hx1'
  go_wp2_with fail
  have q5 : Below w4.heap.size w4 (w4.alloc (.cells #[.int .i64 (dfault l lo v), .slice a1 xs.length c1, .int .i64 (sdL l lo v b), .int .i64 (sdLo l lo v b), .int .i64 (sdV l lo v b)] 27)) := (by repeat' (first | with_reducible exact Below.refl _ _ | with_reducible assumption | with_reducible refine Below.drew ?_ | with_reducible refine Below.alloc ?_ ?_ _ | with_reducible refine Below.setCell ?_ ?_ _ | (simp; done) | (simp; omega) | omega))
  refine (eqDecoderResult_calls (dfault l lo v) (sdL l lo v b) (sdLo l lo v b) (sdV l lo v b) xs _ _ _ (by omega) (hx1.read.below q5) (hx0.read.below q5)).mono ?_
  rintro e w5 ⟨rfl, hb5⟩
  have G0 : w5.cell? ⟨w4.heap.size, 0, none⟩ = some (.int .i64 (dfault l lo v)) := cellb hb5 (by simp)
  have G1 : w5.cell? ⟨w4.heap.size, 1, none⟩ = some (.slice a1 xs.length c1) := cellb hb5 (by simp)
  have G2 : w5.cell? ⟨w4.heap.size, 2, none⟩ = some (.int .i64 (sdL l lo v b)) := cellb hb5 (by simp)
  have G3 : w5.cell? ⟨w4.heap.size, 3, none⟩ = some (.int .i64 (sdLo l lo v b)) := cellb hb5 (by simp)
  have G4 : w5.cell? ⟨w4.heap.size, 4, none⟩ = some (.int .i64 (sdV l lo v b)) := cellb hb5 (by simp)
  have z5 : w4.heap.size + 1 ≤ w5.heap.size := by have := hb5.size; simp at this; omega
  have r5 : Below w4.heap.size w4 w5 := q5.trans (hb5.mono (by simp; try omega))
  clear q5 hb5
  replace A0 := cellb r5 A0
  replace A1 := cellb r5 A1
  replace A2 := cellb r5 A2
  replace B0 := cellb r5 B0
  replace B1 := cellb r5 B1
  replace B2 := cellb r5 B2
  replace B3 := cellb r5 B3
  replace B4 := cellb r5 B4
  replace hx0 := hx0.below r5 (by omega)
  replace hx1 := hx1.below r5 (by omega)
  have b5 : Below w.heap.size w w5 := b4.trans (r5.mono (by omega))
  clear r5 b4
  clear lt4_0 lt4_1
  have lt5_0 : w.heap.size < w5.heap.size := by omega
  have lt5_1 : w2.heap.size < w5.heap.size := by omega
  have lt5_2 : w4.heap.size < w5.heap.size := by omega
  go_wp2_with fail
  refine (markDecoderResult_calls (dfault l lo v) (sdL l lo v b) (sdLo l lo v b) (sdV l lo v b) xs 1 w3.heap.size w4.heap.size _ _ (by omega) (by omega) (by omega) (by omega) hx1).mono ?_
  rintro e w6 ⟨rfl, hm1, hb6⟩
  have z6 : w5.heap.size ≤ w6.heap.size := hb6.size
  replace A0 := hb6.cell (by omega) (by omega) A0
  replace A1 := hb6.cell (by omega) (by omega) A1
  replace A2 := hb6.cell (by omega) (by omega) A2
  replace B0 := hb6.cell (by omega) (by omega) B0
  replace B1 := hb6.cell (by omega) (by omega) B1
  replace B2 := hb6.cell (by omega) (by omega) B2
  replace B3 := hb6.cell (by omega) (by omega) B3
  replace B4 := hb6.cell (by omega) (by omega) B4
  replace G0 := hb6.cell (by omega) (by omega) G0
  replace G1 := hb6.cell (by omega) (by omega) G1
  replace G2 := hb6.cell (by omega) (by omega) G2
  replace G3 := hb6.cell (by omega) (by omega) G3
  replace G4 := hb6.cell (by omega) (by omega) G4
  replace hx0 := hx0.within hb6 (by omega) (by omega)
  have b6 : Below w.heap.size w w6 := b5.trans (hb6.below (by omega) (by omega))
  clear hb6 b5
  clear lt5_0 lt5_1 lt5_2
  have lt6_0 : w.heap.size < w6.heap.size := by omega
  have lt6_1 : w2.heap.size < w6.heap.size := by omega
  have lt6_2 : w4.heap.size < w6.heap.size := by omega
  clear hx1
  go_wp2_with fail
  refine (heldDecoderResult_calls (dfault l lo v) (sdL l lo v b) (sdLo l lo v b) (sdV l lo v b) (marks 1 xs.length) 1 (.slice a1 xs.length c1) _ (by rw [marks_length]; omega) (by omega) (by omega) hm1.read (marks_at 1 _)).mono ?_
  rintro e w7 ⟨rfl, hb7⟩
  have z7 : w6.heap.size ≤ w7.heap.size := hb7.size
  have r7 := hb7
  clear hb7
  replace A0 := cellb r7 A0
  replace A1 := cellb r7 A1
  replace A2 := cellb r7 A2
  replace B0 := cellb r7 B0
  replace B1 := cellb r7 B1
  replace B2 := cellb r7 B2
  replace B3 := cellb r7 B3
  replace B4 := cellb r7 B4
  replace G0 := cellb r7 G0
  replace G1 := cellb r7 G1
  replace G2 := cellb r7 G2
  replace G3 := cellb r7 G3
  replace G4 := cellb r7 G4
  replace hx0 := hx0.below r7 (by omega)
  replace hm1 := hm1.below r7 (by omega)
  have b7 : Below w.heap.size w w7 := b6.trans (r7.mono (by omega))
  clear r7 b6
  clear lt6_0 lt6_1 lt6_2
  have lt7_0 : w.heap.size < w7.heap.size := by omega
  have lt7_1 : w2.heap.size < w7.heap.size := by omega
  have lt7_2 : w4.heap.size < w7.heap.size := by omega
  rw [marks_length]
  go_wp2_with fail
  refine (toDecoder_calls l lo v _).mono ?_
  rintro e w8 ⟨rfl, hb8⟩
  have z8 : w7.heap.size ≤ w8.heap.size := hb8.size
  have r8 := hb8
  clear hb8
  replace A0 := cellb r8 A0
  replace A1 := cellb r8 A1
  replace A2 := cellb r8 A2
  replace B0 := cellb r8 B0
  replace B1 := cellb r8 B1
  replace B2 := cellb r8 B2
  replace B3 := cellb r8 B3
  replace B4 := cellb r8 B4
  replace G0 := cellb r8 G0
  replace G1 := cellb r8 G1
  replace G2 := cellb r8 G2
  replace G3 := cellb r8 G3
  replace G4 := cellb r8 G4
  replace hx0 := hx0.below r8 (by omega)
  replace hm1 := hm1.below r8 (by omega)
  have b8 : Below w.heap.size w w8 := b7.trans (r8.mono (by omega))
  clear r8 b7
  clear lt7_0 lt7_1 lt7_2
  have lt8_0 : w.heap.size < w8.heap.size := by omega
  have lt8_1 : w2.heap.size < w8.heap.size := by omega
  have lt8_2 : w4.heap.size < w8.heap.size := by omega
  go_wp2_with fail
  refine (implStep_calls l lo v b _ h0 h1).mono ?_
  rintro e w9 ⟨x2, rfl, hx2, hb9⟩
  have z9 : w8.heap.size ≤ w9.heap.size := hb9.size
  have r9 := hb9
  clear hb9
  replace A0 := cellb r9 A0
  replace A1 := cellb r9 A1
  replace A2 := cellb r9 A2
  replace B0 := cellb r9 B0
  replace B1 := cellb r9 B1
  replace B2 := cellb r9 B2
  replace B3 := cellb r9 B3
  replace B4 := cellb r9 B4
  replace G0 := cellb r9 G0
  replace G1 := cellb r9 G1
  replace G2 := cellb r9 G2
  replace G3 := cellb r9 G3
  replace G4 := cellb r9 G4
  replace hx0 := hx0.below r9 (by omega)
  replace hm1 := hm1.below r9 (by omega)
  have b9 : Below w.heap.size w w9 := b8.trans (r9.mono (by omega))
  clear r9 b8
  clear lt8_0 lt8_1 lt8_2
  have lt9_0 : w.heap.size < w9.heap.size := by omega
  have lt9_1 : w2.heap.size < w9.heap.size := by omega
  have lt9_2 : w4.heap.size < w9.heap.size := by omega
  rw [unhide HXS] at hx2
  obtain ⟨a2, c2, rfl, hx2'⟩ := hx2
  have hx2 : IntsAt .i64 w8.heap.size w9.heap.size w9 (.slice a2 xs.length c2) xs := ⟨a2, c2, rfl, hx2'⟩
  clear hx2'
  go_wp2_with fail
  have q10 : Below w9.heap.size w9 (w9.alloc (.cells #[.int .i64 (dfault l lo v), .slice a2 xs.length c2, .int .i64 (sdL l lo v b), .int .i64 (sdLo l lo v b), .int .i64 (sdV l lo v b)] 27)) := (by repeat' (first | with_reducible exact Below.refl _ _ | with_reducible assumption | with_reducible refine Below.drew ?_ | with_reducible refine Below.alloc ?_ ?_ _ | with_reducible refine Below.setCell ?_ ?_ _ | (simp; done) | (simp; omega) | omega))
  refine (eqDecoderResult_calls (dfault l lo v) (sdL l lo v b) (sdLo l lo v b) (sdV l lo v b) xs _ _ _ (by omega) (hx2.read.below q10) (hx0.read.below q10)).mono ?_
  rintro e w10 ⟨rfl, hb10⟩
  have H0 : w10.cell? ⟨w9.heap.size, 0, none⟩ = some (.int .i64 (dfault l lo v)) := cellb hb10 (by simp)
  have H1 : w10.cell? ⟨w9.heap.size, 1, none⟩ = some (.slice a2 xs.length c2) := cellb hb10 (by simp)
  have H2 : w10.cell? ⟨w9.heap.size, 2, none⟩ = some (.int .i64 (sdL l lo v b)) := cellb hb10 (by simp)
  have H3 : w10.cell? ⟨w9.heap.size, 3, none⟩ = some (.int .i64 (sdLo l lo v b)) := cellb hb10 (by simp)
  have H4 : w10.cell? ⟨w9.heap.size, 4, none⟩ = some (.int .i64 (sdV l lo v b)) := cellb hb10 (by simp)
  have z10 : w9.heap.size + 1 ≤ w10.heap.size := by have := hb10.size; simp at this; omega
  have r10 : Below w9.heap.size w9 w10 := q10.trans (hb10.mono (by simp; try omega))
  clear q10 hb10
  replace A0 := cellb r10 A0
  replace A1 := cellb r10 A1
  replace A2 := cellb r10 A2
  replace B0 := cellb r10 B0
  replace B1 := cellb r10 B1
  replace B2 := cellb r10 B2
  replace B3 := cellb r10 B3
  replace B4 := cellb r10 B4
  replace G0 := cellb r10 G0
  replace G1 := cellb r10 G1
  replace G2 := cellb r10 G2
  replace G3 := cellb r10 G3
  replace G4 := cellb r10 G4
  replace hx0 := hx0.below r10 (by omega)
  replace hm1 := hm1.below r10 (by omega)
  replace hx2 := hx2.below r10 (by omega)
  have b10 : Below w.heap.size w w10 := b9.trans (r10.mono (by omega))
  clear r10 b9
  clear lt9_0 lt9_1 lt9_2
  have lt10_0 : w.heap.size < w10.heap.size := by omega
  have lt10_1 : w2.heap.size < w10.heap.size := by omega
  have lt10_2 : w4.heap.size < w10.heap.size := by omega
  have lt10_3 : w9.heap.size < w10.heap.size := by omega
  go_wp2_with fail
  refine (heldDecoderResult_calls (dfault l lo v) (sdL l lo v b) (sdLo l lo v b) (sdV l lo v b) (marks 1 xs.length) 1 (.slice a1 xs.length c1) _ (by rw [marks_length]; omega) (by omega) (by omega) hm1.read (marks_at 1 _)).mono ?_
  rintro e w11 ⟨rfl, hb11⟩
  have z11 : w10.heap.size ≤ w11.heap.size := hb11.size
  have r11 := hb11
  clear hb11
  replace A0 := cellb r11 A0
  replace A1 := cellb r11 A1
  replace A2 := cellb r11 A2
  replace B0 := cellb r11 B0
  replace B1 := cellb r11 B1
  replace B2 := cellb r11 B2
  replace B3 := cellb r11 B3
  replace B4 := cellb r11 B4
  replace G0 := cellb r11 G0
  replace G1 := cellb r11 G1
  replace G2 := cellb r11 G2
  replace G3 := cellb r11 G3
  replace G4 := cellb r11 G4
  replace H0 := cellb r11 H0
  replace H1 := cellb r11 H1
  replace H2 := cellb r11 H2
  replace H3 := cellb r11 H3
  replace H4 := cellb r11 H4
  replace hx0 := hx0.below r11 (by omega)
  replace hm1 := hm1.below r11 (by omega)
  replace hx2 := hx2.below r11 (by omega)
  have b11 : Below w.heap.size w w11 := b10.trans (r11.mono (by omega))
  clear r11 b10
  clear lt10_0 lt10_1 lt10_2 lt10_3
  have lt11_0 : w.heap.size < w11.heap.size := by omega
  have lt11_1 : w2.heap.size < w11.heap.size := by omega
  have lt11_2 : w4.heap.size < w11.heap.size := by omega
  have lt11_3 : w9.heap.size < w11.heap.size := by omega
  rw [marks_length]
  go_wp2
  go_ret
  exact ⟨rfl, b11⟩

theorem lawSD_cells : Try.prog.cellsOf 23 = 3 := by kernel_rfl
theorem lawSD_own : ownKnob Try.prog.godebug = none := by kernel_rfl
set_option maxRecDepth 100000 in
theorem lawSD_lifted (os : Os) (started : os.Started) (H : Type) (enc : TypeId × Value → H) :
    ReturnsInHanded {} Try.checked os 3 .any (Rows.fnExactStepDecoderSpec.pre6 enc Try.prog Try.f3 Rows.fnExactStepDecoderRow.domain false) (Rows.fnExactStepDecoderSpec.post enc Try.prog Try.f3 false true false false) := by
  refine returnsInHanded_of_change (C := Try.checked) lawSD_own started (by kernel_rfl) Try.func3
    (ChangeSpec.witness6 (enc := enc) (C := Try.checked) false ⟨#[], #[.agg #[.int .i64 0, .int .i64 0, .int .i64 0], .int .u8 0], []⟩ 8 (by kernel_rfl) (by kernel_rfl) (by kernel_rfl) (by kernel_rfl)) ?_
  intro W base args ds gs before hval0 hW hcnd _
  have hval : ∀ (j : Nat) t v, Try.f3.params[j]? = some t → args[j]? = some v → Value.okWide Try.prog W .any base t v := hval0
  have hW' := hW
  obtain ⟨p, q, hA0, hV, rfl, hfz, hnd⟩ := hW
  have hA : DataW.TrodAll enc Try.prog W 0 (fun _ => true) true Try.f3.params.toList args.toList ds p := hA0
  rw [Try.params3] at hA hval
  obtain ⟨v0, v1, d0, d1, p0, p1, rfl, rfl, rfl, h0, h1⟩ := trodAll_two hA
  obtain ⟨rfl, rfl⟩ := trodVars_none hV
  obtain ⟨c0, c1, c2, y0, y1, y2, m, rfl, rfl, rfl, hy0, hy1, hy2⟩ := open_agg3 Try.underlying23 (by kernel_rfl) lawSD_cells (hval 0 23 v0 rfl rfl) h0
  obtain ⟨l, e0, rfl, wl⟩ := DataW.trod_int Try.underlying2 hy0
  obtain ⟨lo, e1, rfl, wlo⟩ := DataW.trod_int Try.underlying2 hy1
  obtain ⟨v, e2, rfl, wv⟩ := DataW.trod_int Try.underlying2 hy2
  simp at e0 e1 e2
  subst e0 e1 e2
  obtain ⟨b, rfl, rfl, rfl, wb⟩ := open_int Try.underlying5 (hval 1 5 v1 rfl rfl) h1
  have hbd : 0 ≤ b ∧ b ≤ 255 := by simpa [Lit.wf, IntKind.min, IntKind.max, IntKind.signed, IntKind.bits] using wb
  clear hA0 hval0
  simp only [List.append_nil] at hW'
  have reads : ∀ (W' : World) (sp : Nat → Bool), DataW.Trod enc Try.prog W' 0 sp true 23 (.agg #[.int .i64 l, .int .i64 lo, .int .i64 v]) (.agg [.lit (.int .i64 l), .lit (.int .i64 lo), .lit (.int .i64 v)]) [] := fun W' sp =>
    shut_agg3 (y0 := (.lit (.int .i64 l), [])) (y1 := (.lit (.int .i64 lo), [])) (y2 := (.lit (.int .i64 v), [])) Try.underlying23 (by kernel_rfl) lawSD_cells ⟨1, by simp [DataW.trod, Try.underlying2, wl]⟩ ⟨1, by simp [DataW.trod, Try.underlying2, wlo]⟩ ⟨1, by simp [DataW.trod, Try.underlying2, wv]⟩
  refine (lawSD_walk l lo v b W hbd.1 hbd.2).mono fun e W' ⟨he, bel⟩ => ?_
  subst he
  exact ⟨_, rfl, _, _, _, [], [], [], hW', trodAll_mk1 (shut_bool Try.underlying4 _), trodAll_mk2 (reads _ _) (shut_int Try.underlying5 wb), rfl, bel.frame _, fun h => by cases h⟩

theorem lawSD_over : Rows.fnExactStepDecoderRow.holds Try.pinned (OpenSpec.ofChange Rows.fnExactStepDecoderSpec) :=
  OpenClaim.holds_of_wide 3 Try.f3 rfl rfl rfl rfl rfl rfl rfl ⟨rfl, rfl, rfl, rfl, rfl⟩ rfl rfl rfl rfl rfl (by kernel_rfl) Try.func3 (by kernel_rfl)
    (of_decide_eq_true (by kernel_rfl)) (by unfold Func.isWrapper; first | (rw [if_pos (by decide +kernel)]; kernel_rfl) | (rw [if_neg (by decide +kernel)]; exact ⟨rfl, rfl⟩))
    (fun os started H enc _ => lawSD_lifted os started H enc)

theorem lawSD_proved : Rows.FnExactStepDecoderSaid := lawSD_over
#print axioms lawSD_proved
end Go.Proofs.Ytoedmfflokknjag
