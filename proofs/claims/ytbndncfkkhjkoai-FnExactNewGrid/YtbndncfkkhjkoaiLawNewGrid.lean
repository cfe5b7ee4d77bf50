/-
  For every two int64 the law FnExactNewGrid returns true: impl.NewGrid answers at each two numbers what the model's NewGrid answers, every field; its lists are memory of its own. No condition.
-/
import Derived.Test.YtbndncfkkhjkoaiRows
import Derived.Test.YtbndncfkkhjkoaiNewFns
import Derived.Test.YtbndncfkkhjkoaiGridFns
import Derived.ShutString
import Derived.ChangeOld
import Derived.Lib.SmallJoins
namespace Go.Proofs.Ytbndncfkkhjkoai
open Go.ChangeShapes Go.WideShapes Go.ChangeAt Go.RowKit Go.Joins
set_option linter.unusedVariables false
set_option linter.unusedSimpArgs false

set_option maxRecDepth 20000 in
set_option maxHeartbeats 4000000 in
theorem lawNG_walk (r wd : Int) (w : World) :
    Calls Try.prog 3 #[.int .i64 r, .int .i64 wd] w fun e w' => e = .returned (.bool true) ∧ Below w.heap.size w w' := by
  have hlen := newRes_len r wd
  generalize hX : newRes r wd = X at *
  obtain ⟨code, rr, ww, xs, ys⟩ := X
  have HX := hide hX
  clear hX
  have hl1 : xs.length ≤ 72 := hlen.1
  have hl2 : ys.length ≤ 60 := hlen.2
  clear hlen
  go_enter Try.func3, Try.ntmps3
  go_wp2_with fail
  refine (specNewGrid_calls r wd _).mono ?_
  rintro e w1 ⟨xj, yj, rfl, hj, hb1⟩
  have z1 : w.heap.size ≤ w1.heap.size := hb1.size
  have r1 := hb1
  clear hb1
  have b1 : Below w.heap.size w w1 := r1
  clear r1
  rw [HX.out] at hj ⊢
  dsimp only at hj ⊢
  obtain ⟨aj, cj, dj, ej, rfl, rfl⟩ := hj.forms
  go_wp2_with fail
  have q2 : Below w1.heap.size w1 (w1.alloc (.cells #[.int .i64 code, .int .i64 rr, .int .i64 ww, .slice aj xs.length cj, .slice dj ys.length ej] 26)) := (by repeat' (first | with_reducible exact Below.refl _ _ | with_reducible assumption | with_reducible refine Below.drew ?_ | with_reducible refine Below.alloc ?_ ?_ _ | with_reducible refine Below.setCell ?_ ?_ _ | (simp; done) | (simp; omega) | omega))
  refine (implNewGrid_calls r wd _).mono ?_
  rintro e w2 ⟨xg, yg, rfl, hg, hb2⟩
  have B0 : w2.cell? ⟨w1.heap.size, 0, none⟩ = some (.int .i64 code) := cellb hb2 (by simp)
  have B1 : w2.cell? ⟨w1.heap.size, 1, none⟩ = some (.int .i64 rr) := cellb hb2 (by simp)
  have B2 : w2.cell? ⟨w1.heap.size, 2, none⟩ = some (.int .i64 ww) := cellb hb2 (by simp)
  have B3 : w2.cell? ⟨w1.heap.size, 3, none⟩ = some (.slice aj xs.length cj) := cellb hb2 (by simp)
  have B4 : w2.cell? ⟨w1.heap.size, 4, none⟩ = some (.slice dj ys.length ej) := cellb hb2 (by simp)
  have z2 : w1.heap.size + 1 ≤ w2.heap.size := by have := hb2.size; simp at this; omega
  have r2 : Below w1.heap.size w1 w2 := q2.trans (hb2.mono (by simp; try omega))
  clear q2 hb2
  replace hj := hj.below r2 (by omega)
  have b2 : Below w.heap.size w w2 := b1.trans (r2.mono (by omega))
  clear r2 b1
  have lt2_0 : w1.heap.size < w2.heap.size := by omega
  rw [HX.out] at hg ⊢
  dsimp only at hg ⊢
  replace hg := hg.mono (lo' := (w1.heap.size + 1)) (by simp) (Nat.le_refl _)
  obtain ⟨ag, cg, dg, eg, rfl, rfl⟩ := hg.forms
  go_wp2_with fail
  have q3 : Below w2.heap.size w2 (w2.alloc (.cells #[.int .i64 code, .int .i64 rr, .int .i64 ww, .slice ag xs.length cg, .slice dg ys.length eg] 26)) := (by repeat' (first | with_reducible exact Below.refl _ _ | with_reducible assumption | with_reducible refine Below.drew ?_ | with_reducible refine Below.alloc ?_ ?_ _ | with_reducible refine Below.setCell ?_ ?_ _ | (simp; done) | (simp; omega) | omega))
  refine (eqGridResult_calls code rr ww xs ys _ _ _ _ _ (by omega) (by omega) (hg.read1.below q3) (hg.read2.below q3) (hj.read1.below q3) (hj.read2.below q3)).mono ?_
  rintro e w3 ⟨rfl, hb3⟩
  have G0 : w3.cell? ⟨w2.heap.size, 0, none⟩ = some (.int .i64 code) := cellb hb3 (by simp)
  have G1 : w3.cell? ⟨w2.heap.size, 1, none⟩ = some (.int .i64 rr) := cellb hb3 (by simp)
  have G2 : w3.cell? ⟨w2.heap.size, 2, none⟩ = some (.int .i64 ww) := cellb hb3 (by simp)
  have G3 : w3.cell? ⟨w2.heap.size, 3, none⟩ = some (.slice ag xs.length cg) := cellb hb3 (by simp)
  have G4 : w3.cell? ⟨w2.heap.size, 4, none⟩ = some (.slice dg ys.length eg) := cellb hb3 (by simp)
  have z3 : w2.heap.size + 1 ≤ w3.heap.size := by have := hb3.size; simp at this; omega
  have r3 : Below w2.heap.size w2 w3 := q3.trans (hb3.mono (by simp; try omega))
  clear q3 hb3
  replace B0 := cellb r3 B0
  replace B1 := cellb r3 B1
  replace B2 := cellb r3 B2
  replace B3 := cellb r3 B3
  replace B4 := cellb r3 B4
  replace hj := hj.below r3 (by omega)
  replace hg := hg.below r3 (by omega)
  have b3 : Below w.heap.size w w3 := b2.trans (r3.mono (by omega))
  clear r3 b2
  clear lt2_0
  have lt3_0 : w1.heap.size < w3.heap.size := by omega
  have lt3_1 : w2.heap.size < w3.heap.size := by omega
  go_wp2_with fail
  refine (markGridResult_calls code rr ww xs ys 1 (w1.heap.size + 1) w2.heap.size _ _ _ (by omega) (by omega) (by omega) (by omega) (by omega) hg).mono ?_
  rintro e w4 ⟨rfl, hm1', hb4⟩
  have z4 : w3.heap.size ≤ w4.heap.size := hb4.size
  replace B0 := hb4.cell (by omega) (by omega) B0
  replace B1 := hb4.cell (by omega) (by omega) B1
  replace B2 := hb4.cell (by omega) (by omega) B2
  replace B3 := hb4.cell (by omega) (by omega) B3
  replace B4 := hb4.cell (by omega) (by omega) B4
  replace G0 := hb4.cell (by omega) (by omega) G0
  replace G1 := hb4.cell (by omega) (by omega) G1
  replace G2 := hb4.cell (by omega) (by omega) G2
  replace G3 := hb4.cell (by omega) (by omega) G3
  replace G4 := hb4.cell (by omega) (by omega) G4
  replace hj := hj.within hb4 (by omega) (by omega)
  have b4 : Below w.heap.size w w4 := b3.trans (hb4.below (by omega) (by omega))
  clear hb4 b3
  clear lt3_0 lt3_1
  have lt4_0 : w1.heap.size < w4.heap.size := by omega
  have lt4_1 : w2.heap.size < w4.heap.size := by omega
  clear hg
  go_wp2_with fail
  refine (heldGridResult_calls code rr ww (marksP 1 xs.length) (marksP (1 + 2 * xs.length) ys.length) 1 (.slice ag xs.length cg) (.slice dg ys.length eg) _ (by rw [marksP_length]; omega) (by rw [marksP_length]; omega) (by omega) (by omega) hm1'.read1 hm1'.read2 (marksP_at 1 _) (by rw [marksP_length 1]; exact marksP_at _ _)).mono ?_
  rintro e w5 ⟨rfl, hb5⟩
  have z5 : w4.heap.size ≤ w5.heap.size := hb5.size
  have r5 := hb5
  clear hb5
  replace B0 := cellb r5 B0
  replace B1 := cellb r5 B1
  replace B2 := cellb r5 B2
  replace B3 := cellb r5 B3
  replace B4 := cellb r5 B4
  replace G0 := cellb r5 G0
  replace G1 := cellb r5 G1
  replace G2 := cellb r5 G2
  replace G3 := cellb r5 G3
  replace G4 := cellb r5 G4
  replace hj := hj.below r5 (by omega)
  replace hm1' := hm1'.below r5 (by omega)
  have b5 : Below w.heap.size w w5 := b4.trans (r5.mono (by omega))
  clear r5 b4
  clear lt4_0 lt4_1
  have lt5_0 : w1.heap.size < w5.heap.size := by omega
  have lt5_1 : w2.heap.size < w5.heap.size := by omega
  rw [marksP_length, marksP_length]
  have hk1 : ¬ ((1 : Int) + 2 * (xs.length : Int) + 2 * (ys.length : Int) < 0) := by omega
  have hk2 : (((1 : Int) + 2 * (xs.length : Int) + 2 * (ys.length : Int)) != (1 + 2 * (xs.length : Int) + 2 * (ys.length : Int))) = false := by simp
  go_wp2_with fail
  refine (implNewGrid_calls r wd _).mono ?_
  rintro e w6 ⟨xu, yu, rfl, hu, hb6⟩
  have z6 : w5.heap.size ≤ w6.heap.size := hb6.size
  have r6 := hb6
  clear hb6
  replace B0 := cellb r6 B0
  replace B1 := cellb r6 B1
  replace B2 := cellb r6 B2
  replace B3 := cellb r6 B3
  replace B4 := cellb r6 B4
  replace G0 := cellb r6 G0
  replace G1 := cellb r6 G1
  replace G2 := cellb r6 G2
  replace G3 := cellb r6 G3
  replace G4 := cellb r6 G4
  replace hj := hj.below r6 (by omega)
  replace hm1' := hm1'.below r6 (by omega)
  have b6 : Below w.heap.size w w6 := b5.trans (r6.mono (by omega))
  clear r6 b5
  clear lt5_0 lt5_1
  have lt6_0 : w1.heap.size < w6.heap.size := by omega
  have lt6_1 : w2.heap.size < w6.heap.size := by omega
  rw [HX.out] at hu ⊢
  dsimp only at hu ⊢
  obtain ⟨au, cu, du, eu, rfl, rfl⟩ := hu.forms
  go_wp2_with fail
  have q7 : Below w6.heap.size w6 (w6.alloc (.cells #[.int .i64 code, .int .i64 rr, .int .i64 ww, .slice au xs.length cu, .slice du ys.length eu] 26)) := (by repeat' (first | with_reducible exact Below.refl _ _ | with_reducible assumption | with_reducible refine Below.drew ?_ | with_reducible refine Below.alloc ?_ ?_ _ | with_reducible refine Below.setCell ?_ ?_ _ | (simp; done) | (simp; omega) | omega))
  refine (eqGridResult_calls code rr ww xs ys _ _ _ _ _ (by omega) (by omega) (hu.read1.below q7) (hu.read2.below q7) (hj.read1.below q7) (hj.read2.below q7)).mono ?_
  rintro e w7 ⟨rfl, hb7⟩
  have H0 : w7.cell? ⟨w6.heap.size, 0, none⟩ = some (.int .i64 code) := cellb hb7 (by simp)
  have H1 : w7.cell? ⟨w6.heap.size, 1, none⟩ = some (.int .i64 rr) := cellb hb7 (by simp)
  have H2 : w7.cell? ⟨w6.heap.size, 2, none⟩ = some (.int .i64 ww) := cellb hb7 (by simp)
  have H3 : w7.cell? ⟨w6.heap.size, 3, none⟩ = some (.slice au xs.length cu) := cellb hb7 (by simp)
  have H4 : w7.cell? ⟨w6.heap.size, 4, none⟩ = some (.slice du ys.length eu) := cellb hb7 (by simp)
  have z7 : w6.heap.size + 1 ≤ w7.heap.size := by have := hb7.size; simp at this; omega
  have r7 : Below w6.heap.size w6 w7 := q7.trans (hb7.mono (by simp; try omega))
  clear q7 hb7
  replace B0 := cellb r7 B0
  replace B1 := cellb r7 B1
  replace B2 := cellb r7 B2
  replace B3 := cellb r7 B3
  replace B4 := cellb r7 B4
  replace G0 := cellb r7 G0
  replace G1 := cellb r7 G1
  replace G2 := cellb r7 G2
  replace G3 := cellb r7 G3
  replace G4 := cellb r7 G4
  replace hj := hj.below r7 (by omega)
  replace hm1' := hm1'.below r7 (by omega)
  replace hu := hu.below r7 (by omega)
  have b7 : Below w.heap.size w w7 := b6.trans (r7.mono (by omega))
  clear r7 b6
  clear lt6_0 lt6_1
  have lt7_0 : w1.heap.size < w7.heap.size := by omega
  have lt7_1 : w2.heap.size < w7.heap.size := by omega
  have lt7_2 : w6.heap.size < w7.heap.size := by omega
  go_wp2_with fail
  refine (heldGridResult_calls code rr ww (marksP 1 xs.length) (marksP (1 + 2 * xs.length) ys.length) 1 (.slice ag xs.length cg) (.slice dg ys.length eg) _ (by rw [marksP_length]; omega) (by rw [marksP_length]; omega) (by omega) (by omega) hm1'.read1 hm1'.read2 (marksP_at 1 _) (by rw [marksP_length 1]; exact marksP_at _ _)).mono ?_
  rintro e w8 ⟨rfl, hb8⟩
  have z8 : w7.heap.size ≤ w8.heap.size := hb8.size
  have r8 := hb8
  clear hb8
  replace B0 := cellb r8 B0
  replace B1 := cellb r8 B1
  replace B2 := cellb r8 B2
  replace B3 := cellb r8 B3
  replace B4 := cellb r8 B4
  replace G0 := cellb r8 G0
  replace G1 := cellb r8 G1
  replace G2 := cellb r8 G2
  replace G3 := cellb r8 G3
  replace G4 := cellb r8 G4
  replace H0 := cellb r8 H0
  replace H1 := cellb r8 H1
  replace H2 := cellb r8 H2
  replace H3 := cellb r8 H3
  replace H4 := cellb r8 H4
  replace hj := hj.below r8 (by omega)
  replace hm1' := hm1'.below r8 (by omega)
  replace hu := hu.below r8 (by omega)
  have b8 : Below w.heap.size w w8 := b7.trans (r8.mono (by omega))
  clear r8 b7
  clear lt7_0 lt7_1 lt7_2
  have lt8_0 : w1.heap.size < w8.heap.size := by omega
  have lt8_1 : w2.heap.size < w8.heap.size := by omega
  have lt8_2 : w6.heap.size < w8.heap.size := by omega
  rw [marksP_length, marksP_length]
  go_wp2
  go_ret
  exact ⟨rfl, b8⟩

theorem lawNG_own : ownKnob Try.prog.godebug = none := by kernel_rfl
set_option maxRecDepth 100000 in
theorem lawNG_lifted (os : Os) (started : os.Started) (H : Type) (enc : TypeId × Value → H) :
    ReturnsInHanded {} Try.checked os 3 .any (Rows.fnExactNewGridSpec.pre6 enc Try.prog Try.f3 Rows.fnExactNewGridRow.domain false) (Rows.fnExactNewGridSpec.post enc Try.prog Try.f3 false true false false) := by
  refine returnsInHanded_of_change (C := Try.checked) lawNG_own started (by kernel_rfl) Try.func3
    (ChangeSpec.witness6 (enc := enc) (C := Try.checked) false ⟨#[], #[.int .i64 0, .int .i64 0], []⟩ 8 (by kernel_rfl) (by kernel_rfl) (by kernel_rfl) (by kernel_rfl)) ?_
  intro W base args ds gs before hval0 hW hcnd _
  have hval : ∀ (j : Nat) t v, Try.f3.params[j]? = some t → args[j]? = some v → Value.okWide Try.prog W .any base t v := hval0
  have hW' := hW
  obtain ⟨p, q, hA0, hV, rfl, hfz, hnd⟩ := hW
  have hA : DataW.TrodAll enc Try.prog W 0 (fun _ => true) true Try.f3.params.toList args.toList ds p := hA0
  rw [Try.params3] at hA hval
  obtain ⟨v0, v1, d0, d1, p0, p1, rfl, rfl, rfl, h0, h1⟩ := trodAll_two hA
  obtain ⟨rfl, rfl⟩ := trodVars_none hV
  obtain ⟨t, rfl, rfl, rfl, wt⟩ := open_int Try.underlying2 (hval 0 2 v0 rfl rfl) h0
  obtain ⟨c, rfl, rfl, rfl, wc⟩ := open_int Try.underlying2 (hval 1 2 v1 rfl rfl) h1
  clear hA0 hval0
  simp only [List.append_nil] at hW'
  refine (lawNG_walk t c W).mono fun e W' ⟨he, bel⟩ => ?_
  subst he
  exact ⟨_, rfl, _, _, _, [], [], [], hW', trodAll_mk1 (shut_bool Try.underlying4 _), trodAll_mk2 (shut_int Try.underlying2 wt) (shut_int Try.underlying2 wc), rfl, bel.frame _, fun h => by cases h⟩

theorem lawNG_over : Rows.fnExactNewGridRow.holds Try.pinned (OpenSpec.ofChange Rows.fnExactNewGridSpec) :=
  OpenClaim.holds_of_wide 3 Try.f3 rfl rfl rfl rfl rfl rfl rfl ⟨rfl, rfl, rfl, rfl, rfl⟩ rfl rfl rfl rfl rfl (by kernel_rfl) Try.func3 (by kernel_rfl)
    (of_decide_eq_true (by kernel_rfl)) (by unfold Func.isWrapper; first | (rw [if_pos (by decide +kernel)]; kernel_rfl) | (rw [if_neg (by decide +kernel)]; exact ⟨rfl, rfl⟩))
    (fun os started H enc _ => lawNG_lifted os started H enc)

theorem lawNG_proved : Rows.FnExactNewGridSaid := lawNG_over
#print axioms lawNG_proved
end Go.Proofs.Ytbndncfkkhjkoai
