/-
  For every number the law FnExactEncodeChar returns true: impl.EncodeChar answers at each int64 what the model's EncodeChar answers, and its bytes are memory of its own. No condition.
-/
import Derived.Test.YtoedmfflokknjagRows
import Derived.Test.YtoedmfflokknjagEncChar
import Derived.ShutString
import Derived.ChangeOld
import Derived.Lib.SmallJoins
namespace Go.Proofs.Ytoedmfflokknjag
open Go.ChangeShapes Go.WideShapes Go.ChangeAt Go.RowKit Go.Joins
set_option linter.unusedVariables false
set_option linter.unusedSimpArgs false

set_option maxHeartbeats 1000000 in
theorem lawEC_walk (c : Int) (w : World) :
    Calls Try.prog 5 #[.int .i64 c] w fun e w' => e = .returned (.bool true) ∧ Below w.heap.size w w' := by
  generalize hxs : encBytes c = xs
  have hlen : xs.length ≤ 3 := by rw [← hxs]; exact encBytes_length c
  have HXS := hide hxs
  clear hxs
  go_enter Try.func5, Try.ntmps5
  go_wp2_with fail
  refine (specEncodeChar_calls c _).mono ?_
  rintro e w1 ⟨x0, rfl, hx0, hb1⟩
  have z1 : w.heap.size ≤ w1.heap.size := hb1.size
  have r1 := hb1
  clear hb1
  have b1 : Below w.heap.size w w1 := r1
  clear r1
  rw [unhide HXS] at hx0
  obtain ⟨a0, c0, rfl, hx0'⟩ := hx0
  have hx0 : IntsAt .u8 w.heap.size w1.heap.size w1 (.slice a0 xs.length c0) xs := ⟨a0, c0, rfl, hx0'⟩
  clear hx0'
  go_wp2_with fail
  have q2 : Below w1.heap.size w1 (w1.alloc (.cells #[.int .i64 (encCode c), .slice a0 xs.length c0] 40)) := (by repeat (first | exact Below.refl _ _ | assumption | refine Below.drew ?_ | refine Below.alloc ?_ (by first | (simp; done) | (simp; omega) | omega) _ | refine Below.setCell ?_ (by first | (simp; done) | (simp; omega) | omega) _))
  refine (implEncodeChar_calls c _).mono ?_
  rintro e w2 ⟨x1, rfl, hx1, hb2⟩
  have B0 : w2.cell? ⟨w1.heap.size, 0, none⟩ = some (.int .i64 (encCode c)) := cellb hb2 (by simp)
  have B1 : w2.cell? ⟨w1.heap.size, 1, none⟩ = some (.slice a0 xs.length c0) := cellb hb2 (by simp)
  have z2 : w1.heap.size + 1 ≤ w2.heap.size := by have := hb2.size; simp at this; omega
  have r2 : Below w1.heap.size w1 w2 := q2.trans (hb2.mono (by simp; try omega))
  clear q2 hb2
  replace hx0 := hx0.below r2 (by omega)
  have b2 : Below w.heap.size w w2 := b1.trans (r2.mono (by omega))
  clear r2 b1
  have lt2_0 : w1.heap.size < w2.heap.size := by omega
  rw [unhide HXS] at hx1
  replace hx1 := hx1.mono (lo' := w1.heap.size + 1) (by simp) (Nat.le_refl _)
  obtain ⟨a1, c1, rfl, hx1'⟩ := hx1
  have hx1 : IntsAt .u8 (w1.heap.size + 1) w2.heap.size w2 (.slice a1 xs.length c1) xs := ⟨a1, c1, rfl, hx1'⟩
  clear hx1'
  go_wp2_with fail
  have q3 : Below w2.heap.size w2 (w2.alloc (.cells #[.int .i64 (encCode c), .slice a1 xs.length c1] 40)) := (by repeat (first | exact Below.refl _ _ | assumption | refine Below.drew ?_ | refine Below.alloc ?_ (by first | (simp; done) | (simp; omega) | omega) _ | refine Below.setCell ?_ (by first | (simp; done) | (simp; omega) | omega) _))
  refine (eqBytesResult_calls (encCode c) xs _ _ _ (by omega) (hx1.read.below q3) (hx0.read.below q3)).mono ?_
  rintro e w3 ⟨rfl, hb3⟩
  have G0 : w3.cell? ⟨w2.heap.size, 0, none⟩ = some (.int .i64 (encCode c)) := cellb hb3 (by simp)
  have G1 : w3.cell? ⟨w2.heap.size, 1, none⟩ = some (.slice a1 xs.length c1) := cellb hb3 (by simp)
  have z3 : w2.heap.size + 1 ≤ w3.heap.size := by have := hb3.size; simp at this; omega
  have r3 : Below w2.heap.size w2 w3 := q3.trans (hb3.mono (by simp; try omega))
  clear q3 hb3
  replace B0 := cellb r3 B0
  replace B1 := cellb r3 B1
  replace hx0 := hx0.below r3 (by omega)
  replace hx1 := hx1.below r3 (by omega)
  have b3 : Below w.heap.size w w3 := b2.trans (r3.mono (by omega))
  clear r3 b2
  clear lt2_0
  have lt3_0 : w1.heap.size < w3.heap.size := by omega
  have lt3_1 : w2.heap.size < w3.heap.size := by omega
  go_wp2_with fail
  refine (markBytesResult_calls (encCode c) xs 1 (w1.heap.size + 1) w2.heap.size _ _ (by omega) (by omega) (by omega) (by omega) hx1).mono ?_
  rintro e w4 ⟨rfl, hm1, hb4⟩
  have z4 : w3.heap.size ≤ w4.heap.size := hb4.size
  replace B0 := hb4.cell (by omega) (by omega) B0
  replace B1 := hb4.cell (by omega) (by omega) B1
  replace G0 := hb4.cell (by omega) (by omega) G0
  replace G1 := hb4.cell (by omega) (by omega) G1
  replace hx0 := hx0.within hb4 (by omega) (by omega)
  have b4 : Below w.heap.size w w4 := b3.trans (hb4.below (by omega) (by omega))
  clear hb4 b3
  clear lt3_0 lt3_1
  have lt4_0 : w1.heap.size < w4.heap.size := by omega
  have lt4_1 : w2.heap.size < w4.heap.size := by omega
  clear hx1
  go_wp2_with fail
  refine (heldBytesResult_calls (encCode c) (marksB 1 xs.length) 1 (.slice a1 xs.length c1) _ (by rw [marksB_length]; omega) (by omega) (by omega) hm1.read (marksB_at 1 _)).mono ?_
  rintro e w5 ⟨rfl, hb5⟩
  have z5 : w4.heap.size ≤ w5.heap.size := hb5.size
  have r5 := hb5
  clear hb5
  replace B0 := cellb r5 B0
  replace B1 := cellb r5 B1
  replace G0 := cellb r5 G0
  replace G1 := cellb r5 G1
  replace hx0 := hx0.below r5 (by omega)
  replace hm1 := hm1.below r5 (by omega)
  have b5 : Below w.heap.size w w5 := b4.trans (r5.mono (by omega))
  clear r5 b4
  clear lt4_0 lt4_1
  have lt5_0 : w1.heap.size < w5.heap.size := by omega
  have lt5_1 : w2.heap.size < w5.heap.size := by omega
  rw [marksB_length]
  go_wp2_with fail
  refine (implEncodeChar_calls c _).mono ?_
  rintro e w6 ⟨x2, rfl, hx2, hb6⟩
  have z6 : w5.heap.size ≤ w6.heap.size := hb6.size
  have r6 := hb6
  clear hb6
  replace B0 := cellb r6 B0
  replace B1 := cellb r6 B1
  replace G0 := cellb r6 G0
  replace G1 := cellb r6 G1
  replace hx0 := hx0.below r6 (by omega)
  replace hm1 := hm1.below r6 (by omega)
  have b6 : Below w.heap.size w w6 := b5.trans (r6.mono (by omega))
  clear r6 b5
  clear lt5_0 lt5_1
  have lt6_0 : w1.heap.size < w6.heap.size := by omega
  have lt6_1 : w2.heap.size < w6.heap.size := by omega
  rw [unhide HXS] at hx2
  obtain ⟨a2, c2, rfl, hx2'⟩ := hx2
  have hx2 : IntsAt .u8 w5.heap.size w6.heap.size w6 (.slice a2 xs.length c2) xs := ⟨a2, c2, rfl, hx2'⟩
  clear hx2'
  go_wp2_with fail
  have q7 : Below w6.heap.size w6 (w6.alloc (.cells #[.int .i64 (encCode c), .slice a2 xs.length c2] 40)) := (by repeat (first | exact Below.refl _ _ | assumption | refine Below.drew ?_ | refine Below.alloc ?_ (by first | (simp; done) | (simp; omega) | omega) _ | refine Below.setCell ?_ (by first | (simp; done) | (simp; omega) | omega) _))
  refine (eqBytesResult_calls (encCode c) xs _ _ _ (by omega) (hx2.read.below q7) (hx0.read.below q7)).mono ?_
  rintro e w7 ⟨rfl, hb7⟩
  have H0 : w7.cell? ⟨w6.heap.size, 0, none⟩ = some (.int .i64 (encCode c)) := cellb hb7 (by simp)
  have H1 : w7.cell? ⟨w6.heap.size, 1, none⟩ = some (.slice a2 xs.length c2) := cellb hb7 (by simp)
  have z7 : w6.heap.size + 1 ≤ w7.heap.size := by have := hb7.size; simp at this; omega
  have r7 : Below w6.heap.size w6 w7 := q7.trans (hb7.mono (by simp; try omega))
  clear q7 hb7
  replace B0 := cellb r7 B0
  replace B1 := cellb r7 B1
  replace G0 := cellb r7 G0
  replace G1 := cellb r7 G1
  replace hx0 := hx0.below r7 (by omega)
  replace hm1 := hm1.below r7 (by omega)
  replace hx2 := hx2.below r7 (by omega)
  have b7 : Below w.heap.size w w7 := b6.trans (r7.mono (by omega))
  clear r7 b6
  clear lt6_0 lt6_1
  have lt7_0 : w1.heap.size < w7.heap.size := by omega
  have lt7_1 : w2.heap.size < w7.heap.size := by omega
  have lt7_2 : w6.heap.size < w7.heap.size := by omega
  go_wp2_with fail
  refine (heldBytesResult_calls (encCode c) (marksB 1 xs.length) 1 (.slice a1 xs.length c1) _ (by rw [marksB_length]; omega) (by omega) (by omega) hm1.read (marksB_at 1 _)).mono ?_
  rintro e w8 ⟨rfl, hb8⟩
  have z8 : w7.heap.size ≤ w8.heap.size := hb8.size
  have r8 := hb8
  clear hb8
  replace B0 := cellb r8 B0
  replace B1 := cellb r8 B1
  replace G0 := cellb r8 G0
  replace G1 := cellb r8 G1
  replace H0 := cellb r8 H0
  replace H1 := cellb r8 H1
  replace hx0 := hx0.below r8 (by omega)
  replace hm1 := hm1.below r8 (by omega)
  replace hx2 := hx2.below r8 (by omega)
  have b8 : Below w.heap.size w w8 := b7.trans (r8.mono (by omega))
  clear r8 b7
  clear lt7_0 lt7_1 lt7_2
  have lt8_0 : w1.heap.size < w8.heap.size := by omega
  have lt8_1 : w2.heap.size < w8.heap.size := by omega
  have lt8_2 : w6.heap.size < w8.heap.size := by omega
  rw [marksB_length]
  go_wp2
  go_ret
  exact ⟨rfl, b8⟩

theorem lawEC_own : ownKnob Try.prog.godebug = none := by kernel_rfl
set_option maxRecDepth 100000 in
theorem lawEC_lifted (os : Os) (started : os.Started) (H : Type) (enc : TypeId × Value → H) :
    ReturnsInHanded {} Try.checked os 5 .any (Rows.fnExactEncodeCharSpec.pre6 enc Try.prog Try.f5 Rows.fnExactEncodeCharRow.domain false) (Rows.fnExactEncodeCharSpec.post enc Try.prog Try.f5 false true false false) := by
  refine returnsInHanded_of_change (C := Try.checked) lawEC_own started (by kernel_rfl) Try.func5
    (ChangeSpec.witness6 (enc := enc) (C := Try.checked) false ⟨#[], #[.int .i64 0], []⟩ 8 (by kernel_rfl) (by kernel_rfl) (by kernel_rfl) (by kernel_rfl)) ?_
  intro W base args ds gs before hval0 hW hcnd _
  have hval : ∀ (j : Nat) t v, Try.f5.params[j]? = some t → args[j]? = some v → Value.okWide Try.prog W .any base t v := hval0
  have hW' := hW
  obtain ⟨p, q, hA0, hV, rfl, hfz, hnd⟩ := hW
  have hA : DataW.TrodAll enc Try.prog W 0 (fun _ => true) true Try.f5.params.toList args.toList ds p := hA0
  rw [Try.params5] at hA hval
  obtain ⟨v0, d0, rfl, rfl, h0⟩ := trodAll_one hA
  obtain ⟨rfl, rfl⟩ := trodVars_none hV
  obtain ⟨c, rfl, rfl, rfl, wc⟩ := open_int Try.underlying2 (hval 0 2 v0 rfl rfl) h0
  clear hA0 hval0
  simp only [List.append_nil] at hW'
  refine (lawEC_walk c W).mono fun e W' ⟨he, bel⟩ => ?_
  subst he
  exact ⟨_, rfl, _, _, _, [], [], [], hW', trodAll_mk1 (shut_bool Try.underlying4 _), trodAll_mk1 (shut_int Try.underlying2 wc), rfl, bel.frame _, fun h => by cases h⟩

theorem lawEC_over : Rows.fnExactEncodeCharRow.holds Try.pinned (OpenSpec.ofChange Rows.fnExactEncodeCharSpec) :=
  OpenClaim.holds_of_wide 5 Try.f5 rfl rfl rfl rfl rfl rfl rfl ⟨rfl, rfl, rfl, rfl, rfl⟩ rfl rfl rfl rfl rfl (by kernel_rfl) Try.func5 (by kernel_rfl)
    (of_decide_eq_true (by kernel_rfl)) (by unfold Func.isWrapper; first | (rw [if_pos (by decide +kernel)]; kernel_rfl) | (rw [if_neg (by decide +kernel)]; exact ⟨rfl, rfl⟩))
    (fun os started H enc _ => lawEC_lifted os started H enc)

theorem lawEC_proved : Rows.FnExactEncodeCharSaid := lawEC_over
#print axioms lawEC_proved
end Go.Proofs.Ytoedmfflokknjag
