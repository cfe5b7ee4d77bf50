/-
  For every two int64 the law FnExactTranslateChar returns true: impl.TranslateChar answers at each table and each number what the model's TranslateChar answers. No condition.
-/
import Derived.Test.YtlkabmgindbbmahRows
import Derived.Test.YtlkabmgindbbmahTranslate
import Derived.ShutString
import Derived.ChangeOld
import Derived.Lib.SmallJoins
namespace Go.Proofs.Ytlkabmgindbbmah
open Go.ChangeShapes Go.WideShapes Go.ChangeAt Go.RowKit Go.Joins
set_option linter.unusedVariables false
set_option linter.unusedSimpArgs false

set_option maxHeartbeats 1000000 in
theorem lawTC_walk (t c : Int) (w : World) :
    Calls Try.prog 7 #[.int .i64 t, .int .i64 c] w fun e w' => e = .returned (.bool true) ∧ Below w.heap.size w w' := by
  generalize hR : trRes t c = R
  have HR := hide hR
  clear hR
  obtain ⟨x, y, hxy⟩ : ∃ x y, R = .agg #[.int .i64 x, .int .i64 y] := by rw [← HR.out]; unfold trRes; split <;> exact ⟨_, _, rfl⟩
  subst hxy
  go_enter Try.func7, Try.ntmps7
  go_wp2_with fail
  refine (specTranslate_calls t c _).mono ?_
  rintro e w1 ⟨rfl, hb1⟩
  have z1 : w.heap.size ≤ w1.heap.size := hb1.size
  have r1 := hb1
  clear hb1
  have b1 : Below w.heap.size w w1 := r1
  clear r1
  rw [unhide HR]
  go_wp2_with fail
  have q2 : Below w1.heap.size w1 (w1.alloc (.cells #[.int .i64 x, .int .i64 y] 45)) := (by repeat' (first | with_reducible exact Below.refl _ _ | with_reducible assumption | with_reducible refine Below.drew ?_ | with_reducible refine Below.alloc ?_ ?_ _ | with_reducible refine Below.setCell ?_ ?_ _ | (simp; done) | (simp; omega) | omega))
  refine (implTranslate_calls t c _).mono ?_
  rintro e w2 ⟨rfl, hb2⟩
  have B0 : w2.cell? ⟨w1.heap.size, 0, none⟩ = some (.int .i64 x) := cellb hb2 (by simp)
  have B1 : w2.cell? ⟨w1.heap.size, 1, none⟩ = some (.int .i64 y) := cellb hb2 (by simp)
  have z2 : w1.heap.size + 1 ≤ w2.heap.size := by have := hb2.size; simp at this; omega
  have r2 : Below w1.heap.size w1 w2 := q2.trans (hb2.mono (by simp; try omega))
  clear q2 hb2
  have b2 : Below w.heap.size w w2 := b1.trans (r2.mono (by omega))
  clear r2 b1
  have lt2_0 : w1.heap.size < w2.heap.size := by omega
  rw [unhide HR]
  go_wp2_with fail
  have q3 : Below w2.heap.size w2 (w2.alloc (.cells #[.int .i64 x, .int .i64 y] 45)) := (by repeat' (first | with_reducible exact Below.refl _ _ | with_reducible assumption | with_reducible refine Below.drew ?_ | with_reducible refine Below.alloc ?_ ?_ _ | with_reducible refine Below.setCell ?_ ?_ _ | (simp; done) | (simp; omega) | omega))
  refine (eqIntResult_calls x y _).mono ?_
  rintro e w3 ⟨rfl, hb3⟩
  have G0 : w3.cell? ⟨w2.heap.size, 0, none⟩ = some (.int .i64 x) := cellb hb3 (by simp)
  have G1 : w3.cell? ⟨w2.heap.size, 1, none⟩ = some (.int .i64 y) := cellb hb3 (by simp)
  have z3 : w2.heap.size + 1 ≤ w3.heap.size := by have := hb3.size; simp at this; omega
  have r3 : Below w2.heap.size w2 w3 := q3.trans (hb3.mono (by simp; try omega))
  clear q3 hb3
  replace B0 := cellb r3 B0
  replace B1 := cellb r3 B1
  have b3 : Below w.heap.size w w3 := b2.trans (r3.mono (by omega))
  clear r3 b2
  clear lt2_0
  have lt3_0 : w1.heap.size < w3.heap.size := by omega
  have lt3_1 : w2.heap.size < w3.heap.size := by omega
  go_wp2
  go_ret
  exact ⟨rfl, b3⟩

theorem lawTC_own : ownKnob Try.prog.godebug = none := by kernel_rfl
set_option maxRecDepth 100000 in
theorem lawTC_lifted (os : Os) (started : os.Started) (H : Type) (enc : TypeId × Value → H) :
    ReturnsInHanded {} Try.checked os 7 .any (Rows.fnExactTranslateCharSpec.pre6 enc Try.prog Try.f7 Rows.fnExactTranslateCharRow.domain false) (Rows.fnExactTranslateCharSpec.post enc Try.prog Try.f7 false true false false) := by
  refine returnsInHanded_of_change (C := Try.checked) lawTC_own started (by kernel_rfl) Try.func7
    (ChangeSpec.witness6 (enc := enc) (C := Try.checked) false ⟨#[], #[.int .i64 0, .int .i64 0], []⟩ 8 (by kernel_rfl) (by kernel_rfl) (by kernel_rfl) (by kernel_rfl)) ?_
  intro W base args ds gs before hval0 hW hcnd _
  have hval : ∀ (j : Nat) t v, Try.f7.params[j]? = some t → args[j]? = some v → Value.okWide Try.prog W .any base t v := hval0
  have hW' := hW
  obtain ⟨p, q, hA0, hV, rfl, hfz, hnd⟩ := hW
  have hA : DataW.TrodAll enc Try.prog W 0 (fun _ => true) true Try.f7.params.toList args.toList ds p := hA0
  rw [Try.params7] at hA hval
  obtain ⟨v0, v1, d0, d1, p0, p1, rfl, rfl, rfl, h0, h1⟩ := trodAll_two hA
  obtain ⟨rfl, rfl⟩ := trodVars_none hV
  obtain ⟨t, rfl, rfl, rfl, wt⟩ := open_int Try.underlying2 (hval 0 2 v0 rfl rfl) h0
  obtain ⟨c, rfl, rfl, rfl, wc⟩ := open_int Try.underlying2 (hval 1 2 v1 rfl rfl) h1
  clear hA0 hval0
  simp only [List.append_nil] at hW'
  refine (lawTC_walk t c W).mono fun e W' ⟨he, bel⟩ => ?_
  subst he
  exact ⟨_, rfl, _, _, _, [], [], [], hW', trodAll_mk1 (shut_bool Try.underlying4 _), trodAll_mk2 (shut_int Try.underlying2 wt) (shut_int Try.underlying2 wc), rfl, bel.frame _, fun h => by cases h⟩

theorem lawTC_over : Rows.fnExactTranslateCharRow.holds Try.pinned (OpenSpec.ofChange Rows.fnExactTranslateCharSpec) :=
  OpenClaim.holds_of_wide 7 Try.f7 rfl rfl rfl rfl rfl rfl rfl ⟨rfl, rfl, rfl, rfl, rfl⟩ rfl rfl rfl rfl rfl (by kernel_rfl) Try.func7 (by kernel_rfl)
    (of_decide_eq_true (by kernel_rfl)) (by unfold Func.isWrapper; first | (rw [if_pos (by decide +kernel)]; kernel_rfl) | (rw [if_neg (by decide +kernel)]; exact ⟨rfl, rfl⟩))
    (fun os started H enc _ => lawTC_lifted os started H enc)

theorem lawTC_proved : Rows.FnExactTranslateCharSaid := lawTC_over
#print axioms lawTC_proved
end Go.Proofs.Ytlkabmgindbbmah
