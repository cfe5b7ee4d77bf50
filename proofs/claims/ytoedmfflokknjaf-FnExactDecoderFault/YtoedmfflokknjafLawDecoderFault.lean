/-
  For every decoder the law FnExactDecoderFault returns true: impl.DecoderFault answers at each decoder what the model's DecoderFault answers. No condition.
-/
import Derived.Test.YtoedmfflokknjafRows
import Derived.Test.YtoedmfflokknjafFaults
import Derived.WalkKit
import Derived.ProofKit
import Derived.OpenShut
import Derived.ShutString
import Derived.ChangeOld
import Derived.Below
import Derived.Lib.SmallJoins
namespace Go.Proofs.Ytoedmfflokknjaf
open Go.ChangeShapes Go.WideShapes Go.ChangeAt Go.RowKit Go.Joins
set_option linter.unusedVariables false
set_option linter.unusedSimpArgs false

theorem lawDF_own : ownKnob Try.prog.godebug = none := by kernel_rfl
theorem lawDF_cells : Try.prog.cellsOf 23 = 3 := by kernel_rfl

set_option maxHeartbeats 400000 in
theorem lawDF_walk (l lo v : Int) (w : World) :
    Calls Try.prog 3 #[.agg #[.int .i64 l, .int .i64 lo, .int .i64 v]] w fun e w' => e = .returned (.bool true) ∧ Below w.heap.size w w' := by
  go_enter Try.func3, Try.ntmps3
  go_wp2_with fail
  refine (toDecoder_calls l lo v _).mono ?_
  rintro e w1 ⟨rfl, hb1⟩
  go_wp2_with fail
  refine (specFault_calls l lo v _).mono ?_
  rintro e w2 ⟨rfl, hb2⟩
  have hc : ∀ o, w2.cell? ⟨w.heap.size, o, none⟩ = (w.alloc (.cells #[.int .i64 l, .int .i64 lo, .int .i64 v] 23)).cell? ⟨w.heap.size, o, none⟩ := fun o =>
    (hb2.cell (p := ⟨w.heap.size, o, none⟩) (by have := hb1.size; simp at this; simp; omega)).trans (hb1.cell (p := ⟨w.heap.size, o, none⟩) (by simp))
  have hc0 : w2.cell? ⟨w.heap.size, 0, none⟩ = some (.int .i64 l) := by rw [hc]; simp
  have hc1 : w2.cell? ⟨w.heap.size, 1, none⟩ = some (.int .i64 lo) := by rw [hc]; simp
  have hc2 : w2.cell? ⟨w.heap.size, 2, none⟩ = some (.int .i64 v) := by rw [hc]; simp
  clear hc
  go_wp2_with fail
  refine (toDecoder_calls l lo v _).mono ?_
  rintro e w3 ⟨rfl, hb3⟩
  go_wp2_with fail
  refine (implFault_calls l lo v _).mono ?_
  rintro e w4 ⟨rfl, hb4⟩
  go_wp2
  go_ret
  refine ⟨rfl, ?_⟩
  have s1 := hb1.size
  have s2 := hb2.size
  have s3 := hb3.size
  simp at s1
  exact ((((Below.refl _ _).alloc (Nat.le_refl _) _).trans (hb1.mono (by simp))).trans (hb2.mono (by omega))).trans ((hb3.mono (by omega)).trans (hb4.mono (by omega)))

set_option maxRecDepth 100000 in
theorem lawDF_lifted (os : Os) (started : os.Started) (H : Type) (enc : TypeId × Value → H) :
    ReturnsInHanded {} Try.checked os 3 .any (Rows.fnExactDecoderFaultSpec.pre6 enc Try.prog Try.f3 Rows.fnExactDecoderFaultRow.domain false) (Rows.fnExactDecoderFaultSpec.post enc Try.prog Try.f3 false true false false) := by
  refine returnsInHanded_of_change (C := Try.checked) lawDF_own started (by kernel_rfl) Try.func3
    (ChangeSpec.witness6 (enc := enc) (C := Try.checked) false ⟨#[], #[.agg #[.int .i64 0, .int .i64 0, .int .i64 0]], []⟩ 8 (by kernel_rfl) (by kernel_rfl) (by kernel_rfl) (by kernel_rfl)) ?_
  intro W base args ds gs before hval0 hW hcnd _
  have hval : ∀ (j : Nat) t v, Try.f3.params[j]? = some t → args[j]? = some v → Value.okWide Try.prog W .any base t v := hval0
  have hW' := hW
  obtain ⟨p, q, hA0, hV, rfl, hfz, hnd⟩ := hW
  have hA : DataW.TrodAll enc Try.prog W 0 (fun _ => true) true Try.f3.params.toList args.toList ds p := hA0
  rw [Try.params3] at hA hval
  obtain ⟨v0, d0, rfl, rfl, h0⟩ := trodAll_one hA
  obtain ⟨rfl, rfl⟩ := trodVars_none hV
  obtain ⟨c0, c1, c2, y0, y1, y2, m, rfl, rfl, rfl, hy0, hy1, hy2⟩ := open_agg3 Try.underlying23 (by kernel_rfl) lawDF_cells (hval 0 23 v0 rfl rfl) h0
  obtain ⟨l, e0, rfl, w0⟩ := DataW.trod_int Try.underlying2 hy0
  obtain ⟨lo, e1, rfl, w1⟩ := DataW.trod_int Try.underlying2 hy1
  obtain ⟨v, e2, rfl, w2⟩ := DataW.trod_int Try.underlying2 hy2
  simp at e0 e1 e2
  subst e0 e1 e2
  clear hA0 hval0
  simp only [List.append_nil] at hW'
  have reads : ∀ (W' : World) (sp : Nat → Bool), DataW.Trod enc Try.prog W' 0 sp true 23 (.agg #[.int .i64 l, .int .i64 lo, .int .i64 v]) (.agg [.lit (.int .i64 l), .lit (.int .i64 lo), .lit (.int .i64 v)]) [] := fun W' sp =>
    shut_agg3 (y0 := (.lit (.int .i64 l), [])) (y1 := (.lit (.int .i64 lo), [])) (y2 := (.lit (.int .i64 v), [])) Try.underlying23 (by kernel_rfl) lawDF_cells ⟨1, by simp [DataW.trod, Try.underlying2, w0]⟩ ⟨1, by simp [DataW.trod, Try.underlying2, w1]⟩ ⟨1, by simp [DataW.trod, Try.underlying2, w2]⟩
  refine (lawDF_walk l lo v W).mono fun e W' ⟨he, bel⟩ => ?_
  subst he
  exact ⟨_, rfl, _, _, _, [], [], [], hW', trodAll_mk1 (shut_bool Try.underlying4 _), trodAll_mk1 (reads _ _), rfl, bel.frame _, fun h => by cases h⟩

theorem lawDF_over : Rows.fnExactDecoderFaultRow.holds Try.pinned (OpenSpec.ofChange Rows.fnExactDecoderFaultSpec) :=
  OpenClaim.holds_of_wide 3 Try.f3 rfl rfl rfl rfl rfl rfl rfl ⟨rfl, rfl, rfl, rfl, rfl⟩ rfl rfl rfl rfl rfl (by kernel_rfl) Try.func3 (by kernel_rfl)
    (of_decide_eq_true (by kernel_rfl)) (by unfold Func.isWrapper; first | (rw [if_pos (by decide +kernel)]; kernel_rfl) | (rw [if_neg (by decide +kernel)]; exact ⟨rfl, rfl⟩))
    (fun os started H enc _ => lawDF_lifted os started H enc)

theorem lawDF_proved : Rows.FnExactDecoderFaultSaid := lawDF_over
#print axioms lawDF_proved
end Go.Proofs.Ytoedmfflokknjaf
