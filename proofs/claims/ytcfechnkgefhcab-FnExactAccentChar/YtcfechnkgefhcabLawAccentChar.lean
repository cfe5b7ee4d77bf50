/-
  For every int64 the law FnExactAccentChar returns true: impl.AccentChar answers at each number what the model's AccentChar answers. No condition.
-/
import Derived.Test.YtcfechnkgefhcabRows
import Derived.Test.YtcfechnkgefhcabAccFns
import Derived.ShutString
import Derived.ChangeOld
import Derived.Lib.SmallJoins
namespace Go.Proofs.Ytcfechnkgefhcab
open Go.ChangeShapes Go.WideShapes Go.ChangeAt Go.RowKit Go.Joins
set_option linter.unusedVariables false
set_option linter.unusedSimpArgs false

set_option maxHeartbeats 1000000 in
theorem lawAC_walk (a : Int) (w : World) :
    Calls Try.prog 3 #[.int .i64 a] w fun e w' => e = .returned (.bool true) ∧ Below w.heap.size w w' := by
  generalize hcd : accCd a = cd
  generalize hv : accV a = vl
  have HC := hide hcd
  have HV := hide hv
  clear hcd hv
  go_enter Try.func3, Try.ntmps3
  go_wp2_with fail
  refine (specAccent_calls a _).mono ?_
  rintro e w1 ⟨rfl, b1⟩
  rw [HC.out, HV.out]
  have q : Below w1.heap.size w1 (w1.alloc (.cells #[.int .i64 cd, .int .i64 vl] 23)) := (by repeat' (first | with_reducible exact Below.refl _ _ | with_reducible assumption | with_reducible refine Below.drew ?_ | with_reducible refine Below.alloc ?_ ?_ _ | with_reducible refine Below.setCell ?_ ?_ _ | (simp; done) | (simp; omega) | omega))
  have S0 : (w1.alloc (.cells #[.int .i64 cd, .int .i64 vl] 23)).cell? ⟨w1.heap.size, 0, none⟩ = some (.int .i64 cd) := by simp
  have S1 : (w1.alloc (.cells #[.int .i64 cd, .int .i64 vl] 23)).cell? ⟨w1.heap.size, 1, none⟩ = some (.int .i64 vl) := by simp
  go_wp2_with fail
  generalize w1.alloc (.cells #[.int .i64 cd, .int .i64 vl] 23) = w2 at *
  have b2 := b1.trans (q.mono b1.size)
  clear q
  refine (implAccent_calls a _).mono ?_
  rintro e w3 ⟨rfl, q⟩
  rw [HC.out, HV.out]
  have b3 := b2.trans (q.mono b2.size)
  replace S0 := cellb q S0
  replace S1 := cellb q S1
  clear q b2
  have q : Below w3.heap.size w3 (w3.alloc (.cells #[.int .i64 cd, .int .i64 vl] 23)) := (by repeat' (first | with_reducible exact Below.refl _ _ | with_reducible assumption | with_reducible refine Below.drew ?_ | with_reducible refine Below.alloc ?_ ?_ _ | with_reducible refine Below.setCell ?_ ?_ _ | (simp; done) | (simp; omega) | omega))
  have G0 : (w3.alloc (.cells #[.int .i64 cd, .int .i64 vl] 23)).cell? ⟨w3.heap.size, 0, none⟩ = some (.int .i64 cd) := by simp
  have G1 : (w3.alloc (.cells #[.int .i64 cd, .int .i64 vl] 23)).cell? ⟨w3.heap.size, 1, none⟩ = some (.int .i64 vl) := by simp
  replace S0 := cellb q S0
  replace S1 := cellb q S1
  have b4 := b3.trans (q.mono b3.size)
  go_wp2_with fail
  generalize w3.alloc (.cells #[.int .i64 cd, .int .i64 vl] 23) = w4 at *
  clear q
  refine (eqIntRes_calls cd vl _).mono ?_
  rintro e w5 ⟨rfl, q⟩
  have b5 := b4.trans (q.mono b4.size)
  clear q
  go_wp2
  go_ret
  exact ⟨rfl, b5⟩

theorem lawAC_own : ownKnob Try.prog.godebug = none := by kernel_rfl
set_option maxRecDepth 100000 in
theorem lawAC_lifted (os : Os) (started : os.Started) (H : Type) (enc : TypeId × Value → H) :
    ReturnsInHanded {} Try.checked os 3 .any (Rows.fnExactAccentCharSpec.pre6 enc Try.prog Try.f3 Rows.fnExactAccentCharRow.domain false) (Rows.fnExactAccentCharSpec.post enc Try.prog Try.f3 false true false false) := by
  refine returnsInHanded_of_change (C := Try.checked) lawAC_own started (by kernel_rfl) Try.func3
    (ChangeSpec.witness6 (enc := enc) (C := Try.checked) false ⟨#[], #[.int .i64 0], []⟩ 8 (by kernel_rfl) (by kernel_rfl) (by kernel_rfl) (by kernel_rfl)) ?_
  intro W base args ds gs before hval0 hW hcnd _
  have hval : ∀ (j : Nat) t v, Try.f3.params[j]? = some t → args[j]? = some v → Value.okWide Try.prog W .any base t v := hval0
  have hW' := hW
  obtain ⟨p, q, hA0, hV, rfl, hfz, hnd⟩ := hW
  have hA : DataW.TrodAll enc Try.prog W 0 (fun _ => true) true Try.f3.params.toList args.toList ds p := hA0
  rw [Try.params3] at hA hval
  obtain ⟨v0, d0, rfl, rfl, h0⟩ := trodAll_one hA
  obtain ⟨rfl, rfl⟩ := trodVars_none hV
  obtain ⟨c, rfl, rfl, rfl, wc⟩ := open_int Try.underlying2 (hval 0 2 v0 rfl rfl) h0
  clear hA0 hval0
  simp only [List.append_nil] at hW'
  refine (lawAC_walk c W).mono fun e W' ⟨he, bel⟩ => ?_
  subst he
  exact ⟨_, rfl, _, _, _, [], [], [], hW', trodAll_mk1 (shut_bool Try.underlying4 _), trodAll_mk1 (shut_int Try.underlying2 wc), rfl, bel.frame _, fun h => by cases h⟩

theorem lawAC_over : Rows.fnExactAccentCharRow.holds Try.pinned (OpenSpec.ofChange Rows.fnExactAccentCharSpec) :=
  OpenClaim.holds_of_wide 3 Try.f3 rfl rfl rfl rfl rfl rfl rfl ⟨rfl, rfl, rfl, rfl, rfl⟩ rfl rfl rfl rfl rfl (by kernel_rfl) Try.func3 (by kernel_rfl)
    (of_decide_eq_true (by kernel_rfl)) (by unfold Func.isWrapper; first | (rw [if_pos (by decide +kernel)]; kernel_rfl) | (rw [if_neg (by decide +kernel)]; exact ⟨rfl, rfl⟩))
    (fun os started H enc _ => lawAC_lifted os started H enc)

theorem lawAC_proved : Rows.FnExactAccentCharSaid := lawAC_over
#print axioms lawAC_proved
end Go.Proofs.Ytcfechnkgefhcab
