/-
  For every sym the law FnExactSymFault returns true: impl.SymFault answers at each sym what the model's SymFault answers. The program's table fewSyms reads as its text lays it: the card ties that.
-/
import Derived.Test.YtcfechnkgefhcaaDoorRows
import Derived.Test.YtcfechnkgefhcaaDoorCards
import Derived.Test.YtcfechnkgefhcaaDoorTie
import Derived.Test.YtcfechnkgefhcaaDoorSymFns
import Derived.Test.YtcfechnkgefhcaaDoorBindOpen
import Derived.Test.YtcfechnkgefhcaaDoorCardFew
import Derived.ChangeVars
import Derived.ShutString
import Derived.ChangeOld
import Derived.Lib.SmallJoins
import Derived.LaidMore
import Derived.LaidLaws
import Derived.LaidSub
import Derived.Lib.LaidTab
import Derived.Stop.Joined
import Derived.SevenTiedAt
namespace Go.Proofs.YtcfechnkgefhcaaDoor
set_option maxRecDepth 20000
open Go.ChangeShapes Go.WideShapes Go.ChangeAt Go.RowKit Go.Joins
set_option linter.unusedVariables false
set_option linter.unusedSimpArgs false

set_option maxRecDepth 20000
set_option maxHeartbeats 1000000 in
theorem lawSF_walk (kd vl : Int) (w : World) (hT : FewAt w) :
    Calls Tryd.prog 5 #[.agg #[.int .i64 kd, .int .i64 vl]] w fun e w' => e = .returned (.bool true) ∧ Below w.heap.size w w' := by
  obtain ⟨code, HC⟩ : ∃ c, Hid (symCode kd vl = c) := ⟨_, hide rfl⟩
  have hne : (code != code) = false := by simp
  have HT : Hid (∀ w', Below w.heap.size w w' → FewAt w') := hide (fun w' hb => hT.below hb)
  clear hT
  have b0 : Below w.heap.size w (w.alloc (.cells #[.int .i64 kd, .int .i64 vl] 52)) := (by repeat' (first | with_reducible exact Below.refl _ _ | with_reducible assumption | with_reducible refine Below.drew ?_ | with_reducible refine Below.alloc ?_ ?_ _ | with_reducible refine Below.setCell ?_ ?_ _ | (simp; done) | (simp; omega) | omega))
  have A0 : (w.alloc (.cells #[.int .i64 kd, .int .i64 vl] 52)).cell? ⟨w.heap.size, 0, none⟩ = some (.int .i64 kd) := by simp
  have A1 : (w.alloc (.cells #[.int .i64 kd, .int .i64 vl] 52)).cell? ⟨w.heap.size, 1, none⟩ = some (.int .i64 vl) := by simp
  go_enter Tryd.func5, Tryd.ntmps5
  go_wp2_with fail
  generalize w.alloc (.cells #[.int .i64 kd, .int .i64 vl] 52) = w0 at *
  refine (toSym_calls kd vl _).mono ?_
  rintro e w1 ⟨rfl, q⟩
  have b1 := b0.trans (q.mono b0.size)
  replace A0 := cellb q A0
  replace A1 := cellb q A1
  clear q
  go_wp2_with fail
  refine (specSymFault_calls kd vl _).mono ?_
  rintro e w2 ⟨rfl, q⟩
  rw [HC.out]
  have b2 := b1.trans (q.mono b1.size)
  replace A0 := cellb q A0
  replace A1 := cellb q A1
  clear q
  go_wp2_with fail
  refine (toSym_calls kd vl _).mono ?_
  rintro e w3 ⟨rfl, q⟩
  have b3 := b2.trans (q.mono b2.size)
  replace A0 := cellb q A0
  replace A1 := cellb q A1
  clear q
  go_wp2_with fail
  refine (implSymFault_calls kd vl _ (HT.out _ b3)).mono ?_
  rintro e w4 ⟨rfl, q⟩
  rw [HC.out]
  have b4 := b3.trans (q.mono b3.size)
  replace A0 := cellb q A0
  replace A1 := cellb q A1
  clear q
  go_wp2
  go_ret
  exact ⟨rfl, b4⟩

theorem lawSF_laid : laidOutB Tryd.prog = true := by kernel_rfl
theorem lawSF_own : ownKnob Tryd.prog.godebug = none := by kernel_rfl
def lawSF_laidlist : List (String × DataW Unit) := [("loop.example/g00523/impl.fewSyms", Rows.laid_loop_example_g00523_impl_fewSyms)]
theorem lawSF_door (os : Os) (args : Array Value) : laidMetH Tryd.prog lawSF_laidlist ((World.doorLaid Tryd.prog 24 os).forCall (fun _ _ => 0) ⟨#[], args, []⟩).memory :=
  laidMetH_of_parts3 (fuel := 8) (laidMet_of_run' 8 (by kernel_rfl) (by kernel_rfl)) (by kernel_rfl) (by kernel_rfl)
theorem lawSF_kw {W : World} (h : laidMetH Tryd.prog lawSF_laidlist W) : W.var? Tryd.prog "loop.example/g00523/impl.fewSyms" = some few_arr := by
  rw [MakeChecks.laidMetH_plain _ _ _ (by kernel_rfl)] at h
  have e : (lawSF_laidlist : List (String × DataW Unit)) = [("loop.example/g00523/impl.fewSyms", rowsData few_zs)] := by kernel_rfl
  rw [e] at h
  exact few_met h
set_option maxRecDepth 100000 in
theorem lawSF_lifted (os : Os) (started : os.Started) (H : Type) (enc : TypeId × Value → H) :
    ReturnsInHanded {} Tryd.checked os 5 .any (fun w args => (Rows.fnExactSymFaultSpec.pre enc Tryd.prog Tryd.f5 [] false w args ∧ laidMetH Tryd.prog lawSF_laidlist w) ∧ sizedMet enc Tryd.prog Tryd.f5 (OpenSpec.ofChange Rows.fnExactSymFaultSpec) false w args)
      (Rows.fnExactSymFaultSpec.post enc Tryd.prog Tryd.f5 false true false false) := by
  refine returnsInHanded_of_change_and (C := Tryd.checked) (X := fun w _ => laidMetH Tryd.prog lawSF_laidlist w) (fun _ _ _ hh h => h.of_heap hh) lawSF_own started (by kernel_rfl) Tryd.func5
    (ChangeSpec.witness_shaped (enc := enc) (C := Tryd.checked) (os := os) (X := fun w _ => laidMetH Tryd.prog lawSF_laidlist w) false (World.doorLaid Tryd.prog 24 os) #[.agg #[.int .i64 0, .int .i64 0]] 8 rfl (World.shaped_of_RefB (by kernel_rfl) (by kernel_rfl)) (by kernel_rfl) (by kernel_rfl) (by kernel_rfl) (lawSF_door os _)) ?_
  intro W base args ds gs before hval0 hW _ _ hL _
  have hval : ∀ (j : Nat) t v, Tryd.f5.params[j]? = some t → args[j]? = some v → Value.okWide Tryd.prog W .any base t v := hval0
  have hW' := hW
  obtain ⟨p, q, hA0, hV, rfl, hfz, hnd⟩ := hW
  have hA : DataW.TrodAll enc Tryd.prog W 0 (fun _ => true) true Tryd.f5.params.toList args.toList ds p := hA0
  rw [Tryd.params5] at hA hval
  obtain ⟨z0, d0, rfl, rfl, h0⟩ := trodAll_one hA
  have k0 := h0
  have lt0 : ∀ x ∈ p, x.block < W.heap.size := by obtain ⟨m, hm⟩ := k0; exact DataW.trod_lt m _ _ _ hm
  have hvw := lawSF_kw hL
  obtain ⟨g, tt, cs, fuel, dv, pv', rfl, hg, ht, hvar, hd, rfl⟩ := trodVars_one hV
  obtain rfl := Option.some.inj (few_named.symm.trans hg)
  obtain rfl := Option.some.inj (few_type.symm.trans ht)
  obtain rfl : cs = few_arr := Option.some.inj (hvar.symm.trans hvw)
  obtain ⟨rfl, rfl⟩ := DataW.Trod.unique (v := .agg few_arr) ⟨fuel, hd⟩ ⟨3, few_reads enc W _⟩
  obtain ⟨kd, vl, rfl⟩ := open_sym (hval 0 52 z0 rfl rfl) h0
  have hcells := few_cells hvw
  clear hA0 hval0
  refine (lawSF_walk kd vl W hcells).mono fun e W' ⟨he, bel⟩ => ?_
  subst he
  exact ⟨_, rfl, _, _, _, [], _, _, hW', trodAll_mk1 (shut_bool Tryd.underlying4 _), trodAll_mk1 (Below.trod lawSF_laid (by kernel_rfl) (of_decide_eq_true (by kernel_rfl)) k0 bel lt0), trodVars_mk1 few_named few_type (few_below bel hvw) (few_reads enc W' _), bel.frame _, fun h => by cases h⟩

theorem lawSF_over : Rows.FnExactSymFaultSaid :=
  OpenClaim.holds_of_wide 5 Tryd.f5 rfl rfl rfl rfl rfl rfl rfl ⟨rfl, rfl, rfl, rfl, rfl⟩ rfl rfl rfl rfl rfl (by kernel_rfl) Tryd.func5 (by kernel_rfl)
    (of_decide_eq_true (by kernel_rfl)) (by unfold Func.isWrapper; first | (rw [if_pos (by decide +kernel)]; kernel_rfl) | (rw [if_neg (by decide +kernel)]; exact ⟨rfl, rfl⟩))
    (fun os started H enc _ => lawSF_lifted os started H enc)

theorem lawSF_proved : Rows.FnExactSymFaultCardSaid :=
  Claim7.holds_tied_plain_at .later [] [.data] true (true, "6dcc3b21a1cbd413541c898d60a5999d1e936ded4def648f8bdd9664439aae71") false
    lawSF_over (fun _ h => by cases h) (by kernel_rfl) (fun _ h => by cases h) fnExactSymFault_row_tie rfl ⟨rfl, rfl⟩ (by kernel_rfl) rfl
    (fun f fn hf hfn => by
      obtain rfl : f = 5 := Option.some.inj ((show Tryd.prog.funcNamed Rows.fnExactSymFaultRow.func = some 5 by kernel_rfl).symm.trans hf) |>.symm
      obtain rfl : fn = Tryd.f5 := (Option.some.inj (Tryd.func5.symm.trans hfn)).symm
      exact ⟨by kernel_rfl, fun j t ht => by
        rw [Tryd.params5] at ht
        have hm : t ∈ [52] := by simpa using Array.mem_of_getElem? ht
        have hall : ([52].all fun u => !Tryd.prog.wantsStandIn u) = true := by kernel_rfl
        exact (show Tryd.prog.wantsStandIn t = false by simpa using List.all_eq_true.1 hall t hm)⟩)
    (by kernel_rfl)
#print axioms lawSF_proved
end Go.Proofs.YtcfechnkgefhcaaDoor
