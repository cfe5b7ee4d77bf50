/-
  For every two int64 the law FnExactComposeChar returns true: impl.ComposeChar answers at each accent and character what the model's ComposeChar answers. The program's table letters reads as its text lays it: the card ties that.
-/
import Derived.Test.YtcfechnkgefhcabDoorRows
import Derived.Test.YtcfechnkgefhcabDoorCards
import Derived.Test.YtcfechnkgefhcabDoorTie
import Derived.Test.YtcfechnkgefhcabDoorCompSpec
import Derived.Test.YtcfechnkgefhcabDoorCardLet
import Derived.ChangeVars
import Derived.ShutString
import Derived.ChangeOld
import Derived.Lib.SmallJoins
import Derived.LaidMore
import Derived.LaidLaws
import Derived.LaidSub
import Derived.Lib.LaidTab
import Derived.Stop.Joined
import Derived.SevenTiedAt
namespace Go.Proofs.YtcfechnkgefhcabDoor
open Go.ChangeShapes Go.WideShapes Go.ChangeAt Go.RowKit Go.Joins
set_option linter.unusedVariables false
set_option linter.unusedSimpArgs false

set_option maxRecDepth 20000
set_option maxHeartbeats 1000000 in
theorem lawCC_walk (a c : Int) (w : World) (hT : LetAt w) :
    Calls Tryd.prog 3 #[.int .i64 a, .int .i64 c] w fun e w' => e = .returned (.bool true) ∧ Below w.heap.size w w' := by
  generalize hcd : compCd a c = cd
  generalize hv : compRs a c = vl
  have HC := hide hcd
  have HV := hide hv
  have HT : Hid (∀ w', Below w.heap.size w w' → LetAt w') := hide (fun w' hb => hT.below hb)
  clear hcd hv hT
  go_enter Tryd.func3, Tryd.ntmps3
  go_wp2_with fail
  refine (specCompose_calls a c _).mono ?_
  rintro e w1 ⟨rfl, b1⟩
  rw [HC.out, HV.out]
  have q : Below w1.heap.size w1 (w1.alloc (.cells #[.int .i64 cd, .int .i64 vl] 23)) := (by repeat' (first | with_reducible exact Below.refl _ _ | with_reducible assumption | with_reducible refine Below.drew ?_ | with_reducible refine Below.alloc ?_ ?_ _ | with_reducible refine Below.setCell ?_ ?_ _ | (simp; done) | (simp; omega) | omega))
  have S0 : (w1.alloc (.cells #[.int .i64 cd, .int .i64 vl] 23)).cell? ⟨w1.heap.size, 0, none⟩ = some (.int .i64 cd) := by simp
  have S1 : (w1.alloc (.cells #[.int .i64 cd, .int .i64 vl] 23)).cell? ⟨w1.heap.size, 1, none⟩ = some (.int .i64 vl) := by simp
  go_wp2_with fail
  generalize w1.alloc (.cells #[.int .i64 cd, .int .i64 vl] 23) = w2 at *
  have b2 := b1.trans (q.mono b1.size)
  clear q
  refine (implCompose_calls a c _ (HT.out _ b2)).mono ?_
  rintro e w3 ⟨rfl, q⟩
  rw [HC.out, HV.out]
  have b3 := b2.trans (q.mono b2.size)
  replace S0 := cellb q S0
  replace S1 := cellb q S1
  clear q b2
  have q : Below w3.heap.size w3 (w3.alloc (.cells #[.int .i64 cd, .int .i64 vl] 23)) := (by repeat' (first | with_reducible exact Below.refl _ _ | with_reducible assumption | with_reducible refine Below.drew ?_ | with_reducible refine Below.alloc ?_ ?_ _ | with_reducible refine Below.setCell ?_ ?_ _ | (simp; done) | (simp; omega) | omega))
  have G0 : (w3.alloc (.cells #[.int .i64 cd, .int .i64 vl] 23)).cell? ⟨w3.heap.size, 0, none⟩ = some (.int .i64 cd) := by simp
  have G1 : (w3.alloc (.cells #[.int .i64 cd, .int .i64 vl] 23)).cell? ⟨w3.heap.size, 1, none⟩ = some (.int .i64 vl) := by simp
  replace S0 := cellb q S0
  replace S1 := cellb q S1
  have b4 := b3.trans (q.mono b3.size)
  go_wp2_with fail
  generalize w3.alloc (.cells #[.int .i64 cd, .int .i64 vl] 23) = w4 at *
  clear q
  refine (eqIntRes_calls cd vl _).mono ?_
  rintro e w5 ⟨rfl, q⟩
  have b5 := b4.trans (q.mono b4.size)
  clear q
  go_wp2
  go_ret
  exact ⟨rfl, b5⟩

theorem lawCC_laid : laidOutB Tryd.prog = true := by kernel_rfl
theorem lawCC_own : ownKnob Tryd.prog.godebug = none := by kernel_rfl
def lawCC_laidlist : List (String × DataW Unit) := [("loop.example/g00523/impl.letters", Rows.laid_loop_example_g00523_impl_letters)]
theorem lawCC_door (os : Os) (args : Array Value) : laidMetH Tryd.prog lawCC_laidlist ((World.doorLaid Tryd.prog 24 os).forCall (fun _ _ => 0) ⟨#[], args, []⟩).memory :=
  laidMetH_of_parts3 (fuel := 8) (laidMet_of_run' 8 (by kernel_rfl) (by kernel_rfl)) (by kernel_rfl) (by kernel_rfl)
theorem lawCC_kw {W : World} (h : laidMetH Tryd.prog lawCC_laidlist W) : W.var? Tryd.prog "loop.example/g00523/impl.letters" = some let_arr := by
  rw [MakeChecks.laidMetH_plain _ _ _ (by kernel_rfl)] at h
  have e : (lawCC_laidlist : List (String × DataW Unit)) = [("loop.example/g00523/impl.letters", rowsData let_zs)] := by kernel_rfl
  rw [e] at h
  exact let_met h
set_option maxRecDepth 100000 in
theorem lawCC_lifted (os : Os) (started : os.Started) (H : Type) (enc : TypeId × Value → H) :
    ReturnsInHanded {} Tryd.checked os 3 .any (fun w args => (Rows.fnExactComposeCharSpec.pre enc Tryd.prog Tryd.f3 [] false w args ∧ laidMetH Tryd.prog lawCC_laidlist w) ∧ sizedMet enc Tryd.prog Tryd.f3 (OpenSpec.ofChange Rows.fnExactComposeCharSpec) false w args)
      (Rows.fnExactComposeCharSpec.post enc Tryd.prog Tryd.f3 false true false false) := by
  refine returnsInHanded_of_change_and (C := Tryd.checked) (X := fun w _ => laidMetH Tryd.prog lawCC_laidlist w) (fun _ _ _ hh h => h.of_heap hh) lawCC_own started (by kernel_rfl) Tryd.func3
    (ChangeSpec.witness_shaped (enc := enc) (C := Tryd.checked) (os := os) (X := fun w _ => laidMetH Tryd.prog lawCC_laidlist w) false (World.doorLaid Tryd.prog 24 os) #[.int .i64 0, .int .i64 0] 8 rfl (World.shaped_of_RefB (by kernel_rfl) (by kernel_rfl)) (by kernel_rfl) (by kernel_rfl) (by kernel_rfl) (lawCC_door os _)) ?_
  intro W base args ds gs before hval0 hW _ _ hL _
  have hval : ∀ (j : Nat) t v, Tryd.f3.params[j]? = some t → args[j]? = some v → Value.okWide Tryd.prog W .any base t v := hval0
  have hW' := hW
  obtain ⟨p, q, hA0, hV, rfl, hfz, hnd⟩ := hW
  have hA : DataW.TrodAll enc Tryd.prog W 0 (fun _ => true) true Tryd.f3.params.toList args.toList ds p := hA0
  rw [Tryd.params3] at hA hval
  obtain ⟨z0, z1, d0, d1, p0, p1, rfl, rfl, rfl, h0, h1⟩ := trodAll_two hA
  have k0 := h0
  have lt0 : ∀ x ∈ p0, x.block < W.heap.size := by obtain ⟨m, hm⟩ := k0; exact DataW.trod_lt m _ _ _ hm
  have k1 := h1
  have lt1 : ∀ x ∈ p1, x.block < W.heap.size := by obtain ⟨m, hm⟩ := k1; exact DataW.trod_lt m _ _ _ hm
  have hvw := lawCC_kw hL
  obtain ⟨g, tt, cs, fuel, dv, pv', rfl, hg, ht, hvar, hd, rfl⟩ := trodVars_one hV
  obtain rfl := Option.some.inj (let_named.symm.trans hg)
  obtain rfl := Option.some.inj (let_type.symm.trans ht)
  obtain rfl : cs = let_arr := Option.some.inj (hvar.symm.trans hvw)
  obtain ⟨rfl, rfl⟩ := DataW.Trod.unique (v := .agg let_arr) ⟨fuel, hd⟩ ⟨3, let_reads enc W _⟩
  obtain ⟨a, rfl⟩ := Go.WideShapes.okWide_int Tryd.underlying2 (hval 0 2 z0 rfl rfl)
  obtain ⟨c, rfl⟩ := Go.WideShapes.okWide_int Tryd.underlying2 (hval 1 2 z1 rfl rfl)
  have hcells := let_cells hvw
  clear hA0 hval0
  refine (lawCC_walk a c W hcells).mono fun e W' ⟨he, bel⟩ => ?_
  subst he
  exact ⟨_, rfl, _, _, _, [], _, _, hW', trodAll_mk1 (shut_bool Tryd.underlying4 _), trodAll_mk2 (Below.trod lawCC_laid (by kernel_rfl) (of_decide_eq_true (by kernel_rfl)) k0 bel lt0) (Below.trod lawCC_laid (by kernel_rfl) (of_decide_eq_true (by kernel_rfl)) k1 bel lt1), trodVars_mk1 let_named let_type (let_below bel hvw) (let_reads enc W' _), bel.frame _, fun h => by cases h⟩

theorem lawCC_over : Rows.FnExactComposeCharSaid :=
  OpenClaim.holds_of_wide 3 Tryd.f3 rfl rfl rfl rfl rfl rfl rfl ⟨rfl, rfl, rfl, rfl, rfl⟩ rfl rfl rfl rfl rfl (by kernel_rfl) Tryd.func3 (by kernel_rfl)
    (of_decide_eq_true (by kernel_rfl)) (by unfold Func.isWrapper; first | (rw [if_pos (by decide +kernel)]; kernel_rfl) | (rw [if_neg (by decide +kernel)]; exact ⟨rfl, rfl⟩))
    (fun os started H enc _ => lawCC_lifted os started H enc)

theorem lawCC_proved : Rows.FnExactComposeCharCardSaid :=
  Claim7.holds_tied_plain_at .later [] [.data] true (true, "29047d2205a69e542641d0013731afbc7680345bad50c00eef4ef6a642b41d41") false
    lawCC_over (fun _ h => by cases h) (by kernel_rfl) (fun _ h => by cases h) fnExactComposeChar_row_tie rfl ⟨rfl, rfl⟩ (by kernel_rfl) rfl
    (fun f fn hf hfn => by
      obtain rfl : f = 3 := Option.some.inj ((show Tryd.prog.funcNamed Rows.fnExactComposeCharRow.func = some 3 by kernel_rfl).symm.trans hf) |>.symm
      obtain rfl : fn = Tryd.f3 := (Option.some.inj (Tryd.func3.symm.trans hfn)).symm
      exact ⟨by kernel_rfl, fun j t ht => by
        rw [Tryd.params3] at ht
        have hm : t ∈ [2, 2] := by simpa using Array.mem_of_getElem? ht
        have hall : ([2, 2].all fun u => !Tryd.prog.wantsStandIn u) = true := by kernel_rfl
        exact (show Tryd.prog.wantsStandIn t = false by simpa using List.all_eq_true.1 hall t hm)⟩)
    (by kernel_rfl)
#print axioms lawCC_proved
end Go.Proofs.YtcfechnkgefhcabDoor
