/-
  For every list of binds the law FnExactBindsFault returns true: impl.BindsFault answers at each list what the model's BindsFault answers, and turns no argument (the law itself passes lists of more than 1048576 binds by). The program's table fewSyms reads as its text lays it: the card ties that.
-/
import Derived.Test.YtcfechnkgefhcaaDoorRows
import Derived.Test.YtcfechnkgefhcaaDoorCards
import Derived.Test.YtcfechnkgefhcaaDoorTie
import Derived.Test.YtcfechnkgefhcaaDoorBindRow
import Derived.Test.YtcfechnkgefhcaaDoorBindOpen
import Derived.Test.YtcfechnkgefhcaaDoorCardFew
import Derived.ChangeVars
import Derived.ShutString
import Derived.ChangeOld
import Derived.Lib.SmallJoins
import Derived.LaidMore
import Derived.LaidLaws
import Derived.LaidSub
import Derived.Lib.LaidTab
import Derived.Stop.Joined
import Derived.SevenTiedAt
namespace Go.Proofs.YtcfechnkgefhcaaDoor
set_option maxRecDepth 20000
open Go.ChangeShapes Go.WideShapes Go.ChangeAt Go.RowKit Go.Joins
set_option linter.unusedVariables false
set_option linter.unusedSimpArgs false

set_option maxRecDepth 20000
set_option maxHeartbeats 1000000 in
theorem lawBF_walk (v : Value) (bs : List Bd) (w : World) (hr : QRead w v bs) (hm : bs.length ≤ maxLen) (hT : FewAt w) :
    Calls Tryd.prog 6 #[v] w fun e w' => e = .returned (.bool true) ∧ Below w.heap.size w w' := by
  obtain ⟨code, HC⟩ : ∃ c, Hid (bindsCode bs = c) := ⟨_, hide rfl⟩
  have hne : (code != code) = false := by simp
  have HT : Hid (∀ w', Below w.heap.size w w' → FewAt w') := hide (fun w' hb => hT.below hb)
  clear hT
  obtain ⟨av, cv, rfl, hr'⟩ := hr
  have HRD : Hid (∀ w', Below w.heap.size w w' → QRead w' (.slice av bs.length cv) bs) := hide (fun w' hb => (show QRead w (.slice av bs.length cv) bs from ⟨_, _, rfl, hr'⟩).below hb)
  clear hr'
  have b0 : Below w.heap.size w w := Below.refl _ _
  by_cases hn0 : (bs.length : Int) ≤ 1048576
  · have hn : bs.length ≤ 1048576 := by omega
    have hge : ¬ (1048576 - (bs.length : Int) < 0) := by omega
    go_enter Tryd.func6, Tryd.ntmps6
    go_wp2_with fail
    refine (szBindS_calls bs.length 1048576 (by omega) (by omega) av cv _ hm).mono ?_
    rintro e w' ⟨rfl, hw⟩
    rw [hw, if_pos (by omega)]
    clear hw w'
    go_wp2_with fail
    refine (toBindS_calls bs _ _ hn (HRD.out _ b0)).mono ?_
    rintro e w1 ⟨p, rfl, hp, q⟩
    have b1 := b0.trans (q.mono b0.size)
    clear q
    go_wp2_with fail
    refine (specBindsFault_calls bs _ _ hn hp.read).mono ?_
    rintro e w2 ⟨rfl, q⟩
    have b2 := b1.trans (q.mono b1.size)
    rw [HC.out]
    clear hp
    clear q
    clear b1
    go_wp2_with fail
    refine (toBindS_calls bs _ _ hn (HRD.out _ b2)).mono ?_
    rintro e w3 ⟨x, rfl, hx, q⟩
    have b3 := b2.trans (q.mono b2.size)
    clear q
    clear b2
    replace hx := hx.read
    go_wp2_with fail
    refine (implBindsFault_calls bs _ _ hn hx (HT.out _ b3)).mono ?_
    rintro e w4 ⟨rfl, q⟩
    have b4 := b3.trans (q.mono b3.size)
    rw [HC.out]
    replace hx := hx.below q
    clear q
    clear b3
    go_wp2_with fail
    refine (toBindS_calls bs _ _ hn (HRD.out _ b4)).mono ?_
    rintro e w5 ⟨y, rfl, hy, q⟩
    have b5 := b4.trans (q.mono b4.size)
    replace hx := hx.below q
    clear q
    clear b4
    go_wp2_with fail
    refine (eqBindS_calls bs _ _ _ (by omega) hx hy.read).mono ?_
    rintro e w6 ⟨rfl, q⟩
    have b6 := b5.trans (q.mono b5.size)
    replace hx := hx.below q
    clear q
    clear b5
    go_wp2
    go_ret
    exact ⟨rfl, b6⟩
  · have hlt : 1048576 - (bs.length : Int) < 0 := by omega
    go_enter Tryd.func6, Tryd.ntmps6
    go_wp2_with fail
    refine (szBindS_calls bs.length 1048576 (by omega) (by omega) av cv _ hm).mono ?_
    rintro e w' ⟨rfl, hw⟩
    rw [hw, if_neg (by omega)]
    clear hw w'
    go_wp2
    go_ret
    exact ⟨rfl, Below.refl _ _⟩

theorem lawBF_laid : laidOutB Tryd.prog = true := by kernel_rfl
theorem lawBF_own : ownKnob Tryd.prog.godebug = none := by kernel_rfl
def lawBF_laidlist : List (String × DataW Unit) := [("loop.example/g00523/impl.fewSyms", Rows.laid_loop_example_g00523_impl_fewSyms)]
theorem lawBF_door (os : Os) (args : Array Value) : laidMetH Tryd.prog lawBF_laidlist ((World.doorLaid Tryd.prog 24 os).forCall (fun _ _ => 0) ⟨#[], args, []⟩).memory :=
  laidMetH_of_parts3 (fuel := 8) (laidMet_of_run' 8 (by kernel_rfl) (by kernel_rfl)) (by kernel_rfl) (by kernel_rfl)
theorem lawBF_kw {W : World} (h : laidMetH Tryd.prog lawBF_laidlist W) : W.var? Tryd.prog "loop.example/g00523/impl.fewSyms" = some few_arr := by
  rw [MakeChecks.laidMetH_plain _ _ _ (by kernel_rfl)] at h
  have e : (lawBF_laidlist : List (String × DataW Unit)) = [("loop.example/g00523/impl.fewSyms", rowsData few_zs)] := by kernel_rfl
  rw [e] at h
  exact few_met h
set_option maxRecDepth 100000 in
theorem lawBF_lifted (os : Os) (started : os.Started) (H : Type) (enc : TypeId × Value → H) :
    ReturnsInHanded {} Tryd.checked os 6 .any (fun w args => (Rows.fnExactBindsFaultSpec.pre enc Tryd.prog Tryd.f6 [] false w args ∧ laidMetH Tryd.prog lawBF_laidlist w) ∧ sizedMet enc Tryd.prog Tryd.f6 (OpenSpec.ofChange Rows.fnExactBindsFaultSpec) false w args)
      (Rows.fnExactBindsFaultSpec.post enc Tryd.prog Tryd.f6 false true false false) := by
  refine returnsInHanded_of_change_and (C := Tryd.checked) (X := fun w _ => laidMetH Tryd.prog lawBF_laidlist w) (fun _ _ _ hh h => h.of_heap hh) lawBF_own started (by kernel_rfl) Tryd.func6
    (ChangeSpec.witness_shaped (enc := enc) (C := Tryd.checked) (os := os) (X := fun w _ => laidMetH Tryd.prog lawBF_laidlist w) false (World.doorLaid Tryd.prog 24 os) #[.slice none 0 0] 8 rfl (World.shaped_of_RefB (by kernel_rfl) (by kernel_rfl)) (by kernel_rfl) (by kernel_rfl) (by kernel_rfl) (lawBF_door os _)) ?_
  intro W base args ds gs before hval0 hW _ _ hL _
  have hval : ∀ (j : Nat) t v, Tryd.f6.params[j]? = some t → args[j]? = some v → Value.okWide Tryd.prog W .any base t v := hval0
  have hW' := hW
  obtain ⟨p, q, hA0, hV, rfl, hfz, hnd⟩ := hW
  have hA : DataW.TrodAll enc Tryd.prog W 0 (fun _ => true) true Tryd.f6.params.toList args.toList ds p := hA0
  rw [Tryd.params6] at hA hval
  obtain ⟨z0, d0, rfl, rfl, h0⟩ := trodAll_one hA
  have k0 := h0
  have lt0 : ∀ x ∈ p, x.block < W.heap.size := by obtain ⟨m, hm⟩ := k0; exact DataW.trod_lt m _ _ _ hm
  have hvw := lawBF_kw hL
  obtain ⟨g, tt, cs, fuel, dv, pv', rfl, hg, ht, hvar, hd, rfl⟩ := trodVars_one hV
  obtain rfl := Option.some.inj (few_named.symm.trans hg)
  obtain rfl := Option.some.inj (few_type.symm.trans ht)
  obtain rfl : cs = few_arr := Option.some.inj (hvar.symm.trans hvw)
  obtain ⟨rfl, rfl⟩ := DataW.Trod.unique (v := .agg few_arr) ⟨fuel, hd⟩ ⟨3, few_reads enc W _⟩
  obtain ⟨a0, n0, c0, rfl⟩ := Go.WideShapes.okWide_slice Tryd.underlying55 (hval 0 55 z0 rfl rfl)
  obtain ⟨bs, hr, hm⟩ := open_binds rfl h0
  have hcells := few_cells hvw
  clear hA0 hval0
  refine (lawBF_walk _ bs W hr hm hcells).mono fun e W' ⟨he, bel⟩ => ?_
  subst he
  exact ⟨_, rfl, _, _, _, [], _, _, hW', trodAll_mk1 (shut_bool Tryd.underlying4 _), trodAll_mk1 (Below.trod lawBF_laid (by kernel_rfl) (of_decide_eq_true (by kernel_rfl)) k0 bel lt0), trodVars_mk1 few_named few_type (few_below bel hvw) (few_reads enc W' _), bel.frame _, fun h => by cases h⟩

theorem lawBF_over : Rows.FnExactBindsFaultSaid :=
  OpenClaim.holds_of_wide 6 Tryd.f6 rfl rfl rfl rfl rfl rfl rfl ⟨rfl, rfl, rfl, rfl, rfl⟩ rfl rfl rfl rfl rfl (by kernel_rfl) Tryd.func6 (by kernel_rfl)
    (of_decide_eq_true (by kernel_rfl)) (by unfold Func.isWrapper; first | (rw [if_pos (by decide +kernel)]; kernel_rfl) | (rw [if_neg (by decide +kernel)]; exact ⟨rfl, rfl⟩))
    (fun os started H enc _ => lawBF_lifted os started H enc)

theorem lawBF_proved : Rows.FnExactBindsFaultCardSaid :=
  Claim7.holds_tied_plain_at .later [] [.data] true (true, "6dcc3b21a1cbd413541c898d60a5999d1e936ded4def648f8bdd9664439aae71") false
    lawBF_over (fun _ h => by cases h) (by kernel_rfl) (fun _ h => by cases h) fnExactBindsFault_row_tie rfl ⟨rfl, rfl⟩ (by kernel_rfl) rfl
    (fun f fn hf hfn => by
      obtain rfl : f = 6 := Option.some.inj ((show Tryd.prog.funcNamed Rows.fnExactBindsFaultRow.func = some 6 by kernel_rfl).symm.trans hf) |>.symm
      obtain rfl : fn = Tryd.f6 := (Option.some.inj (Tryd.func6.symm.trans hfn)).symm
      exact ⟨by kernel_rfl, fun j t ht => by
        rw [Tryd.params6] at ht
        have hm : t ∈ [55] := by simpa using Array.mem_of_getElem? ht
        have hall : ([55].all fun u => !Tryd.prog.wantsStandIn u) = true := by kernel_rfl
        exact (show Tryd.prog.wantsStandIn t = false by simpa using List.all_eq_true.1 hall t hm)⟩)
    (by kernel_rfl)
#print axioms lawBF_proved
end Go.Proofs.YtcfechnkgefhcaaDoor
