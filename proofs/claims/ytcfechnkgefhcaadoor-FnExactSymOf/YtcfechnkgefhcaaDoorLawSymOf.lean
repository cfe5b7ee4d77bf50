/-
  For every list of binds, key and mods the law FnExactSymOf returns true: impl.SymOf answers there what the model's SymOf answers, and turns no argument (the law itself passes lists of more than 1048576 binds by). The program's table fewSyms reads as its text lays it: the card ties that.
-/
import Derived.Test.YtcfechnkgefhcaaDoorRows
import Derived.Test.YtcfechnkgefhcaaDoorCards
import Derived.Test.YtcfechnkgefhcaaDoorTie
import Derived.Test.YtcfechnkgefhcaaDoorSymOfFns
import Derived.Test.YtcfechnkgefhcaaDoorBindOpen
import Derived.Test.YtcfechnkgefhcaaDoorCardFew
import Derived.ChangeVars
import Derived.ShutString
import Derived.ChangeOld
import Derived.Lib.SmallJoins
import Derived.LaidMore
import Derived.LaidLaws
import Derived.LaidSub
import Derived.Lib.LaidTab
import Derived.Stop.Joined
import Derived.SevenTiedAt
namespace Go.Proofs.YtcfechnkgefhcaaDoor
set_option maxRecDepth 20000
open Go.ChangeShapes Go.WideShapes Go.ChangeAt Go.RowKit Go.Joins
set_option linter.unusedVariables false
set_option linter.unusedSimpArgs false

set_option maxRecDepth 20000
set_option maxHeartbeats 2000000 in
theorem lawSO_walk (v : Value) (bs : List Bd) (key m : Int) (w : World) (hr : QRead w v bs) (hm : bs.length ≤ maxLen) (hT : FewAt w) :
    Calls Tryd.prog 8 #[v, .int .i64 key, .int .i64 m] w fun e w' => e = .returned (.bool true) ∧ Below w.heap.size w w' := by
  obtain ⟨cd, HC⟩ : ∃ c, Hid (symCd bs key m = c) := ⟨_, hide rfl⟩
  obtain ⟨r0, H0⟩ : ∃ c, Hid ((symRs bs key m).1 = c) := ⟨_, hide rfl⟩
  obtain ⟨r1, H1⟩ : ∃ c, Hid ((symRs bs key m).2 = c) := ⟨_, hide rfl⟩
  have HT : Hid (∀ w', Below w.heap.size w w' → FewAt w') := hide (fun w' hb => hT.below hb)
  clear hT
  obtain ⟨av, cv, rfl, hr'⟩ := hr
  have HRD : Hid (∀ w', Below w.heap.size w w' → QRead w' (.slice av bs.length cv) bs) := hide (fun w' hb => (show QRead w (.slice av bs.length cv) bs from ⟨_, _, rfl, hr'⟩).below hb)
  clear hr'
  have b0 : Below w.heap.size w w := Below.refl _ _
  by_cases hn0 : (bs.length : Int) ≤ 1048576
  · have hn : bs.length ≤ 1048576 := by omega
    have hge : ¬ (1048576 - (bs.length : Int) < 0) := by omega
    go_enter Tryd.func8, Tryd.ntmps8
    go_wp2_with fail
    refine (szBindS_calls bs.length 1048576 (by omega) (by omega) av cv _ hm).mono ?_
    rintro e w' ⟨rfl, hw⟩
    rw [hw, if_pos (by omega)]
    clear hw w'
    go_wp2_with fail
    refine (toBindS_calls bs _ _ hn (HRD.out _ b0)).mono ?_
    rintro e w1 ⟨p, rfl, hp, q⟩
    have b1 := b0.trans (q.mono b0.size)
    clear q
    go_wp2_with fail
    refine (specSymOf_calls bs _ key m _ hn hp.read).mono ?_
    rintro e w2 ⟨rfl, q⟩
    have b2 := b1.trans (q.mono b1.size)
    rw [HC.out, H0.out, H1.out]
    clear hp
    clear q
    clear b1
    have q : Below w2.heap.size w2 (w2.alloc (.cells #[.int .i64 cd, .int .i64 r0, .int .i64 r1] 36)) := (by repeat' (first | with_reducible exact Below.refl _ _ | with_reducible assumption | with_reducible refine Below.drew ?_ | with_reducible refine Below.alloc ?_ ?_ _ | with_reducible refine Below.setCell ?_ ?_ _ | (simp; done) | (simp; omega) | omega))
    have S0 : (w2.alloc (.cells #[.int .i64 cd, .int .i64 r0, .int .i64 r1] 36)).cell? ⟨w2.heap.size, 0, none⟩ = some (.int .i64 cd) := by simp
    have S1 : (w2.alloc (.cells #[.int .i64 cd, .int .i64 r0, .int .i64 r1] 36)).cell? ⟨w2.heap.size, 1, none⟩ = some (.int .i64 r0) := by simp
    have S2 : (w2.alloc (.cells #[.int .i64 cd, .int .i64 r0, .int .i64 r1] 36)).cell? ⟨w2.heap.size, 2, none⟩ = some (.int .i64 r1) := by simp
    have b3 := b2.trans (q.mono b2.size)
    go_wp2_with fail
    generalize (w2.alloc (.cells #[.int .i64 cd, .int .i64 r0, .int .i64 r1] 36)) = w3 at *
    clear q b2
    refine (toBindS_calls bs _ _ hn (HRD.out _ b3)).mono ?_
    rintro e w4 ⟨x, rfl, hx, q⟩
    have b4 := b3.trans (q.mono b3.size)
    replace S0 := cellb q S0
    replace S1 := cellb q S1
    replace S2 := cellb q S2
    clear q
    clear b3
    replace hx := hx.read
    go_wp2_with fail
    refine (implSymOf_calls bs _ key m _ hn hx (HT.out _ b4)).mono ?_
    rintro e w5 ⟨rfl, q⟩
    have b5 := b4.trans (q.mono b4.size)
    replace S0 := cellb q S0
    replace S1 := cellb q S1
    replace S2 := cellb q S2
    rw [HC.out, H0.out, H1.out]
    replace hx := hx.below q
    clear q
    clear b4
    have q : Below w5.heap.size w5 (w5.alloc (.cells #[.int .i64 cd, .int .i64 r0, .int .i64 r1] 36)) := (by repeat' (first | with_reducible exact Below.refl _ _ | with_reducible assumption | with_reducible refine Below.drew ?_ | with_reducible refine Below.alloc ?_ ?_ _ | with_reducible refine Below.setCell ?_ ?_ _ | (simp; done) | (simp; omega) | omega))
    have G0 : (w5.alloc (.cells #[.int .i64 cd, .int .i64 r0, .int .i64 r1] 36)).cell? ⟨w5.heap.size, 0, none⟩ = some (.int .i64 cd) := by simp
    have G1 : (w5.alloc (.cells #[.int .i64 cd, .int .i64 r0, .int .i64 r1] 36)).cell? ⟨w5.heap.size, 1, none⟩ = some (.int .i64 r0) := by simp
    have G2 : (w5.alloc (.cells #[.int .i64 cd, .int .i64 r0, .int .i64 r1] 36)).cell? ⟨w5.heap.size, 2, none⟩ = some (.int .i64 r1) := by simp
    replace hx := hx.below q
    replace S0 := cellb q S0
    replace S1 := cellb q S1
    replace S2 := cellb q S2
    have b6 := b5.trans (q.mono b5.size)
    go_wp2_with fail
    generalize (w5.alloc (.cells #[.int .i64 cd, .int .i64 r0, .int .i64 r1] 36)) = w6 at *
    clear q b5
    refine (eqSymResult_calls cd r0 r1 _).mono ?_
    rintro e w7 ⟨rfl, q⟩
    have b7 := b6.trans (q.mono b6.size)
    replace hx := hx.below q
    replace S0 := cellb q S0
    replace S1 := cellb q S1
    replace S2 := cellb q S2
    replace G0 := cellb q G0
    replace G1 := cellb q G1
    replace G2 := cellb q G2
    clear q
    clear b6
    go_wp2_with fail
    refine (toBindS_calls bs _ _ hn (HRD.out _ b7)).mono ?_
    rintro e w8 ⟨y, rfl, hy, q⟩
    have b8 := b7.trans (q.mono b7.size)
    replace hx := hx.below q
    replace S0 := cellb q S0
    replace S1 := cellb q S1
    replace S2 := cellb q S2
    replace G0 := cellb q G0
    replace G1 := cellb q G1
    replace G2 := cellb q G2
    clear q
    clear b7
    go_wp2_with fail
    refine (eqBindS_calls bs _ _ _ (by omega) hx hy.read).mono ?_
    rintro e w9 ⟨rfl, q⟩
    have b9 := b8.trans (q.mono b8.size)
    replace hx := hx.below q
    replace S0 := cellb q S0
    replace S1 := cellb q S1
    replace S2 := cellb q S2
    replace G0 := cellb q G0
    replace G1 := cellb q G1
    replace G2 := cellb q G2
    clear q
    clear b8
    go_wp2
    go_ret
    exact ⟨rfl, b9⟩
  · have hlt : 1048576 - (bs.length : Int) < 0 := by omega
    go_enter Tryd.func8, Tryd.ntmps8
    go_wp2_with fail
    refine (szBindS_calls bs.length 1048576 (by omega) (by omega) av cv _ hm).mono ?_
    rintro e w' ⟨rfl, hw⟩
    rw [hw, if_neg (by omega)]
    clear hw w'
    go_wp2
    go_ret
    exact ⟨rfl, Below.refl _ _⟩

theorem lawSO_laid : laidOutB Tryd.prog = true := by kernel_rfl
theorem lawSO_own : ownKnob Tryd.prog.godebug = none := by kernel_rfl
def lawSO_laidlist : List (String × DataW Unit) := [("loop.example/g00523/impl.fewSyms", Rows.laid_loop_example_g00523_impl_fewSyms)]
theorem lawSO_door (os : Os) (args : Array Value) : laidMetH Tryd.prog lawSO_laidlist ((World.doorLaid Tryd.prog 24 os).forCall (fun _ _ => 0) ⟨#[], args, []⟩).memory :=
  laidMetH_of_parts3 (fuel := 8) (laidMet_of_run' 8 (by kernel_rfl) (by kernel_rfl)) (by kernel_rfl) (by kernel_rfl)
theorem lawSO_kw {W : World} (h : laidMetH Tryd.prog lawSO_laidlist W) : W.var? Tryd.prog "loop.example/g00523/impl.fewSyms" = some few_arr := by
  rw [MakeChecks.laidMetH_plain _ _ _ (by kernel_rfl)] at h
  have e : (lawSO_laidlist : List (String × DataW Unit)) = [("loop.example/g00523/impl.fewSyms", rowsData few_zs)] := by kernel_rfl
  rw [e] at h
  exact few_met h
set_option maxRecDepth 100000 in
theorem lawSO_lifted (os : Os) (started : os.Started) (H : Type) (enc : TypeId × Value → H) :
    ReturnsInHanded {} Tryd.checked os 8 .any (fun w args => (Rows.fnExactSymOfSpec.pre enc Tryd.prog Tryd.f8 [] false w args ∧ laidMetH Tryd.prog lawSO_laidlist w) ∧ sizedMet enc Tryd.prog Tryd.f8 (OpenSpec.ofChange Rows.fnExactSymOfSpec) false w args)
      (Rows.fnExactSymOfSpec.post enc Tryd.prog Tryd.f8 false true false false) := by
  refine returnsInHanded_of_change_and (C := Tryd.checked) (X := fun w _ => laidMetH Tryd.prog lawSO_laidlist w) (fun _ _ _ hh h => h.of_heap hh) lawSO_own started (by kernel_rfl) Tryd.func8
    (ChangeSpec.witness_shaped (enc := enc) (C := Tryd.checked) (os := os) (X := fun w _ => laidMetH Tryd.prog lawSO_laidlist w) false (World.doorLaid Tryd.prog 24 os) #[.slice none 0 0, .int .i64 0, .int .i64 0] 8 rfl (World.shaped_of_RefB (by kernel_rfl) (by kernel_rfl)) (by kernel_rfl) (by kernel_rfl) (by kernel_rfl) (lawSO_door os _)) ?_
  intro W base args ds gs before hval0 hW _ _ hL _
  have hval : ∀ (j : Nat) t v, Tryd.f8.params[j]? = some t → args[j]? = some v → Value.okWide Tryd.prog W .any base t v := hval0
  have hW' := hW
  obtain ⟨p, q, hA0, hV, rfl, hfz, hnd⟩ := hW
  have hA : DataW.TrodAll enc Tryd.prog W 0 (fun _ => true) true Tryd.f8.params.toList args.toList ds p := hA0
  rw [Tryd.params8] at hA hval
  obtain ⟨z0, z1, z2, d0, d1, d2, p0, p1, p2, rfl, rfl, rfl, h0, h1, h2⟩ := trodAll_three hA
  have k0 := h0
  have lt0 : ∀ x ∈ p0, x.block < W.heap.size := by obtain ⟨m, hm⟩ := k0; exact DataW.trod_lt m _ _ _ hm
  have k1 := h1
  have lt1 : ∀ x ∈ p1, x.block < W.heap.size := by obtain ⟨m, hm⟩ := k1; exact DataW.trod_lt m _ _ _ hm
  have k2 := h2
  have lt2 : ∀ x ∈ p2, x.block < W.heap.size := by obtain ⟨m, hm⟩ := k2; exact DataW.trod_lt m _ _ _ hm
  have hvw := lawSO_kw hL
  obtain ⟨g, tt, cs, fuel, dv, pv', rfl, hg, ht, hvar, hd, rfl⟩ := trodVars_one hV
  obtain rfl := Option.some.inj (few_named.symm.trans hg)
  obtain rfl := Option.some.inj (few_type.symm.trans ht)
  obtain rfl : cs = few_arr := Option.some.inj (hvar.symm.trans hvw)
  obtain ⟨rfl, rfl⟩ := DataW.Trod.unique (v := .agg few_arr) ⟨fuel, hd⟩ ⟨3, few_reads enc W _⟩
  obtain ⟨a0, n0, c0, rfl⟩ := Go.WideShapes.okWide_slice Tryd.underlying55 (hval 0 55 z0 rfl rfl)
  obtain ⟨bs, hr, hm⟩ := open_binds rfl h0
  obtain ⟨key, rfl⟩ := Go.WideShapes.okWide_int Tryd.underlying2 (hval 1 2 z1 rfl rfl)
  obtain ⟨m, rfl⟩ := Go.WideShapes.okWide_int Tryd.underlying2 (hval 2 2 z2 rfl rfl)
  have hcells := few_cells hvw
  clear hA0 hval0
  refine (lawSO_walk _ bs key m W hr hm hcells).mono fun e W' ⟨he, bel⟩ => ?_
  subst he
  exact ⟨_, rfl, _, _, _, [], _, _, hW', trodAll_mk1 (shut_bool Tryd.underlying4 _), trodAll_mk3 (Below.trod lawSO_laid (by kernel_rfl) (of_decide_eq_true (by kernel_rfl)) k0 bel lt0) (Below.trod lawSO_laid (by kernel_rfl) (of_decide_eq_true (by kernel_rfl)) k1 bel lt1) (Below.trod lawSO_laid (by kernel_rfl) (of_decide_eq_true (by kernel_rfl)) k2 bel lt2), trodVars_mk1 few_named few_type (few_below bel hvw) (few_reads enc W' _), bel.frame _, fun h => by cases h⟩

theorem lawSO_over : Rows.FnExactSymOfSaid :=
  OpenClaim.holds_of_wide 8 Tryd.f8 rfl rfl rfl rfl rfl rfl rfl ⟨rfl, rfl, rfl, rfl, rfl⟩ rfl rfl rfl rfl rfl (by kernel_rfl) Tryd.func8 (by kernel_rfl)
    (of_decide_eq_true (by kernel_rfl)) (by unfold Func.isWrapper; first | (rw [if_pos (by decide +kernel)]; kernel_rfl) | (rw [if_neg (by decide +kernel)]; exact ⟨rfl, rfl⟩))
    (fun os started H enc _ => lawSO_lifted os started H enc)

theorem lawSO_proved : Rows.FnExactSymOfCardSaid :=
  Claim7.holds_tied_plain_at .later [] [.data] true (true, "6dcc3b21a1cbd413541c898d60a5999d1e936ded4def648f8bdd9664439aae71") false
    lawSO_over (fun _ h => by cases h) (by kernel_rfl) (fun _ h => by cases h) fnExactSymOf_row_tie rfl ⟨rfl, rfl⟩ (by kernel_rfl) rfl
    (fun f fn hf hfn => by
      obtain rfl : f = 8 := Option.some.inj ((show Tryd.prog.funcNamed Rows.fnExactSymOfRow.func = some 8 by kernel_rfl).symm.trans hf) |>.symm
      obtain rfl : fn = Tryd.f8 := (Option.some.inj (Tryd.func8.symm.trans hfn)).symm
      exact ⟨by kernel_rfl, fun j t ht => by
        rw [Tryd.params8] at ht
        have hm : t ∈ [55, 2, 2] := by simpa using Array.mem_of_getElem? ht
        have hall : ([55, 2, 2].all fun u => !Tryd.prog.wantsStandIn u) = true := by kernel_rfl
        exact (show Tryd.prog.wantsStandIn t = false by simpa using List.all_eq_true.1 hall t hm)⟩)
    (by kernel_rfl)
#print axioms lawSO_proved
end Go.Proofs.YtcfechnkgefhcaaDoor
