/-
  For every code of bytes the law FnBinds returns true: what is put is found again, other keys are as they were, the list stays fine, and SymFault and SymOf answer as the model's do (the law itself passes codes of more than 1048576 bytes by). The program's table fewSyms reads as its text lays it: the card ties that.
-/
import Derived.Test.YtcfechnkgefhcaaDoorRows
import Derived.Test.YtcfechnkgefhcaaDoorCards
import Derived.Test.YtcfechnkgefhcaaDoorTie
import Derived.Test.YtcfechnkgefhcaaDoorLawBinds
import Derived.Test.YtcfechnkgefhcaaDoorCardFew
import Derived.ChangeVars
import Derived.ShutString
import Derived.ChangeOld
import Derived.Lib.SmallJoins
import Derived.LaidMore
import Derived.LaidLaws
import Derived.LaidSub
import Derived.Lib.LaidTab
import Derived.Stop.Joined
import Derived.SevenTiedAt
namespace Go.Proofs.YtcfechnkgefhcaaDoor
set_option maxRecDepth 20000
open Go.ChangeShapes Go.WideShapes Go.ChangeAt Go.RowKit Go.Joins
set_option linter.unusedVariables false
set_option linter.unusedSimpArgs false

set_option maxRecDepth 20000
theorem lawBinds_big (zs : List Int) (a : Option Addr) (cap : Nat) (w : World) (hlen : ¬ zs.length ≤ 1048576) (hm : zs.length ≤ maxLen) :
    Calls Tryd.prog 3 #[.slice a zs.length cap] w fun e w' => e = .returned (.bool true) ∧ Below w.heap.size w w' := by
  have hgt : (1048576 : Int) < (zs.length : Int) := by omega
  go_enter Tryd.func3, Tryd.ntmps3
  go_wp2_with (first | (go_at_call 9; go_in))
  go_ret
  exact ⟨rfl, Below.refl _ _⟩

theorem lawBinds_take {k : IntKind} {w : World} {x : Addr} {len cap : Nat} {zs : List Int} (hz : zs.length = cap) (hl : len ≤ cap) (hm : cap ≤ maxLen) (hcell : ∀ i, i < zs.length → w.cell? (x.add i) = some (.int k (zs.getD i 0))) (P : Int → Prop) (hP : ∀ z ∈ zs, P z) : ∃ ys, ReadAt k w (.slice (some x) len cap) ys ∧ ys.length ≤ maxLen ∧ (∀ z ∈ ys, P z) ∧ ys.length = len := by
  have hlen : (zs.take len).length = len := by rw [List.length_take]; omega
  refine ⟨zs.take len, ⟨_, _, by rw [hlen], ?_⟩, by omega, fun z h => hP z (List.mem_of_mem_take h), hlen⟩
  by_cases h0 : len = 0
  · exact .inl (List.length_eq_zero_iff.1 (by omega))
  · right
    obtain ⟨b, off, spot⟩ := x
    have hc := hcell 0 (by omega)
    have hspot : spot = none := by simpa [Addr.add] using World.cell?_spot hc
    subst hspot
    refine ⟨b, off, rfl, fun i hi => ?_⟩
    rw [hlen] at hi
    have := hcell i (by omega)
    rw [show ((⟨b, off, none⟩ : Addr).add i) = ⟨b, off + i, none⟩ from by simp [Addr.add]] at this
    rw [show (zs.take len).getD i 0 = zs.getD i 0 from by simp [List.getD_eq_getElem?_getD, List.getElem?_take_of_lt hi]]
    exact this

theorem lawBinds_laid : laidOutB Tryd.prog = true := by kernel_rfl
theorem lawBinds_own : ownKnob Tryd.prog.godebug = none := by kernel_rfl
def lawBinds_laidlist : List (String × DataW Unit) := [("loop.example/g00523/impl.fewSyms", Rows.laid_loop_example_g00523_impl_fewSyms)]
theorem lawBinds_door (os : Os) (args : Array Value) : laidMetH Tryd.prog lawBinds_laidlist ((World.doorLaid Tryd.prog 24 os).forCall (fun _ _ => 0) ⟨#[], args, []⟩).memory :=
  laidMetH_of_parts3 (fuel := 8) (laidMet_of_run' 8 (by kernel_rfl) (by kernel_rfl)) (by kernel_rfl) (by kernel_rfl)
theorem lawBinds_kw {W : World} (h : laidMetH Tryd.prog lawBinds_laidlist W) : W.var? Tryd.prog "loop.example/g00523/impl.fewSyms" = some few_arr := by
  rw [MakeChecks.laidMetH_plain _ _ _ (by kernel_rfl)] at h
  have e : (lawBinds_laidlist : List (String × DataW Unit)) = [("loop.example/g00523/impl.fewSyms", rowsData few_zs)] := by kernel_rfl
  rw [e] at h
  exact few_met h
set_option maxRecDepth 100000 in
theorem lawBinds_lifted (os : Os) (started : os.Started) (H : Type) (enc : TypeId × Value → H) :
    ReturnsInHanded {} Tryd.checked os 3 .any (fun w args => (Rows.fnBindsSpec.pre enc Tryd.prog Tryd.f3 [] false w args ∧ laidMetH Tryd.prog lawBinds_laidlist w) ∧ sizedMet enc Tryd.prog Tryd.f3 (OpenSpec.ofChange Rows.fnBindsSpec) false w args)
      (Rows.fnBindsSpec.post enc Tryd.prog Tryd.f3 false true false false) := by
  refine returnsInHanded_of_change_and (C := Tryd.checked) (X := fun w _ => laidMetH Tryd.prog lawBinds_laidlist w) (fun _ _ _ hh h => h.of_heap hh) lawBinds_own started (by kernel_rfl) Tryd.func3
    (ChangeSpec.witness_shaped (enc := enc) (C := Tryd.checked) (os := os) (X := fun w _ => laidMetH Tryd.prog lawBinds_laidlist w) false (World.doorLaid Tryd.prog 24 os) #[.slice none 0 0] 8 rfl (World.shaped_of_RefB (by kernel_rfl) (by kernel_rfl)) (by kernel_rfl) (by kernel_rfl) (by kernel_rfl) (lawBinds_door os _)) ?_
  intro W base args ds gs before hval0 hW _ _ hL _
  have hval : ∀ (j : Nat) t v, Tryd.f3.params[j]? = some t → args[j]? = some v → Value.okWide Tryd.prog W .any base t v := hval0
  have hW' := hW
  obtain ⟨p, q, hA0, hV, rfl, hfz, hnd⟩ := hW
  have hA : DataW.TrodAll enc Tryd.prog W 0 (fun _ => true) true Tryd.f3.params.toList args.toList ds p := hA0
  rw [Tryd.params3] at hA hval
  obtain ⟨z0, d0, rfl, rfl, h0⟩ := trodAll_one hA
  have k0 := h0
  have lt0 : ∀ x ∈ p, x.block < W.heap.size := by obtain ⟨m, hm⟩ := k0; exact DataW.trod_lt m _ _ _ hm
  have hvw := lawBinds_kw hL
  obtain ⟨g, tt, cs, fuel, dv, pv', rfl, hg, ht, hvar, hd, rfl⟩ := trodVars_one hV
  obtain rfl := Option.some.inj (few_named.symm.trans hg)
  obtain rfl := Option.some.inj (few_type.symm.trans ht)
  obtain rfl : cs = few_arr := Option.some.inj (hvar.symm.trans hvw)
  obtain ⟨rfl, rfl⟩ := DataW.Trod.unique (v := .agg few_arr) ⟨fuel, hd⟩ ⟨3, few_reads enc W _⟩
  obtain ⟨a0, len0, cap0, rfl⟩ := okWide_slice Tryd.underlying22 (hval 0 22 z0 rfl rfl)
  obtain ⟨zs, w0, wm, wz, rfl⟩ : ∃ zs, ReadAt .u8 W (.slice a0 len0 cap0) zs ∧ zs.length ≤ maxLen ∧ (∀ z ∈ zs, 0 ≤ z ∧ z ≤ 255) ∧ zs.length = len0 := by
    obtain ⟨fuel, hf⟩ := h0
    rcases open_ints Tryd.underlying22 Tryd.underlying5 (by kernel_rfl) hf with ⟨hcs, _⟩ | ⟨x, l, c, zs, hcs, _, hl, hm, hz, _, hcell, hwz⟩
    · simp [Value.cells] at hcs
      obtain ⟨rfl, rfl, rfl⟩ := hcs
      exact ⟨[], ReadAt.nil _ _ _ _, by simp, by simp, by simp⟩
    · simp [Value.cells] at hcs
      obtain ⟨rfl, rfl, rfl⟩ := hcs
      exact lawBinds_take (by simpa using hz) hl hm hcell _ (fun z h => by simpa [Lit.wf, IntKind.min, IntKind.max, IntKind.signed, IntKind.bits] using hwz z h)
  have walk : FewAt W → Calls Tryd.prog 3 #[.slice a0 zs.length cap0] W fun e W' => e = .returned (.bool true) ∧ Below W.heap.size W W' := by
    intro hT
    by_cases hlen : zs.length ≤ 1048576
    · exact lawBinds_walk zs a0 cap0 W w0 wz hlen hT
    · exact lawBinds_big zs a0 cap0 W hlen wm
  have hcells := few_cells hvw
  clear hA0 hval0
  refine (walk hcells).mono fun e W' ⟨he, bel⟩ => ?_
  subst he
  exact ⟨_, rfl, _, _, _, [], _, _, hW', trodAll_mk1 (shut_bool Tryd.underlying4 _), trodAll_mk1 (Below.trod lawBinds_laid (by kernel_rfl) (of_decide_eq_true (by kernel_rfl)) k0 bel lt0), trodVars_mk1 few_named few_type (few_below bel hvw) (few_reads enc W' _), bel.frame _, fun h => by cases h⟩

theorem lawBinds_over : Rows.FnBindsSaid :=
  OpenClaim.holds_of_wide 3 Tryd.f3 rfl rfl rfl rfl rfl rfl rfl ⟨rfl, rfl, rfl, rfl, rfl⟩ rfl rfl rfl rfl rfl (by kernel_rfl) Tryd.func3 (by kernel_rfl)
    (of_decide_eq_true (by kernel_rfl)) (by unfold Func.isWrapper; first | (rw [if_pos (by decide +kernel)]; kernel_rfl) | (rw [if_neg (by decide +kernel)]; exact ⟨rfl, rfl⟩))
    (fun os started H enc _ => lawBinds_lifted os started H enc)

theorem lawBinds_proved : Rows.FnBindsCardSaid :=
  Claim7.holds_tied_plain_at .later [] [.data] true (true, "6dcc3b21a1cbd413541c898d60a5999d1e936ded4def648f8bdd9664439aae71") false
    lawBinds_over (fun _ h => by cases h) (by kernel_rfl) (fun _ h => by cases h) fnBinds_row_tie rfl ⟨rfl, rfl⟩ (by kernel_rfl) rfl
    (fun f fn hf hfn => by
      obtain rfl : f = 3 := Option.some.inj ((show Tryd.prog.funcNamed Rows.fnBindsRow.func = some 3 by kernel_rfl).symm.trans hf) |>.symm
      obtain rfl : fn = Tryd.f3 := (Option.some.inj (Tryd.func3.symm.trans hfn)).symm
      exact ⟨by kernel_rfl, fun j t ht => by
        rw [Tryd.params3] at ht
        have hm : t ∈ [22] := by simpa using Array.mem_of_getElem? ht
        have hall : ([22].all fun u => !Tryd.prog.wantsStandIn u) = true := by kernel_rfl
        exact (show Tryd.prog.wantsStandIn t = false by simpa using List.all_eq_true.1 hall t hm)⟩)
    (by kernel_rfl)
#print axioms lawBinds_proved
end Go.Proofs.YtcfechnkgefhcaaDoor
