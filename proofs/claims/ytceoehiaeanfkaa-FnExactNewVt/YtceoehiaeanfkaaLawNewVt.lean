/-
  For every two int64 the law FnExactNewVt returns true: impl.NewVt answers at each two numbers what the model's NewVt answers, every field; its lists are memory of its own. No condition.
-/
import Derived.Test.YtceoehiaeanfkaaRows
import Derived.Test.YtceoehiaeanfkaaVtNew
import Derived.ShutString
import Derived.ChangeOld
import Derived.Lib.SmallJoins
namespace Go.Proofs.Ytceoehiaeanfkaa
set_option maxRecDepth 20000
open Go.ChangeShapes Go.WideShapes Go.ChangeAt Go.RowKit Go.Joins
set_option linter.unusedVariables false
set_option linter.unusedSimpArgs false

set_option maxRecDepth 20000
theorem newSRes_len (r wd : Int) : (newSRes r wd).s.cs.length ≤ 1048576 ∧ (newSRes r wd).s.bs.length ≤ 1048576 ∧ (newSRes r wd).s.tabs.length ≤ 1048576 ∧ (newSRes r wd).s.sets.length ≤ 1048576 := by
  unfold newSRes
  split
  · rename_i h
    obtain ⟨s1, s2, s3, s4, s5, s6⟩ := size_mul h
    refine ⟨?_, by simp [newScr, scr0], ?_, by simp [newScr]⟩
    · show (mkL (r * wd).toNat (fun _ => (32, 0))).length ≤ _
      rw [mkL_length]; omega
    · show (tabsL wd.toNat stopB).length ≤ _
      rw [tabsL_length]; omega
  · simp [sbad, scr0]
set_option maxHeartbeats 4000000 in
theorem lawNV_walk (r wd : Int) (w : World) :
    Calls Try.prog 7 #[.int .i64 r, .int .i64 wd] w fun e w' => e = .returned (.bool true) ∧ Below w.heap.size w w' := by
  obtain ⟨hn1, hn2, hn3, hn4⟩ := newSRes_len r wd
  have hn0 : (newVt r wd).ns.length ≤ 1048576 := by simp [newVt, vt0]
  have hns : (newVt r wd).ns.length ≤ 900 := by simp [newVt, vt0]
  have hne : ∀ y : Int, (y != y) = false := fun y => by simp
  go_enter Try.func7, Try.ntmps7
  go_wp2_with fail
  go_at_call 28
  refine (specNewVt_calls r wd _).mono ?_
  rintro e w1 ⟨j1, j2, j3, j4, j5, rfl, hj, hb⟩
  have z1 : w.heap.size ≤ w1.heap.size := hb.size
  have b1 : Below w.heap.size w w1 := hb
  clear hb
  go_wp2_with (first | (refine wpList_store_blk rfl _ _ _ rfl (w1.heap.size) 0 (resVA 0 vt0 (.slice none 0 0) (.slice none 0 0) (.slice none 0 0) (.slice none 0 0) (.slice none 0 0)) (resVA (newSRes r wd).code (newVt r wd) j1 j2 j3 j4 j5) (.agg (resVA (newSRes r wd).code (newVt r wd) j1 j2 j3 j4 j5)) rfl rfl (Blk.new w1 _ _) rfl (by kernel_rfl) (resV_one hj.read) rfl ?_; (try simp only [Act.put, List.setIfInBounds_toArray, List.set_cons_zero, List.set_cons_succ]); intro w2 hJ hu; have hb : Below w1.heap.size w1 w2 := ((Below.refl _ w1).alloc (Nat.le_refl _) _).trans (hu.below (Nat.le_refl _)); have z2 : w1.heap.size + 1 = w2.heap.size := (by have := hu.size; simp at this; omega); clear hu) | (refine wpList_load_at rfl 66 _ rfl (w1.heap.size) 0 rfl _ (resVA (newSRes r wd).code (newVt r wd) j1 j2 j3 j4 j5) hJ rfl _ Try.underlying66 rfl (by kernel_rfl) ?_; (try simp only [Act.put, List.setIfInBounds_toArray, List.set_cons_zero, List.set_cons_succ])) | fail)
  replace hj := hj.below hb (by omega)
  have b2 : Below w.heap.size w w2 := b1.trans (hb.mono (by omega))
  clear hb b1
  go_at_call 29
  refine (implNewVt_calls r wd _).mono ?_
  rintro e w3 ⟨g1, g2, g3, g4, g5, rfl, hg, hb⟩
  have z3 : w2.heap.size ≤ w3.heap.size := hb.size
  replace hJ := hJ.belowb hb
  replace hj := hj.below hb (by omega)
  have b3 : Below w.heap.size w w3 := b2.trans (hb.mono (by omega))
  clear hb b2
  go_wp2_with (first | (refine wpList_store_blk rfl _ _ _ rfl (w3.heap.size) 0 (resVA 0 vt0 (.slice none 0 0) (.slice none 0 0) (.slice none 0 0) (.slice none 0 0) (.slice none 0 0)) (resVA (newSRes r wd).code (newVt r wd) g1 g2 g3 g4 g5) (.agg (resVA (newSRes r wd).code (newVt r wd) g1 g2 g3 g4 g5)) rfl rfl (Blk.new w3 _ _) rfl (by kernel_rfl) (resV_one hg.read) rfl ?_; (try simp only [Act.put, List.setIfInBounds_toArray, List.set_cons_zero, List.set_cons_succ]); intro w4 hG hu; have hb : Below w3.heap.size w3 w4 := ((Below.refl _ w3).alloc (Nat.le_refl _) _).trans (hu.below (Nat.le_refl _)); have z4 : w3.heap.size + 1 = w4.heap.size := (by have := hu.size; simp at this; omega); clear hu; replace hJ := hJ.belowb hb) | (refine wpList_load_at rfl 66 _ rfl (w3.heap.size) 0 rfl _ (resVA (newSRes r wd).code (newVt r wd) g1 g2 g3 g4 g5) hG rfl _ Try.underlying66 rfl (by kernel_rfl) ?_; (try simp only [Act.put, List.setIfInBounds_toArray, List.set_cons_zero, List.set_cons_succ])) | (refine wpList_load_at rfl 66 _ rfl (w1.heap.size) 0 rfl _ (resVA (newSRes r wd).code (newVt r wd) j1 j2 j3 j4 j5) hJ rfl _ Try.underlying66 rfl (by kernel_rfl) ?_; (try simp only [Act.put, List.setIfInBounds_toArray, List.set_cons_zero, List.set_cons_succ])) | fail)
  replace hj := hj.below hb (by omega)
  replace hg := hg.below hb (by omega)
  have b4 : Below w.heap.size w w4 := b3.trans (hb.mono (by omega))
  clear hb b3
  go_at_call 30
  refine (eqVtResult_calls _ _ _ _ _ _ _ _ _ _ _ _ _ hn0 hn1 hn2 hn3 hn4 hg.read hj.read).mono ?_
  rintro e w5 ⟨rfl, hb⟩
  have z5 : w4.heap.size ≤ w5.heap.size := hb.size
  replace hJ := hJ.belowb hb
  replace hG := hG.belowb hb
  replace hj := hj.below hb (by omega)
  replace hg := hg.below hb (by omega)
  have b5 : Below w.heap.size w w5 := b4.trans (hb.mono (by omega))
  clear hb b4
  go_wp2_with (first | (refine wpList_load_at rfl 66 _ rfl (w1.heap.size) 0 rfl _ (resVA (newSRes r wd).code (newVt r wd) j1 j2 j3 j4 j5) hJ rfl _ Try.underlying66 rfl (by kernel_rfl) ?_; (try simp only [Act.put, List.setIfInBounds_toArray, List.set_cons_zero, List.set_cons_succ])) | (refine wpList_load_at rfl 66 _ rfl (w3.heap.size) 0 rfl _ (resVA (newSRes r wd).code (newVt r wd) g1 g2 g3 g4 g5) hG rfl _ Try.underlying66 rfl (by kernel_rfl) ?_; (try simp only [Act.put, List.setIfInBounds_toArray, List.set_cons_zero, List.set_cons_succ])) | fail)
  go_at_call 31
  refine (markVtResult_calls _ _ 1 w2.heap.size w3.heap.size _ _ _ _ _ _ hn0 hn1 hn2 hn3 hn4 hns (by omega) (by omega) (by omega) hg).mono ?_
  rintro e w6 ⟨rfl, hm, hb⟩
  have z6 : w5.heap.size ≤ w6.heap.size := hb.size
  replace hJ := hJ.within hb (by omega)
  replace hG := hG.within hb (by omega)
  replace hj := hj.within hb (by omega) (by omega)
  have b6 : Below w.heap.size w w6 := b5.trans (hb.below (by omega) (by omega))
  clear hb hg b5
  have hg := hm
  clear hm
  go_wp2_with (first | (refine wpList_load_at rfl 66 _ rfl (w1.heap.size) 0 rfl _ (resVA (newSRes r wd).code (newVt r wd) j1 j2 j3 j4 j5) hJ rfl _ Try.underlying66 rfl (by kernel_rfl) ?_; (try simp only [Act.put, List.setIfInBounds_toArray, List.set_cons_zero, List.set_cons_succ])) | (refine wpList_load_at rfl 66 _ rfl (w3.heap.size) 0 rfl _ (resVA (newSRes r wd).code (newVt r wd) g1 g2 g3 g4 g5) hG rfl _ Try.underlying66 rfl (by kernel_rfl) ?_; (try simp only [Act.put, List.setIfInBounds_toArray, List.set_cons_zero, List.set_cons_succ])) | fail)
  go_at_call 32
  refine (heldVtResult_calls _ _ 1 _ _ _ _ _ _ hn0 hn1 hn2 hn3 hn4 hns (by omega) (by omega) hg.read).mono ?_
  rintro e w7 ⟨rfl, hb⟩
  have z7 : w6.heap.size ≤ w7.heap.size := hb.size
  replace hJ := hJ.belowb hb
  replace hG := hG.belowb hb
  replace hj := hj.below hb (by omega)
  replace hg := hg.below hb (by omega)
  have b7 : Below w.heap.size w w7 := b6.trans (hb.mono (by omega))
  clear hb b6
  have hge : ¬ (1 + cntV (newVt r wd) < 0) := by unfold cntV cntS; omega
  go_wp2_with (first | (refine wpList_load_at rfl 66 _ rfl (w1.heap.size) 0 rfl _ (resVA (newSRes r wd).code (newVt r wd) j1 j2 j3 j4 j5) hJ rfl _ Try.underlying66 rfl (by kernel_rfl) ?_; (try simp only [Act.put, List.setIfInBounds_toArray, List.set_cons_zero, List.set_cons_succ])) | (refine wpList_load_at rfl 66 _ rfl (w3.heap.size) 0 rfl _ (resVA (newSRes r wd).code (newVt r wd) g1 g2 g3 g4 g5) hG rfl _ Try.underlying66 rfl (by kernel_rfl) ?_; (try simp only [Act.put, List.setIfInBounds_toArray, List.set_cons_zero, List.set_cons_succ])) | fail)
  go_at_call 29
  refine (implNewVt_calls r wd _).mono ?_
  rintro e w8 ⟨u1, u2, u3, u4, u5, rfl, hu', hb⟩
  have z8 : w7.heap.size ≤ w8.heap.size := hb.size
  replace hJ := hJ.belowb hb
  replace hG := hG.belowb hb
  replace hj := hj.below hb (by omega)
  replace hg := hg.below hb (by omega)
  have b8 : Below w.heap.size w w8 := b7.trans (hb.mono (by omega))
  clear hb b7
  go_wp2_with (first | (refine wpList_store_blk rfl _ _ _ rfl (w8.heap.size) 0 (resVA 0 vt0 (.slice none 0 0) (.slice none 0 0) (.slice none 0 0) (.slice none 0 0) (.slice none 0 0)) (resVA (newSRes r wd).code (newVt r wd) u1 u2 u3 u4 u5) (.agg (resVA (newSRes r wd).code (newVt r wd) u1 u2 u3 u4 u5)) rfl rfl (Blk.new w8 _ _) rfl (by kernel_rfl) (resV_one hu'.read) rfl ?_; (try simp only [Act.put, List.setIfInBounds_toArray, List.set_cons_zero, List.set_cons_succ]); intro w9 hU hu; have hb : Below w8.heap.size w8 w9 := ((Below.refl _ w8).alloc (Nat.le_refl _) _).trans (hu.below (Nat.le_refl _)); have z9 : w8.heap.size + 1 = w9.heap.size := (by have := hu.size; simp at this; omega); clear hu; replace hJ := hJ.belowb hb; replace hG := hG.belowb hb) | (refine wpList_load_at rfl 66 _ rfl (w8.heap.size) 0 rfl _ (resVA (newSRes r wd).code (newVt r wd) u1 u2 u3 u4 u5) hU rfl _ Try.underlying66 rfl (by kernel_rfl) ?_; (try simp only [Act.put, List.setIfInBounds_toArray, List.set_cons_zero, List.set_cons_succ])) | (refine wpList_load_at rfl 66 _ rfl (w1.heap.size) 0 rfl _ (resVA (newSRes r wd).code (newVt r wd) j1 j2 j3 j4 j5) hJ rfl _ Try.underlying66 rfl (by kernel_rfl) ?_; (try simp only [Act.put, List.setIfInBounds_toArray, List.set_cons_zero, List.set_cons_succ])) | (refine wpList_load_at rfl 66 _ rfl (w3.heap.size) 0 rfl _ (resVA (newSRes r wd).code (newVt r wd) g1 g2 g3 g4 g5) hG rfl _ Try.underlying66 rfl (by kernel_rfl) ?_; (try simp only [Act.put, List.setIfInBounds_toArray, List.set_cons_zero, List.set_cons_succ])) | fail)
  replace hj := hj.below hb (by omega)
  replace hg := hg.below hb (by omega)
  replace hu' := hu'.below hb (by omega)
  have b9 : Below w.heap.size w w9 := b8.trans (hb.mono (by omega))
  clear hb b8
  go_at_call 30
  refine (eqVtResult_calls _ _ _ _ _ _ _ _ _ _ _ _ _ hn0 hn1 hn2 hn3 hn4 hu'.read hj.read).mono ?_
  rintro e w10 ⟨rfl, hb⟩
  have z10 : w9.heap.size ≤ w10.heap.size := hb.size
  replace hJ := hJ.belowb hb
  replace hG := hG.belowb hb
  replace hU := hU.belowb hb
  replace hj := hj.below hb (by omega)
  replace hg := hg.below hb (by omega)
  replace hu' := hu'.below hb (by omega)
  have b10 : Below w.heap.size w w10 := b9.trans (hb.mono (by omega))
  clear hb b9
  go_wp2_with (first | (refine wpList_load_at rfl 66 _ rfl (w1.heap.size) 0 rfl _ (resVA (newSRes r wd).code (newVt r wd) j1 j2 j3 j4 j5) hJ rfl _ Try.underlying66 rfl (by kernel_rfl) ?_; (try simp only [Act.put, List.setIfInBounds_toArray, List.set_cons_zero, List.set_cons_succ])) | (refine wpList_load_at rfl 66 _ rfl (w3.heap.size) 0 rfl _ (resVA (newSRes r wd).code (newVt r wd) g1 g2 g3 g4 g5) hG rfl _ Try.underlying66 rfl (by kernel_rfl) ?_; (try simp only [Act.put, List.setIfInBounds_toArray, List.set_cons_zero, List.set_cons_succ])) | (refine wpList_load_at rfl 66 _ rfl (w8.heap.size) 0 rfl _ (resVA (newSRes r wd).code (newVt r wd) u1 u2 u3 u4 u5) hU rfl _ Try.underlying66 rfl (by kernel_rfl) ?_; (try simp only [Act.put, List.setIfInBounds_toArray, List.set_cons_zero, List.set_cons_succ])) | fail)
  go_at_call 32
  refine (heldVtResult_calls _ _ 1 _ _ _ _ _ _ hn0 hn1 hn2 hn3 hn4 hns (by omega) (by omega) hg.read).mono ?_
  rintro e w11 ⟨rfl, hb⟩
  have z11 : w10.heap.size ≤ w11.heap.size := hb.size
  replace hJ := hJ.belowb hb
  replace hG := hG.belowb hb
  replace hU := hU.belowb hb
  replace hj := hj.below hb (by omega)
  replace hg := hg.below hb (by omega)
  replace hu' := hu'.below hb (by omega)
  have b11 : Below w.heap.size w w11 := b10.trans (hb.mono (by omega))
  clear hb b10
  go_wp2
  go_ret
  exact ⟨rfl, b11⟩

theorem lawNV_own : ownKnob Try.prog.godebug = none := by kernel_rfl
set_option maxRecDepth 100000 in
theorem lawNV_lifted (os : Os) (started : os.Started) (H : Type) (enc : TypeId × Value → H) :
    ReturnsInHanded {} Try.checked os 7 .any (Rows.fnExactNewVtSpec.pre6 enc Try.prog Try.f7 Rows.fnExactNewVtRow.domain false) (Rows.fnExactNewVtSpec.post enc Try.prog Try.f7 false true false false) := by
  refine returnsInHanded_of_change (C := Try.checked) lawNV_own started (by kernel_rfl) Try.func7
    (ChangeSpec.witness6 (enc := enc) (C := Try.checked) false ⟨#[], #[.int .i64 0, .int .i64 0], []⟩ 8 (by kernel_rfl) (by kernel_rfl) (by kernel_rfl) (by kernel_rfl)) ?_
  intro W base args ds gs before hval0 hW hcnd _
  have hval : ∀ (j : Nat) t v, Try.f7.params[j]? = some t → args[j]? = some v → Value.okWide Try.prog W .any base t v := hval0
  have hW' := hW
  obtain ⟨p, q, hA0, hV, rfl, hfz, hnd⟩ := hW
  have hA : DataW.TrodAll enc Try.prog W 0 (fun _ => true) true Try.f7.params.toList args.toList ds p := hA0
  rw [Try.params7] at hA hval
  obtain ⟨v0, v1, d0, d1, p0, p1, rfl, rfl, rfl, h0, h1⟩ := trodAll_two hA
  obtain ⟨rfl, rfl⟩ := trodVars_none hV
  obtain ⟨t, rfl, rfl, rfl, wt⟩ := open_int Try.underlying2 (hval 0 2 v0 rfl rfl) h0
  obtain ⟨c, rfl, rfl, rfl, wc⟩ := open_int Try.underlying2 (hval 1 2 v1 rfl rfl) h1
  clear hA0 hval0
  simp only [List.append_nil] at hW'
  refine (lawNV_walk t c W).mono fun e W' ⟨he, bel⟩ => ?_
  subst he
  exact ⟨_, rfl, _, _, _, [], [], [], hW', trodAll_mk1 (shut_bool Try.underlying4 _), trodAll_mk2 (shut_int Try.underlying2 wt) (shut_int Try.underlying2 wc), rfl, bel.frame _, fun h => by cases h⟩

theorem lawNV_over : Rows.fnExactNewVtRow.holds Try.pinned (OpenSpec.ofChange Rows.fnExactNewVtSpec) :=
  OpenClaim.holds_of_wide 7 Try.f7 rfl rfl rfl rfl rfl rfl rfl ⟨rfl, rfl, rfl, rfl, rfl⟩ rfl rfl rfl rfl rfl (by kernel_rfl) Try.func7 (by kernel_rfl)
    (of_decide_eq_true (by kernel_rfl)) (by unfold Func.isWrapper; first | (rw [if_pos (by decide +kernel)]; kernel_rfl) | (rw [if_neg (by decide +kernel)]; exact ⟨rfl, rfl⟩))
    (fun os started H enc _ => lawNV_lifted os started H enc)

theorem lawNV_proved : Rows.FnExactNewVtSaid := lawNV_over
#print axioms lawNV_proved
end Go.Proofs.Ytceoehiaeanfkaa
