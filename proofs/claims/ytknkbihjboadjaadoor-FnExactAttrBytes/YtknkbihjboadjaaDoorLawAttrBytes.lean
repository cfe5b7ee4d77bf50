/-
  For every int64 the law FnExactAttrBytes returns true: impl.AttrBytes answers at each number what the model's AttrBytes answers, and its bytes are memory of its own. The library's table of powers of ten (internal/strconv) reads as its text lays it: the card ties that.
-/
import Derived.Test.YtknkbihjboadjaaDoorRows
import Derived.Test.YtknkbihjboadjaaDoorCards
import Derived.Test.YtknkbihjboadjaaDoorTie
import Derived.Test.YtknkbihjboadjaaDoorAttrFns
import Derived.ShutString
import Derived.ChangeOld
import Derived.Lib.SmallJoins
import Derived.LaidMore
import Derived.LaidLaws
import Derived.LaidSub
import Derived.Lib.LaidTab
import Derived.Stop.Joined
import Derived.SevenTiedAt
namespace Go.Proofs.YtknkbihjboadjaaDoor
set_option maxRecDepth 20000
open Go.ChangeShapes Go.WideShapes Go.ChangeAt Go.RowKit Go.Joins
set_option linter.unusedVariables false
set_option linter.unusedSimpArgs false

set_option maxRecDepth 20000
theorem abBytes_length (a : Int) : (abBytes a).length ≤ 100 := by
  unfold abBytes
  split
  · rename_i h
    have hd := dig_len (n := 30 + a % 8) (by omega)
    unfold attrL attrNs seqL
    cases boldB a <;> cases turnB a <;> simp [joinL, dig_0, dig_1, dig_7] <;> omega
  · simp
set_option maxHeartbeats 1000000 in
theorem lawAB_walk (a : Int) (w : World) (htab : Lib.TabIs Tryd.prog w "internal/strconv.uint64pow10" .u64 Lib.pow10Tab) :
    Calls Tryd.prog 4 #[.int .i64 a] w fun e w' => e = .returned (.bool true) ∧ Below w.heap.size w w' := by
  have HT : Hid (TabAt w.heap.size w) := Lib.tabBelow_of_tabIs htab
  generalize hxs : abBytes a = xs
  have hlen : xs.length ≤ 100 := by rw [← hxs]; exact abBytes_length a
  have HXS := hide hxs
  clear hxs
  go_enter Tryd.func4, Tryd.ntmps4
  go_wp2_with fail
  refine (specAttrBytes_calls a _).mono ?_
  rintro e w1 ⟨x0, rfl, hx0, hb1⟩
  have z1 : w.heap.size ≤ w1.heap.size := hb1.size
  have r1 := hb1
  clear hb1
  have b1 : Below w.heap.size w w1 := r1
  clear r1
  rw [unhide HXS] at hx0
  obtain ⟨a0, c0, rfl, hx0'⟩ := hx0
  have hx0 : IntsAt .u8 w.heap.size w1.heap.size w1 (.slice a0 xs.length c0) xs := ⟨a0, c0, rfl, hx0'⟩
  clear hx0'
  go_wp2_with fail
  have q2 : Below w1.heap.size w1 (w1.alloc (.cells #[.int .i64 (abCode a), .slice a0 xs.length c0] 32)) := (by repeat' (first | with_reducible exact Below.refl _ _ | with_reducible assumption | with_reducible refine Below.drew ?_ | with_reducible refine Below.alloc ?_ ?_ _ | with_reducible refine Below.setCell ?_ ?_ _ | (simp; done) | (simp; omega) | omega))
  refine (implAttrBytes_calls a _ (TabAt.upto HT.out (b1.trans (q2.mono (by omega))) (by simp; omega))).mono ?_
  rintro e w2 ⟨x1, rfl, hx1, hb2⟩
  have B0 : w2.cell? ⟨w1.heap.size, 0, none⟩ = some (.int .i64 (abCode a)) := cellb hb2 (by simp)
  have B1 : w2.cell? ⟨w1.heap.size, 1, none⟩ = some (.slice a0 xs.length c0) := cellb hb2 (by simp)
  have z2 : w1.heap.size + 1 ≤ w2.heap.size := by have := hb2.size; simp at this; omega
  have r2 : Below w1.heap.size w1 w2 := q2.trans (hb2.mono (by simp; try omega))
  clear q2 hb2
  replace hx0 := hx0.below r2 (by omega)
  have b2 : Below w.heap.size w w2 := b1.trans (r2.mono (by omega))
  clear r2 b1
  have lt2_0 : w1.heap.size < w2.heap.size := by omega
  rw [unhide HXS] at hx1
  replace hx1 := hx1.mono (lo' := w1.heap.size + 1) (by simp) (Nat.le_refl _)
  obtain ⟨a1, c1, rfl, hx1'⟩ := hx1
  have hx1 : IntsAt .u8 (w1.heap.size + 1) w2.heap.size w2 (.slice a1 xs.length c1) xs := ⟨a1, c1, rfl, hx1'⟩
  clear hx1'
  go_wp2_with fail
  have q3 : Below w2.heap.size w2 (w2.alloc (.cells #[.int .i64 (abCode a), .slice a1 xs.length c1] 32)) := (by repeat' (first | with_reducible exact Below.refl _ _ | with_reducible assumption | with_reducible refine Below.drew ?_ | with_reducible refine Below.alloc ?_ ?_ _ | with_reducible refine Below.setCell ?_ ?_ _ | (simp; done) | (simp; omega) | omega))
  refine (eqBytesResult_calls (abCode a) xs _ _ _ (by omega) (hx1.read.below q3) (hx0.read.below q3)).mono ?_
  rintro e w3 ⟨rfl, hb3⟩
  have G0 : w3.cell? ⟨w2.heap.size, 0, none⟩ = some (.int .i64 (abCode a)) := cellb hb3 (by simp)
  have G1 : w3.cell? ⟨w2.heap.size, 1, none⟩ = some (.slice a1 xs.length c1) := cellb hb3 (by simp)
  have z3 : w2.heap.size + 1 ≤ w3.heap.size := by have := hb3.size; simp at this; omega
  have r3 : Below w2.heap.size w2 w3 := q3.trans (hb3.mono (by simp; try omega))
  clear q3 hb3
  replace B0 := cellb r3 B0
  replace B1 := cellb r3 B1
  replace hx0 := hx0.below r3 (by omega)
  replace hx1 := hx1.below r3 (by omega)
  have b3 : Below w.heap.size w w3 := b2.trans (r3.mono (by omega))
  clear r3 b2
  clear lt2_0
  have lt3_0 : w1.heap.size < w3.heap.size := by omega
  have lt3_1 : w2.heap.size < w3.heap.size := by omega
  go_wp2_with fail
  refine (markBytesResult_calls (abCode a) xs 1 (w1.heap.size + 1) w2.heap.size _ _ (by omega) (by omega) (by omega) (by omega) hx1).mono ?_
  rintro e w4 ⟨rfl, hm1, hb4⟩
  have z4 : w3.heap.size ≤ w4.heap.size := hb4.size
  replace B0 := hb4.cell (by omega) (by omega) B0
  replace B1 := hb4.cell (by omega) (by omega) B1
  replace G0 := hb4.cell (by omega) (by omega) G0
  replace G1 := hb4.cell (by omega) (by omega) G1
  replace hx0 := hx0.within hb4 (by omega) (by omega)
  have b4 : Below w.heap.size w w4 := b3.trans (hb4.below (by omega) (by omega))
  clear hb4 b3
  clear lt3_0 lt3_1
  have lt4_0 : w1.heap.size < w4.heap.size := by omega
  have lt4_1 : w2.heap.size < w4.heap.size := by omega
  clear hx1
  go_wp2_with fail
  refine (heldBytesResult_calls (abCode a) (marksB 1 xs.length) 1 (.slice a1 xs.length c1) _ (by rw [marksB_length]; omega) (by omega) (by omega) hm1.read (marksB_at 1 _)).mono ?_
  rintro e w5 ⟨rfl, hb5⟩
  have z5 : w4.heap.size ≤ w5.heap.size := hb5.size
  have r5 := hb5
  clear hb5
  replace B0 := cellb r5 B0
  replace B1 := cellb r5 B1
  replace G0 := cellb r5 G0
  replace G1 := cellb r5 G1
  replace hx0 := hx0.below r5 (by omega)
  replace hm1 := hm1.below r5 (by omega)
  have b5 : Below w.heap.size w w5 := b4.trans (r5.mono (by omega))
  clear r5 b4
  clear lt4_0 lt4_1
  have lt5_0 : w1.heap.size < w5.heap.size := by omega
  have lt5_1 : w2.heap.size < w5.heap.size := by omega
  rw [marksB_length]
  go_wp2_with fail
  refine (implAttrBytes_calls a _ (TabAt.upto HT.out b5 (by omega))).mono ?_
  rintro e w6 ⟨x2, rfl, hx2, hb6⟩
  have z6 : w5.heap.size ≤ w6.heap.size := hb6.size
  have r6 := hb6
  clear hb6
  replace B0 := cellb r6 B0
  replace B1 := cellb r6 B1
  replace G0 := cellb r6 G0
  replace G1 := cellb r6 G1
  replace hx0 := hx0.below r6 (by omega)
  replace hm1 := hm1.below r6 (by omega)
  have b6 : Below w.heap.size w w6 := b5.trans (r6.mono (by omega))
  clear r6 b5
  clear lt5_0 lt5_1
  have lt6_0 : w1.heap.size < w6.heap.size := by omega
  have lt6_1 : w2.heap.size < w6.heap.size := by omega
  rw [unhide HXS] at hx2
  obtain ⟨a2, c2, rfl, hx2'⟩ := hx2
  have hx2 : IntsAt .u8 w5.heap.size w6.heap.size w6 (.slice a2 xs.length c2) xs := ⟨a2, c2, rfl, hx2'⟩
  clear hx2'
  go_wp2_with fail
  have q7 : Below w6.heap.size w6 (w6.alloc (.cells #[.int .i64 (abCode a), .slice a2 xs.length c2] 32)) := (by repeat' (first | with_reducible exact Below.refl _ _ | with_reducible assumption | with_reducible refine Below.drew ?_ | with_reducible refine Below.alloc ?_ ?_ _ | with_reducible refine Below.setCell ?_ ?_ _ | (simp; done) | (simp; omega) | omega))
  refine (eqBytesResult_calls (abCode a) xs _ _ _ (by omega) (hx2.read.below q7) (hx0.read.below q7)).mono ?_
  rintro e w7 ⟨rfl, hb7⟩
  have H0 : w7.cell? ⟨w6.heap.size, 0, none⟩ = some (.int .i64 (abCode a)) := cellb hb7 (by simp)
  have H1 : w7.cell? ⟨w6.heap.size, 1, none⟩ = some (.slice a2 xs.length c2) := cellb hb7 (by simp)
  have z7 : w6.heap.size + 1 ≤ w7.heap.size := by have := hb7.size; simp at this; omega
  have r7 : Below w6.heap.size w6 w7 := q7.trans (hb7.mono (by simp; try omega))
  clear q7 hb7
  replace B0 := cellb r7 B0
  replace B1 := cellb r7 B1
  replace G0 := cellb r7 G0
  replace G1 := cellb r7 G1
  replace hx0 := hx0.below r7 (by omega)
  replace hm1 := hm1.below r7 (by omega)
  replace hx2 := hx2.below r7 (by omega)
  have b7 : Below w.heap.size w w7 := b6.trans (r7.mono (by omega))
  clear r7 b6
  clear lt6_0 lt6_1
  have lt7_0 : w1.heap.size < w7.heap.size := by omega
  have lt7_1 : w2.heap.size < w7.heap.size := by omega
  have lt7_2 : w6.heap.size < w7.heap.size := by omega
  go_wp2_with fail
  refine (heldBytesResult_calls (abCode a) (marksB 1 xs.length) 1 (.slice a1 xs.length c1) _ (by rw [marksB_length]; omega) (by omega) (by omega) hm1.read (marksB_at 1 _)).mono ?_
  rintro e w8 ⟨rfl, hb8⟩
  have z8 : w7.heap.size ≤ w8.heap.size := hb8.size
  have r8 := hb8
  clear hb8
  replace B0 := cellb r8 B0
  replace B1 := cellb r8 B1
  replace G0 := cellb r8 G0
  replace G1 := cellb r8 G1
  replace H0 := cellb r8 H0
  replace H1 := cellb r8 H1
  replace hx0 := hx0.below r8 (by omega)
  replace hm1 := hm1.below r8 (by omega)
  replace hx2 := hx2.below r8 (by omega)
  have b8 : Below w.heap.size w w8 := b7.trans (r8.mono (by omega))
  clear r8 b7
  clear lt7_0 lt7_1 lt7_2
  have lt8_0 : w1.heap.size < w8.heap.size := by omega
  have lt8_1 : w2.heap.size < w8.heap.size := by omega
  have lt8_2 : w6.heap.size < w8.heap.size := by omega
  rw [marksB_length]
  go_wp2
  go_ret
  exact ⟨rfl, b8⟩

theorem lawAB_own : ownKnob Tryd.prog.godebug = none := by kernel_rfl
def lawAB_laidlist : List (String × DataW Unit) := [("math/bits.deBruijn32tab", Rows.laid_math_bits_deBruijn32tab), ("math/bits.deBruijn64tab", Rows.laid_math_bits_deBruijn64tab), ("internal/strconv.uint64pow10", Rows.laid_internal_strconv_uint64pow10)]
theorem lawAB_door (os : Os) (args : Array Value) : laidMetH Tryd.prog lawAB_laidlist ((World.doorLaid Tryd.prog 24 os).forCall (fun _ _ => 0) ⟨#[], args, []⟩).memory :=
  laidMetH_of_parts3 (fuel := 8) (laidMet_of_run' 8 (by kernel_rfl) (by kernel_rfl)) (by kernel_rfl) (by kernel_rfl)
theorem lawAB_tab {W : World} (h : laidMetH Tryd.prog lawAB_laidlist W) : Lib.TabIs Tryd.prog W "internal/strconv.uint64pow10" .u64 Lib.pow10Tab := by
  rw [MakeChecks.laidMetH_plain _ _ _ (by kernel_rfl)] at h
  have h2 := laidMet.filter (fun x => x.1 == "internal/strconv.uint64pow10") h
  have e2 : lawAB_laidlist.filter (fun x => x.1 == "internal/strconv.uint64pow10") = [("internal/strconv.uint64pow10", Rows.laid_internal_strconv_uint64pow10)] := by kernel_rfl
  rw [e2] at h2
  have e : (Rows.laid_internal_strconv_uint64pow10 : DataW Unit) = Lib.tabData .u64 Lib.pow10Tab := by kernel_rfl
  rw [e] at h2
  exact Lib.tabIs_of_head (g := 0) (by kernel_rfl) (by kernel_rfl) Tryd.underlying122 Tryd.underlying112 (by kernel_rfl) (by kernel_rfl) h2
set_option maxRecDepth 100000 in
theorem lawAB_lifted (os : Os) (started : os.Started) (H : Type) (enc : TypeId × Value → H) :
    ReturnsInHanded {} Tryd.checked os 4 .any (fun w args => (Rows.fnExactAttrBytesSpec.pre enc Tryd.prog Tryd.f4 [] false w args ∧ laidMetH Tryd.prog lawAB_laidlist w) ∧ sizedMet enc Tryd.prog Tryd.f4 (OpenSpec.ofChange Rows.fnExactAttrBytesSpec) false w args)
      (Rows.fnExactAttrBytesSpec.post enc Tryd.prog Tryd.f4 false true false false) := by
  refine returnsInHanded_of_change_and (C := Tryd.checked) (X := fun w _ => laidMetH Tryd.prog lawAB_laidlist w) (fun _ _ _ hh h => h.of_heap hh) lawAB_own started (by kernel_rfl) Tryd.func4
    (ChangeSpec.witness_shaped (enc := enc) (C := Tryd.checked) (os := os) (X := fun w _ => laidMetH Tryd.prog lawAB_laidlist w) false (World.doorLaid Tryd.prog 24 os) #[.int .i64 0] 8 rfl (World.shaped_of_RefB (by kernel_rfl) (by kernel_rfl)) (by kernel_rfl) (by kernel_rfl) (by kernel_rfl) (lawAB_door os _)) ?_
  intro W base args ds gs before hval0 hW _ _ hL _
  have hval : ∀ (j : Nat) t v, Tryd.f4.params[j]? = some t → args[j]? = some v → Value.okWide Tryd.prog W .any base t v := hval0
  have hW' := hW
  obtain ⟨p, q, hA0, hV, rfl, hfz, hnd⟩ := hW
  have hA : DataW.TrodAll enc Tryd.prog W 0 (fun _ => true) true Tryd.f4.params.toList args.toList ds p := hA0
  rw [Tryd.params4] at hA hval
  obtain ⟨v0, d0, rfl, rfl, h0⟩ := trodAll_one hA
  obtain ⟨rfl, rfl⟩ := trodVars_none hV
  obtain ⟨c, rfl, rfl, rfl, wc⟩ := open_int Tryd.underlying2 (hval 0 2 v0 rfl rfl) h0
  have htab := lawAB_tab hL
  clear hA0 hval0
  simp only [List.append_nil] at hW'
  refine (lawAB_walk c W htab).mono fun e W' ⟨he, bel⟩ => ?_
  subst he
  exact ⟨_, rfl, _, _, _, [], [], [], hW', trodAll_mk1 (shut_bool Tryd.underlying4 _), trodAll_mk1 (shut_int Tryd.underlying2 wc), rfl, bel.frame _, fun h => by cases h⟩

theorem lawAB_over : Rows.FnExactAttrBytesSaid :=
  OpenClaim.holds_of_wide 4 Tryd.f4 rfl rfl rfl rfl rfl rfl rfl ⟨rfl, rfl, rfl, rfl, rfl⟩ rfl rfl rfl rfl rfl (by kernel_rfl) Tryd.func4 (by kernel_rfl)
    (of_decide_eq_true (by kernel_rfl)) (by unfold Func.isWrapper; first | (rw [if_pos (by decide +kernel)]; kernel_rfl) | (rw [if_neg (by decide +kernel)]; exact ⟨rfl, rfl⟩))
    (fun os started H enc _ => lawAB_lifted os started H enc)

theorem lawAB_proved : Rows.FnExactAttrBytesCardSaid :=
  Claim7.holds_tied_plain_at .later [] [.data, .data, .data] true (true, "a45b8beb966be5ad85e744dab25897072155b8021963785b99f6f8e5f096f33c") false
    lawAB_over (fun _ h => by cases h) (by kernel_rfl) (fun _ h => by cases h) fnExactAttrBytes_row_tie rfl ⟨rfl, rfl⟩ (by kernel_rfl) rfl
    (fun f fn hf hfn => by
      obtain rfl : f = 4 := Option.some.inj ((show Tryd.prog.funcNamed Rows.fnExactAttrBytesRow.func = some 4 by kernel_rfl).symm.trans hf) |>.symm
      obtain rfl : fn = Tryd.f4 := (Option.some.inj (Tryd.func4.symm.trans hfn)).symm
      exact ⟨by kernel_rfl, fun j t ht => by
        rw [Tryd.params4] at ht
        have hm : t ∈ [2] := by simpa using Array.mem_of_getElem? ht
        have hall : ([2].all fun u => !Tryd.prog.wantsStandIn u) = true := by kernel_rfl
        exact (show Tryd.prog.wantsStandIn t = false by simpa using List.all_eq_true.1 hall t hm)⟩)
    (by kernel_rfl)
#print axioms lawAB_proved
end Go.Proofs.YtknkbihjboadjaaDoor
