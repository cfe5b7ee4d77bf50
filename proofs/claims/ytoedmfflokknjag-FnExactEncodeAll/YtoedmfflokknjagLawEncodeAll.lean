/-
  For every list of int64 the law FnExactEncodeAll returns true: impl.EncodeAll answers at each list what the model's EncodeAll answers, turns no argument, and its bytes are memory of its own. No condition (the law itself passes lists of more than 1048576 by).
-/
import Derived.Test.YtoedmfflokknjagRows
import Derived.Test.YtoedmfflokknjagEncAll
import Derived.Test.YtoedmfflokknjagRowFns
import Derived.Test.YtoedmfflokknjagCopies
import Derived.ShutString
import Derived.ChangeOld
import Derived.Lib.SmallJoins
namespace Go.Proofs.Ytoedmfflokknjag
open Go.ChangeShapes Go.WideShapes Go.ChangeAt Go.RowKit Go.Joins
set_option linter.unusedVariables false
set_option linter.unusedSimpArgs false

set_option maxHeartbeats 2000000 in
theorem lawEA_walk (zs : List Int) (v : Value) (w : World) (hv : ReadAt .i64 w v zs) (hmax : zs.length ≤ maxLen) :
    Calls Try.prog 6 #[v] w fun e w' => e = .returned (.bool true) ∧ Below w.heap.size w w' := by
  unfold maxLen at hmax
  have hv' := hv
  obtain ⟨av, cv, rfl, _⟩ := hv'
  by_cases hn : zs.length ≤ 1048576
  · skip
    generalize hxs : encAllBytes zs = xs
    have hlen : xs.length ≤ 1200 := by rw [← hxs]; exact encAllBytes_length zs
    have HXS := hide hxs
    clear hxs
    have hle : ¬ ((1048576 : Int) < (zs.length : Int)) := by omega
    go_enter Try.func6, Try.ntmps6
    go_wp2_with fail
    refine (toInts_calls zs _ _ hn (hv)).mono ?_
    rintro e w1 ⟨y0, rfl, hy0, hb1⟩
    have z1 : w.heap.size ≤ w1.heap.size := hb1.size
    have r1 := hb1
    clear hb1
    have b1 : Below w.heap.size w w1 := r1
    clear r1
    obtain ⟨ay0, cy0, rfl, hy0'⟩ := hy0
    have hy0 : IntsAt .i64 w.heap.size w1.heap.size w1 (.slice ay0 zs.length cy0) zs := ⟨ay0, cy0, rfl, hy0'⟩
    clear hy0'
    go_wp2_with fail
    refine (specEncodeAll_calls zs _ _ hn hy0.read).mono ?_
    rintro e w2 ⟨x0, rfl, hx0, hb2⟩
    have z2 : w1.heap.size ≤ w2.heap.size := hb2.size
    have r2 := hb2
    clear hb2
    replace hy0 := hy0.below r2 (by omega)
    have b2 : Below w.heap.size w w2 := b1.trans (r2.mono (by omega))
    clear r2 b1
    rw [unhide HXS] at hx0
    obtain ⟨a0, c0, rfl, hx0'⟩ := hx0
    have hx0 : IntsAt .u8 w1.heap.size w2.heap.size w2 (.slice a0 xs.length c0) xs := ⟨a0, c0, rfl, hx0'⟩
    clear hx0'
    clear hy0
    go_wp2_with fail
    have q3 : Below w2.heap.size w2 (w2.alloc (.cells #[.int .i64 (encAllCode zs), .slice a0 xs.length c0] 40)) := (by repeat (first | exact Below.refl _ _ | assumption | refine Below.drew ?_ | refine Below.alloc ?_ (by first | (simp; done) | (simp; omega) | omega) _ | refine Below.setCell ?_ (by first | (simp; done) | (simp; omega) | omega) _))
    refine (toInts_calls zs _ _ hn ((hv.below b2).below q3)).mono ?_
    rintro e w3 ⟨y1, rfl, hy1, hb3⟩
    have B0 : w3.cell? ⟨w2.heap.size, 0, none⟩ = some (.int .i64 (encAllCode zs)) := cellb hb3 (by simp)
    have B1 : w3.cell? ⟨w2.heap.size, 1, none⟩ = some (.slice a0 xs.length c0) := cellb hb3 (by simp)
    have z3 : w2.heap.size + 1 ≤ w3.heap.size := by have := hb3.size; simp at this; omega
    have r3 : Below w2.heap.size w2 w3 := q3.trans (hb3.mono (by simp; try omega))
    clear q3 hb3
    replace hx0 := hx0.below r3 (by omega)
    have b3 : Below w.heap.size w w3 := b2.trans (r3.mono (by omega))
    clear r3 b2
    have lt3_0 : w2.heap.size < w3.heap.size := by omega
    replace hy1 := hy1.mono (lo' := (w2.heap.size + 1)) (by simp) (Nat.le_refl _)
    obtain ⟨ay1, cy1, rfl, hy1'⟩ := hy1
    have hy1 : IntsAt .i64 (w2.heap.size + 1) w3.heap.size w3 (.slice ay1 zs.length cy1) zs := ⟨ay1, cy1, rfl, hy1'⟩
    clear hy1'
    go_wp2_with fail
    refine (implEncodeAll_calls zs _ _ hn hy1.read).mono ?_
    rintro e w4 ⟨x1, rfl, hx1, hb4⟩
    have z4 : w3.heap.size ≤ w4.heap.size := hb4.size
    have r4 := hb4
    clear hb4
    replace B0 := cellb r4 B0
    replace B1 := cellb r4 B1
    replace hx0 := hx0.below r4 (by omega)
    replace hy1 := hy1.below r4 (by omega)
    have b4 : Below w.heap.size w w4 := b3.trans (r4.mono (by omega))
    clear r4 b3
    clear lt3_0
    have lt4_0 : w2.heap.size < w4.heap.size := by omega
    rw [unhide HXS] at hx1
    obtain ⟨a1, c1, rfl, hx1'⟩ := hx1
    have hx1 : IntsAt .u8 w3.heap.size w4.heap.size w4 (.slice a1 xs.length c1) xs := ⟨a1, c1, rfl, hx1'⟩
    clear hx1'
    go_wp2_with fail
    have q5 : Below w4.heap.size w4 (w4.alloc (.cells #[.int .i64 (encAllCode zs), .slice a1 xs.length c1] 40)) := (by repeat (first | exact Below.refl _ _ | assumption | refine Below.drew ?_ | refine Below.alloc ?_ (by first | (simp; done) | (simp; omega) | omega) _ | refine Below.setCell ?_ (by first | (simp; done) | (simp; omega) | omega) _))
    refine (eqBytesResult_calls (encAllCode zs) xs _ _ _ (by omega) (hx1.read.below q5) (hx0.read.below q5)).mono ?_
    rintro e w5 ⟨rfl, hb5⟩
    have G0 : w5.cell? ⟨w4.heap.size, 0, none⟩ = some (.int .i64 (encAllCode zs)) := cellb hb5 (by simp)
    have G1 : w5.cell? ⟨w4.heap.size, 1, none⟩ = some (.slice a1 xs.length c1) := cellb hb5 (by simp)
    have z5 : w4.heap.size + 1 ≤ w5.heap.size := by have := hb5.size; simp at this; omega
    have r5 : Below w4.heap.size w4 w5 := q5.trans (hb5.mono (by simp; try omega))
    clear q5 hb5
    replace B0 := cellb r5 B0
    replace B1 := cellb r5 B1
    replace hx0 := hx0.below r5 (by omega)
    replace hy1 := hy1.below r5 (by omega)
    replace hx1 := hx1.below r5 (by omega)
    have b5 : Below w.heap.size w w5 := b4.trans (r5.mono (by omega))
    clear r5 b4
    clear lt4_0
    have lt5_0 : w2.heap.size < w5.heap.size := by omega
    have lt5_1 : w4.heap.size < w5.heap.size := by omega
    go_wp2_with fail
    refine (toInts_calls zs _ _ hn ((hv.below b5))).mono ?_
    rintro e w6 ⟨y2, rfl, hy2, hb6⟩
    have z6 : w5.heap.size ≤ w6.heap.size := hb6.size
    have r6 := hb6
    clear hb6
    replace B0 := cellb r6 B0
    replace B1 := cellb r6 B1
    replace G0 := cellb r6 G0
    replace G1 := cellb r6 G1
    replace hx0 := hx0.below r6 (by omega)
    replace hy1 := hy1.below r6 (by omega)
    replace hx1 := hx1.below r6 (by omega)
    have b6 : Below w.heap.size w w6 := b5.trans (r6.mono (by omega))
    clear r6 b5
    clear lt5_0 lt5_1
    have lt6_0 : w2.heap.size < w6.heap.size := by omega
    have lt6_1 : w4.heap.size < w6.heap.size := by omega
    obtain ⟨ay2, cy2, rfl, hy2'⟩ := hy2
    have hy2 : IntsAt .i64 w5.heap.size w6.heap.size w6 (.slice ay2 zs.length cy2) zs := ⟨ay2, cy2, rfl, hy2'⟩
    clear hy2'
    go_wp2_with fail
    refine (eqInts_below zs _ _ _ (by omega) hy1.read hy2.read).mono ?_
    rintro e w7 ⟨rfl, hb7⟩
    have z7 : w6.heap.size ≤ w7.heap.size := hb7.size
    have r7 := hb7
    clear hb7
    replace B0 := cellb r7 B0
    replace B1 := cellb r7 B1
    replace G0 := cellb r7 G0
    replace G1 := cellb r7 G1
    replace hx0 := hx0.below r7 (by omega)
    replace hy1 := hy1.below r7 (by omega)
    replace hx1 := hx1.below r7 (by omega)
    replace hy2 := hy2.below r7 (by omega)
    have b7 : Below w.heap.size w w7 := b6.trans (r7.mono (by omega))
    clear r7 b6
    clear lt6_0 lt6_1
    have lt7_0 : w2.heap.size < w7.heap.size := by omega
    have lt7_1 : w4.heap.size < w7.heap.size := by omega
    clear hy2
    go_wp2_with fail
    refine (markInts_calls zs 1 (w2.heap.size + 1) w3.heap.size _ _ (by omega) (by omega) (by omega) hy1).mono ?_
    rintro e w8 ⟨rfl, hm0, hb8⟩
    have z8 : w7.heap.size ≤ w8.heap.size := hb8.size
    replace B0 := hb8.cell (by omega) (by omega) B0
    replace B1 := hb8.cell (by omega) (by omega) B1
    replace G0 := hb8.cell (by omega) (by omega) G0
    replace G1 := hb8.cell (by omega) (by omega) G1
    replace hx0 := hx0.within hb8 (by omega) (by omega)
    replace hx1 := hx1.within hb8 (by omega) (by omega)
    have b8 : Below w.heap.size w w8 := b7.trans (hb8.below (by omega) (by omega))
    clear hb8 b7
    clear lt7_0 lt7_1
    have lt8_0 : w2.heap.size < w8.heap.size := by omega
    have lt8_1 : w4.heap.size < w8.heap.size := by omega
    clear hy1 hm0
    go_wp2_with fail
    refine (eqBytesResult_calls (encAllCode zs) xs _ _ _ (by omega) hx1.read hx0.read).mono ?_
    rintro e w9 ⟨rfl, hb9⟩
    have z9 : w8.heap.size ≤ w9.heap.size := hb9.size
    have r9 := hb9
    clear hb9
    replace B0 := cellb r9 B0
    replace B1 := cellb r9 B1
    replace G0 := cellb r9 G0
    replace G1 := cellb r9 G1
    replace hx0 := hx0.below r9 (by omega)
    replace hx1 := hx1.below r9 (by omega)
    have b9 : Below w.heap.size w w9 := b8.trans (r9.mono (by omega))
    clear r9 b8
    clear lt8_0 lt8_1
    have lt9_0 : w2.heap.size < w9.heap.size := by omega
    have lt9_1 : w4.heap.size < w9.heap.size := by omega
    go_wp2_with fail
    refine (markBytesResult_calls (encAllCode zs) xs 1 w3.heap.size w4.heap.size _ _ (by omega) (by omega) (by omega) (by omega) hx1).mono ?_
    rintro e w10 ⟨rfl, hm1, hb10⟩
    have z10 : w9.heap.size ≤ w10.heap.size := hb10.size
    replace B0 := hb10.cell (by omega) (by omega) B0
    replace B1 := hb10.cell (by omega) (by omega) B1
    replace G0 := hb10.cell (by omega) (by omega) G0
    replace G1 := hb10.cell (by omega) (by omega) G1
    replace hx0 := hx0.within hb10 (by omega) (by omega)
    have b10 : Below w.heap.size w w10 := b9.trans (hb10.below (by omega) (by omega))
    clear hb10 b9
    clear lt9_0 lt9_1
    have lt10_0 : w2.heap.size < w10.heap.size := by omega
    have lt10_1 : w4.heap.size < w10.heap.size := by omega
    clear hx1
    go_wp2_with fail
    refine (heldBytesResult_calls (encAllCode zs) (marksB 1 xs.length) 1 (.slice a1 xs.length c1) _ (by rw [marksB_length]; omega) (by omega) (by omega) hm1.read (marksB_at 1 _)).mono ?_
    rintro e w11 ⟨rfl, hb11⟩
    have z11 : w10.heap.size ≤ w11.heap.size := hb11.size
    have r11 := hb11
    clear hb11
    replace B0 := cellb r11 B0
    replace B1 := cellb r11 B1
    replace G0 := cellb r11 G0
    replace G1 := cellb r11 G1
    replace hx0 := hx0.below r11 (by omega)
    replace hm1 := hm1.below r11 (by omega)
    have b11 : Below w.heap.size w w11 := b10.trans (r11.mono (by omega))
    clear r11 b10
    clear lt10_0 lt10_1
    have lt11_0 : w2.heap.size < w11.heap.size := by omega
    have lt11_1 : w4.heap.size < w11.heap.size := by omega
    rw [marksB_length]
    go_wp2_with fail
    refine (toInts_calls zs _ _ hn ((hv.below b11))).mono ?_
    rintro e w12 ⟨y3, rfl, hy3, hb12⟩
    have z12 : w11.heap.size ≤ w12.heap.size := hb12.size
    have r12 := hb12
    clear hb12
    replace B0 := cellb r12 B0
    replace B1 := cellb r12 B1
    replace G0 := cellb r12 G0
    replace G1 := cellb r12 G1
    replace hx0 := hx0.below r12 (by omega)
    replace hm1 := hm1.below r12 (by omega)
    have b12 : Below w.heap.size w w12 := b11.trans (r12.mono (by omega))
    clear r12 b11
    clear lt11_0 lt11_1
    have lt12_0 : w2.heap.size < w12.heap.size := by omega
    have lt12_1 : w4.heap.size < w12.heap.size := by omega
    obtain ⟨ay3, cy3, rfl, hy3'⟩ := hy3
    have hy3 : IntsAt .i64 w11.heap.size w12.heap.size w12 (.slice ay3 zs.length cy3) zs := ⟨ay3, cy3, rfl, hy3'⟩
    clear hy3'
    go_wp2_with fail
    refine (implEncodeAll_calls zs _ _ hn hy3.read).mono ?_
    rintro e w13 ⟨x2, rfl, hx2, hb13⟩
    have z13 : w12.heap.size ≤ w13.heap.size := hb13.size
    have r13 := hb13
    clear hb13
    replace B0 := cellb r13 B0
    replace B1 := cellb r13 B1
    replace G0 := cellb r13 G0
    replace G1 := cellb r13 G1
    replace hx0 := hx0.below r13 (by omega)
    replace hm1 := hm1.below r13 (by omega)
    replace hy3 := hy3.below r13 (by omega)
    have b13 : Below w.heap.size w w13 := b12.trans (r13.mono (by omega))
    clear r13 b12
    clear lt12_0 lt12_1
    have lt13_0 : w2.heap.size < w13.heap.size := by omega
    have lt13_1 : w4.heap.size < w13.heap.size := by omega
    rw [unhide HXS] at hx2
    obtain ⟨a2, c2, rfl, hx2'⟩ := hx2
    have hx2 : IntsAt .u8 w12.heap.size w13.heap.size w13 (.slice a2 xs.length c2) xs := ⟨a2, c2, rfl, hx2'⟩
    clear hx2'
    clear hy3
    go_wp2_with fail
    have q14 : Below w13.heap.size w13 (w13.alloc (.cells #[.int .i64 (encAllCode zs), .slice a2 xs.length c2] 40)) := (by repeat (first | exact Below.refl _ _ | assumption | refine Below.drew ?_ | refine Below.alloc ?_ (by first | (simp; done) | (simp; omega) | omega) _ | refine Below.setCell ?_ (by first | (simp; done) | (simp; omega) | omega) _))
    refine (eqBytesResult_calls (encAllCode zs) xs _ _ _ (by omega) (hx2.read.below q14) (hx0.read.below q14)).mono ?_
    rintro e w14 ⟨rfl, hb14⟩
    have H0 : w14.cell? ⟨w13.heap.size, 0, none⟩ = some (.int .i64 (encAllCode zs)) := cellb hb14 (by simp)
    have H1 : w14.cell? ⟨w13.heap.size, 1, none⟩ = some (.slice a2 xs.length c2) := cellb hb14 (by simp)
    have z14 : w13.heap.size + 1 ≤ w14.heap.size := by have := hb14.size; simp at this; omega
    have r14 : Below w13.heap.size w13 w14 := q14.trans (hb14.mono (by simp; try omega))
    clear q14 hb14
    replace B0 := cellb r14 B0
    replace B1 := cellb r14 B1
    replace G0 := cellb r14 G0
    replace G1 := cellb r14 G1
    replace hx0 := hx0.below r14 (by omega)
    replace hm1 := hm1.below r14 (by omega)
    replace hx2 := hx2.below r14 (by omega)
    have b14 : Below w.heap.size w w14 := b13.trans (r14.mono (by omega))
    clear r14 b13
    clear lt13_0 lt13_1
    have lt14_0 : w2.heap.size < w14.heap.size := by omega
    have lt14_1 : w4.heap.size < w14.heap.size := by omega
    have lt14_2 : w13.heap.size < w14.heap.size := by omega
    go_wp2_with fail
    refine (heldBytesResult_calls (encAllCode zs) (marksB 1 xs.length) 1 (.slice a1 xs.length c1) _ (by rw [marksB_length]; omega) (by omega) (by omega) hm1.read (marksB_at 1 _)).mono ?_
    rintro e w15 ⟨rfl, hb15⟩
    have z15 : w14.heap.size ≤ w15.heap.size := hb15.size
    have r15 := hb15
    clear hb15
    replace B0 := cellb r15 B0
    replace B1 := cellb r15 B1
    replace G0 := cellb r15 G0
    replace G1 := cellb r15 G1
    replace H0 := cellb r15 H0
    replace H1 := cellb r15 H1
    replace hx0 := hx0.below r15 (by omega)
    replace hm1 := hm1.below r15 (by omega)
    replace hx2 := hx2.below r15 (by omega)
    have b15 : Below w.heap.size w w15 := b14.trans (r15.mono (by omega))
    clear r15 b14
    clear lt14_0 lt14_1 lt14_2
    have lt15_0 : w2.heap.size < w15.heap.size := by omega
    have lt15_1 : w4.heap.size < w15.heap.size := by omega
    have lt15_2 : w13.heap.size < w15.heap.size := by omega
    rw [marksB_length]
    go_wp2
    go_ret
    exact ⟨rfl, b15⟩
  · have hgt : (1048576 : Int) < (zs.length : Int) := by omega
    go_enter Try.func6, Try.ntmps6
    go_wp2
    go_ret
    exact ⟨rfl, Below.refl _ _⟩

theorem lawEA_laid : laidOutB Try.prog = true := by kernel_rfl

theorem lawEA_own : ownKnob Try.prog.godebug = none := by kernel_rfl
set_option maxRecDepth 100000 in
theorem lawEA_lifted (os : Os) (started : os.Started) (H : Type) (enc : TypeId × Value → H) :
    ReturnsInHanded {} Try.checked os 6 .any (Rows.fnExactEncodeAllSpec.pre6 enc Try.prog Try.f6 Rows.fnExactEncodeAllRow.domain false) (Rows.fnExactEncodeAllSpec.post enc Try.prog Try.f6 false true false false) := by
  refine returnsInHanded_of_change (C := Try.checked) lawEA_own started (by kernel_rfl) Try.func6
    (ChangeSpec.witness6 (enc := enc) (C := Try.checked) false ⟨#[], #[.slice none 0 0], []⟩ 8 (by kernel_rfl) (by kernel_rfl) (by kernel_rfl) (by kernel_rfl)) ?_
  intro W base args ds gs before hval0 hW hcnd _
  have hval : ∀ (j : Nat) t v, Try.f6.params[j]? = some t → args[j]? = some v → Value.okWide Try.prog W .any base t v := hval0
  have hW' := hW
  obtain ⟨p, q, hA0, hV, rfl, hfz, hnd⟩ := hW
  have hA : DataW.TrodAll enc Try.prog W 0 (fun _ => true) true Try.f6.params.toList args.toList ds p := hA0
  rw [Try.params6] at hA hval
  obtain ⟨v0, d0, rfl, rfl, h0⟩ := trodAll_one hA
  obtain ⟨rfl, rfl⟩ := trodVars_none hV
  obtain ⟨a0, len0, cap0, rfl⟩ := okWide_slice Try.underlying24 (hval 0 24 v0 rfl rfl)
  have k0 := h0
  have lt0 : ∀ x ∈ p, x.block < W.heap.size := by obtain ⟨m, hm⟩ := k0; exact DataW.trod_lt m _ _ _ hm
  obtain ⟨zs, w0⟩ : ∃ zs, ReadAt .i64 W (.slice a0 len0 cap0) zs ∧ zs.length ≤ maxLen := by
    obtain ⟨fuel, hf⟩ := h0
    rcases open_ints Try.underlying24 Try.underlying2 (by kernel_rfl) hf with ⟨hcs, _⟩ | ⟨x, l, c, zs, hcs, _, hl, hm, hz, _, hcell, hwz⟩
    · simp [Value.cells] at hcs
      obtain ⟨rfl, rfl, rfl⟩ := hcs
      exact ⟨[], ReadAt.nil _ _ _ _, by simp⟩
    · simp [Value.cells] at hcs
      obtain ⟨rfl, rfl, rfl⟩ := hcs
      exact read_take (by simpa using hz) hl hm hcell
  clear hA0 hval0

  refine (lawEA_walk zs _ W w0.1 w0.2).mono fun e W' ⟨he, bel⟩ => ?_
  subst he
  exact ⟨_, rfl, _, _, _, [], _, [], hW', trodAll_mk1 (shut_bool Try.underlying4 _), trodAll_mk1 (Below.trod lawEA_laid (by kernel_rfl) (of_decide_eq_true (by kernel_rfl)) k0 bel lt0), rfl, bel.frame _, fun h => by cases h⟩

theorem lawEA_over : Rows.fnExactEncodeAllRow.holds Try.pinned (OpenSpec.ofChange Rows.fnExactEncodeAllSpec) :=
  OpenClaim.holds_of_wide 6 Try.f6 rfl rfl rfl rfl rfl rfl rfl ⟨rfl, rfl, rfl, rfl, rfl⟩ rfl rfl rfl rfl rfl (by kernel_rfl) Try.func6 (by kernel_rfl)
    (of_decide_eq_true (by kernel_rfl)) (by unfold Func.isWrapper; first | (rw [if_pos (by decide +kernel)]; kernel_rfl) | (rw [if_neg (by decide +kernel)]; exact ⟨rfl, rfl⟩))
    (fun os started H enc _ => lawEA_lifted os started H enc)

theorem lawEA_proved : Rows.FnExactEncodeAllSaid := lawEA_over
#print axioms lawEA_proved
end Go.Proofs.Ytoedmfflokknjag
