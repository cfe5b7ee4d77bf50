/-
  For every font the law FnExactFontFault returns true: impl.FontFault answers at each font what the model's FontFault answers, and turns no argument. No condition (the law itself passes fonts of more than 1048576 pairs by).
-/
import Derived.Test.YtlkabmgindbbmagRows
import Derived.Test.YtlkabmgindbbmagFontFaults
import Derived.Test.YtlkabmgindbbmagFontFns
import Derived.Test.YtlkabmgindbbmagFontOpen
import Derived.Deep.RegionHeld3
import Derived.ShutString
import Derived.ChangeOld
import Derived.Lib.SmallJoins
namespace Go.Proofs.Ytlkabmgindbbmag
open Go.ChangeShapes Go.WideShapes Go.ChangeAt Go.RowKit Go.Joins
set_option linter.unusedVariables false
set_option linter.unusedSimpArgs false

theorem keepF1 {W w1 : World} {b c : Nat} {u0 u1 v0 v1 : Value} {x y : Value} {ps qs : List (Int × Int)} (h : Below W.heap.size W w1 ∧ w1.cell? ⟨b, 0, none⟩ = some u0 ∧ w1.cell? ⟨b, 1, none⟩ = some u1 ∧ w1.cell? ⟨c, 0, none⟩ = some v0 ∧ w1.cell? ⟨c, 1, none⟩ = some v1 ∧ PRead w1 x ps ∧ PRead w1 y qs) : PRead w1 x ps := h.2.2.2.2.2.1
theorem keepF2 {W w1 : World} {b c : Nat} {u0 u1 v0 v1 : Value} {x y : Value} {ps qs : List (Int × Int)} (h : Below W.heap.size W w1 ∧ w1.cell? ⟨b, 0, none⟩ = some u0 ∧ w1.cell? ⟨b, 1, none⟩ = some u1 ∧ w1.cell? ⟨c, 0, none⟩ = some v0 ∧ w1.cell? ⟨c, 1, none⟩ = some v1 ∧ PRead w1 x ps ∧ PRead w1 y qs) : PRead w1 y qs := h.2.2.2.2.2.2
theorem keepF {W w1 w2 : World} {b c : Nat} {u0 u1 v0 v1 : Value} {x y : Value} {ps qs : List (Int × Int)} (h : Below W.heap.size W w1 ∧ w1.cell? ⟨b, 0, none⟩ = some u0 ∧ w1.cell? ⟨b, 1, none⟩ = some u1 ∧ w1.cell? ⟨c, 0, none⟩ = some v0 ∧ w1.cell? ⟨c, 1, none⟩ = some v1 ∧ PRead w1 x ps ∧ PRead w1 y qs) (hb : Below w1.heap.size w1 w2) :
    Below W.heap.size W w2 ∧ w2.cell? ⟨b, 0, none⟩ = some u0 ∧ w2.cell? ⟨b, 1, none⟩ = some u1 ∧ w2.cell? ⟨c, 0, none⟩ = some v0 ∧ w2.cell? ⟨c, 1, none⟩ = some v1 ∧ PRead w2 x ps ∧ PRead w2 y qs := by
  obtain ⟨h0, h1, h2, h3, h4, h5, h6⟩ := h
  exact ⟨h0.trans (hb.mono h0.size), cellb hb h1, cellb hb h2, cellb hb h3, cellb hb h4, h5.below hb, h6.below hb⟩

set_option maxHeartbeats 2000000 in
theorem lawFF_walk (fb : Int) (v : Value) (ps : List (Int × Int)) (w : World) (hv : PRead w v ps) (hmax : ps.length ≤ maxLen) :
    Calls Try.prog 8 #[.agg #[.int .i64 fb, v]] w fun e w' => e = .returned (.bool true) ∧ Below w.heap.size w w' := by
  have hv' := hv
  obtain ⟨av, cv, rfl, _⟩ := hv'
  by_cases hn : ps.length ≤ 1048576
  · skip
    go_enter Try.func8, Try.ntmps8
    go_wp2_with fail
    have q1 : Below w.heap.size w (w.alloc (.cells #[.int .i64 fb, .slice av ps.length cv] 58)) := (by repeat' (first | with_reducible exact Below.refl _ _ | with_reducible assumption | with_reducible refine Below.drew ?_ | with_reducible refine Below.alloc ?_ ?_ _ | with_reducible refine Below.setCell ?_ ?_ _ | (simp; done) | (simp; omega) | omega))
    refine (szFont_calls fb ps.length av cv _ hmax).mono ?_
    rintro e w1 ⟨rfl, hb1⟩
    have A0 : w1.cell? ⟨w.heap.size, 0, none⟩ = some (.int .i64 fb) := cellb hb1 (by simp)
    have A1 : w1.cell? ⟨w.heap.size, 1, none⟩ = some (.slice av ps.length cv) := cellb hb1 (by simp)
    have z1 : w.heap.size + 1 ≤ w1.heap.size := by have := hb1.size; simp at this; omega
    have r1 : Below w.heap.size w w1 := q1.trans (hb1.mono (by simp; try omega))
    clear q1 hb1
    have b1 : Below w.heap.size w w1 := r1
    clear r1
    have lt1_0 : w.heap.size < w1.heap.size := by omega
    rw [if_pos hn]
    have hge : ¬ ((1048576 - (ps.length : Int)) < 0) := by omega
    replace hv := hv.below b1
    go_wp2_with fail
    refine (toFont_calls fb ps _ _ hn hv).mono ?_
    rintro e w2 ⟨y0, rfl, hy0, hb2⟩
    have z2 : w1.heap.size ≤ w2.heap.size := hb2.size
    have r2 := hb2
    clear hb2
    replace A0 := cellb r2 A0
    replace A1 := cellb r2 A1
    replace hv := hv.below r2
    have b2 : Below w.heap.size w w2 := b1.trans (r2.mono (by omega))
    clear r2 b1
    clear lt1_0
    have lt2_0 : w.heap.size < w2.heap.size := by omega
    obtain ⟨a0, c0, rfl, hy0'⟩ := hy0
    have hy0 : PairsAt w1.heap.size w2.heap.size w2 (.slice a0 ps.length c0) ps := ⟨a0, c0, rfl, hy0'⟩
    clear hy0'
    go_wp2_with fail
    refine (specFontFault_calls fb ps _ _ hn hy0.read).mono ?_
    rintro e w3 ⟨rfl, hb3⟩
    have z3 : w2.heap.size ≤ w3.heap.size := hb3.size
    have r3 := hb3
    clear hb3
    replace A0 := cellb r3 A0
    replace A1 := cellb r3 A1
    replace hy0 := hy0.below r3 (by omega)
    replace hv := hv.below r3
    have b3 : Below w.heap.size w w3 := b2.trans (r3.mono (by omega))
    clear r3 b2
    clear lt2_0
    have lt3_0 : w.heap.size < w3.heap.size := by omega
    go_wp2_with fail
    refine (toFont_calls fb ps _ _ hn hv).mono ?_
    rintro e w4 ⟨y1, rfl, hy1, hb4⟩
    have z4 : w3.heap.size ≤ w4.heap.size := hb4.size
    have r4 := hb4
    clear hb4
    replace A0 := cellb r4 A0
    replace A1 := cellb r4 A1
    replace hy0 := hy0.below r4 (by omega)
    replace hv := hv.below r4
    have b4 : Below w.heap.size w w4 := b3.trans (r4.mono (by omega))
    clear r4 b3
    clear lt3_0
    have lt4_0 : w.heap.size < w4.heap.size := by omega
    obtain ⟨a1, c1, rfl, hy1'⟩ := hy1
    have hy1 : PairsAt w3.heap.size w4.heap.size w4 (.slice a1 ps.length c1) ps := ⟨a1, c1, rfl, hy1'⟩
    clear hy1'
    go_wp2_with fail
    have q5 : Below w4.heap.size w4 (w4.alloc (.cells #[.int .i64 fb, .slice a1 ps.length c1] 63)) := (by repeat' (first | with_reducible exact Below.refl _ _ | with_reducible assumption | with_reducible refine Below.drew ?_ | with_reducible refine Below.alloc ?_ ?_ _ | with_reducible refine Below.setCell ?_ ?_ _ | (simp; done) | (simp; omega) | omega))
    refine (implFontFault_calls fb ps _ _ hn (hy1.read.below q5)).mono ?_
    rintro e w5 ⟨rfl, hb5⟩
    have B0 : w5.cell? ⟨w4.heap.size, 0, none⟩ = some (.int .i64 fb) := cellb hb5 (by simp)
    have B1 : w5.cell? ⟨w4.heap.size, 1, none⟩ = some (.slice a1 ps.length c1) := cellb hb5 (by simp)
    have z5 : w4.heap.size + 1 ≤ w5.heap.size := by have := hb5.size; simp at this; omega
    have r5 : Below w4.heap.size w4 w5 := q5.trans (hb5.mono (by simp; try omega))
    clear q5 hb5
    replace A0 := cellb r5 A0
    replace A1 := cellb r5 A1
    replace hy0 := hy0.below r5 (by omega)
    replace hy1 := hy1.below r5 (by omega)
    replace hv := hv.below r5
    have b5 : Below w.heap.size w w5 := b4.trans (r5.mono (by omega))
    clear r5 b4
    clear lt4_0
    have lt5_0 : w.heap.size < w5.heap.size := by omega
    have lt5_1 : w4.heap.size < w5.heap.size := by omega
    have hne : (fontCode fb ps != fontCode fb ps) = false := by simp
    go_wp2_with fail
    have hyr := hy1.read
    go_region_held3 (fun w' => Below w5.heap.size w5 w' ∧ w'.cell? ⟨w.heap.size, 0, none⟩ = some (.int .i64 fb) ∧ w'.cell? ⟨w.heap.size, 1, none⟩ = some (.slice av ps.length cv) ∧ w'.cell? ⟨w4.heap.size, 0, none⟩ = some (.int .i64 fb) ∧ w'.cell? ⟨w4.heap.size, 1, none⟩ = some (.slice a1 ps.length c1) ∧ PRead w' (.slice av ps.length cv) ps ∧ PRead w' (.slice a1 ps.length c1) ps)
      (first
        | exact ⟨Below.drew (Below.refl _ w5), A0, A1, B0, B1, hv, hyr⟩
        | exact keepF (by assumption) (by assumption))
      (first
        | (go_at_call 37; refine (toFont_calls fb ps _ _ hn (keepF1 (W := w5) (y := .slice a1 ps.length c1) (qs := ps) (by assumption))).mono ?_; rintro e w6 ⟨y6, rfl, hy6, hb6⟩; have hr6 := hy6.read; obtain ⟨a6, c6, rfl, _⟩ := hy6)
        | (go_at_call 39; refine (eqFont_calls fb ps _ _ _ (by omega) (keepF2 (W := w5) (x := .slice av ps.length cv) (ps := ps) (by assumption)) (by assumption)).mono ?_; rintro e w7 ⟨rfl, hb7⟩))
    go_wp2
    go_ret
    exact ⟨rfl, b5.trans ((‹Below w5.heap.size w5 _ ∧ _›.1).mono b5.size)⟩
  · go_enter Try.func8, Try.ntmps8
    go_wp2_with fail
    refine (szFont_calls fb ps.length av cv _ hmax).mono ?_
    rintro e w1 ⟨rfl, hb1⟩
    rw [if_neg hn]
    go_wp2
    go_ret
    exact ⟨rfl, ((Below.refl _ _).alloc (Nat.le_refl _) _).trans (hb1.mono (by simp))⟩

theorem lawFF_laid : laidOutB Try.prog = true := by kernel_rfl
theorem lawFF_own : ownKnob Try.prog.godebug = none := by kernel_rfl
set_option maxRecDepth 100000 in
theorem lawFF_lifted (os : Os) (started : os.Started) (H : Type) (enc : TypeId × Value → H) :
    ReturnsInHanded {} Try.checked os 8 .any (Rows.fnExactFontFaultSpec.pre6 enc Try.prog Try.f8 Rows.fnExactFontFaultRow.domain false) (Rows.fnExactFontFaultSpec.post enc Try.prog Try.f8 false true false false) := by
  refine returnsInHanded_of_change (C := Try.checked) lawFF_own started (by kernel_rfl) Try.func8
    (ChangeSpec.witness6 (enc := enc) (C := Try.checked) false ⟨#[], #[.agg #[.int .i64 0, .slice none 0 0]], []⟩ 8 (by kernel_rfl) (by kernel_rfl) (by kernel_rfl) (by kernel_rfl)) ?_
  intro W base args ds gs before hval0 hW hcnd _
  have hval : ∀ (j : Nat) t v, Try.f8.params[j]? = some t → args[j]? = some v → Value.okWide Try.prog W .any base t v := hval0
  have hW' := hW
  obtain ⟨p, q, hA0, hV, rfl, hfz, hnd⟩ := hW
  have hA : DataW.TrodAll enc Try.prog W 0 (fun _ => true) true Try.f8.params.toList args.toList ds p := hA0
  rw [Try.params8] at hA hval
  obtain ⟨v0, d0, rfl, rfl, h0⟩ := trodAll_one hA
  obtain ⟨rfl, rfl⟩ := trodVars_none hV
  have k0 := h0
  have lt0 : ∀ x ∈ p, x.block < W.heap.size := by obtain ⟨m, hm⟩ := k0; exact DataW.trod_lt m _ _ _ hm
  obtain ⟨fb, x, ps, rfl, hx, hmax⟩ := open_font (hval 0 58 v0 rfl rfl) h0
  clear hA0 hval0

  refine (lawFF_walk fb x ps W hx hmax).mono fun e W' ⟨he, bel⟩ => ?_
  subst he
  exact ⟨_, rfl, _, _, _, [], _, [], hW', trodAll_mk1 (shut_bool Try.underlying4 _), trodAll_mk1 (Below.trod lawFF_laid (by kernel_rfl) (of_decide_eq_true (by kernel_rfl)) k0 bel lt0), rfl, bel.frame _, fun h => by cases h⟩

theorem lawFF_over : Rows.fnExactFontFaultRow.holds Try.pinned (OpenSpec.ofChange Rows.fnExactFontFaultSpec) :=
  OpenClaim.holds_of_wide 8 Try.f8 rfl rfl rfl rfl rfl rfl rfl ⟨rfl, rfl, rfl, rfl, rfl⟩ rfl rfl rfl rfl rfl (by kernel_rfl) Try.func8 (by kernel_rfl)
    (of_decide_eq_true (by kernel_rfl)) (by unfold Func.isWrapper; first | (rw [if_pos (by decide +kernel)]; kernel_rfl) | (rw [if_neg (by decide +kernel)]; exact ⟨rfl, rfl⟩))
    (fun os started H enc _ => lawFF_lifted os started H enc)

theorem lawFF_proved : Rows.FnExactFontFaultSaid := lawFF_over
#print axioms lawFF_proved
end Go.Proofs.Ytlkabmgindbbmag
