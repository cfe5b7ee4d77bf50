/-
  For every font and every int64 the law FnExactGlyphOf returns true: impl.GlyphOf answers at each font and each number what the model's GlyphOf answers, and turns no argument. No condition (the law itself passes fonts of more than 1048576 pairs by).
-/
import Derived.Test.YtlkabmgindbbmahRows
import Derived.Test.YtlkabmgindbbmahGlyphFns
import Derived.Test.YtlkabmgindbbmahTranslate
import Derived.Test.YtlkabmgindbbmahFontFns
import Derived.Test.YtlkabmgindbbmahFontOpen
import Derived.Deep.RegionHeld
import Derived.ShutString
import Derived.ChangeOld
import Derived.Lib.SmallJoins
namespace Go.Proofs.Ytlkabmgindbbmah
open Go.ChangeShapes Go.WideShapes Go.ChangeAt Go.RowKit Go.Joins
set_option linter.unusedVariables false
set_option linter.unusedSimpArgs false

theorem keepF1 {W w1 : World} {b c : Nat} {u0 u1 v0 v1 : Value} {x y : Value} {ps qs : List (Int × Int)} (h : Below W.heap.size W w1 ∧ w1.cell? ⟨b, 0, none⟩ = some u0 ∧ w1.cell? ⟨b, 1, none⟩ = some u1 ∧ w1.cell? ⟨c, 0, none⟩ = some v0 ∧ w1.cell? ⟨c, 1, none⟩ = some v1 ∧ PRead w1 x ps ∧ PRead w1 y qs) : PRead w1 x ps := h.2.2.2.2.2.1
theorem keepF2 {W w1 : World} {b c : Nat} {u0 u1 v0 v1 : Value} {x y : Value} {ps qs : List (Int × Int)} (h : Below W.heap.size W w1 ∧ w1.cell? ⟨b, 0, none⟩ = some u0 ∧ w1.cell? ⟨b, 1, none⟩ = some u1 ∧ w1.cell? ⟨c, 0, none⟩ = some v0 ∧ w1.cell? ⟨c, 1, none⟩ = some v1 ∧ PRead w1 x ps ∧ PRead w1 y qs) : PRead w1 y qs := h.2.2.2.2.2.2
theorem keepF {W w1 w2 : World} {b c : Nat} {u0 u1 v0 v1 : Value} {x y : Value} {ps qs : List (Int × Int)} (h : Below W.heap.size W w1 ∧ w1.cell? ⟨b, 0, none⟩ = some u0 ∧ w1.cell? ⟨b, 1, none⟩ = some u1 ∧ w1.cell? ⟨c, 0, none⟩ = some v0 ∧ w1.cell? ⟨c, 1, none⟩ = some v1 ∧ PRead w1 x ps ∧ PRead w1 y qs) (hb : Below w1.heap.size w1 w2) :
    Below W.heap.size W w2 ∧ w2.cell? ⟨b, 0, none⟩ = some u0 ∧ w2.cell? ⟨b, 1, none⟩ = some u1 ∧ w2.cell? ⟨c, 0, none⟩ = some v0 ∧ w2.cell? ⟨c, 1, none⟩ = some v1 ∧ PRead w2 x ps ∧ PRead w2 y qs := by
  obtain ⟨h0, h1, h2, h3, h4, h5, h6⟩ := h
  exact ⟨h0.trans (hb.mono h0.size), cellb hb h1, cellb hb h2, cellb hb h3, cellb hb h4, h5.below hb, h6.below hb⟩

set_option maxHeartbeats 2000000 in
theorem lawGO_walk (fb : Int) (v : Value) (ps : List (Int × Int)) (c : Int) (w : World) (hv : PRead w v ps) (hmax : ps.length ≤ maxLen) :
    Calls Try.prog 5 #[.agg #[.int .i64 fb, v], .int .i64 c] w fun e w' => e = .returned (.bool true) ∧ Below w.heap.size w w' := by
  have hv' := hv
  obtain ⟨av, cv, rfl, _⟩ := hv'
  by_cases hn : ps.length ≤ 1048576
  · skip
    generalize hcode : glyCode fb ps c = code
    generalize hval : glyVal fb ps c = val
    have HC := hide hcode
    have HV := hide hval
    clear hcode hval
    go_enter Try.func5, Try.ntmps5
    go_wp2_with fail
    have q1 : Below w.heap.size w (w.alloc (.cells #[.int .i64 fb, .slice av ps.length cv] 24)) := (by repeat' (first | with_reducible exact Below.refl _ _ | with_reducible assumption | with_reducible refine Below.drew ?_ | with_reducible refine Below.alloc ?_ ?_ _ | with_reducible refine Below.setCell ?_ ?_ _ | (simp; done) | (simp; omega) | omega))
    refine (szFont_calls fb ps.length av cv _ hmax).mono ?_
    rintro e w1 ⟨rfl, hb1⟩
    have A0 : w1.cell? ⟨w.heap.size, 0, none⟩ = some (.int .i64 fb) := cellb hb1 (by simp)
    have A1 : w1.cell? ⟨w.heap.size, 1, none⟩ = some (.slice av ps.length cv) := cellb hb1 (by simp)
    have z1 : w.heap.size + 1 ≤ w1.heap.size := by have := hb1.size; simp at this; omega
    have r1 : Below w.heap.size w w1 := q1.trans (hb1.mono (by simp; try omega))
    clear q1 hb1
    have b1 : Below w.heap.size w w1 := r1
    clear r1
    have lt1_0 : w.heap.size < w1.heap.size := by omega
    rw [if_pos hn]
    have hge : ¬ ((1048576 - (ps.length : Int)) < 0) := by omega
    replace hv := hv.below b1
    go_wp2_with fail
    refine (toFont_calls fb ps _ _ hn hv).mono ?_
    rintro e w2 ⟨y0, rfl, hy0, hb2⟩
    have z2 : w1.heap.size ≤ w2.heap.size := hb2.size
    have r2 := hb2
    clear hb2
    replace A0 := cellb r2 A0
    replace A1 := cellb r2 A1
    replace hv := hv.below r2
    have b2 : Below w.heap.size w w2 := b1.trans (r2.mono (by omega))
    clear r2 b1
    clear lt1_0
    have lt2_0 : w.heap.size < w2.heap.size := by omega
    obtain ⟨a0, c0, rfl, hy0'⟩ := hy0
    have hy0 : PairsAt w1.heap.size w2.heap.size w2 (.slice a0 ps.length c0) ps := ⟨a0, c0, rfl, hy0'⟩
    clear hy0'
    go_wp2_with fail
    refine (specGlyphOf_calls fb ps c _ _ hn hy0.read).mono ?_
    rintro e w3 ⟨rfl, hb3⟩
    have z3 : w2.heap.size ≤ w3.heap.size := hb3.size
    have r3 := hb3
    clear hb3
    replace A0 := cellb r3 A0
    replace A1 := cellb r3 A1
    replace hy0 := hy0.below r3 (by omega)
    replace hv := hv.below r3
    have b3 : Below w.heap.size w w3 := b2.trans (r3.mono (by omega))
    clear r3 b2
    clear lt2_0
    have lt3_0 : w.heap.size < w3.heap.size := by omega
    rw [HC.out, HV.out]
    go_wp2_with fail
    have q4 : Below w3.heap.size w3 (w3.alloc (.cells #[.int .i64 code, .int .i64 val] 45)) := (by repeat' (first | with_reducible exact Below.refl _ _ | with_reducible assumption | with_reducible refine Below.drew ?_ | with_reducible refine Below.alloc ?_ ?_ _ | with_reducible refine Below.setCell ?_ ?_ _ | (simp; done) | (simp; omega) | omega))
    refine (toFont_calls fb ps _ _ hn (hv.below q4)).mono ?_
    rintro e w4 ⟨y1, rfl, hy1, hb4⟩
    have B0 : w4.cell? ⟨w3.heap.size, 0, none⟩ = some (.int .i64 code) := cellb hb4 (by simp)
    have B1 : w4.cell? ⟨w3.heap.size, 1, none⟩ = some (.int .i64 val) := cellb hb4 (by simp)
    have z4 : w3.heap.size + 1 ≤ w4.heap.size := by have := hb4.size; simp at this; omega
    have r4 : Below w3.heap.size w3 w4 := q4.trans (hb4.mono (by simp; try omega))
    clear q4 hb4
    replace A0 := cellb r4 A0
    replace A1 := cellb r4 A1
    replace hy0 := hy0.below r4 (by omega)
    replace hv := hv.below r4
    have b4 : Below w.heap.size w w4 := b3.trans (r4.mono (by omega))
    clear r4 b3
    clear lt3_0
    have lt4_0 : w.heap.size < w4.heap.size := by omega
    have lt4_1 : w3.heap.size < w4.heap.size := by omega
    replace hy1 := hy1.mono (lo' := w3.heap.size + 1) (by simp) (Nat.le_refl _)
    obtain ⟨a1, c1, rfl, hy1'⟩ := hy1
    have hy1 : PairsAt (w3.heap.size + 1) w4.heap.size w4 (.slice a1 ps.length c1) ps := ⟨a1, c1, rfl, hy1'⟩
    clear hy1'
    go_wp2_with fail
    have q5 : Below w4.heap.size w4 (w4.alloc (.cells #[.int .i64 fb, .slice a1 ps.length c1] 30)) := (by repeat' (first | with_reducible exact Below.refl _ _ | with_reducible assumption | with_reducible refine Below.drew ?_ | with_reducible refine Below.alloc ?_ ?_ _ | with_reducible refine Below.setCell ?_ ?_ _ | (simp; done) | (simp; omega) | omega))
    refine (implGlyphOf_calls fb ps c _ _ hn (hy1.read.below q5)).mono ?_
    rintro e w5 ⟨rfl, hb5⟩
    have X0 : w5.cell? ⟨w4.heap.size, 0, none⟩ = some (.int .i64 fb) := cellb hb5 (by simp)
    have X1 : w5.cell? ⟨w4.heap.size, 1, none⟩ = some (.slice a1 ps.length c1) := cellb hb5 (by simp)
    have z5 : w4.heap.size + 1 ≤ w5.heap.size := by have := hb5.size; simp at this; omega
    have r5 : Below w4.heap.size w4 w5 := q5.trans (hb5.mono (by simp; try omega))
    clear q5 hb5
    replace A0 := cellb r5 A0
    replace A1 := cellb r5 A1
    replace B0 := cellb r5 B0
    replace B1 := cellb r5 B1
    replace hy0 := hy0.below r5 (by omega)
    replace hy1 := hy1.below r5 (by omega)
    replace hv := hv.below r5
    have b5 : Below w.heap.size w w5 := b4.trans (r5.mono (by omega))
    clear r5 b4
    clear lt4_0 lt4_1
    have lt5_0 : w.heap.size < w5.heap.size := by omega
    have lt5_1 : w3.heap.size < w5.heap.size := by omega
    have lt5_2 : w4.heap.size < w5.heap.size := by omega
    rw [HC.out, HV.out]
    go_wp2_with fail
    have q6 : Below w5.heap.size w5 (w5.alloc (.cells #[.int .i64 code, .int .i64 val] 45)) := (by repeat' (first | with_reducible exact Below.refl _ _ | with_reducible assumption | with_reducible refine Below.drew ?_ | with_reducible refine Below.alloc ?_ ?_ _ | with_reducible refine Below.setCell ?_ ?_ _ | (simp; done) | (simp; omega) | omega))
    refine (eqIntResult_calls code val _).mono ?_
    rintro e w6 ⟨rfl, hb6⟩
    have G0 : w6.cell? ⟨w5.heap.size, 0, none⟩ = some (.int .i64 code) := cellb hb6 (by simp)
    have G1 : w6.cell? ⟨w5.heap.size, 1, none⟩ = some (.int .i64 val) := cellb hb6 (by simp)
    have z6 : w5.heap.size + 1 ≤ w6.heap.size := by have := hb6.size; simp at this; omega
    have r6 : Below w5.heap.size w5 w6 := q6.trans (hb6.mono (by simp; try omega))
    clear q6 hb6
    replace A0 := cellb r6 A0
    replace A1 := cellb r6 A1
    replace B0 := cellb r6 B0
    replace B1 := cellb r6 B1
    replace X0 := cellb r6 X0
    replace X1 := cellb r6 X1
    replace hy0 := hy0.below r6 (by omega)
    replace hy1 := hy1.below r6 (by omega)
    replace hv := hv.below r6
    have b6 : Below w.heap.size w w6 := b5.trans (r6.mono (by omega))
    clear r6 b5
    clear lt5_0 lt5_1 lt5_2
    have lt6_0 : w.heap.size < w6.heap.size := by omega
    have lt6_1 : w3.heap.size < w6.heap.size := by omega
    have lt6_2 : w4.heap.size < w6.heap.size := by omega
    have lt6_3 : w5.heap.size < w6.heap.size := by omega
    go_wp2_with fail
    have hyr7 := hy1.read
    refine wp_region_held_drew (S := (fun w' => Below w6.heap.size w6 w' ∧ w'.cell? ⟨w.heap.size, 0, none⟩ = some (.int .i64 fb) ∧ w'.cell? ⟨w.heap.size, 1, none⟩ = some (.slice av ps.length cv) ∧ w'.cell? ⟨w4.heap.size, 0, none⟩ = some (.int .i64 fb) ∧ w'.cell? ⟨w4.heap.size, 1, none⟩ = some (.slice a1 ps.length c1) ∧ PRead w' (.slice av ps.length cv) ps ∧ PRead w' (.slice a1 ps.length c1) ps)) (by kernel_rfl) ?_ (fun hHeld => ?_)
    · (try dsimp only); exact ⟨Below.drew (Below.refl _ w6), A0, A1, X0, X1, hv, hyr7⟩
    refine wpAnyH_take (i := 0) (oi := ⟨_, _, _, _, _, _⟩) (v := ?_) rfl (by kernel_rfl) (by kernel_rfl) (by kernel_rfl) (fun _ _ _ h => h) (Or.inl ⟨by rfl, ?_⟩) hHeld ?_
    rotate_left
    · (intro w hSw; (try dsimp only at hSw); go_simp; try (with_reducible rfl))
    try simp only [Act.put, List.setIfInBounds_toArray, List.set_cons_zero, List.set_cons_succ]
    refine wpAnyH_take (i := 1) (oi := ⟨_, _, _, _, _, _⟩) (v := ?_) rfl (by kernel_rfl) (by kernel_rfl) (by kernel_rfl) (fun _ _ _ h => h) (Or.inl ⟨by rfl, ?_⟩) hHeld ?_
    rotate_left
    · (intro w hSw; (try dsimp only at hSw); go_simp; try (with_reducible rfl))
    try simp only [Act.put, List.setIfInBounds_toArray, List.set_cons_zero, List.set_cons_succ]
    refine wpAnyH_ready (rs := [2]) (by kernel_rfl) (by simp) ?_
    refine AllReadyH.cons (o := ⟨_, _, _, _, _, _⟩) rfl (fun K hK => ?_) AllReadyH.nil
    go_simp
    go_at_call 10
    refine (toFont_calls fb ps _ _ hn hHeld.2.2.2.2.2.1).mono ?_
    rintro e v7 ⟨y7, rfl, hy7, hbv7⟩
    have hry7 := hy7.read
    obtain ⟨ay7, cy7, rfl, hyy7⟩ := hy7
    clear hyy7
    try go_wp2_with fail
    refine hK.out _ _ ?_ ?_
    · (try dsimp only); exact keepF hHeld hbv7
    clear hHeld hK K
    intro hHeld
    try simp only [Act.put, List.setIfInBounds_toArray, List.set_cons_zero, List.set_cons_succ]
    refine wpAnyH_ready (rs := [3]) (by kernel_rfl) (by simp) ?_
    refine AllReadyH.cons (o := ⟨_, _, _, _, _, _⟩) rfl (fun K hK => ?_) AllReadyH.nil
    go_simp
    go_at_call 14
    refine (eqFont_calls fb ps _ _ _ (by omega) hHeld.2.2.2.2.2.2 hry7).mono ?_
    rintro e w7 ⟨rfl, hbu7⟩
    try go_wp2_with fail
    refine hK.out _ _ ?_ ?_
    · (try dsimp only); exact keepF hHeld hbu7
    clear hHeld hK K
    intro hHeld
    try simp only [Act.put, List.setIfInBounds_toArray, List.set_cons_zero, List.set_cons_succ]
    refine wpAnyH_take (i := 4) (oi := ⟨_, _, _, _, _, _⟩) (v := ?_) rfl (by kernel_rfl) (by kernel_rfl) (by kernel_rfl) (fun _ _ _ h => h) (Or.inl ⟨by rfl, ?_⟩) hHeld ?_
    rotate_left
    · (intro w hSw; (try dsimp only at hSw); go_simp; try (with_reducible rfl))
    try simp only [Act.put, List.setIfInBounds_toArray, List.set_cons_zero, List.set_cons_succ]
    refine wpAnyH_done (by kernel_rfl) ?_ _
    have r7 := hHeld.1
    clear hHeld hry7 hbv7 hbu7 hyr7
    have z7 : w6.heap.size ≤ w7.heap.size := r7.size
    replace A0 := cellb r7 A0
    replace A1 := cellb r7 A1
    replace B0 := cellb r7 B0
    replace B1 := cellb r7 B1
    replace X0 := cellb r7 X0
    replace X1 := cellb r7 X1
    replace G0 := cellb r7 G0
    replace G1 := cellb r7 G1
    replace hy0 := hy0.below r7 (by omega)
    replace hy1 := hy1.below r7 (by omega)
    replace hv := hv.below r7
    have b7 : Below w.heap.size w w7 := b6.trans (r7.mono (by omega))
    clear r7 b6
    clear lt6_0 lt6_1 lt6_2 lt6_3
    have lt7_0 : w.heap.size < w7.heap.size := by omega
    have lt7_1 : w3.heap.size < w7.heap.size := by omega
    have lt7_2 : w4.heap.size < w7.heap.size := by omega
    have lt7_3 : w5.heap.size < w7.heap.size := by omega
    go_wp2
    go_ret
    exact ⟨rfl, b7⟩
  · go_enter Try.func5, Try.ntmps5
    go_wp2_with fail
    refine (szFont_calls fb ps.length av cv _ hmax).mono ?_
    rintro e w1 ⟨rfl, hb1⟩
    rw [if_neg hn]
    go_wp2
    go_ret
    exact ⟨rfl, ((Below.refl _ _).alloc (Nat.le_refl _) _).trans (hb1.mono (by simp; try omega))⟩

theorem lawGO_laid : laidOutB Try.prog = true := by kernel_rfl
theorem lawGO_own : ownKnob Try.prog.godebug = none := by kernel_rfl
set_option maxRecDepth 100000 in
theorem lawGO_lifted (os : Os) (started : os.Started) (H : Type) (enc : TypeId × Value → H) :
    ReturnsInHanded {} Try.checked os 5 .any (Rows.fnExactGlyphOfSpec.pre6 enc Try.prog Try.f5 Rows.fnExactGlyphOfRow.domain false) (Rows.fnExactGlyphOfSpec.post enc Try.prog Try.f5 false true false false) := by
  refine returnsInHanded_of_change (C := Try.checked) lawGO_own started (by kernel_rfl) Try.func5
    (ChangeSpec.witness6 (enc := enc) (C := Try.checked) false ⟨#[], #[.agg #[.int .i64 0, .slice none 0 0], .int .i64 0], []⟩ 8 (by kernel_rfl) (by kernel_rfl) (by kernel_rfl) (by kernel_rfl)) ?_
  intro W base args ds gs before hval0 hW hcnd _
  have hval : ∀ (j : Nat) t v, Try.f5.params[j]? = some t → args[j]? = some v → Value.okWide Try.prog W .any base t v := hval0
  have hW' := hW
  obtain ⟨p, q, hA0, hV, rfl, hfz, hnd⟩ := hW
  have hA : DataW.TrodAll enc Try.prog W 0 (fun _ => true) true Try.f5.params.toList args.toList ds p := hA0
  rw [Try.params5] at hA hval
  obtain ⟨v0, v1, d0, d1, p0, p1, rfl, rfl, rfl, h0, h1⟩ := trodAll_two hA
  obtain ⟨rfl, rfl⟩ := trodVars_none hV
  have k0 := h0
  have lt0 : ∀ x ∈ p0, x.block < W.heap.size := by obtain ⟨m, hm⟩ := k0; exact DataW.trod_lt m _ _ _ hm
  obtain ⟨fb, x, ps, rfl, hx, hmax⟩ := open_font (hval 0 24 v0 rfl rfl) h0
  obtain ⟨c, rfl, rfl, rfl, wc⟩ := open_int Try.underlying2 (hval 1 2 v1 rfl rfl) h1
  clear hA0 hval0

  refine (lawGO_walk fb x ps c W hx hmax).mono fun e W' ⟨he, bel⟩ => ?_
  subst he
  exact ⟨_, rfl, _, _, _, [], _, [], hW', trodAll_mk1 (shut_bool Try.underlying4 _), trodAll_mk2 (Below.trod lawGO_laid (by kernel_rfl) (of_decide_eq_true (by kernel_rfl)) k0 bel lt0) (shut_int Try.underlying2 wc), rfl, bel.frame _, fun h => by cases h⟩

theorem lawGO_over : Rows.fnExactGlyphOfRow.holds Try.pinned (OpenSpec.ofChange Rows.fnExactGlyphOfSpec) :=
  OpenClaim.holds_of_wide 5 Try.f5 rfl rfl rfl rfl rfl rfl rfl ⟨rfl, rfl, rfl, rfl, rfl⟩ rfl rfl rfl rfl rfl (by kernel_rfl) Try.func5 (by kernel_rfl)
    (of_decide_eq_true (by kernel_rfl)) (by unfold Func.isWrapper; first | (rw [if_pos (by decide +kernel)]; kernel_rfl) | (rw [if_neg (by decide +kernel)]; exact ⟨rfl, rfl⟩))
    (fun os started H enc _ => lawGO_lifted os started H enc)

theorem lawGO_proved : Rows.FnExactGlyphOfSaid := lawGO_over
#print axioms lawGO_proved
end Go.Proofs.Ytlkabmgindbbmah
