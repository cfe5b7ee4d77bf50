/-
  For every action the law FnExactActionFault returns true: impl.ActionFault answers at each action what the model's ActionFault answers, and turns no argument. No condition (the law itself passes actions of more than 1048576 numbers by).
-/
import Derived.Test.YtaljegjflkebcaaRows
import Derived.Test.YtaljegjflkebcaaActFaults
import Derived.Test.YtaljegjflkebcaaParFns
import Derived.Test.YtaljegjflkebcaaParOpen
import Derived.Deep.RegionHeld
import Derived.ShutString
import Derived.ChangeOld
import Derived.Lib.SmallJoins
namespace Go.Proofs.Ytaljegjflkebcaa
open Go.ChangeShapes Go.WideShapes Go.ChangeAt Go.RowKit Go.Joins
set_option linter.unusedVariables false
set_option linter.unusedSimpArgs false

/-- Two boxes and their lists, as a region keeps them. -/
structure KeepAction (W : World) (b c : Nat) (kd ch st : Int) (pv : Bool) (u v : Value) (ns : List Int) (w1 : World) : Prop where
  bel : Below W.heap.size W w1
  a0 : w1.cell? ⟨b, 0, none⟩ = some (.int .i64 kd)
  a1 : w1.cell? ⟨b, 1, none⟩ = some (.int .i64 ch)
  a2 : w1.cell? ⟨b, 2, none⟩ = some (.int .i64 st)
  a3 : w1.cell? ⟨b, 3, none⟩ = some (.bool pv)
  a4 : w1.cell? ⟨b, 4, none⟩ = some (u)
  c0 : w1.cell? ⟨c, 0, none⟩ = some (.int .i64 kd)
  c1 : w1.cell? ⟨c, 1, none⟩ = some (.int .i64 ch)
  c2 : w1.cell? ⟨c, 2, none⟩ = some (.int .i64 st)
  c3 : w1.cell? ⟨c, 3, none⟩ = some (.bool pv)
  c4 : w1.cell? ⟨c, 4, none⟩ = some (v)
  r1 : ReadAt .i64 w1 u ns
  r2 : ReadAt .i64 w1 v ns
theorem KeepAction.next {W : World} {b c : Nat} {kd ch st : Int} {pv : Bool} {u v : Value} {ns : List Int} {w1 w2 : World} (h : KeepAction W b c kd ch st pv u v ns w1) (hb : Below w1.heap.size w1 w2) : KeepAction W b c kd ch st pv u v ns w2 :=
  ⟨h.bel.trans (hb.mono h.bel.size), cellb hb h.a0, cellb hb h.a1, cellb hb h.a2, cellb hb h.a3, cellb hb h.a4, cellb hb h.c0, cellb hb h.c1, cellb hb h.c2, cellb hb h.c3, cellb hb h.c4, h.r1.below hb, h.r2.below hb⟩

set_option maxHeartbeats 2000000 in
theorem lawAF_walk (kd ch st : Int) (pv : Bool) (v : Value) (ns : List Int) (w : World) (hr : ReadAt .i64 w v ns) (hm : ns.length ≤ maxLen) :
    Calls Try.prog 6 #[.agg #[.int .i64 kd, .int .i64 ch, .int .i64 st, .bool pv, v]] w fun e w' => e = .returned (.bool true) ∧ Below w.heap.size w w' := by
  have hr' := hr
  obtain ⟨av, cv, rfl, _⟩ := hr'
  by_cases hn0 : (ns.length : Int) ≤ 1048576
  · have hn : ns.length ≤ 1048576 := by omega
    go_enter Try.func6, Try.ntmps6
    go_wp2_with fail
    have q1 : Below w.heap.size w (w.alloc (.cells #[.int .i64 kd, .int .i64 ch, .int .i64 st, .bool pv, .slice av ns.length cv] 50)) := (by repeat' (first | with_reducible exact Below.refl _ _ | with_reducible assumption | with_reducible refine Below.drew ?_ | with_reducible refine Below.alloc ?_ ?_ _ | with_reducible refine Below.setCell ?_ ?_ _ | (simp; done) | (simp; omega) | omega))
    refine (szAction_calls kd ch st pv ns.length av cv 1048576 (by omega) (by omega) _ hm).mono ?_
    rintro e w1 ⟨rfl, hb1⟩
    have A0 : w1.cell? ⟨w.heap.size, 0, none⟩ = some (.int .i64 kd) := cellb hb1 (by simp)
    have A1 : w1.cell? ⟨w.heap.size, 1, none⟩ = some (.int .i64 ch) := cellb hb1 (by simp)
    have A2 : w1.cell? ⟨w.heap.size, 2, none⟩ = some (.int .i64 st) := cellb hb1 (by simp)
    have A3 : w1.cell? ⟨w.heap.size, 3, none⟩ = some (.bool pv) := cellb hb1 (by simp)
    have A4 : w1.cell? ⟨w.heap.size, 4, none⟩ = some (.slice av ns.length cv) := cellb hb1 (by simp)
    have z1 : w.heap.size + 1 ≤ w1.heap.size := by have := hb1.size; simp at this; omega
    have r1 : Below w.heap.size w w1 := q1.trans (hb1.mono (by simp; try omega))
    clear q1 hb1
    have b1 : Below w.heap.size w w1 := r1
    clear r1
    have lt1_0 : w.heap.size < w1.heap.size := by omega
    rw [if_pos hn0]
    have hge : ¬ ((1048576 - (ns.length : Int)) < 0) := by omega
    go_wp2_with fail
    refine (toAction_calls kd ch st pv ns _ _ hn ((hr.below b1))).mono ?_
    rintro e w2 ⟨xp, rfl, hp, hb2⟩
    have z2 : w1.heap.size ≤ w2.heap.size := hb2.size
    have r2 := hb2
    clear hb2
    replace A0 := cellb r2 A0
    replace A1 := cellb r2 A1
    replace A2 := cellb r2 A2
    replace A3 := cellb r2 A3
    replace A4 := cellb r2 A4
    have b2 : Below w.heap.size w w2 := b1.trans (r2.mono (by omega))
    clear r2 b1
    clear lt1_0
    have lt2_0 : w.heap.size < w2.heap.size := by omega
    obtain ⟨ap, cp, rfl, hp'⟩ := hp
    have hp : IntsAt .i64 w1.heap.size w2.heap.size w2 (.slice ap ns.length cp) ns := ⟨ap, cp, rfl, hp'⟩
    clear hp'
    go_wp2_with fail
    refine (specActionFault_calls kd ch st pv ns _ _ (by unfold maxLen; omega) hp.read).mono ?_
    rintro e w3 ⟨rfl, hb3⟩
    have z3 : w2.heap.size ≤ w3.heap.size := hb3.size
    have r3 := hb3
    clear hb3
    replace A0 := cellb r3 A0
    replace A1 := cellb r3 A1
    replace A2 := cellb r3 A2
    replace A3 := cellb r3 A3
    replace A4 := cellb r3 A4
    replace hp := hp.below r3 (by omega)
    have b3 : Below w.heap.size w w3 := b2.trans (r3.mono (by omega))
    clear r3 b2
    clear lt2_0
    have lt3_0 : w.heap.size < w3.heap.size := by omega
    clear hp
    go_wp2_with fail
    refine (toAction_calls kd ch st pv ns _ _ hn ((hr.below b3))).mono ?_
    rintro e w4 ⟨xq, rfl, hq, hb4⟩
    have z4 : w3.heap.size ≤ w4.heap.size := hb4.size
    have r4 := hb4
    clear hb4
    replace A0 := cellb r4 A0
    replace A1 := cellb r4 A1
    replace A2 := cellb r4 A2
    replace A3 := cellb r4 A3
    replace A4 := cellb r4 A4
    have b4 : Below w.heap.size w w4 := b3.trans (r4.mono (by omega))
    clear r4 b3
    clear lt3_0
    have lt4_0 : w.heap.size < w4.heap.size := by omega
    obtain ⟨aq, cq, rfl, hq'⟩ := hq
    have hq : IntsAt .i64 w3.heap.size w4.heap.size w4 (.slice aq ns.length cq) ns := ⟨aq, cq, rfl, hq'⟩
    clear hq'
    go_wp2_with fail
    have q5 : Below w4.heap.size w4 (w4.alloc (.cells #[.int .i64 kd, .int .i64 ch, .int .i64 st, .bool pv, .slice aq ns.length cq] 32)) := (by repeat' (first | with_reducible exact Below.refl _ _ | with_reducible assumption | with_reducible refine Below.drew ?_ | with_reducible refine Below.alloc ?_ ?_ _ | with_reducible refine Below.setCell ?_ ?_ _ | (simp; done) | (simp; omega) | omega))
    refine (implActionFault_calls kd ch st pv ns _ _ (by unfold maxLen; omega) (hq.read.below q5)).mono ?_
    rintro e w5 ⟨rfl, hb5⟩
    have B0 : w5.cell? ⟨w4.heap.size, 0, none⟩ = some (.int .i64 kd) := cellb hb5 (by simp)
    have B1 : w5.cell? ⟨w4.heap.size, 1, none⟩ = some (.int .i64 ch) := cellb hb5 (by simp)
    have B2 : w5.cell? ⟨w4.heap.size, 2, none⟩ = some (.int .i64 st) := cellb hb5 (by simp)
    have B3 : w5.cell? ⟨w4.heap.size, 3, none⟩ = some (.bool pv) := cellb hb5 (by simp)
    have B4 : w5.cell? ⟨w4.heap.size, 4, none⟩ = some (.slice aq ns.length cq) := cellb hb5 (by simp)
    have z5 : w4.heap.size + 1 ≤ w5.heap.size := by have := hb5.size; simp at this; omega
    have r5 : Below w4.heap.size w4 w5 := q5.trans (hb5.mono (by simp; try omega))
    clear q5 hb5
    replace A0 := cellb r5 A0
    replace A1 := cellb r5 A1
    replace A2 := cellb r5 A2
    replace A3 := cellb r5 A3
    replace A4 := cellb r5 A4
    replace hq := hq.below r5 (by omega)
    have b5 : Below w.heap.size w w5 := b4.trans (r5.mono (by omega))
    clear r5 b4
    clear lt4_0
    have lt5_0 : w.heap.size < w5.heap.size := by omega
    have lt5_1 : w4.heap.size < w5.heap.size := by omega
    generalize actCode kd ch st pv ns = code at *
    have hne : (code != code) = false := by simp
    go_wp2_with fail
    have hq0 := hr.below b5
    have hKG : KeepAction w5 (w.heap.size) (w4.heap.size) kd ch st pv (.slice av ns.length cv) (.slice aq ns.length cq) ns w5.drew := ⟨Below.drew (Below.refl _ w5), A0, A1, A2, A3, A4, B0, B1, B2, B3, B4, hq0, hq.read⟩
    refine wp_region_held_drew (S := (fun w' => KeepAction w5 (w.heap.size) (w4.heap.size) kd ch st pv (.slice av ns.length cv) (.slice aq ns.length cq) ns w')) (by kernel_rfl) ?_ (fun hHeld => ?_)
    · (try dsimp only); exact hKG
    refine wpAnyH_take (i := 0) (oi := ⟨_, _, _, _, _, _⟩) (v := ?_) rfl (by kernel_rfl) (by kernel_rfl) (by kernel_rfl) (fun _ _ _ h => h) (Or.inl ⟨by rfl, ?_⟩) hHeld ?_
    rotate_left
    · (intro w hSw; (try dsimp only at hSw); have s0 := hSw.a0; have s1 := hSw.a1; have s2 := hSw.a2; have s3 := hSw.a3; have s4 := hSw.a4; have t0 := hSw.c0; have t1 := hSw.c1; have t2 := hSw.c2; have t3 := hSw.c3; have t4 := hSw.c4; clear hSw; go_simp; try (with_reducible rfl))
    try simp only [Act.put, List.setIfInBounds_toArray, List.set_cons_zero, List.set_cons_succ]
    refine wpAnyH_take (i := 1) (oi := ⟨_, _, _, _, _, _⟩) (v := ?_) rfl (by kernel_rfl) (by kernel_rfl) (by kernel_rfl) (fun _ _ _ h => h) (Or.inl ⟨by rfl, ?_⟩) hHeld ?_
    rotate_left
    · (intro w hSw; (try dsimp only at hSw); have s0 := hSw.a0; have s1 := hSw.a1; have s2 := hSw.a2; have s3 := hSw.a3; have s4 := hSw.a4; have t0 := hSw.c0; have t1 := hSw.c1; have t2 := hSw.c2; have t3 := hSw.c3; have t4 := hSw.c4; clear hSw; go_simp; try (with_reducible rfl))
    try simp only [Act.put, List.setIfInBounds_toArray, List.set_cons_zero, List.set_cons_succ]
    refine wpAnyH_ready (rs := [2]) (by kernel_rfl) (by simp) ?_
    refine AllReadyH.cons (o := ⟨_, _, _, _, _, _⟩) rfl (fun K hK => ?_) AllReadyH.nil
    go_simp
    go_at_call 29
    refine (toAction_calls kd ch st pv ns _ _ hn hHeld.r1).mono ?_
    rintro e v6 ⟨y6, rfl, hy6, hbv6⟩
    have hry6 := hy6.read
    obtain ⟨ay6, cy6, rfl, hyy6⟩ := hy6
    clear hyy6
    try go_wp2_with fail
    refine hK.out _ _ ?_ ?_
    · (try dsimp only); exact hHeld.next hbv6
    clear hHeld hK K
    intro hHeld
    try simp only [Act.put, List.setIfInBounds_toArray, List.set_cons_zero, List.set_cons_succ]
    refine wpAnyH_ready (rs := [3]) (by kernel_rfl) (by simp) ?_
    refine AllReadyH.cons (o := ⟨_, _, _, _, _, _⟩) rfl (fun K hK => ?_) AllReadyH.nil
    go_simp
    go_at_call 31
    refine (eqAction_calls kd ch st pv ns _ _ _ (by omega) hHeld.r2 hry6).mono ?_
    rintro e w6 ⟨rfl, hbu6⟩
    try go_wp2_with fail
    refine hK.out _ _ ?_ ?_
    · (try dsimp only); exact hHeld.next hbu6
    clear hHeld hK K
    intro hHeld
    try simp only [Act.put, List.setIfInBounds_toArray, List.set_cons_zero, List.set_cons_succ]
    refine wpAnyH_take (i := 4) (oi := ⟨_, _, _, _, _, _⟩) (v := ?_) rfl (by kernel_rfl) (by kernel_rfl) (by kernel_rfl) (fun _ _ _ h => h) (Or.inl ⟨by rfl, ?_⟩) hHeld ?_
    rotate_left
    · (intro w hSw; (try dsimp only at hSw); have s0 := hSw.a0; have s1 := hSw.a1; have s2 := hSw.a2; have s3 := hSw.a3; have s4 := hSw.a4; have t0 := hSw.c0; have t1 := hSw.c1; have t2 := hSw.c2; have t3 := hSw.c3; have t4 := hSw.c4; clear hSw; go_simp; try (with_reducible rfl))
    try simp only [Act.put, List.setIfInBounds_toArray, List.set_cons_zero, List.set_cons_succ]
    refine wpAnyH_done (by kernel_rfl) ?_ _
    have r6 := hHeld.bel
    clear hHeld hry6 hbv6 hbu6 hKG hq0
    have z6 : w5.heap.size ≤ w6.heap.size := r6.size
    replace A0 := cellb r6 A0
    replace A1 := cellb r6 A1
    replace A2 := cellb r6 A2
    replace A3 := cellb r6 A3
    replace A4 := cellb r6 A4
    replace B0 := cellb r6 B0
    replace B1 := cellb r6 B1
    replace B2 := cellb r6 B2
    replace B3 := cellb r6 B3
    replace B4 := cellb r6 B4
    replace hq := hq.below r6 (by omega)
    have b6 : Below w.heap.size w w6 := b5.trans (r6.mono (by omega))
    clear r6 b5
    clear lt5_0 lt5_1
    have lt6_0 : w.heap.size < w6.heap.size := by omega
    have lt6_1 : w4.heap.size < w6.heap.size := by omega
    go_wp2
    go_ret
    exact ⟨rfl, b6⟩
  · go_enter Try.func6, Try.ntmps6
    go_wp2_with fail
    refine (szAction_calls kd ch st pv ns.length av cv 1048576 (by omega) (by omega) _ hm).mono ?_
    rintro e w1 ⟨rfl, hb1⟩
    rw [if_neg (by omega)]
    go_wp2
    go_ret
    exact ⟨rfl, (show Below w.heap.size w _ from (by repeat' (first | with_reducible exact Below.refl _ _ | with_reducible assumption | with_reducible refine Below.drew ?_ | with_reducible refine Below.alloc ?_ ?_ _ | with_reducible refine Below.setCell ?_ ?_ _ | (simp; done) | (simp; omega) | omega))).trans (hb1.mono (by simp; try omega))⟩

theorem lawAF_laid : laidOutB Try.prog = true := by kernel_rfl
theorem lawAF_own : ownKnob Try.prog.godebug = none := by kernel_rfl
set_option maxRecDepth 100000 in
theorem lawAF_lifted (os : Os) (started : os.Started) (H : Type) (enc : TypeId × Value → H) :
    ReturnsInHanded {} Try.checked os 6 .any (Rows.fnExactActionFaultSpec.pre6 enc Try.prog Try.f6 Rows.fnExactActionFaultRow.domain false) (Rows.fnExactActionFaultSpec.post enc Try.prog Try.f6 false true false false) := by
  refine returnsInHanded_of_change (C := Try.checked) lawAF_own started (by kernel_rfl) Try.func6
    (ChangeSpec.witness6 (enc := enc) (C := Try.checked) false ⟨#[], #[.agg #[.int .i64 0, .int .i64 0, .int .i64 0, .bool false, .slice none 0 0]], []⟩ 8 (by kernel_rfl) (by kernel_rfl) (by kernel_rfl) (by kernel_rfl)) ?_
  intro W base args ds gs before hval0 hW hcnd _
  have hval : ∀ (j : Nat) t v, Try.f6.params[j]? = some t → args[j]? = some v → Value.okWide Try.prog W .any base t v := hval0
  have hW' := hW
  obtain ⟨p, q, hA0, hV, rfl, hfz, hnd⟩ := hW
  have hA : DataW.TrodAll enc Try.prog W 0 (fun _ => true) true Try.f6.params.toList args.toList ds p := hA0
  rw [Try.params6] at hA hval
  obtain ⟨v0, d0, rfl, rfl, h0⟩ := trodAll_one hA
  obtain ⟨rfl, rfl⟩ := trodVars_none hV
  have k0 := h0
  have lt0 : ∀ x ∈ p, x.block < W.heap.size := by obtain ⟨m, hm⟩ := k0; exact DataW.trod_lt m _ _ _ hm
  obtain ⟨kd, ch, st, pv, x, ns, rfl, hx, hm⟩ := open_action (hval 0 50 v0 rfl rfl) h0
  clear hA0 hval0

  refine (lawAF_walk kd ch st pv x ns W hx hm).mono fun e W' ⟨he, bel⟩ => ?_
  subst he
  exact ⟨_, rfl, _, _, _, [], _, [], hW', trodAll_mk1 (shut_bool Try.underlying4 _), trodAll_mk1 (Below.trod lawAF_laid (by kernel_rfl) (of_decide_eq_true (by kernel_rfl)) k0 bel lt0), rfl, bel.frame _, fun h => by cases h⟩

theorem lawAF_over : Rows.fnExactActionFaultRow.holds Try.pinned (OpenSpec.ofChange Rows.fnExactActionFaultSpec) :=
  OpenClaim.holds_of_wide 6 Try.f6 rfl rfl rfl rfl rfl rfl rfl ⟨rfl, rfl, rfl, rfl, rfl⟩ rfl rfl rfl rfl rfl (by kernel_rfl) Try.func6 (by kernel_rfl)
    (of_decide_eq_true (by kernel_rfl)) (by unfold Func.isWrapper; first | (rw [if_pos (by decide +kernel)]; kernel_rfl) | (rw [if_neg (by decide +kernel)]; exact ⟨rfl, rfl⟩))
    (fun os started H enc _ => lawAF_lifted os started H enc)

theorem lawAF_proved : Rows.FnExactActionFaultSaid := lawAF_over
#print axioms lawAF_proved
end Go.Proofs.Ytaljegjflkebcaa
