/-
  For every grid the law FnExactGridFault returns true: impl.GridFault answers at each grid what the model's GridFault answers, and turns no argument. No condition (the law itself passes grids of more than 1048576 cells by).
-/
import Derived.Test.YtbndncfkkhjkoahRows
import Derived.Test.YtbndncfkkhjkoahGridFaults
import Derived.Test.YtbndncfkkhjkoahGridFns
import Derived.Test.YtbndncfkkhjkoahGridOpen
import Derived.Deep.RegionHeld
import Derived.ShutString
import Derived.ChangeOld
import Derived.Lib.SmallJoins
namespace Go.Proofs.Ytbndncfkkhjkoah
set_option maxRecDepth 20000
open Go.ChangeShapes Go.WideShapes Go.ChangeAt Go.RowKit Go.Joins
set_option linter.unusedVariables false
set_option linter.unusedSimpArgs false

/-- Two grids' boxes and lists, as a region keeps them. -/
structure KeepG (W : World) (b c : Nat) (r wd : Int) (u2 u3 v2 v3 : Value) (cs bs : List (Int × Int)) (w1 : World) : Prop where
  bel : Below W.heap.size W w1
  a0 : w1.cell? ⟨b, 0, none⟩ = some (.int .i64 r)
  a1 : w1.cell? ⟨b, 1, none⟩ = some (.int .i64 wd)
  a2 : w1.cell? ⟨b, 2, none⟩ = some u2
  a3 : w1.cell? ⟨b, 3, none⟩ = some u3
  c0 : w1.cell? ⟨c, 0, none⟩ = some (.int .i64 r)
  c1 : w1.cell? ⟨c, 1, none⟩ = some (.int .i64 wd)
  c2 : w1.cell? ⟨c, 2, none⟩ = some v2
  c3 : w1.cell? ⟨c, 3, none⟩ = some v3
  r1 : PRead w1 u2 cs
  r2 : PRead w1 u3 bs
  r3 : PRead w1 v2 cs
  r4 : PRead w1 v3 bs
theorem KeepG.next {W : World} {b c : Nat} {r wd : Int} {u2 u3 v2 v3 : Value} {cs bs : List (Int × Int)} {w1 w2 : World} (h : KeepG W b c r wd u2 u3 v2 v3 cs bs w1) (hb : Below w1.heap.size w1 w2) : KeepG W b c r wd u2 u3 v2 v3 cs bs w2 :=
  ⟨h.bel.trans (hb.mono h.bel.size), cellb hb h.a0, cellb hb h.a1, cellb hb h.a2, cellb hb h.a3, cellb hb h.c0, cellb hb h.c1, cellb hb h.c2, cellb hb h.c3, h.r1.below hb, h.r2.below hb, h.r3.below hb, h.r4.below hb⟩

set_option maxHeartbeats 2000000 in
theorem lawGF_walk (r wd : Int) (v1 v2 : Value) (cs bs : List (Int × Int)) (w : World) (hr1 : PRead w v1 cs) (hr2 : PRead w v2 bs) (hm1 : cs.length ≤ maxLen) (hm2 : bs.length ≤ maxLen) :
    Calls Try.prog 8 #[.agg #[.int .i64 r, .int .i64 wd, v1, v2]] w fun e w' => e = .returned (.bool true) ∧ Below w.heap.size w w' := by
  have hr1' := hr1
  obtain ⟨av, cv, rfl, _⟩ := hr1'
  have hr2' := hr2
  obtain ⟨bv, dv, rfl, _⟩ := hr2'
  by_cases hn : (cs.length : Int) + bs.length ≤ 1048576
  · have hn1 : cs.length ≤ 1048576 := by omega
    have hn2 : bs.length ≤ 1048576 := by omega
    go_enter Try.func8, Try.ntmps8
    go_wp2_with fail
    have q1 : Below w.heap.size w (w.alloc (.cells #[.int .i64 r, .int .i64 wd, .slice av cs.length cv, .slice bv bs.length dv] 58)) := (by repeat' (first | with_reducible exact Below.refl _ _ | with_reducible assumption | with_reducible refine Below.drew ?_ | with_reducible refine Below.alloc ?_ ?_ _ | with_reducible refine Below.setCell ?_ ?_ _ | (simp; done) | (simp; omega) | omega))
    refine (szGrid_calls r wd cs.length bs.length av bv cv dv 1048576 (by omega) (by omega) _ hm1 hm2).mono ?_
    rintro e w1 ⟨rfl, hb1⟩
    have A0 : w1.cell? ⟨w.heap.size, 0, none⟩ = some (.int .i64 r) := cellb hb1 (by simp)
    have A1 : w1.cell? ⟨w.heap.size, 1, none⟩ = some (.int .i64 wd) := cellb hb1 (by simp)
    have A2 : w1.cell? ⟨w.heap.size, 2, none⟩ = some (.slice av cs.length cv) := cellb hb1 (by simp)
    have A3 : w1.cell? ⟨w.heap.size, 3, none⟩ = some (.slice bv bs.length dv) := cellb hb1 (by simp)
    have z1 : w.heap.size + 1 ≤ w1.heap.size := by have := hb1.size; simp at this; omega
    have r1 : Below w.heap.size w w1 := q1.trans (hb1.mono (by simp; try omega))
    clear q1 hb1
    have b1 : Below w.heap.size w w1 := r1
    clear r1
    have lt1_0 : w.heap.size < w1.heap.size := by omega
    rw [if_pos hn]
    have hge : ¬ ((1048576 - (cs.length : Int) - (bs.length : Int)) < 0) := by omega
    go_wp2_with fail
    refine (toGrid_calls r wd cs bs _ _ _ hn1 hn2 ((hr1.below b1)) ((hr2.below b1))).mono ?_
    rintro e w2 ⟨xp, yp, rfl, hp, hb2⟩
    have z2 : w1.heap.size ≤ w2.heap.size := hb2.size
    have r2 := hb2
    clear hb2
    replace A0 := cellb r2 A0
    replace A1 := cellb r2 A1
    replace A2 := cellb r2 A2
    replace A3 := cellb r2 A3
    have b2 : Below w.heap.size w w2 := b1.trans (r2.mono (by omega))
    clear r2 b1
    clear lt1_0
    have lt2_0 : w.heap.size < w2.heap.size := by omega
    obtain ⟨ap, cp, dp, ep, rfl, rfl⟩ := hp.forms
    go_wp2_with fail
    refine (specGridFault_calls r wd cs bs _ _ _ hn1 hn2 hp.read1 hp.read2).mono ?_
    rintro e w3 ⟨rfl, hb3⟩
    have z3 : w2.heap.size ≤ w3.heap.size := hb3.size
    have r3 := hb3
    clear hb3
    replace A0 := cellb r3 A0
    replace A1 := cellb r3 A1
    replace A2 := cellb r3 A2
    replace A3 := cellb r3 A3
    replace hp := hp.below r3 (by omega)
    have b3 : Below w.heap.size w w3 := b2.trans (r3.mono (by omega))
    clear r3 b2
    clear lt2_0
    have lt3_0 : w.heap.size < w3.heap.size := by omega
    clear hp
    go_wp2_with fail
    refine (toGrid_calls r wd cs bs _ _ _ hn1 hn2 ((hr1.below b3)) ((hr2.below b3))).mono ?_
    rintro e w4 ⟨xq, yq, rfl, hq, hb4⟩
    have z4 : w3.heap.size ≤ w4.heap.size := hb4.size
    have r4 := hb4
    clear hb4
    replace A0 := cellb r4 A0
    replace A1 := cellb r4 A1
    replace A2 := cellb r4 A2
    replace A3 := cellb r4 A3
    have b4 : Below w.heap.size w w4 := b3.trans (r4.mono (by omega))
    clear r4 b3
    clear lt3_0
    have lt4_0 : w.heap.size < w4.heap.size := by omega
    obtain ⟨aq, cq, dq, eq, rfl, rfl⟩ := hq.forms
    go_wp2_with fail
    have q5 : Below w4.heap.size w4 (w4.alloc (.cells #[.int .i64 r, .int .i64 wd, .slice aq cs.length cq, .slice dq bs.length eq] 63)) := (by repeat' (first | with_reducible exact Below.refl _ _ | with_reducible assumption | with_reducible refine Below.drew ?_ | with_reducible refine Below.alloc ?_ ?_ _ | with_reducible refine Below.setCell ?_ ?_ _ | (simp; done) | (simp; omega) | omega))
    refine (implGridFault_calls r wd cs bs _ _ _ hn1 hn2 (hq.read1.below q5) (hq.read2.below q5)).mono ?_
    rintro e w5 ⟨rfl, hb5⟩
    have B0 : w5.cell? ⟨w4.heap.size, 0, none⟩ = some (.int .i64 r) := cellb hb5 (by simp)
    have B1 : w5.cell? ⟨w4.heap.size, 1, none⟩ = some (.int .i64 wd) := cellb hb5 (by simp)
    have B2 : w5.cell? ⟨w4.heap.size, 2, none⟩ = some (.slice aq cs.length cq) := cellb hb5 (by simp)
    have B3 : w5.cell? ⟨w4.heap.size, 3, none⟩ = some (.slice dq bs.length eq) := cellb hb5 (by simp)
    have z5 : w4.heap.size + 1 ≤ w5.heap.size := by have := hb5.size; simp at this; omega
    have r5 : Below w4.heap.size w4 w5 := q5.trans (hb5.mono (by simp; try omega))
    clear q5 hb5
    replace A0 := cellb r5 A0
    replace A1 := cellb r5 A1
    replace A2 := cellb r5 A2
    replace A3 := cellb r5 A3
    replace hq := hq.below r5 (by omega)
    have b5 : Below w.heap.size w w5 := b4.trans (r5.mono (by omega))
    clear r5 b4
    clear lt4_0
    have lt5_0 : w.heap.size < w5.heap.size := by omega
    have lt5_1 : w4.heap.size < w5.heap.size := by omega
    generalize gridCode r wd cs bs = code at *
    have hne : (code != code) = false := by simp
    go_wp2_with fail
    have hq0 := hr1.below b5
    have hq1 := hr2.below b5
    have hKG : KeepG w5 (w.heap.size) (w4.heap.size) r wd (.slice av cs.length cv) (.slice bv bs.length dv) (.slice aq cs.length cq) (.slice dq bs.length eq) cs bs w5.drew := ⟨Below.drew (Below.refl _ w5), A0, A1, A2, A3, B0, B1, B2, B3, hq0, hq1, hq.read1, hq.read2⟩
    refine wp_region_held_drew (S := (fun w' => KeepG w5 (w.heap.size) (w4.heap.size) r wd (.slice av cs.length cv) (.slice bv bs.length dv) (.slice aq cs.length cq) (.slice dq bs.length eq) cs bs w')) (by kernel_rfl) ?_ (fun hHeld => ?_)
    · (try dsimp only); exact hKG
    refine wpAnyH_take (i := 0) (oi := ⟨_, _, _, _, _, _⟩) (v := ?_) rfl (by kernel_rfl) (by kernel_rfl) (by kernel_rfl) (fun _ _ _ h => h) (Or.inl ⟨by rfl, ?_⟩) hHeld ?_
    rotate_left
    · (intro w hSw; (try dsimp only at hSw); have s0 := hSw.a0; have s1 := hSw.a1; have s2 := hSw.a2; have s3 := hSw.a3; have t0 := hSw.c0; have t1 := hSw.c1; have t2 := hSw.c2; have t3 := hSw.c3; clear hSw; go_simp; try (with_reducible rfl))
    try simp only [Act.put, List.setIfInBounds_toArray, List.set_cons_zero, List.set_cons_succ]
    refine wpAnyH_take (i := 1) (oi := ⟨_, _, _, _, _, _⟩) (v := ?_) rfl (by kernel_rfl) (by kernel_rfl) (by kernel_rfl) (fun _ _ _ h => h) (Or.inl ⟨by rfl, ?_⟩) hHeld ?_
    rotate_left
    · (intro w hSw; (try dsimp only at hSw); have s0 := hSw.a0; have s1 := hSw.a1; have s2 := hSw.a2; have s3 := hSw.a3; have t0 := hSw.c0; have t1 := hSw.c1; have t2 := hSw.c2; have t3 := hSw.c3; clear hSw; go_simp; try (with_reducible rfl))
    try simp only [Act.put, List.setIfInBounds_toArray, List.set_cons_zero, List.set_cons_succ]
    refine wpAnyH_ready (rs := [2]) (by kernel_rfl) (by simp) ?_
    refine AllReadyH.cons (o := ⟨_, _, _, _, _, _⟩) rfl (fun K hK => ?_) AllReadyH.nil
    go_simp
    go_at_call 33
    refine (toGrid_calls r wd cs bs _ _ _ hn1 hn2 hHeld.r1 hHeld.r2).mono ?_
    rintro e v6 ⟨y6, z6, rfl, hy6, hbv6⟩
    have hry6 := hy6.read1
    have hrz6 := hy6.read2
    obtain ⟨ay6, cy6, az6, cz6, rfl, rfl⟩ := hy6.forms
    clear hy6
    try go_wp2_with fail
    refine hK.out _ _ ?_ ?_
    · (try dsimp only); exact hHeld.next hbv6
    clear hHeld hK K
    intro hHeld
    try simp only [Act.put, List.setIfInBounds_toArray, List.set_cons_zero, List.set_cons_succ]
    refine wpAnyH_ready (rs := [3]) (by kernel_rfl) (by simp) ?_
    refine AllReadyH.cons (o := ⟨_, _, _, _, _, _⟩) rfl (fun K hK => ?_) AllReadyH.nil
    go_simp
    go_at_call 35
    refine (eqGrid_calls r wd cs bs _ _ _ _ _ (by omega) (by omega) hHeld.r3 hHeld.r4 hry6 hrz6).mono ?_
    rintro e w6 ⟨rfl, hbu6⟩
    try go_wp2_with fail
    refine hK.out _ _ ?_ ?_
    · (try dsimp only); exact hHeld.next hbu6
    clear hHeld hK K
    intro hHeld
    try simp only [Act.put, List.setIfInBounds_toArray, List.set_cons_zero, List.set_cons_succ]
    refine wpAnyH_take (i := 4) (oi := ⟨_, _, _, _, _, _⟩) (v := ?_) rfl (by kernel_rfl) (by kernel_rfl) (by kernel_rfl) (fun _ _ _ h => h) (Or.inl ⟨by rfl, ?_⟩) hHeld ?_
    rotate_left
    · (intro w hSw; (try dsimp only at hSw); have s0 := hSw.a0; have s1 := hSw.a1; have s2 := hSw.a2; have s3 := hSw.a3; have t0 := hSw.c0; have t1 := hSw.c1; have t2 := hSw.c2; have t3 := hSw.c3; clear hSw; go_simp; try (with_reducible rfl))
    try simp only [Act.put, List.setIfInBounds_toArray, List.set_cons_zero, List.set_cons_succ]
    refine wpAnyH_done (by kernel_rfl) ?_ _
    have r6 := hHeld.bel
    clear hHeld hry6 hrz6 hbv6 hbu6 hKG hq0 hq1
    have z6 : w5.heap.size ≤ w6.heap.size := r6.size
    replace A0 := cellb r6 A0
    replace A1 := cellb r6 A1
    replace A2 := cellb r6 A2
    replace A3 := cellb r6 A3
    replace B0 := cellb r6 B0
    replace B1 := cellb r6 B1
    replace B2 := cellb r6 B2
    replace B3 := cellb r6 B3
    replace hq := hq.below r6 (by omega)
    have b6 : Below w.heap.size w w6 := b5.trans (r6.mono (by omega))
    clear r6 b5
    clear lt5_0 lt5_1
    have lt6_0 : w.heap.size < w6.heap.size := by omega
    have lt6_1 : w4.heap.size < w6.heap.size := by omega
    go_wp2
    go_ret
    exact ⟨rfl, b6⟩
  · go_enter Try.func8, Try.ntmps8
    go_wp2_with fail
    refine (szGrid_calls r wd cs.length bs.length av bv cv dv 1048576 (by omega) (by omega) _ hm1 hm2).mono ?_
    rintro e w1 ⟨rfl, hb1⟩
    rw [if_neg (by omega)]
    go_wp2
    go_ret
    exact ⟨rfl, (show Below w.heap.size w _ from (by repeat' (first | with_reducible exact Below.refl _ _ | with_reducible assumption | with_reducible refine Below.drew ?_ | with_reducible refine Below.alloc ?_ ?_ _ | with_reducible refine Below.setCell ?_ ?_ _ | (simp; done) | (simp; omega) | omega))).trans (hb1.mono (by simp; try omega))⟩

theorem lawGF_laid : laidOutB Try.prog = true := by kernel_rfl
theorem lawGF_own : ownKnob Try.prog.godebug = none := by kernel_rfl
set_option maxRecDepth 100000 in
theorem lawGF_lifted (os : Os) (started : os.Started) (H : Type) (enc : TypeId × Value → H) :
    ReturnsInHanded {} Try.checked os 8 .any (Rows.fnExactGridFaultSpec.pre6 enc Try.prog Try.f8 Rows.fnExactGridFaultRow.domain false) (Rows.fnExactGridFaultSpec.post enc Try.prog Try.f8 false true false false) := by
  refine returnsInHanded_of_change (C := Try.checked) lawGF_own started (by kernel_rfl) Try.func8
    (ChangeSpec.witness6 (enc := enc) (C := Try.checked) false ⟨#[], #[.agg #[.int .i64 0, .int .i64 0, .slice none 0 0, .slice none 0 0]], []⟩ 8 (by kernel_rfl) (by kernel_rfl) (by kernel_rfl) (by kernel_rfl)) ?_
  intro W base args ds gs before hval0 hW hcnd _
  have hval : ∀ (j : Nat) t v, Try.f8.params[j]? = some t → args[j]? = some v → Value.okWide Try.prog W .any base t v := hval0
  have hW' := hW
  obtain ⟨p, q, hA0, hV, rfl, hfz, hnd⟩ := hW
  have hA : DataW.TrodAll enc Try.prog W 0 (fun _ => true) true Try.f8.params.toList args.toList ds p := hA0
  rw [Try.params8] at hA hval
  obtain ⟨v0, d0, rfl, rfl, h0⟩ := trodAll_one hA
  obtain ⟨rfl, rfl⟩ := trodVars_none hV
  have k0 := h0
  have lt0 : ∀ x ∈ p, x.block < W.heap.size := by obtain ⟨m, hm⟩ := k0; exact DataW.trod_lt m _ _ _ hm
  obtain ⟨r, wd, x, y, cs, bs, rfl, hx, hy, hm1, hm2⟩ := open_grid (hval 0 58 v0 rfl rfl) h0
  clear hA0 hval0

  refine (lawGF_walk r wd x y cs bs W hx hy hm1 hm2).mono fun e W' ⟨he, bel⟩ => ?_
  subst he
  exact ⟨_, rfl, _, _, _, [], _, [], hW', trodAll_mk1 (shut_bool Try.underlying4 _), trodAll_mk1 (Below.trod lawGF_laid (by kernel_rfl) (of_decide_eq_true (by kernel_rfl)) k0 bel lt0), rfl, bel.frame _, fun h => by cases h⟩

theorem lawGF_over : Rows.fnExactGridFaultRow.holds Try.pinned (OpenSpec.ofChange Rows.fnExactGridFaultSpec) :=
  OpenClaim.holds_of_wide 8 Try.f8 rfl rfl rfl rfl rfl rfl rfl ⟨rfl, rfl, rfl, rfl, rfl⟩ rfl rfl rfl rfl rfl (by kernel_rfl) Try.func8 (by kernel_rfl)
    (of_decide_eq_true (by kernel_rfl)) (by unfold Func.isWrapper; first | (rw [if_pos (by decide +kernel)]; kernel_rfl) | (rw [if_neg (by decide +kernel)]; exact ⟨rfl, rfl⟩))
    (fun os started H enc _ => lawGF_lifted os started H enc)

theorem lawGF_proved : Rows.FnExactGridFaultSaid := lawGF_over
#print axioms lawGF_proved
end Go.Proofs.Ytbndncfkkhjkoah
