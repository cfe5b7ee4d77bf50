/-
  For every screen the law FnExactScreenFault returns true: impl.ScreenFault answers at each screen what the model's ScreenFault answers, and turns no argument. No condition (the law itself passes screens of more than 1048576 cells, tab stops and tables together by).
-/
import Derived.Test.YtgpmeejlpcmngaaRows
import Derived.Test.YtgpmeejlpcmngaaScrFault2
import Derived.Test.YtgpmeejlpcmngaaScrFault4
import Derived.Test.YtgpmeejlpcmngaaScrFns
import Derived.Test.YtgpmeejlpcmngaaScrOpen
import Derived.Deep.RegionHeld
import Derived.ShutString
import Derived.ChangeOld
import Derived.Lib.SmallJoins
namespace Go.Proofs.Ytgpmeejlpcmngaa
set_option maxRecDepth 20000
open Go.ChangeShapes Go.WideShapes Go.ChangeAt Go.RowKit Go.Joins
set_option linter.unusedVariables false
set_option linter.unusedSimpArgs false

theorem run_execLoad {P : Program} {ρ : Operand → Value} {op : Oper} {w : World} (ty : TypeId) (x : Operand) (ho : op.op = .load ty x) (g off : Nat) (hx : ρ x = .pointer (some ⟨g, off, none⟩)) (v : Value) (h : (loadVar ty ⟨g, off, none⟩).run P w = .ok v w) :
    (execOp ρ op).run P w = .ok (Next.value v) w := by
  unfold execOp
  simp only [ho, hx, Instr.loadAt, Instr.sureAddr, Sem.run_bind, Sem.run_pure, Result.andThen_ok, h]
theorem scr_one {w : World} {v1 v2 v3 v4 : Value} {s : Scr} (h : SRead w s v1 v2 v3 v4) : (Value.agg (scrA s v1 v2 v3 v4)).cells.toList.all (·.oneCell') = true := by
  obtain ⟨a1, c1, a2, c2, a3, c3, a4, c4, rfl, rfl, rfl, rfl⟩ := h.forms
  rfl
/-- Two boxes of one screen, as a region keeps them. -/
structure KeepS (W : World) (a b : Nat) (s : Scr) (v1 v2 v3 v4 u1 u2 u3 u4 : Value) (w1 : World) : Prop where
  bel : Below W.heap.size W w1
  A : Blk w1 a (scrA s v1 v2 v3 v4)
  X : Blk w1 b (scrA s u1 u2 u3 u4)
  r1 : SRead w1 s v1 v2 v3 v4
  r2 : SRead w1 s u1 u2 u3 u4
theorem KeepS.next {W : World} {a b : Nat} {s : Scr} {v1 v2 v3 v4 u1 u2 u3 u4 : Value} {w1 w2 : World} (h : KeepS W a b s v1 v2 v3 v4 u1 u2 u3 u4 w1) (hb : Below w1.heap.size w1 w2) : KeepS W a b s v1 v2 v3 v4 u1 u2 u3 u4 w2 :=
  ⟨h.bel.trans (hb.mono h.bel.size), h.A.belowb hb, h.X.belowb hb, h.r1.below hb, h.r2.below hb⟩

set_option maxRecDepth 20000 in
set_option maxHeartbeats 4000000 in
theorem lawSF_walk (s : Scr) (v1 v2 v3 v4 : Value) (w : World) (h : SRead w s v1 v2 v3 v4) (hm1 : s.cs.length ≤ maxLen) (hm2 : s.bs.length ≤ maxLen) (hm3 : s.tabs.length ≤ maxLen) (hm4 : s.sets.length ≤ maxLen) :
    Calls Try.prog 3 #[.agg (scrA s v1 v2 v3 v4)] w fun e w' => e = .returned (.bool true) ∧ Below w.heap.size w w' := by
  by_cases hn : (s.cs.length : Int) + s.bs.length + s.tabs.length + s.sets.length ≤ 1048576
  · skip
    have hn1 : s.cs.length ≤ 1048576 := by omega
    have hn2 : s.bs.length ≤ 1048576 := by omega
    have hn3 : s.tabs.length ≤ 1048576 := by omega
    have hn4 : s.sets.length ≤ 1048576 := by omega
    have q0 : Below w.heap.size w (w.alloc (.cells (scrA s v1 v2 v3 v4) 28)) := (Below.refl _ w).alloc (Nat.le_refl _) _
    have hA := Blk.new w (scrA s v1 v2 v3 v4) 28
    go_enter Try.func3, Try.ntmps3
    go_wp2_with (first | fail | (refine wpList_load_at rfl 28 _ rfl (w.heap.size) 0 rfl _ (scrA s v1 v2 v3 v4) hA rfl _ Try.underlying28 rfl (by kernel_rfl) ?_; (try simp only [Act.put, List.setIfInBounds_toArray, List.set_cons_zero, List.set_cons_succ])))
    go_at_call 7
    refine (szScreen_calls s v1 v2 v3 v4 1048576 (by omega) (by omega) _ (h.below q0) hm1 hm2 hm3 hm4).mono ?_
    rintro e w1 ⟨rfl, hb⟩
    replace hA := hA.belowb hb
    have b1 : Below w.heap.size w w1 := q0.trans (hb.mono q0.size)
    have hr := h.below b1
    have z1 : w.heap.size < w1.heap.size := by have := hb.size; simp at this; omega
    clear hb q0 h
    rw [if_pos hn]
    have hge : ¬ ((1048576 - (s.cs.length : Int) - s.bs.length - s.tabs.length - s.sets.length) < 0) := by omega
    go_wp2_with (first | fail | (refine wpList_load_at rfl 28 _ rfl (w.heap.size) 0 rfl _ (scrA s v1 v2 v3 v4) hA rfl _ Try.underlying28 rfl (by kernel_rfl) ?_; (try simp only [Act.put, List.setIfInBounds_toArray, List.set_cons_zero, List.set_cons_succ])))
    go_at_call 9
    refine (toScreen_calls s v1 v2 v3 v4 _ hn1 hn2 hn3 hn4 hr).mono ?_
    rintro e w2 ⟨p1, p2, p3, p4, rfl, hp, hb⟩
    have z2 : w1.heap.size ≤ w2.heap.size := hb.size
    replace hA := hA.belowb hb
    replace hr := hr.below hb
    have b2 : Below w.heap.size w w2 := b1.trans (hb.mono (by omega))
    clear hb b1
    go_wp2_with fail
    go_at_call 8
    refine (specScreenFault_calls s _ _ _ _ _ hn1 hn2 hn3 hn4 hp.read).mono ?_
    rintro e w3 ⟨rfl, hb⟩
    have z3 : w2.heap.size ≤ w3.heap.size := hb.size
    replace hA := hA.belowb hb
    replace hr := hr.below hb
    have b3 : Below w.heap.size w w3 := b2.trans (hb.mono (by omega))
    clear hb b2
    clear hp
    go_wp2_with (first | fail | (refine wpList_load_at rfl 28 _ rfl (w.heap.size) 0 rfl _ (scrA s v1 v2 v3 v4) hA rfl _ Try.underlying28 rfl (by kernel_rfl) ?_; (try simp only [Act.put, List.setIfInBounds_toArray, List.set_cons_zero, List.set_cons_succ])))
    go_at_call 9
    refine (toScreen_calls s v1 v2 v3 v4 _ hn1 hn2 hn3 hn4 hr).mono ?_
    rintro e w4 ⟨q1, q2, q3, q4, rfl, hq, hb⟩
    have z4 : w3.heap.size ≤ w4.heap.size := hb.size
    replace hA := hA.belowb hb
    replace hr := hr.below hb
    have b4 : Below w.heap.size w w4 := b3.trans (hb.mono (by omega))
    clear hb b3
    go_wp2_with (first | fail | (refine wpList_load_at rfl 28 _ rfl (w.heap.size) 0 rfl _ (scrA s v1 v2 v3 v4) hA rfl _ Try.underlying28 rfl (by kernel_rfl) ?_; (try simp only [Act.put, List.setIfInBounds_toArray, List.set_cons_zero, List.set_cons_succ])) | (refine wpList_store_blk rfl _ _ _ rfl (w4.heap.size) 0 (scrA scr0 (.slice none 0 0) (.slice none 0 0) (.slice none 0 0) (.slice none 0 0)) (scrA s q1 q2 q3 q4) (.agg (scrA s q1 q2 q3 q4)) rfl rfl (Blk.new w4 _ _) rfl (by kernel_rfl) (scr_one hq.read) rfl ?_; (try simp only [Act.put, List.setIfInBounds_toArray, List.set_cons_zero, List.set_cons_succ]); intro w5 hX hu; have hb : Below w4.heap.size w4 w5 := ((Below.refl _ w4).alloc (Nat.le_refl _) _).trans (hu.below (Nat.le_refl _)); have z5 : w4.heap.size + 1 = w5.heap.size := (by have := hu.size; simp at this; omega); clear hu) | (refine wpList_load_at rfl 35 _ rfl (w4.heap.size) 0 rfl _ (scrA s q1 q2 q3 q4) hX rfl _ Try.underlying35 rfl (by kernel_rfl) ?_; (try simp only [Act.put, List.setIfInBounds_toArray, List.set_cons_zero, List.set_cons_succ])))
    replace hA := hA.belowb hb
    replace hr := hr.below hb
    replace hq := hq.below hb (by omega)
    have b5 : Below w.heap.size w w5 := b4.trans (hb.mono (by omega))
    clear hb b4
    go_wp2_with fail
    go_at_call 10
    refine (implScreenFault_calls s _ _ _ _ _ hn1 hn2 hn3 hn4 hq.read).mono ?_
    rintro e w6 ⟨rfl, hb⟩
    have z6 : w5.heap.size ≤ w6.heap.size := hb.size
    replace hA := hA.belowb hb
    replace hX := hX.belowb hb
    replace hr := hr.below hb
    replace hq := hq.below hb (by omega)
    have b6 : Below w.heap.size w w6 := b5.trans (hb.mono (by omega))
    clear hb b5
    generalize scrCode s = code at *
    have hne : (code != code) = false := by simp
    go_wp2_with fail
    have hKS : KeepS w6 (w.heap.size) (w4.heap.size) s v1 v2 v3 v4 q1 q2 q3 q4 w6.drew := ⟨Below.drew (Below.refl _ w6), hA, hX, hr.below (Below.drew (Below.refl _ _)), hq.read.below (Below.drew (Below.refl _ _))⟩
    refine wp_region_held_drew (S := (fun w' => KeepS w6 (w.heap.size) (w4.heap.size) s v1 v2 v3 v4 q1 q2 q3 q4 w')) (by kernel_rfl) ?_ (fun hHeld => ?_)
    · (try dsimp only); exact hKS
    refine wpAnyH_take (i := 0) (oi := ⟨_, _, _, _, _, _⟩) (v := .agg (scrA s q1 q2 q3 q4)) rfl (by kernel_rfl) (by kernel_rfl) (by kernel_rfl) (fun _ _ _ h => h) (Or.inl ⟨by rfl, ?_⟩) hHeld ?_
    · intro w hSw
      (try dsimp only at hSw)
      have hx := run_loadVar_at (P := Try.prog) (o := 0) (ty := 35) (vs := scrA s q1 q2 q3 q4) hSw.X rfl Try.underlying35 rfl (by kernel_rfl)
      exact run_execLoad _ _ rfl _ _ rfl _ hx
    try simp only [Act.put, List.setIfInBounds_toArray, List.set_cons_zero, List.set_cons_succ]
    refine wpAnyH_take (i := 1) (oi := ⟨_, _, _, _, _, _⟩) (v := .agg (scrA s v1 v2 v3 v4)) rfl (by kernel_rfl) (by kernel_rfl) (by kernel_rfl) (fun _ _ _ h => h) (Or.inl ⟨by rfl, ?_⟩) hHeld ?_
    · intro w hSw
      (try dsimp only at hSw)
      have hx := run_loadVar_at (P := Try.prog) (o := 0) (ty := 28) (vs := scrA s v1 v2 v3 v4) hSw.A rfl Try.underlying28 rfl (by kernel_rfl)
      exact run_execLoad _ _ rfl _ _ rfl _ hx
    try simp only [Act.put, List.setIfInBounds_toArray, List.set_cons_zero, List.set_cons_succ]
    refine wpAnyH_ready (rs := [2]) (by kernel_rfl) (by simp) ?_
    refine AllReadyH.cons (o := ⟨_, _, _, _, _, _⟩) rfl (fun K hK => ?_) AllReadyH.nil
    go_simp
    go_at_call 9
    refine (toScreen_calls s v1 v2 v3 v4 _ hn1 hn2 hn3 hn4 hHeld.r1).mono ?_
    rintro e vv7 ⟨y1, y2, y3, y4, rfl, hy, hbv⟩
    have hry := hy.read
    clear hy
    try go_wp2_with fail
    refine hK.out _ _ ?_ ?_
    · (try dsimp only); exact hHeld.next hbv
    clear hHeld hK K
    intro hHeld
    try simp only [Act.put, List.setIfInBounds_toArray, List.set_cons_zero, List.set_cons_succ]
    refine wpAnyH_ready (rs := [3]) (by kernel_rfl) (by simp) ?_
    refine AllReadyH.cons (o := ⟨_, _, _, _, _, _⟩) rfl (fun K hK => ?_) AllReadyH.nil
    go_simp
    go_at_call 11
    refine (eqScreen_calls s _ _ _ _ _ _ _ _ _ hn1 hn2 hn3 hn4 hHeld.r2 hry).mono ?_
    rintro e w7 ⟨rfl, hbu⟩
    try go_wp2_with fail
    refine hK.out _ _ ?_ ?_
    · (try dsimp only); exact hHeld.next hbu
    clear hHeld hK K
    intro hHeld
    try simp only [Act.put, List.setIfInBounds_toArray, List.set_cons_zero, List.set_cons_succ]
    refine wpAnyH_take (i := 4) (oi := ⟨_, _, _, _, _, _⟩) (v := ?_) rfl (by kernel_rfl) (by kernel_rfl) (by kernel_rfl) (fun _ _ _ h => h) (Or.inl ⟨by rfl, ?_⟩) hHeld ?_
    rotate_left
    · (intro w hSw; (try dsimp only at hSw); go_simp; try (with_reducible rfl))
    try simp only [Act.put, List.setIfInBounds_toArray, List.set_cons_zero, List.set_cons_succ]
    refine wpAnyH_done (by kernel_rfl) ?_ _
    have hb := hHeld.bel
    clear hHeld hry hbv hbu hKS
    have z7 : w6.heap.size ≤ w7.heap.size := hb.size
    replace hA := hA.belowb hb
    replace hX := hX.belowb hb
    replace hr := hr.below hb
    replace hq := hq.below hb (by omega)
    have b7 : Below w.heap.size w w7 := b6.trans (hb.mono (by omega))
    clear hb b6
    go_wp2
    go_ret
    exact ⟨rfl, b7⟩
  · have q0 : Below w.heap.size w (w.alloc (.cells (scrA s v1 v2 v3 v4) 28)) := (Below.refl _ w).alloc (Nat.le_refl _) _
    have hA := Blk.new w (scrA s v1 v2 v3 v4) 28
    go_enter Try.func3, Try.ntmps3
    go_wp2_with (first | fail | (refine wpList_load_at rfl 28 _ rfl (w.heap.size) 0 rfl _ (scrA s v1 v2 v3 v4) hA rfl _ Try.underlying28 rfl (by kernel_rfl) ?_; (try simp only [Act.put, List.setIfInBounds_toArray, List.set_cons_zero, List.set_cons_succ])))
    go_at_call 7
    refine (szScreen_calls s v1 v2 v3 v4 1048576 (by omega) (by omega) _ (h.below q0) hm1 hm2 hm3 hm4).mono ?_
    rintro e w1 ⟨rfl, hb⟩
    rw [if_neg (by omega)]
    go_wp2
    go_ret
    exact ⟨rfl, q0.trans (hb.mono q0.size)⟩

theorem lawSF_laid : laidOutB Try.prog = true := by kernel_rfl
theorem lawSF_own : ownKnob Try.prog.godebug = none := by kernel_rfl
set_option maxRecDepth 100000 in
theorem lawSF_lifted (os : Os) (started : os.Started) (H : Type) (enc : TypeId × Value → H) :
    ReturnsInHanded {} Try.checked os 3 .any (Rows.fnExactScreenFaultSpec.pre6 enc Try.prog Try.f3 Rows.fnExactScreenFaultRow.domain false) (Rows.fnExactScreenFaultSpec.post enc Try.prog Try.f3 false true false false) := by
  refine returnsInHanded_of_change (C := Try.checked) lawSF_own started (by kernel_rfl) Try.func3
    (ChangeSpec.witness6 (enc := enc) (C := Try.checked) false ⟨#[], #[.agg #[.int .i64 0, .int .i64 0, .slice none 0 0, .slice none 0 0, .int .i64 0, .int .i64 0, .bool false, .int .i64 0, .int .i64 0, .int .i64 0, .bool false, .bool false, .bool false, .slice none 0 0, .int .i64 0, .int .i64 0, .int .i64 0, .slice none 0 0, .int .i64 0, .int .i64 0]], []⟩ 8 (by kernel_rfl) (by kernel_rfl) (by kernel_rfl) (by kernel_rfl)) ?_
  intro W base args ds gs before hval0 hW hcnd _
  have hval : ∀ (j : Nat) t v, Try.f3.params[j]? = some t → args[j]? = some v → Value.okWide Try.prog W .any base t v := hval0
  have hW' := hW
  obtain ⟨p, q, hA0, hV, rfl, hfz, hnd⟩ := hW
  have hA : DataW.TrodAll enc Try.prog W 0 (fun _ => true) true Try.f3.params.toList args.toList ds p := hA0
  rw [Try.params3] at hA hval
  obtain ⟨v0, d0, rfl, rfl, h0⟩ := trodAll_one hA
  obtain ⟨rfl, rfl⟩ := trodVars_none hV
  have k0 := h0
  have lt0 : ∀ x ∈ p, x.block < W.heap.size := by obtain ⟨m, hm⟩ := k0; exact DataW.trod_lt m _ _ _ hm
  obtain ⟨s, v1, v2, v3, v4, rfl, hx, hm1, hm2, hm3, hm4⟩ := open_screen (hval 0 28 v0 rfl rfl) h0
  clear hA0 hval0

  refine (lawSF_walk s v1 v2 v3 v4 W hx hm1 hm2 hm3 hm4).mono fun e W' ⟨he, bel⟩ => ?_
  subst he
  exact ⟨_, rfl, _, _, _, [], _, [], hW', trodAll_mk1 (shut_bool Try.underlying4 _), trodAll_mk1 (Below.trod lawSF_laid (by kernel_rfl) (of_decide_eq_true (by kernel_rfl)) k0 bel lt0), rfl, bel.frame _, fun h => by cases h⟩

theorem lawSF_over : Rows.fnExactScreenFaultRow.holds Try.pinned (OpenSpec.ofChange Rows.fnExactScreenFaultSpec) :=
  OpenClaim.holds_of_wide 3 Try.f3 rfl rfl rfl rfl rfl rfl rfl ⟨rfl, rfl, rfl, rfl, rfl⟩ rfl rfl rfl rfl rfl (by kernel_rfl) Try.func3 (by kernel_rfl)
    (of_decide_eq_true (by kernel_rfl)) (by unfold Func.isWrapper; first | (rw [if_pos (by decide +kernel)]; kernel_rfl) | (rw [if_neg (by decide +kernel)]; exact ⟨rfl, rfl⟩))
    (fun os started H enc _ => lawSF_lifted os started H enc)

theorem lawSF_proved : Rows.FnExactScreenFaultSaid := lawSF_over
#print axioms lawSF_proved
end Go.Proofs.Ytgpmeejlpcmngaa
