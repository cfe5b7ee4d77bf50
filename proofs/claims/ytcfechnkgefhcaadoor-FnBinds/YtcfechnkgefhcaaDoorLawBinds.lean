/-
  The walk of the law FnBinds: what is put is found again, other keys are as they were, the list stays fine.
-/
import Derived.Test.YtcfechnkgefhcaaDoorBindDraw3
import Derived.Test.YtcfechnkgefhcaaDoorBindMath
import Derived.Test.YtcfechnkgefhcaaDoorPutFns8
import Derived.BigGuard
namespace Go.Proofs.YtcfechnkgefhcaaDoor
set_option maxRecDepth 20000
open Go.ChangeShapes Go.WideShapes Go.ChangeAt Go.RowKit
set_option linter.unusedVariables false
set_option linter.unusedSimpArgs false
set_option maxRecDepth 20000

theorem fr0 (x0 : Int) (a : Option Addr) (n m : Nat) (w : World) : (Instr.field 32 (.agg #[.int .i64 x0, .slice a n m]) 0).run Tryd.prog w = .ok (.int .i64 x0) w := by kernel_rfl
theorem fs0 (x0 x1 x2 : Int) (w : World) : (Instr.field 36 (.agg #[.int .i64 x0, .int .i64 x1, .int .i64 x2]) 0).run Tryd.prog w = .ok (.int .i64 x0) w := by kernel_rfl
theorem fs1 (x0 x1 x2 : Int) (w : World) : (Instr.field 36 (.agg #[.int .i64 x0, .int .i64 x1, .int .i64 x2]) 1).run Tryd.prog w = .ok (.agg #[.int .i64 x1, .int .i64 x2]) w := by kernel_rfl
theorem eql_same (p1 p2 : Int) (w : World) : (binOp .eql 26 (.agg #[.int .i64 p1, .int .i64 p2]) (.agg #[.int .i64 p1, .int .i64 p2])).run Tryd.prog w = .ok (.bool true) w := by
  rw [eql_sym]; simp
theorem neq_same (p1 p2 : Int) (w : World) : (binOp .neq 26 (.agg #[.int .i64 p1, .int .i64 p2]) (.agg #[.int .i64 p1, .int .i64 p2])).run Tryd.prog w = .ok (.bool false) w := by
  have h := eql_same p1 p2 w
  rw [run_eql_struct] at h
  rw [run_neq_struct]
  generalize (Op.equalIn 10000 26 (.agg #[.int .i64 p1, .int .i64 p2]) (.agg #[.int .i64 p1, .int .i64 p2])).run Tryd.prog w = r at h ⊢
  cases r with
  | ok b w' => simp [Result.andThen] at h ⊢; obtain ⟨h1, h2⟩ := h; subst h1; exact ⟨rfl, h2⟩
  | halt e w' => simp [Result.andThen] at h
/-- The bind's box, the result's box, both rows. -/
structure LB1 (W w : World) (d r : Nat) (k m sk sv cd : Int) (v x : Value) (bs rs : List Bd) : Prop where
  bel : Below W.heap.size W w
  c0 : w.cell? ⟨d, 0, none⟩ = some (.int .i64 k)
  c1 : w.cell? ⟨d, 1, none⟩ = some (.int .i64 m)
  c2 : w.cell? ⟨d, 2, none⟩ = some (.int .i64 sk)
  c3 : w.cell? ⟨d, 3, none⟩ = some (.int .i64 sv)
  r0 : w.cell? ⟨r, 0, none⟩ = some (.int .i64 cd)
  r1 : w.cell? ⟨r, 1, none⟩ = some x
  row : QRead w v bs
  rowx : QRead w x rs
  few : FewAt w
theorem LB1.below {W w1 w2 : World} {d r : Nat} {k m sk sv cd : Int} {v x : Value} {bs rs : List Bd} (h : LB1 W w1 d r k m sk sv cd v x bs rs) (hb : Below w1.heap.size w1 w2) : LB1 W w2 d r k m sk sv cd v x bs rs :=
  ⟨h.bel.trans (hb.mono h.bel.size), cellb hb h.c0, cellb hb h.c1, cellb hb h.c2, cellb hb h.c3, cellb hb h.r0, cellb hb h.r1, h.row.below hb, h.rowx.below hb, h.few.below hb⟩
structure LB2 (W w : World) (d r : Nat) (k m sk sv cd : Int) (v x : Value) (bs rs : List Bd) (b g : Nat) (xk xv sc s1 s2 : Int) (l : Value) (ls : List Bd) : Prop where
  one : LB1 W w d r k m sk sv cd v x bs rs
  x0 : w.cell? ⟨b, 0, none⟩ = some (.int .i64 xk)
  x1 : w.cell? ⟨b, 1, none⟩ = some (.int .i64 xv)
  g0 : w.cell? ⟨g, 0, none⟩ = some (.int .i64 sc)
  g1 : w.cell? ⟨g, 1, none⟩ = some (.int .i64 s1)
  g2 : w.cell? ⟨g, 2, none⟩ = some (.int .i64 s2)
  rowl : QRead w l ls
theorem LB2.below {W w1 w2 : World} {d r : Nat} {k m sk sv cd : Int} {v x : Value} {bs rs : List Bd} {b g : Nat} {xk xv sc s1 s2 : Int} {l : Value} {ls : List Bd} (h : LB2 W w1 d r k m sk sv cd v x bs rs b g xk xv sc s1 s2 l ls) (hb : Below w1.heap.size w1 w2) : LB2 W w2 d r k m sk sv cd v x bs rs b g xk xv sc s1 s2 l ls :=
  ⟨h.one.below hb, cellb hb h.x0, cellb hb h.x1, cellb hb h.g0, cellb hb h.g1, cellb hb h.g2, h.rowl.below hb⟩

set_option maxHeartbeats 16000000 in
theorem lawBinds_walk (zs : List Int) (a : Option Addr) (cap : Nat) (w : World) (hv : ReadAt .u8 w (.slice a zs.length cap) zs) (hz : ∀ z ∈ zs, 0 ≤ z ∧ z ≤ 255) (hlen : zs.length ≤ 1048576) (hT : FewAt w) :
    Calls Tryd.prog 3 #[.slice a zs.length cap] w fun e w' => e = .returned (.bool true) ∧ Below w.heap.size w w' := by
  have hle : ¬ ((1048576 : Int) < (zs.length : Int)) := by omega
  have HV : Hid (∀ w', Below w.heap.size w w' → ReadAt .u8 w' (.slice a zs.length cap) zs) := hide (fun w' hb => hv.below hb)
  have HT : Hid (∀ w', Below w.heap.size w w' → FewAt w') := hide (fun w' hb => hT.below hb)
  have HZ := hide hz
  have hv0 := hide hv
  clear hv hT hz
  go_enter Tryd.func3, Tryd.ntmps3
  try simp only [List.append_eq, List.cons_append, List.nil_append]
  go_wp2_with (first | (go_at_call 9; go_in))
  refine (drawPB_calls zs a cap _ hv0.out HZ.out hlen).mono ?_
  rintro e w1 ⟨v, bs, k, m, sk, sv, rfl, hl0, hl1, hR, b1⟩
  clear hv0
  obtain ⟨av, cv, rfl, hR'⟩ := hR
  have hR : QRead w1 (.slice av bs.length cv) bs := ⟨_, _, rfl, hR'⟩
  clear hR'
  have HL : Hid (bs.length ≤ 1048576) := hide (by omega)
  clear hl0 hl1
  have q : Below w1.heap.size w1 (w1.alloc (.cells #[.int .i64 k, .int .i64 m, .int .i64 sk, .int .i64 sv] 28)) := (by repeat' (first | with_reducible exact Below.refl _ _ | with_reducible assumption | with_reducible refine Below.drew ?_ | with_reducible refine Below.alloc ?_ ?_ _ | with_reducible refine Below.setCell ?_ ?_ _ | (simp; done) | (simp; omega) | omega))
  have b2 := b1.trans (q.mono b1.size)
  have C0 : (w1.alloc (.cells #[.int .i64 k, .int .i64 m, .int .i64 sk, .int .i64 sv] 28)).cell? ⟨w1.heap.size, 0, none⟩ = some (.int .i64 k) := by simp
  have C1 : (w1.alloc (.cells #[.int .i64 k, .int .i64 m, .int .i64 sk, .int .i64 sv] 28)).cell? ⟨w1.heap.size, 1, none⟩ = some (.int .i64 m) := by simp
  have C2 : (w1.alloc (.cells #[.int .i64 k, .int .i64 m, .int .i64 sk, .int .i64 sv] 28)).cell? ⟨w1.heap.size, 2, none⟩ = some (.int .i64 sk) := by simp
  have C3 : (w1.alloc (.cells #[.int .i64 k, .int .i64 m, .int .i64 sk, .int .i64 sv] 28)).cell? ⟨w1.heap.size, 3, none⟩ = some (.int .i64 sv) := by simp
  replace hR := hide (hR.below q)
  clear q b1
  go_wp2_with fail
  generalize (w1.alloc (.cells #[.int .i64 k, .int .i64 m, .int .i64 sk, .int .i64 sv] 28)) = w2 at *
  refine (implPutBind_calls bs _ (k, m, sk, sv) _ HL.out hR.out (HT.out _ b2)).mono ?_
  rintro e w3 ⟨x, rfl, hx, q⟩
  generalize hcd : putCd bs (k, m, sk, sv) = cd at *
  generalize hrs : putRs bs (k, m, sk, sv) = rs at *
  have HCD := hide hcd
  have HRS := hide hrs
  clear hcd hrs
  obtain ⟨ax, cx, rfl, hcx, hx'⟩ := hx
  have hx : QRead w3 (.slice ax rs.length cx) rs := (show QAt w2.heap.size w3.heap.size w3 (.slice ax rs.length cx) rs from ⟨_, _, rfl, hcx, hx'⟩).read
  clear hx' hcx
  have b3 := b2.trans (q.mono b2.size)
  replace C0 := cellb q C0
  replace C1 := cellb q C1
  replace C2 := cellb q C2
  replace C3 := cellb q C3
  replace hR := hide (hR.out.below q)
  clear q b2
  have q : Below w3.heap.size w3 (w3.alloc (.cells #[.int .i64 cd, .slice ax rs.length cx] 32)) := (by repeat' (first | with_reducible exact Below.refl _ _ | with_reducible assumption | with_reducible refine Below.drew ?_ | with_reducible refine Below.alloc ?_ ?_ _ | with_reducible refine Below.setCell ?_ ?_ _ | (simp; done) | (simp; omega) | omega))
  have D : Hid (LB1 w (w3.alloc (.cells #[.int .i64 cd, .slice ax rs.length cx] 32)) w1.heap.size w3.heap.size k m sk sv cd (.slice av bs.length cv) (.slice ax rs.length cx) bs rs) := hide ⟨b3.trans (q.mono b3.size), cellb q C0, cellb q C1, cellb q C2, cellb q C3, by simp, by simp, hR.out.below q, hx.below q, HT.out _ (b3.trans (q.mono b3.size))⟩
  clear q hR hx C0 C1 C2 C3 b3 HT
  by_cases hz : cd = 0
  · subst hz
    obtain ⟨e1, e2, e3, e4, e5, e6, e7⟩ := put_law HCD.out
    have e := HRS.out.symm.trans e1
    rw [← e] at e3 e4 e5 e6 e7
    have H3 := hide e3
    have H4 : Hid (1 ≤ rs.length ∧ rs.length ≤ 24) := hide ⟨e4, e5⟩
    have H6 : Hid (symRs rs k m = (sk, sv)) := hide e6
    have H7 : Hid (∀ k2 m2 : Int, keyB k2 m2 = true → k2 ≠ k → symRs rs k2 m2 = symRs bs k2 m2) := hide e7
    clear e e1 e2 e3 e4 e5 e6 e7 HCD HRS
    go_wp2_with fail
    generalize (w3.alloc (.cells #[.int .i64 0, .slice ax rs.length cx] 32)) = w4 at *
    generalize w1.heap.size = d at *
    generalize w3.heap.size = r at *
    go_loopw [6] (fun i wr => ∃ n : Nat, 1 ≤ n ∧ n ≤ 16 ∧ i = .int .i64 n ∧ Hid (LB1 w wr d r k m sk sv 0 (.slice av bs.length cv) (.slice ax rs.length cx) bs rs)) (fun i _ => 16 - (intOf i).toNat)
    case atStart => exact ⟨1, by omega, by omega, rfl, D⟩
    case round =>
      obtain ⟨n, hn1, hn2, rfl, D2⟩ := hrel
      clear D
      by_cases hlt : n < 16
      · have hltI : (n : Int) < 16 := by omega
        go_wp2_with fail
        go_loopw [7] (fun i wr => ∃ j : Nat, j ≤ 3 ∧ i = .int .i64 j ∧ Hid (LB1 w wr d r k m sk sv 0 (.slice av bs.length cv) (.slice ax rs.length cx) bs rs)) (fun i _ => 3 - (intOf i).toNat)
        case atStart => exact ⟨0, by omega, rfl, D2⟩
        case round =>
          obtain ⟨j, hj, rfl, D⟩ := hrel
          clear D2
          by_cases hjl : j < 3
          · have hjI : (j : Int) < 3 := by omega
            have c0 := D.out.c0
            by_cases hk : (n : Int) = k
            · have hkb : ((n : Int) != k) = false := by simpa using hk
              have hkI : k < 16 := by omega
              go_wp2
              go_roundw
              case rel => exact ⟨j + 1, by omega, by go_num, D⟩
              case measure => simp [intOf]; omega
            · have hkb : ((n : Int) != k) = true := by simpa using hk
              have r1 := D.out.r1
              have hkey : keyB (n : Int) (j : Int) = true := by unfold keyB; simp; omega
              have H8 := hide (H7.out n j hkey hk)
              clear hkey hk
              obtain ⟨⟨y1, y2⟩, HSY⟩ : ∃ y, Hid (symRs bs (n : Int) (j : Int) = y) := ⟨_, hide rfl⟩
              replace H8 := hide (H8.out.trans HSY.out)
              have hfs := fs1
              have hns := neq_same
              have hgu := guard_sym
              go_wp2_with fail
              refine (implSymOf_calls rs _ n j _ (by have := H4.out; omega) D.out.rowx D.out.few).mono ?_
              rintro e w5 ⟨rfl, q⟩
              rw [H8.out]
              try dsimp only
              replace D := hide (D.out.below q)
              clear q c0 r1
              go_wp2_with fail
              refine (implSymOf_calls bs _ n j _ HL.out D.out.row D.out.few).mono ?_
              rintro e w6 ⟨rfl, q⟩
              rw [HSY.out]
              try dsimp only
              replace D := hide (D.out.below q)
              clear q
              go_wp2
              go_roundw
              case rel => exact ⟨j + 1, by omega, by go_num, D⟩
              case measure => simp [intOf]; omega
          · obtain rfl : j = 3 := by omega
            go_wp2
            go_roundw
            case rel => exact ⟨n + 1, by omega, by omega, by go_num, D⟩
            case measure => simp [intOf]; omega
      · obtain rfl : n = 16 := by omega
        go_wp2_with fail
        refine (drawSF_calls zs a cap _ (HV.out _ D2.out.bel) HZ.out hlen).mono ?_
        rintro e w5 ⟨xk, xv, rfl, q⟩
        have D := hide (D2.out.below q)
        clear q D2
        have q : Below w5.heap.size w5 (w5.alloc (.cells #[.int .i64 xk, .int .i64 xv] 26)) := (by repeat' (first | with_reducible exact Below.refl _ _ | with_reducible assumption | with_reducible refine Below.drew ?_ | with_reducible refine Below.alloc ?_ ?_ _ | with_reducible refine Below.setCell ?_ ?_ _ | (simp; done) | (simp; omega) | omega))
        have X0 : (w5.alloc (.cells #[.int .i64 xk, .int .i64 xv] 26)).cell? ⟨w5.heap.size, 0, none⟩ = some (.int .i64 xk) := by simp
        have X1 : (w5.alloc (.cells #[.int .i64 xk, .int .i64 xv] 26)).cell? ⟨w5.heap.size, 1, none⟩ = some (.int .i64 xv) := by simp
        replace D := hide (D.out.below q)
        clear q
        go_wp2_with fail
        generalize (w5.alloc (.cells #[.int .i64 xk, .int .i64 xv] 26)) = w6 at *
        generalize w5.heap.size = xb at *
        refine (drawSO_calls zs a cap _ (HV.out _ D.out.bel) HZ.out hlen).mono ?_
        rintro e w7 ⟨l, ls, lk, lm, rfl, hl0, hl1, hRl, q⟩
        obtain ⟨al, cl, rfl, hRl'⟩ := hRl
        have hRl := hide (show QRead w7 (.slice al ls.length cl) ls from ⟨_, _, rfl, hRl'⟩)
        have HLL : Hid (ls.length ≤ 1048576) := hide (by omega)
        replace D := hide (D.out.below q)
        replace X0 := cellb q X0
        replace X1 := cellb q X1
        clear q hRl' hl0 hl1
        obtain ⟨sc, HSC⟩ : ∃ c, Hid (symCd ls lk lm = c) := ⟨_, hide rfl⟩
        obtain ⟨⟨s1, s2⟩, HSS⟩ : ∃ c, Hid (symRs ls lk lm = c) := ⟨_, hide rfl⟩
        go_wp2_with fail
        refine (implSymOf_calls ls _ lk lm _ HLL.out hRl.out D.out.few).mono ?_
        rintro e w8 ⟨rfl, q⟩
        rw [HSC.out, HSS.out]
        try dsimp only
        replace D := hide (D.out.below q)
        replace X0 := cellb q X0
        replace X1 := cellb q X1
        replace hRl := hide (hRl.out.below q)
        clear q
        have q : Below w8.heap.size w8 (w8.alloc (.cells #[.int .i64 sc, .int .i64 s1, .int .i64 s2] 36)) := (by repeat' (first | with_reducible exact Below.refl _ _ | with_reducible assumption | with_reducible refine Below.drew ?_ | with_reducible refine Below.alloc ?_ ?_ _ | with_reducible refine Below.setCell ?_ ?_ _ | (simp; done) | (simp; omega) | omega))
        have hS9 : Hid (LB2 w (w8.alloc (.cells #[.int .i64 sc, .int .i64 s1, .int .i64 s2] 36)) d r k m sk sv 0 (.slice av bs.length cv) (.slice ax rs.length cx) bs rs xb w8.heap.size xk xv sc s1 s2 (.slice al ls.length cl) ls) := hide ⟨D.out.below q, cellb q X0, cellb q X1, by simp, by simp, by simp, hRl.out.below q⟩
        clear q D X0 X1 hRl
        go_wp2_with fail
        generalize (w8.alloc (.cells #[.int .i64 sc, .int .i64 s1, .int .i64 s2] 36)) = w9 at *
        generalize w8.heap.size = g at *
        have hS : LB2 w w9.drew d r k m sk sv 0 (.slice av bs.length cv) (.slice ax rs.length cx) bs rs xb g xk xv sc s1 s2 (.slice al ls.length cl) ls := hS9.out.below (Below.drew (Below.refl _ _))
        clear hS9
        obtain ⟨xc, HXC⟩ : ∃ c, Hid (symCode xk xv = c) := ⟨_, hide rfl⟩
        have hxc : (xc == xc) = true := by simp
        have hsc : (sc == sc) = true := by simp
        have hf0 := fs0
        have hf1 := fs1
        have hes := eql_same
        have hgu := guard_sym
        have hpos : (0 : Int) < (rs.length : Int) := by have := H4.out; omega
        have hposg : (rs.length : Int) > 0 := hpos
        have hposn : 0 < rs.length := by have := H4.out; omega
        refine wp_region_held_drew (S := (fun w' => LB2 w w' d r k m sk sv 0 (.slice av bs.length cv) (.slice ax rs.length cx) bs rs xb g xk xv sc s1 s2 (.slice al ls.length cl) ls)) (by kernel_rfl) ?_ (fun hHeld => ?_)
        · (try dsimp only); exact hS
        refine wpAnyH_take (i := 0) (oi := ⟨_, _, _, _, _, _⟩) (v := ?_) rfl (by kernel_rfl) (by kernel_rfl) (by kernel_rfl) (fun _ _ _ h => h) (Or.inl ⟨by rfl, ?_⟩) hHeld ?_
        rotate_left
        · (intro w hSw; (try dsimp only at hSw); have s0 := hSw.one.c0; have s1 := hSw.one.c1; have s2 := hSw.one.c2; have s3 := hSw.one.c3; have s4 := hSw.one.r0; have s5 := hSw.one.r1; have s6 := hSw.x0; have s7 := hSw.x1; have s8 := hSw.g0; have s9 := hSw.g1; have s10 := hSw.g2; clear hSw; go_simp; try (with_reducible rfl))
        try simp only [Act.put, List.setIfInBounds_toArray, List.set_cons_zero, List.set_cons_succ]
        refine wpAnyH_take (i := 1) (oi := ⟨_, _, _, _, _, _⟩) (v := ?_) rfl (by kernel_rfl) (by kernel_rfl) (by kernel_rfl) (fun _ _ _ h => h) (Or.inl ⟨by rfl, ?_⟩) hHeld ?_
        rotate_left
        · (intro w hSw; (try dsimp only at hSw); have s0 := hSw.one.c0; have s1 := hSw.one.c1; have s2 := hSw.one.c2; have s3 := hSw.one.c3; have s4 := hSw.one.r0; have s5 := hSw.one.r1; have s6 := hSw.x0; have s7 := hSw.x1; have s8 := hSw.g0; have s9 := hSw.g1; have s10 := hSw.g2; clear hSw; go_simp; try (with_reducible rfl))
        try simp only [Act.put, List.setIfInBounds_toArray, List.set_cons_zero, List.set_cons_succ]
        refine wpAnyH_ready (rs := [2]) (by kernel_rfl) (by simp) ?_
        refine AllReadyH.cons (o := ⟨_, _, _, _, _, _⟩) rfl (fun K hK => ?_) AllReadyH.nil
        go_simp
        go_at_call 13
        refine (implBindsFault_calls rs _ _ (by have := H4.out; omega) hHeld.one.rowx hHeld.one.few).mono ?_
        rintro e w10 ⟨rfl, q⟩
        rw [H3.out]
        try dsimp only
        try go_wp2_with fail
        refine hK.out _ _ ?_ ?_
        · (try dsimp only); exact hHeld.below q
        clear hHeld hK K
        intro hHeld
        try simp only [Act.put, List.setIfInBounds_toArray, List.set_cons_zero, List.set_cons_succ]
        refine wpAnyH_take (i := 3) (oi := ⟨_, _, _, _, _, _⟩) (v := ?_) rfl (by kernel_rfl) (by kernel_rfl) (by kernel_rfl) (fun _ _ _ h => h) (Or.inl ⟨by rfl, ?_⟩) hHeld ?_
        rotate_left
        · (intro w hSw; (try dsimp only at hSw); have s0 := hSw.one.c0; have s1 := hSw.one.c1; have s2 := hSw.one.c2; have s3 := hSw.one.c3; have s4 := hSw.one.r0; have s5 := hSw.one.r1; have s6 := hSw.x0; have s7 := hSw.x1; have s8 := hSw.g0; have s9 := hSw.g1; have s10 := hSw.g2; clear hSw; go_simp; try (with_reducible rfl))
        try simp only [Act.put, List.setIfInBounds_toArray, List.set_cons_zero, List.set_cons_succ]
        refine wpAnyH_take (i := 4) (oi := ⟨_, _, _, _, _, _⟩) (v := ?_) rfl (by kernel_rfl) (by kernel_rfl) (by kernel_rfl) (fun _ _ _ h => h) (Or.inl ⟨by rfl, ?_⟩) hHeld ?_
        rotate_left
        · (intro w hSw; (try dsimp only at hSw); have s0 := hSw.one.c0; have s1 := hSw.one.c1; have s2 := hSw.one.c2; have s3 := hSw.one.c3; have s4 := hSw.one.r0; have s5 := hSw.one.r1; have s6 := hSw.x0; have s7 := hSw.x1; have s8 := hSw.g0; have s9 := hSw.g1; have s10 := hSw.g2; clear hSw; go_simp; try (with_reducible rfl))
        try simp only [Act.put, List.setIfInBounds_toArray, List.set_cons_zero, List.set_cons_succ]
        refine wpAnyH_take (i := 5) (oi := ⟨_, _, _, _, _, _⟩) (v := ?_) rfl (by kernel_rfl) (by kernel_rfl) (by kernel_rfl) (fun _ _ _ h => h) (Or.inl ⟨by rfl, ?_⟩) hHeld ?_
        rotate_left
        · (intro w hSw; (try dsimp only at hSw); have s0 := hSw.one.c0; have s1 := hSw.one.c1; have s2 := hSw.one.c2; have s3 := hSw.one.c3; have s4 := hSw.one.r0; have s5 := hSw.one.r1; have s6 := hSw.x0; have s7 := hSw.x1; have s8 := hSw.g0; have s9 := hSw.g1; have s10 := hSw.g2; clear hSw; go_simp; try (with_reducible rfl))
        try simp only [Act.put, List.setIfInBounds_toArray, List.set_cons_zero, List.set_cons_succ]
        refine wpAnyH_take (i := 6) (oi := ⟨_, _, _, _, _, _⟩) (v := ?_) rfl (by kernel_rfl) (by kernel_rfl) (by kernel_rfl) (fun _ _ _ h => h) (Or.inl ⟨by rfl, ?_⟩) hHeld ?_
        rotate_left
        · (intro w hSw; (try dsimp only at hSw); have s0 := hSw.one.c0; have s1 := hSw.one.c1; have s2 := hSw.one.c2; have s3 := hSw.one.c3; have s4 := hSw.one.r0; have s5 := hSw.one.r1; have s6 := hSw.x0; have s7 := hSw.x1; have s8 := hSw.g0; have s9 := hSw.g1; have s10 := hSw.g2; clear hSw; go_simp; try (with_reducible rfl))
        try simp only [Act.put, List.setIfInBounds_toArray, List.set_cons_zero, List.set_cons_succ]
        refine wpAnyH_take (i := 7) (oi := ⟨_, _, _, _, _, _⟩) (v := ?_) rfl (by kernel_rfl) (by kernel_rfl) (by kernel_rfl) (fun _ _ _ h => h) (Or.inl ⟨by rfl, ?_⟩) hHeld ?_
        rotate_left
        · (intro w hSw; (try dsimp only at hSw); have s0 := hSw.one.c0; have s1 := hSw.one.c1; have s2 := hSw.one.c2; have s3 := hSw.one.c3; have s4 := hSw.one.r0; have s5 := hSw.one.r1; have s6 := hSw.x0; have s7 := hSw.x1; have s8 := hSw.g0; have s9 := hSw.g1; have s10 := hSw.g2; clear hSw; go_simp; try (with_reducible rfl))
        try simp only [Act.put, List.setIfInBounds_toArray, List.set_cons_zero, List.set_cons_succ]
        refine wpAnyH_take (i := 8) (oi := ⟨_, _, _, _, _, _⟩) (v := ?_) rfl (by kernel_rfl) (by kernel_rfl) (by kernel_rfl) (fun _ _ _ h => h) (Or.inl ⟨by rfl, ?_⟩) hHeld ?_
        rotate_left
        · (intro w hSw; (try dsimp only at hSw); have s0 := hSw.one.c0; have s1 := hSw.one.c1; have s2 := hSw.one.c2; have s3 := hSw.one.c3; have s4 := hSw.one.r0; have s5 := hSw.one.r1; have s6 := hSw.x0; have s7 := hSw.x1; have s8 := hSw.g0; have s9 := hSw.g1; have s10 := hSw.g2; clear hSw; go_simp; try (with_reducible rfl))
        try simp only [Act.put, List.setIfInBounds_toArray, List.set_cons_zero, List.set_cons_succ]
        refine wpAnyH_take (i := 9) (oi := ⟨_, _, _, _, _, _⟩) (v := ?_) rfl (by kernel_rfl) (by kernel_rfl) (by kernel_rfl) (fun _ _ _ h => h) (Or.inl ⟨by rfl, ?_⟩) hHeld ?_
        rotate_left
        · (intro w hSw; (try dsimp only at hSw); have s0 := hSw.one.c0; have s1 := hSw.one.c1; have s2 := hSw.one.c2; have s3 := hSw.one.c3; have s4 := hSw.one.r0; have s5 := hSw.one.r1; have s6 := hSw.x0; have s7 := hSw.x1; have s8 := hSw.g0; have s9 := hSw.g1; have s10 := hSw.g2; clear hSw; go_simp; try (with_reducible rfl))
        try simp only [Act.put, List.setIfInBounds_toArray, List.set_cons_zero, List.set_cons_succ]
        refine wpAnyH_take (i := 10) (oi := ⟨_, _, _, _, _, _⟩) (v := ?_) rfl (by kernel_rfl) (by kernel_rfl) (by kernel_rfl) (fun _ _ _ h => h) (Or.inl ⟨by rfl, ?_⟩) hHeld ?_
        rotate_left
        · (intro w hSw; (try dsimp only at hSw); have s0 := hSw.one.c0; have s1 := hSw.one.c1; have s2 := hSw.one.c2; have s3 := hSw.one.c3; have s4 := hSw.one.r0; have s5 := hSw.one.r1; have s6 := hSw.x0; have s7 := hSw.x1; have s8 := hSw.g0; have s9 := hSw.g1; have s10 := hSw.g2; clear hSw; go_simp; try (with_reducible rfl))
        try simp only [Act.put, List.setIfInBounds_toArray, List.set_cons_zero, List.set_cons_succ]
        refine wpAnyH_take (i := 13) (oi := ⟨_, _, _, _, _, _⟩) (v := ?_) rfl (by kernel_rfl) (by kernel_rfl) (by kernel_rfl) (fun _ _ _ h => h) (Or.inl ⟨by rfl, ?_⟩) hHeld ?_
        rotate_left
        · (intro w hSw; (try dsimp only at hSw); have s0 := hSw.one.c0; have s1 := hSw.one.c1; have s2 := hSw.one.c2; have s3 := hSw.one.c3; have s4 := hSw.one.r0; have s5 := hSw.one.r1; have s6 := hSw.x0; have s7 := hSw.x1; have s8 := hSw.g0; have s9 := hSw.g1; have s10 := hSw.g2; clear hSw; go_simp; try (with_reducible rfl))
        try simp only [Act.put, List.setIfInBounds_toArray, List.set_cons_zero, List.set_cons_succ]
        refine wpAnyH_take (i := 14) (oi := ⟨_, _, _, _, _, _⟩) (v := ?_) rfl (by kernel_rfl) (by kernel_rfl) (by kernel_rfl) (fun _ _ _ h => h) (Or.inl ⟨by rfl, ?_⟩) hHeld ?_
        rotate_left
        · (intro w hSw; (try dsimp only at hSw); have s0 := hSw.one.c0; have s1 := hSw.one.c1; have s2 := hSw.one.c2; have s3 := hSw.one.c3; have s4 := hSw.one.r0; have s5 := hSw.one.r1; have s6 := hSw.x0; have s7 := hSw.x1; have s8 := hSw.g0; have s9 := hSw.g1; have s10 := hSw.g2; clear hSw; go_simp; try (with_reducible rfl))
        try simp only [Act.put, List.setIfInBounds_toArray, List.set_cons_zero, List.set_cons_succ]
        refine wpAnyH_ready (rs := [11]) (by kernel_rfl) (by simp) ?_
        refine AllReadyH.cons (o := ⟨_, _, _, _, _, _⟩) rfl (fun K hK => ?_) AllReadyH.nil
        go_simp
        go_at_call 15
        refine (implSymOf_calls rs _ k m _ (by have := H4.out; omega) hHeld.one.rowx hHeld.one.few).mono ?_
        rintro e w11 ⟨rfl, q⟩
        rw [H6.out]
        try dsimp only
        try go_wp2_with fail
        refine hK.out _ _ ?_ ?_
        · (try dsimp only); exact hHeld.below q
        clear hHeld hK K
        intro hHeld
        try simp only [Act.put, List.setIfInBounds_toArray, List.set_cons_zero, List.set_cons_succ]
        refine wpAnyH_take (i := 12) (oi := ⟨_, _, _, _, _, _⟩) (v := ?_) rfl (by kernel_rfl) (by kernel_rfl) (by kernel_rfl) (fun _ _ _ h => h) (Or.inl ⟨by rfl, ?_⟩) hHeld ?_
        rotate_left
        · (intro w hSw; (try dsimp only at hSw); have s0 := hSw.one.c0; have s1 := hSw.one.c1; have s2 := hSw.one.c2; have s3 := hSw.one.c3; have s4 := hSw.one.r0; have s5 := hSw.one.r1; have s6 := hSw.x0; have s7 := hSw.x1; have s8 := hSw.g0; have s9 := hSw.g1; have s10 := hSw.g2; clear hSw; go_simp; try (with_reducible rfl))
        try simp only [Act.put, List.setIfInBounds_toArray, List.set_cons_zero, List.set_cons_succ]
        refine wpAnyH_take (i := 15) (oi := ⟨_, _, _, _, _, _⟩) (v := ?_) rfl (by kernel_rfl) (by kernel_rfl) (by kernel_rfl) (fun _ _ _ h => h) (Or.inl ⟨by rfl, ?_⟩) hHeld ?_
        rotate_left
        · (intro w hSw; (try dsimp only at hSw); have s0 := hSw.one.c0; have s1 := hSw.one.c1; have s2 := hSw.one.c2; have s3 := hSw.one.c3; have s4 := hSw.one.r0; have s5 := hSw.one.r1; have s6 := hSw.x0; have s7 := hSw.x1; have s8 := hSw.g0; have s9 := hSw.g1; have s10 := hSw.g2; clear hSw; go_simp; try (with_reducible rfl))
        try simp only [Act.put, List.setIfInBounds_toArray, List.set_cons_zero, List.set_cons_succ]
        refine wpAnyH_take (i := 16) (oi := ⟨_, _, _, _, _, _⟩) (v := ?_) rfl (by kernel_rfl) (by kernel_rfl) (by kernel_rfl) (fun _ _ _ h => h) (Or.inl ⟨by rfl, ?_⟩) hHeld ?_
        rotate_left
        · (intro w hSw; (try dsimp only at hSw); have s0 := hSw.one.c0; have s1 := hSw.one.c1; have s2 := hSw.one.c2; have s3 := hSw.one.c3; have s4 := hSw.one.r0; have s5 := hSw.one.r1; have s6 := hSw.x0; have s7 := hSw.x1; have s8 := hSw.g0; have s9 := hSw.g1; have s10 := hSw.g2; clear hSw; go_simp; try (with_reducible rfl))
        try simp only [Act.put, List.setIfInBounds_toArray, List.set_cons_zero, List.set_cons_succ]
        refine wpAnyH_take (i := 17) (oi := ⟨_, _, _, _, _, _⟩) (v := ?_) rfl (by kernel_rfl) (by kernel_rfl) (by kernel_rfl) (fun _ _ _ h => h) (Or.inl ⟨by rfl, ?_⟩) hHeld ?_
        rotate_left
        · (intro w hSw; (try dsimp only at hSw); have s0 := hSw.one.c0; have s1 := hSw.one.c1; have s2 := hSw.one.c2; have s3 := hSw.one.c3; have s4 := hSw.one.r0; have s5 := hSw.one.r1; have s6 := hSw.x0; have s7 := hSw.x1; have s8 := hSw.g0; have s9 := hSw.g1; have s10 := hSw.g2; clear hSw; go_simp; try (with_reducible rfl))
        try simp only [Act.put, List.setIfInBounds_toArray, List.set_cons_zero, List.set_cons_succ]
        refine wpAnyH_take (i := 18) (oi := ⟨_, _, _, _, _, _⟩) (v := ?_) rfl (by kernel_rfl) (by kernel_rfl) (by kernel_rfl) (fun _ _ _ h => h) (Or.inl ⟨by rfl, ?_⟩) hHeld ?_
        rotate_left
        · (intro w hSw; (try dsimp only at hSw); have s0 := hSw.one.c0; have s1 := hSw.one.c1; have s2 := hSw.one.c2; have s3 := hSw.one.c3; have s4 := hSw.one.r0; have s5 := hSw.one.r1; have s6 := hSw.x0; have s7 := hSw.x1; have s8 := hSw.g0; have s9 := hSw.g1; have s10 := hSw.g2; clear hSw; go_simp; try (with_reducible rfl))
        try simp only [Act.put, List.setIfInBounds_toArray, List.set_cons_zero, List.set_cons_succ]
        refine wpAnyH_take (i := 20) (oi := ⟨_, _, _, _, _, _⟩) (v := ?_) rfl (by kernel_rfl) (by kernel_rfl) (by kernel_rfl) (fun _ _ _ h => h) (Or.inl ⟨by rfl, ?_⟩) hHeld ?_
        rotate_left
        · (intro w hSw; (try dsimp only at hSw); have s0 := hSw.one.c0; have s1 := hSw.one.c1; have s2 := hSw.one.c2; have s3 := hSw.one.c3; have s4 := hSw.one.r0; have s5 := hSw.one.r1; have s6 := hSw.x0; have s7 := hSw.x1; have s8 := hSw.g0; have s9 := hSw.g1; have s10 := hSw.g2; clear hSw; go_simp; try (with_reducible rfl))
        try simp only [Act.put, List.setIfInBounds_toArray, List.set_cons_zero, List.set_cons_succ]
        refine wpAnyH_ready (rs := [19]) (by kernel_rfl) (by simp) ?_
        refine AllReadyH.cons (o := ⟨_, _, _, _, _, _⟩) rfl (fun K hK => ?_) AllReadyH.nil
        go_simp
        go_at_call 18
        refine (implSymFault_calls xk xv _ hHeld.one.few).mono ?_
        rintro e w12 ⟨rfl, q⟩
        rw [HXC.out]
        try dsimp only
        try go_wp2_with fail
        refine hK.out _ _ ?_ ?_
        · (try dsimp only); exact hHeld.below q
        clear hHeld hK K
        intro hHeld
        try simp only [Act.put, List.setIfInBounds_toArray, List.set_cons_zero, List.set_cons_succ]
        refine wpAnyH_ready (rs := [21]) (by kernel_rfl) (by simp) ?_
        refine AllReadyH.cons (o := ⟨_, _, _, _, _, _⟩) rfl (fun K hK => ?_) AllReadyH.nil
        go_simp
        go_at_call 19
        refine (specSymFault_calls xk xv _).mono ?_
        rintro e w13 ⟨rfl, q⟩
        rw [HXC.out]
        try dsimp only
        try go_wp2_with fail
        refine hK.out _ _ ?_ ?_
        · (try dsimp only); exact hHeld.below q
        clear hHeld hK K
        intro hHeld
        try simp only [Act.put, List.setIfInBounds_toArray, List.set_cons_zero, List.set_cons_succ]
        refine wpAnyH_take (i := 22) (oi := ⟨_, _, _, _, _, _⟩) (v := ?_) rfl (by kernel_rfl) (by kernel_rfl) (by kernel_rfl) (fun _ _ _ h => h) (Or.inl ⟨by rfl, ?_⟩) hHeld ?_
        rotate_left
        · (intro w hSw; (try dsimp only at hSw); have s0 := hSw.one.c0; have s1 := hSw.one.c1; have s2 := hSw.one.c2; have s3 := hSw.one.c3; have s4 := hSw.one.r0; have s5 := hSw.one.r1; have s6 := hSw.x0; have s7 := hSw.x1; have s8 := hSw.g0; have s9 := hSw.g1; have s10 := hSw.g2; clear hSw; go_simp; try (with_reducible rfl))
        try simp only [Act.put, List.setIfInBounds_toArray, List.set_cons_zero, List.set_cons_succ]
        refine wpAnyH_take (i := 23) (oi := ⟨_, _, _, _, _, _⟩) (v := ?_) rfl (by kernel_rfl) (by kernel_rfl) (by kernel_rfl) (fun _ _ _ h => h) (Or.inl ⟨by rfl, ?_⟩) hHeld ?_
        rotate_left
        · (intro w hSw; (try dsimp only at hSw); have s0 := hSw.one.c0; have s1 := hSw.one.c1; have s2 := hSw.one.c2; have s3 := hSw.one.c3; have s4 := hSw.one.r0; have s5 := hSw.one.r1; have s6 := hSw.x0; have s7 := hSw.x1; have s8 := hSw.g0; have s9 := hSw.g1; have s10 := hSw.g2; clear hSw; go_simp; try (with_reducible rfl))
        try simp only [Act.put, List.setIfInBounds_toArray, List.set_cons_zero, List.set_cons_succ]
        refine wpAnyH_take (i := 24) (oi := ⟨_, _, _, _, _, _⟩) (v := ?_) rfl (by kernel_rfl) (by kernel_rfl) (by kernel_rfl) (fun _ _ _ h => h) (Or.inl ⟨by rfl, ?_⟩) hHeld ?_
        rotate_left
        · (intro w hSw; (try dsimp only at hSw); have s0 := hSw.one.c0; have s1 := hSw.one.c1; have s2 := hSw.one.c2; have s3 := hSw.one.c3; have s4 := hSw.one.r0; have s5 := hSw.one.r1; have s6 := hSw.x0; have s7 := hSw.x1; have s8 := hSw.g0; have s9 := hSw.g1; have s10 := hSw.g2; clear hSw; go_simp; try (with_reducible rfl))
        try simp only [Act.put, List.setIfInBounds_toArray, List.set_cons_zero, List.set_cons_succ]
        refine wpAnyH_take (i := 25) (oi := ⟨_, _, _, _, _, _⟩) (v := ?_) rfl (by kernel_rfl) (by kernel_rfl) (by kernel_rfl) (fun _ _ _ h => h) (Or.inl ⟨by rfl, ?_⟩) hHeld ?_
        rotate_left
        · (intro w hSw; (try dsimp only at hSw); have s0 := hSw.one.c0; have s1 := hSw.one.c1; have s2 := hSw.one.c2; have s3 := hSw.one.c3; have s4 := hSw.one.r0; have s5 := hSw.one.r1; have s6 := hSw.x0; have s7 := hSw.x1; have s8 := hSw.g0; have s9 := hSw.g1; have s10 := hSw.g2; clear hSw; go_simp; try (with_reducible rfl))
        try simp only [Act.put, List.setIfInBounds_toArray, List.set_cons_zero, List.set_cons_succ]
        refine wpAnyH_take (i := 26) (oi := ⟨_, _, _, _, _, _⟩) (v := ?_) rfl (by kernel_rfl) (by kernel_rfl) (by kernel_rfl) (fun _ _ _ h => h) (Or.inl ⟨by rfl, ?_⟩) hHeld ?_
        rotate_left
        · (intro w hSw; (try dsimp only at hSw); have s0 := hSw.one.c0; have s1 := hSw.one.c1; have s2 := hSw.one.c2; have s3 := hSw.one.c3; have s4 := hSw.one.r0; have s5 := hSw.one.r1; have s6 := hSw.x0; have s7 := hSw.x1; have s8 := hSw.g0; have s9 := hSw.g1; have s10 := hSw.g2; clear hSw; go_simp; try (with_reducible rfl))
        try simp only [Act.put, List.setIfInBounds_toArray, List.set_cons_zero, List.set_cons_succ]
        refine wpAnyH_take (i := 27) (oi := ⟨_, _, _, _, _, _⟩) (v := ?_) rfl (by kernel_rfl) (by kernel_rfl) (by kernel_rfl) (fun _ _ _ h => h) (Or.inl ⟨by rfl, ?_⟩) hHeld ?_
        rotate_left
        · (intro w hSw; (try dsimp only at hSw); have s0 := hSw.one.c0; have s1 := hSw.one.c1; have s2 := hSw.one.c2; have s3 := hSw.one.c3; have s4 := hSw.one.r0; have s5 := hSw.one.r1; have s6 := hSw.x0; have s7 := hSw.x1; have s8 := hSw.g0; have s9 := hSw.g1; have s10 := hSw.g2; clear hSw; go_simp; try (with_reducible rfl))
        try simp only [Act.put, List.setIfInBounds_toArray, List.set_cons_zero, List.set_cons_succ]
        refine wpAnyH_take (i := 28) (oi := ⟨_, _, _, _, _, _⟩) (v := ?_) rfl (by kernel_rfl) (by kernel_rfl) (by kernel_rfl) (fun _ _ _ h => h) (Or.inl ⟨by rfl, ?_⟩) hHeld ?_
        rotate_left
        · (intro w hSw; (try dsimp only at hSw); have s0 := hSw.one.c0; have s1 := hSw.one.c1; have s2 := hSw.one.c2; have s3 := hSw.one.c3; have s4 := hSw.one.r0; have s5 := hSw.one.r1; have s6 := hSw.x0; have s7 := hSw.x1; have s8 := hSw.g0; have s9 := hSw.g1; have s10 := hSw.g2; clear hSw; go_simp; try (with_reducible rfl))
        try simp only [Act.put, List.setIfInBounds_toArray, List.set_cons_zero, List.set_cons_succ]
        refine wpAnyH_take (i := 29) (oi := ⟨_, _, _, _, _, _⟩) (v := ?_) rfl (by kernel_rfl) (by kernel_rfl) (by kernel_rfl) (fun _ _ _ h => h) (Or.inl ⟨by rfl, ?_⟩) hHeld ?_
        rotate_left
        · (intro w hSw; (try dsimp only at hSw); have s0 := hSw.one.c0; have s1 := hSw.one.c1; have s2 := hSw.one.c2; have s3 := hSw.one.c3; have s4 := hSw.one.r0; have s5 := hSw.one.r1; have s6 := hSw.x0; have s7 := hSw.x1; have s8 := hSw.g0; have s9 := hSw.g1; have s10 := hSw.g2; clear hSw; go_simp; try (with_reducible rfl))
        try simp only [Act.put, List.setIfInBounds_toArray, List.set_cons_zero, List.set_cons_succ]
        refine wpAnyH_ready (rs := [30]) (by kernel_rfl) (by simp) ?_
        refine AllReadyH.cons (o := ⟨_, _, _, _, _, _⟩) rfl (fun K hK => ?_) AllReadyH.nil
        go_simp
        go_at_call 20
        refine (specSymOf_calls ls _ lk lm _ HLL.out hHeld.rowl).mono ?_
        rintro e w14 ⟨rfl, q⟩
        rw [HSC.out, HSS.out]
        try dsimp only
        try go_wp2_with fail
        refine hK.out _ _ ?_ ?_
        · (try dsimp only); exact hHeld.below q
        clear hHeld hK K
        intro hHeld
        try simp only [Act.put, List.setIfInBounds_toArray, List.set_cons_zero, List.set_cons_succ]
        refine wpAnyH_take (i := 31) (oi := ⟨_, _, _, _, _, _⟩) (v := ?_) rfl (by kernel_rfl) (by kernel_rfl) (by kernel_rfl) (fun _ _ _ h => h) (Or.inl ⟨by rfl, ?_⟩) hHeld ?_
        rotate_left
        · (intro w hSw; (try dsimp only at hSw); have s0 := hSw.one.c0; have s1 := hSw.one.c1; have s2 := hSw.one.c2; have s3 := hSw.one.c3; have s4 := hSw.one.r0; have s5 := hSw.one.r1; have s6 := hSw.x0; have s7 := hSw.x1; have s8 := hSw.g0; have s9 := hSw.g1; have s10 := hSw.g2; clear hSw; go_simp; try (with_reducible rfl))
        try simp only [Act.put, List.setIfInBounds_toArray, List.set_cons_zero, List.set_cons_succ]
        refine wpAnyH_take (i := 32) (oi := ⟨_, _, _, _, _, _⟩) (v := ?_) rfl (by kernel_rfl) (by kernel_rfl) (by kernel_rfl) (fun _ _ _ h => h) (Or.inl ⟨by rfl, ?_⟩) hHeld ?_
        rotate_left
        · (intro w hSw; (try dsimp only at hSw); have s0 := hSw.one.c0; have s1 := hSw.one.c1; have s2 := hSw.one.c2; have s3 := hSw.one.c3; have s4 := hSw.one.r0; have s5 := hSw.one.r1; have s6 := hSw.x0; have s7 := hSw.x1; have s8 := hSw.g0; have s9 := hSw.g1; have s10 := hSw.g2; clear hSw; go_simp; try (with_reducible rfl))
        try simp only [Act.put, List.setIfInBounds_toArray, List.set_cons_zero, List.set_cons_succ]
        refine wpAnyH_take (i := 33) (oi := ⟨_, _, _, _, _, _⟩) (v := ?_) rfl (by kernel_rfl) (by kernel_rfl) (by kernel_rfl) (fun _ _ _ h => h) (Or.inl ⟨by rfl, ?_⟩) hHeld ?_
        rotate_left
        · (intro w hSw; (try dsimp only at hSw); have s0 := hSw.one.c0; have s1 := hSw.one.c1; have s2 := hSw.one.c2; have s3 := hSw.one.c3; have s4 := hSw.one.r0; have s5 := hSw.one.r1; have s6 := hSw.x0; have s7 := hSw.x1; have s8 := hSw.g0; have s9 := hSw.g1; have s10 := hSw.g2; clear hSw; go_simp; try (with_reducible rfl))
        try simp only [Act.put, List.setIfInBounds_toArray, List.set_cons_zero, List.set_cons_succ]
        refine wpAnyH_take (i := 34) (oi := ⟨_, _, _, _, _, _⟩) (v := ?_) rfl (by kernel_rfl) (by kernel_rfl) (by kernel_rfl) (fun _ _ _ h => h) (Or.inl ⟨by rfl, ?_⟩) hHeld ?_
        rotate_left
        · (intro w hSw; (try dsimp only at hSw); have s0 := hSw.one.c0; have s1 := hSw.one.c1; have s2 := hSw.one.c2; have s3 := hSw.one.c3; have s4 := hSw.one.r0; have s5 := hSw.one.r1; have s6 := hSw.x0; have s7 := hSw.x1; have s8 := hSw.g0; have s9 := hSw.g1; have s10 := hSw.g2; clear hSw; go_simp; try (with_reducible rfl))
        try simp only [Act.put, List.setIfInBounds_toArray, List.set_cons_zero, List.set_cons_succ]
        refine wpAnyH_take (i := 35) (oi := ⟨_, _, _, _, _, _⟩) (v := ?_) rfl (by kernel_rfl) (by kernel_rfl) (by kernel_rfl) (fun _ _ _ h => h) (Or.inl ⟨by rfl, ?_⟩) hHeld ?_
        rotate_left
        · (intro w hSw; (try dsimp only at hSw); have s0 := hSw.one.c0; have s1 := hSw.one.c1; have s2 := hSw.one.c2; have s3 := hSw.one.c3; have s4 := hSw.one.r0; have s5 := hSw.one.r1; have s6 := hSw.x0; have s7 := hSw.x1; have s8 := hSw.g0; have s9 := hSw.g1; have s10 := hSw.g2; clear hSw; go_simp; try (with_reducible rfl))
        try simp only [Act.put, List.setIfInBounds_toArray, List.set_cons_zero, List.set_cons_succ]
        refine wpAnyH_take (i := 36) (oi := ⟨_, _, _, _, _, _⟩) (v := ?_) rfl (by kernel_rfl) (by kernel_rfl) (by kernel_rfl) (fun _ _ _ h => h) (Or.inl ⟨by rfl, ?_⟩) hHeld ?_
        rotate_left
        · (intro w hSw; (try dsimp only at hSw); have s0 := hSw.one.c0; have s1 := hSw.one.c1; have s2 := hSw.one.c2; have s3 := hSw.one.c3; have s4 := hSw.one.r0; have s5 := hSw.one.r1; have s6 := hSw.x0; have s7 := hSw.x1; have s8 := hSw.g0; have s9 := hSw.g1; have s10 := hSw.g2; clear hSw; go_simp; try (with_reducible rfl))
        try simp only [Act.put, List.setIfInBounds_toArray, List.set_cons_zero, List.set_cons_succ]
        refine wpAnyH_take (i := 37) (oi := ⟨_, _, _, _, _, _⟩) (v := ?_) rfl (by kernel_rfl) (by kernel_rfl) (by kernel_rfl) (fun _ _ _ h => h) (Or.inl ⟨by rfl, ?_⟩) hHeld ?_
        rotate_left
        · (intro w hSw; (try dsimp only at hSw); have s0 := hSw.one.c0; have s1 := hSw.one.c1; have s2 := hSw.one.c2; have s3 := hSw.one.c3; have s4 := hSw.one.r0; have s5 := hSw.one.r1; have s6 := hSw.x0; have s7 := hSw.x1; have s8 := hSw.g0; have s9 := hSw.g1; have s10 := hSw.g2; clear hSw; go_simp; try (with_reducible rfl))
        try simp only [Act.put, List.setIfInBounds_toArray, List.set_cons_zero, List.set_cons_succ]
        refine wpAnyH_take (i := 38) (oi := ⟨_, _, _, _, _, _⟩) (v := ?_) rfl (by kernel_rfl) (by kernel_rfl) (by kernel_rfl) (fun _ _ _ h => h) (Or.inl ⟨by rfl, ?_⟩) hHeld ?_
        rotate_left
        · (intro w hSw; (try dsimp only at hSw); have s0 := hSw.one.c0; have s1 := hSw.one.c1; have s2 := hSw.one.c2; have s3 := hSw.one.c3; have s4 := hSw.one.r0; have s5 := hSw.one.r1; have s6 := hSw.x0; have s7 := hSw.x1; have s8 := hSw.g0; have s9 := hSw.g1; have s10 := hSw.g2; clear hSw; go_simp; try (with_reducible rfl))
        try simp only [Act.put, List.setIfInBounds_toArray, List.set_cons_zero, List.set_cons_succ]
        refine wpAnyH_take (i := 39) (oi := ⟨_, _, _, _, _, _⟩) (v := ?_) rfl (by kernel_rfl) (by kernel_rfl) (by kernel_rfl) (fun _ _ _ h => h) (Or.inl ⟨by rfl, ?_⟩) hHeld ?_
        rotate_left
        · (intro w hSw; (try dsimp only at hSw); have s0 := hSw.one.c0; have s1 := hSw.one.c1; have s2 := hSw.one.c2; have s3 := hSw.one.c3; have s4 := hSw.one.r0; have s5 := hSw.one.r1; have s6 := hSw.x0; have s7 := hSw.x1; have s8 := hSw.g0; have s9 := hSw.g1; have s10 := hSw.g2; clear hSw; go_simp; try (with_reducible rfl))
        try simp only [Act.put, List.setIfInBounds_toArray, List.set_cons_zero, List.set_cons_succ]
        refine wpAnyH_ready (rs := [40]) (by kernel_rfl) (by simp) ?_
        refine AllReadyH.cons (o := ⟨_, _, _, _, _, _⟩) rfl (fun K hK => ?_) AllReadyH.nil
        go_simp
        go_at_call 20
        refine (specSymOf_calls ls _ lk lm _ HLL.out hHeld.rowl).mono ?_
        rintro e w15 ⟨rfl, q⟩
        rw [HSC.out, HSS.out]
        try dsimp only
        try go_wp2_with fail
        refine hK.out _ _ ?_ ?_
        · (try dsimp only); exact hHeld.below q
        clear hHeld hK K
        intro hHeld
        try simp only [Act.put, List.setIfInBounds_toArray, List.set_cons_zero, List.set_cons_succ]
        refine wpAnyH_take (i := 41) (oi := ⟨_, _, _, _, _, _⟩) (v := ?_) rfl (by kernel_rfl) (by kernel_rfl) (by kernel_rfl) (fun _ _ _ h => h) (Or.inl ⟨by rfl, ?_⟩) hHeld ?_
        rotate_left
        · (intro w hSw; (try dsimp only at hSw); have s0 := hSw.one.c0; have s1 := hSw.one.c1; have s2 := hSw.one.c2; have s3 := hSw.one.c3; have s4 := hSw.one.r0; have s5 := hSw.one.r1; have s6 := hSw.x0; have s7 := hSw.x1; have s8 := hSw.g0; have s9 := hSw.g1; have s10 := hSw.g2; clear hSw; go_simp; try (with_reducible rfl))
        try simp only [Act.put, List.setIfInBounds_toArray, List.set_cons_zero, List.set_cons_succ]
        refine wpAnyH_take (i := 42) (oi := ⟨_, _, _, _, _, _⟩) (v := ?_) rfl (by kernel_rfl) (by kernel_rfl) (by kernel_rfl) (fun _ _ _ h => h) (Or.inl ⟨by rfl, ?_⟩) hHeld ?_
        rotate_left
        · (intro w hSw; (try dsimp only at hSw); have s0 := hSw.one.c0; have s1 := hSw.one.c1; have s2 := hSw.one.c2; have s3 := hSw.one.c3; have s4 := hSw.one.r0; have s5 := hSw.one.r1; have s6 := hSw.x0; have s7 := hSw.x1; have s8 := hSw.g0; have s9 := hSw.g1; have s10 := hSw.g2; clear hSw; go_simp; try (with_reducible rfl))
        try simp only [Act.put, List.setIfInBounds_toArray, List.set_cons_zero, List.set_cons_succ]
        refine wpAnyH_take (i := 43) (oi := ⟨_, _, _, _, _, _⟩) (v := ?_) rfl (by kernel_rfl) (by kernel_rfl) (by kernel_rfl) (fun _ _ _ h => h) (Or.inl ⟨by rfl, ?_⟩) hHeld ?_
        rotate_left
        · (intro w hSw; (try dsimp only at hSw); have s0 := hSw.one.c0; have s1 := hSw.one.c1; have s2 := hSw.one.c2; have s3 := hSw.one.c3; have s4 := hSw.one.r0; have s5 := hSw.one.r1; have s6 := hSw.x0; have s7 := hSw.x1; have s8 := hSw.g0; have s9 := hSw.g1; have s10 := hSw.g2; clear hSw; go_simp; try (with_reducible rfl))
        try simp only [Act.put, List.setIfInBounds_toArray, List.set_cons_zero, List.set_cons_succ]
        refine wpAnyH_take (i := 44) (oi := ⟨_, _, _, _, _, _⟩) (v := ?_) rfl (by kernel_rfl) (by kernel_rfl) (by kernel_rfl) (fun _ _ _ h => h) (Or.inl ⟨by rfl, ?_⟩) hHeld ?_
        rotate_left
        · (intro w hSw; (try dsimp only at hSw); have s0 := hSw.one.c0; have s1 := hSw.one.c1; have s2 := hSw.one.c2; have s3 := hSw.one.c3; have s4 := hSw.one.r0; have s5 := hSw.one.r1; have s6 := hSw.x0; have s7 := hSw.x1; have s8 := hSw.g0; have s9 := hSw.g1; have s10 := hSw.g2; clear hSw; go_simp; try (with_reducible rfl))
        try simp only [Act.put, List.setIfInBounds_toArray, List.set_cons_zero, List.set_cons_succ]
        refine wpAnyH_take (i := 45) (oi := ⟨_, _, _, _, _, _⟩) (v := ?_) rfl (by kernel_rfl) (by kernel_rfl) (by kernel_rfl) (fun _ _ _ h => h) (Or.inl ⟨by rfl, ?_⟩) hHeld ?_
        rotate_left
        · (intro w hSw; (try dsimp only at hSw); have s0 := hSw.one.c0; have s1 := hSw.one.c1; have s2 := hSw.one.c2; have s3 := hSw.one.c3; have s4 := hSw.one.r0; have s5 := hSw.one.r1; have s6 := hSw.x0; have s7 := hSw.x1; have s8 := hSw.g0; have s9 := hSw.g1; have s10 := hSw.g2; clear hSw; go_simp; try (with_reducible rfl))
        try simp only [Act.put, List.setIfInBounds_toArray, List.set_cons_zero, List.set_cons_succ]
        refine wpAnyH_take (i := 46) (oi := ⟨_, _, _, _, _, _⟩) (v := ?_) rfl (by kernel_rfl) (by kernel_rfl) (by kernel_rfl) (fun _ _ _ h => h) (Or.inl ⟨by rfl, ?_⟩) hHeld ?_
        rotate_left
        · (intro w hSw; (try dsimp only at hSw); have s0 := hSw.one.c0; have s1 := hSw.one.c1; have s2 := hSw.one.c2; have s3 := hSw.one.c3; have s4 := hSw.one.r0; have s5 := hSw.one.r1; have s6 := hSw.x0; have s7 := hSw.x1; have s8 := hSw.g0; have s9 := hSw.g1; have s10 := hSw.g2; clear hSw; go_simp; try (with_reducible rfl))
        try simp only [Act.put, List.setIfInBounds_toArray, List.set_cons_zero, List.set_cons_succ]
        refine wpAnyH_take (i := 47) (oi := ⟨_, _, _, _, _, _⟩) (v := ?_) rfl (by kernel_rfl) (by kernel_rfl) (by kernel_rfl) (fun _ _ _ h => h) (Or.inl ⟨by rfl, ?_⟩) hHeld ?_
        rotate_left
        · (intro w hSw; (try dsimp only at hSw); have s0 := hSw.one.c0; have s1 := hSw.one.c1; have s2 := hSw.one.c2; have s3 := hSw.one.c3; have s4 := hSw.one.r0; have s5 := hSw.one.r1; have s6 := hSw.x0; have s7 := hSw.x1; have s8 := hSw.g0; have s9 := hSw.g1; have s10 := hSw.g2; clear hSw; go_simp; try (with_reducible rfl))
        try simp only [Act.put, List.setIfInBounds_toArray, List.set_cons_zero, List.set_cons_succ]
        refine wpAnyH_take (i := 48) (oi := ⟨_, _, _, _, _, _⟩) (v := ?_) rfl (by kernel_rfl) (by kernel_rfl) (by kernel_rfl) (fun _ _ _ h => h) (Or.inl ⟨by rfl, ?_⟩) hHeld ?_
        rotate_left
        · (intro w hSw; (try dsimp only at hSw); have s0 := hSw.one.c0; have s1 := hSw.one.c1; have s2 := hSw.one.c2; have s3 := hSw.one.c3; have s4 := hSw.one.r0; have s5 := hSw.one.r1; have s6 := hSw.x0; have s7 := hSw.x1; have s8 := hSw.g0; have s9 := hSw.g1; have s10 := hSw.g2; clear hSw; go_simp; try (with_reducible rfl))
        try simp only [Act.put, List.setIfInBounds_toArray, List.set_cons_zero, List.set_cons_succ]
        refine wpAnyH_take (i := 49) (oi := ⟨_, _, _, _, _, _⟩) (v := ?_) rfl (by kernel_rfl) (by kernel_rfl) (by kernel_rfl) (fun _ _ _ h => h) (Or.inl ⟨by rfl, ?_⟩) hHeld ?_
        rotate_left
        · (intro w hSw; (try dsimp only at hSw); have s0 := hSw.one.c0; have s1 := hSw.one.c1; have s2 := hSw.one.c2; have s3 := hSw.one.c3; have s4 := hSw.one.r0; have s5 := hSw.one.r1; have s6 := hSw.x0; have s7 := hSw.x1; have s8 := hSw.g0; have s9 := hSw.g1; have s10 := hSw.g2; clear hSw; go_simp; try (with_reducible rfl))
        try simp only [Act.put, List.setIfInBounds_toArray, List.set_cons_zero, List.set_cons_succ]
        refine wpAnyH_take (i := 50) (oi := ⟨_, _, _, _, _, _⟩) (v := ?_) rfl (by kernel_rfl) (by kernel_rfl) (by kernel_rfl) (fun _ _ _ h => h) (Or.inl ⟨by rfl, ?_⟩) hHeld ?_
        rotate_left
        · (intro w hSw; (try dsimp only at hSw); have s0 := hSw.one.c0; have s1 := hSw.one.c1; have s2 := hSw.one.c2; have s3 := hSw.one.c3; have s4 := hSw.one.r0; have s5 := hSw.one.r1; have s6 := hSw.x0; have s7 := hSw.x1; have s8 := hSw.g0; have s9 := hSw.g1; have s10 := hSw.g2; clear hSw; go_simp; try (with_reducible rfl))
        try simp only [Act.put, List.setIfInBounds_toArray, List.set_cons_zero, List.set_cons_succ]
        refine wpAnyH_done (by kernel_rfl) ?_ _
        have b9 := hHeld.one.bel
        clear hS hHeld
        go_wp2
        go_ret
        exact ⟨rfl, b9⟩
  · have hne : (cd != 0) = true := by simpa using hz
    have heq : (cd == cd) = true := by simp
    obtain ⟨bc, HBC⟩ : ∃ c, Hid (bindsCode bs = c) := ⟨_, hide rfl⟩
    have heq2 : (bc == bc) = true := by simp
    have hf0 := fr0
    clear hz
    go_wp2_with fail
    generalize (w3.alloc (.cells #[.int .i64 cd, .slice ax rs.length cx] 32)) = w4 at *
    generalize w1.heap.size = d at *
    generalize w3.heap.size = r at *
    have hS : LB1 w w4.drew d r k m sk sv cd (.slice av bs.length cv) (.slice ax rs.length cx) bs rs := D.out.below (Below.drew (Below.refl _ _))
    clear D
    refine wp_region_held_drew (S := (fun w' => LB1 w w' d r k m sk sv cd (.slice av bs.length cv) (.slice ax rs.length cx) bs rs)) (by kernel_rfl) ?_ (fun hHeld => ?_)
    · (try dsimp only); exact hS
    refine wpAnyH_take (i := 0) (oi := ⟨_, _, _, _, _, _⟩) (v := ?_) rfl (by kernel_rfl) (by kernel_rfl) (by kernel_rfl) (fun _ _ _ h => h) (Or.inl ⟨by rfl, ?_⟩) hHeld ?_
    rotate_left
    · (intro w hSw; (try dsimp only at hSw); have s0 := hSw.c0; have s1 := hSw.c1; have s2 := hSw.c2; have s3 := hSw.c3; have s4 := hSw.r0; have s5 := hSw.r1; clear hSw; go_simp; try (with_reducible rfl))
    try simp only [Act.put, List.setIfInBounds_toArray, List.set_cons_zero, List.set_cons_succ]
    refine wpAnyH_take (i := 1) (oi := ⟨_, _, _, _, _, _⟩) (v := ?_) rfl (by kernel_rfl) (by kernel_rfl) (by kernel_rfl) (fun _ _ _ h => h) (Or.inl ⟨by rfl, ?_⟩) hHeld ?_
    rotate_left
    · (intro w hSw; (try dsimp only at hSw); have s0 := hSw.c0; have s1 := hSw.c1; have s2 := hSw.c2; have s3 := hSw.c3; have s4 := hSw.r0; have s5 := hSw.r1; clear hSw; go_simp; try (with_reducible rfl))
    try simp only [Act.put, List.setIfInBounds_toArray, List.set_cons_zero, List.set_cons_succ]
    refine wpAnyH_take (i := 4) (oi := ⟨_, _, _, _, _, _⟩) (v := ?_) rfl (by kernel_rfl) (by kernel_rfl) (by kernel_rfl) (fun _ _ _ h => h) (Or.inl ⟨by rfl, ?_⟩) hHeld ?_
    rotate_left
    · (intro w hSw; (try dsimp only at hSw); have s0 := hSw.c0; have s1 := hSw.c1; have s2 := hSw.c2; have s3 := hSw.c3; have s4 := hSw.r0; have s5 := hSw.r1; clear hSw; go_simp; try (with_reducible rfl))
    try simp only [Act.put, List.setIfInBounds_toArray, List.set_cons_zero, List.set_cons_succ]
    refine wpAnyH_take (i := 5) (oi := ⟨_, _, _, _, _, _⟩) (v := ?_) rfl (by kernel_rfl) (by kernel_rfl) (by kernel_rfl) (fun _ _ _ h => h) (Or.inl ⟨by rfl, ?_⟩) hHeld ?_
    rotate_left
    · (intro w hSw; (try dsimp only at hSw); have s0 := hSw.c0; have s1 := hSw.c1; have s2 := hSw.c2; have s3 := hSw.c3; have s4 := hSw.r0; have s5 := hSw.r1; clear hSw; go_simp; try (with_reducible rfl))
    try simp only [Act.put, List.setIfInBounds_toArray, List.set_cons_zero, List.set_cons_succ]
    refine wpAnyH_ready (rs := [2]) (by kernel_rfl) (by simp) ?_
    refine AllReadyH.cons (o := ⟨_, _, _, _, _, _⟩) rfl (fun K hK => ?_) AllReadyH.nil
    go_simp
    go_at_call 12
    refine (specPutBind_calls bs _ (k, m, sk, sv) _ HL.out hHeld.row).mono ?_
    rintro e w5 ⟨x, rfl, hx, q⟩
    rw [HCD.out]
    obtain ⟨a5, c5, rfl, _⟩ := hx
    try go_wp2_with fail
    refine hK.out _ _ ?_ ?_
    · (try dsimp only); exact hHeld.below q
    clear hHeld hK K
    intro hHeld
    try simp only [Act.put, List.setIfInBounds_toArray, List.set_cons_zero, List.set_cons_succ]
    refine wpAnyH_take (i := 3) (oi := ⟨_, _, _, _, _, _⟩) (v := ?_) rfl (by kernel_rfl) (by kernel_rfl) (by kernel_rfl) (fun _ _ _ h => h) (Or.inl ⟨by rfl, ?_⟩) hHeld ?_
    rotate_left
    · (intro w hSw; (try dsimp only at hSw); have s0 := hSw.c0; have s1 := hSw.c1; have s2 := hSw.c2; have s3 := hSw.c3; have s4 := hSw.r0; have s5 := hSw.r1; clear hSw; go_simp; try (with_reducible rfl))
    try simp only [Act.put, List.setIfInBounds_toArray, List.set_cons_zero, List.set_cons_succ]
    refine wpAnyH_take (i := 6) (oi := ⟨_, _, _, _, _, _⟩) (v := ?_) rfl (by kernel_rfl) (by kernel_rfl) (by kernel_rfl) (fun _ _ _ h => h) (Or.inl ⟨by rfl, ?_⟩) hHeld ?_
    rotate_left
    · (intro w hSw; (try dsimp only at hSw); have s0 := hSw.c0; have s1 := hSw.c1; have s2 := hSw.c2; have s3 := hSw.c3; have s4 := hSw.r0; have s5 := hSw.r1; clear hSw; go_simp; try (with_reducible rfl))
    try simp only [Act.put, List.setIfInBounds_toArray, List.set_cons_zero, List.set_cons_succ]
    refine wpAnyH_take (i := 7) (oi := ⟨_, _, _, _, _, _⟩) (v := ?_) rfl (by kernel_rfl) (by kernel_rfl) (by kernel_rfl) (fun _ _ _ h => h) (Or.inl ⟨by rfl, ?_⟩) hHeld ?_
    rotate_left
    · (intro w hSw; (try dsimp only at hSw); have s0 := hSw.c0; have s1 := hSw.c1; have s2 := hSw.c2; have s3 := hSw.c3; have s4 := hSw.r0; have s5 := hSw.r1; clear hSw; go_simp; try (with_reducible rfl))
    try simp only [Act.put, List.setIfInBounds_toArray, List.set_cons_zero, List.set_cons_succ]
    refine wpAnyH_take (i := 8) (oi := ⟨_, _, _, _, _, _⟩) (v := ?_) rfl (by kernel_rfl) (by kernel_rfl) (by kernel_rfl) (fun _ _ _ h => h) (Or.inl ⟨by rfl, ?_⟩) hHeld ?_
    rotate_left
    · (intro w hSw; (try dsimp only at hSw); have s0 := hSw.c0; have s1 := hSw.c1; have s2 := hSw.c2; have s3 := hSw.c3; have s4 := hSw.r0; have s5 := hSw.r1; clear hSw; go_simp; try (with_reducible rfl))
    try simp only [Act.put, List.setIfInBounds_toArray, List.set_cons_zero, List.set_cons_succ]
    refine wpAnyH_take (i := 10) (oi := ⟨_, _, _, _, _, _⟩) (v := ?_) rfl (by kernel_rfl) (by kernel_rfl) (by kernel_rfl) (fun _ _ _ h => h) (Or.inl ⟨by rfl, ?_⟩) hHeld ?_
    rotate_left
    · (intro w hSw; (try dsimp only at hSw); have s0 := hSw.c0; have s1 := hSw.c1; have s2 := hSw.c2; have s3 := hSw.c3; have s4 := hSw.r0; have s5 := hSw.r1; clear hSw; go_simp; try (with_reducible rfl))
    try simp only [Act.put, List.setIfInBounds_toArray, List.set_cons_zero, List.set_cons_succ]
    refine wpAnyH_ready (rs := [9]) (by kernel_rfl) (by simp) ?_
    refine AllReadyH.cons (o := ⟨_, _, _, _, _, _⟩) rfl (fun K hK => ?_) AllReadyH.nil
    go_simp
    go_at_call 13
    refine (implBindsFault_calls bs _ _ HL.out hHeld.row hHeld.few).mono ?_
    rintro e w6 ⟨rfl, q⟩
    rw [HBC.out]
    try go_wp2_with fail
    refine hK.out _ _ ?_ ?_
    · (try dsimp only); exact hHeld.below q
    clear hHeld hK K
    intro hHeld
    try simp only [Act.put, List.setIfInBounds_toArray, List.set_cons_zero, List.set_cons_succ]
    refine wpAnyH_ready (rs := [11]) (by kernel_rfl) (by simp) ?_
    refine AllReadyH.cons (o := ⟨_, _, _, _, _, _⟩) rfl (fun K hK => ?_) AllReadyH.nil
    go_simp
    go_at_call 14
    refine (specBindsFault_calls bs _ _ HL.out hHeld.row).mono ?_
    rintro e w7 ⟨rfl, q⟩
    rw [HBC.out]
    try go_wp2_with fail
    refine hK.out _ _ ?_ ?_
    · (try dsimp only); exact hHeld.below q
    clear hHeld hK K
    intro hHeld
    try simp only [Act.put, List.setIfInBounds_toArray, List.set_cons_zero, List.set_cons_succ]
    refine wpAnyH_take (i := 12) (oi := ⟨_, _, _, _, _, _⟩) (v := ?_) rfl (by kernel_rfl) (by kernel_rfl) (by kernel_rfl) (fun _ _ _ h => h) (Or.inl ⟨by rfl, ?_⟩) hHeld ?_
    rotate_left
    · (intro w hSw; (try dsimp only at hSw); have s0 := hSw.c0; have s1 := hSw.c1; have s2 := hSw.c2; have s3 := hSw.c3; have s4 := hSw.r0; have s5 := hSw.r1; clear hSw; go_simp; try (with_reducible rfl))
    try simp only [Act.put, List.setIfInBounds_toArray, List.set_cons_zero, List.set_cons_succ]
    refine wpAnyH_take (i := 13) (oi := ⟨_, _, _, _, _, _⟩) (v := ?_) rfl (by kernel_rfl) (by kernel_rfl) (by kernel_rfl) (fun _ _ _ h => h) (Or.inl ⟨by rfl, ?_⟩) hHeld ?_
    rotate_left
    · (intro w hSw; (try dsimp only at hSw); have s0 := hSw.c0; have s1 := hSw.c1; have s2 := hSw.c2; have s3 := hSw.c3; have s4 := hSw.r0; have s5 := hSw.r1; clear hSw; go_simp; try (with_reducible rfl))
    try simp only [Act.put, List.setIfInBounds_toArray, List.set_cons_zero, List.set_cons_succ]
    refine wpAnyH_take (i := 14) (oi := ⟨_, _, _, _, _, _⟩) (v := ?_) rfl (by kernel_rfl) (by kernel_rfl) (by kernel_rfl) (fun _ _ _ h => h) (Or.inl ⟨by rfl, ?_⟩) hHeld ?_
    rotate_left
    · (intro w hSw; (try dsimp only at hSw); have s0 := hSw.c0; have s1 := hSw.c1; have s2 := hSw.c2; have s3 := hSw.c3; have s4 := hSw.r0; have s5 := hSw.r1; clear hSw; go_simp; try (with_reducible rfl))
    try simp only [Act.put, List.setIfInBounds_toArray, List.set_cons_zero, List.set_cons_succ]
    refine wpAnyH_done (by kernel_rfl) ?_ _
    have b8 := hHeld.bel
    clear hS hHeld
    go_wp2
    go_ret
    exact ⟨rfl, b8⟩
end Go.Proofs.YtcfechnkgefhcaaDoor
