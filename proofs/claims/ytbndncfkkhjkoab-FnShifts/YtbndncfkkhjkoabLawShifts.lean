/-
  For every code of bytes the law FnShifts returns true: cells that are shifted go along their row, and all others stay; a grid of the same size is the same. No condition (the law itself passes codes of more than 1048576 bytes by).
-/
import Derived.Test.YtbndncfkkhjkoabRows
import Derived.Test.YtbndncfkkhjkoabGridDraw4
import Derived.Test.YtbndncfkkhjkoabShiftMath
import Derived.Test.YtbndncfkkhjkoabResizeTop2
import Derived.Test.YtbndncfkkhjkoabLawKit3
import Derived.Deep.RegionHeld
import Derived.Deep.RegionHeld3
namespace Go.Proofs.Ytbndncfkkhjkoab
set_option maxRecDepth 20000
open Go.ChangeShapes Go.WideShapes Go.ChangeAt Go.RowKit
set_option linter.unusedVariables false
set_option linter.unusedSimpArgs false
set_option maxRecDepth 20000

set_option maxHeartbeats 4000000 in
theorem lawShifts_walk (zs : List Int) (a : Option Addr) (cap : Nat) (w : World) (hv : ReadAt .u8 w (.slice a zs.length cap) zs) (hz : ∀ z ∈ zs, 0 ≤ z ∧ z ≤ 255) (hlen : zs.length ≤ 1048576) :
    Calls Try.prog 3 #[.slice a zs.length cap] w fun e w' => e = .returned (.bool true) ∧ Below w.heap.size w w' := by
  have HZ := hide hz
  clear hz
  have hle : ¬ ((1048576 : Int) < (zs.length : Int)) := by omega
  have ff0 := fld_gr0
  have ff1 := fld_gr1
  go_enter Try.func3, Try.ntmps3
  go_wp2_with (first | (go_at_call 5; go_in))
  refine (drawShift_calls zs a cap _ hv HZ.out hlen).mono ?_
  rintro e w1 ⟨r, wd, v1, v2, cs, bs, y, x, n, at', rfl, hc24, hb40, l1, l2, k1, k2, q1⟩
  clear k1 k2
  obtain ⟨a1, c1, rfl, hx⟩ := id l1
  clear hx
  obtain ⟨a2, c2, rfl, hx⟩ := id l2
  clear hx
  go_wp2_with fail
  have hB : Below w1.heap.size w1 (w1.alloc (.cells #[.int .i64 r, .int .i64 wd, .slice a1 cs.length c1, .slice a2 bs.length c2] 26)) := (Below.refl _ _).alloc (Nat.le_refl _) _
  have HG : B4 w1.heap.size (r) (wd) (.slice a1 cs.length c1) (.slice a2 bs.length c2) (w1.alloc (.cells #[.int .i64 r, .int .i64 wd, .slice a1 cs.length c1, .slice a2 bs.length c2] 26)) := ⟨by simp [go_sem], by simp [go_sem], by simp [go_sem], by simp [go_sem]⟩
  obtain ⟨gb, egb⟩ : ∃ b, b = w1.heap.size := ⟨_, rfl⟩
  rw [← egb] at HG ⊢
  clear egb
  generalize (w1.alloc (.cells #[.int .i64 r, .int .i64 wd, .slice a1 cs.length c1, .slice a2 bs.length c2] 26)) = w2 at *
  replace l1 := l1.below hB
  replace l2 := l2.below hB
  have q2 : Below w.heap.size w w2 := q1.trans (hB.mono q1.size)
  clear hB q1
  refine (implShiftCells_calls r wd cs bs y x n at' _ _ w2 (by omega) (by omega) l1 l2).mono ?_
  rintro e w3 ⟨v5, v6, rfl, ho, hb3⟩
  have sf := fun h => shift_facts (r := r) (wd := wd) (cs := cs) (bs := bs) (y := y) (x := x) (n := n) (at' := at') h
  have sl := shiftRes_len r wd cs bs y x n at'
  generalize hX : shiftRes r wd cs bs y x n at' = X at *
  have HX := hide hX
  clear hX
  obtain ⟨rc, rr, rw', rs1, rs2⟩ := X
  dsimp only at ho sf sl ⊢
  have HSF := hide sf
  have m1 := ho.read1
  have m2 := ho.read2
  clear ho sf
  obtain ⟨a5, c5, rfl, hx⟩ := id m1
  clear hx
  obtain ⟨a6, c6, rfl, hx⟩ := id m2
  clear hx
  replace l1 := l1.below hb3
  replace l2 := l2.below hb3
  replace HG := HG.below hb3
  have q3 : Below w.heap.size w w3 := q2.trans (hb3.mono q2.size)
  clear hb3 q2
  go_wp2_with fail
  have hB : Below w3.heap.size w3 (w3.alloc (.cells #[.int .i64 rc, .int .i64 rr, .int .i64 rw', .slice a5 rs1.length c5, .slice a6 rs2.length c6] 30)) := (Below.refl _ _).alloc (Nat.le_refl _) _
  have HR : B5 w3.heap.size (rc) (rr) (rw') (.slice a5 rs1.length c5) (.slice a6 rs2.length c6) (w3.alloc (.cells #[.int .i64 rc, .int .i64 rr, .int .i64 rw', .slice a5 rs1.length c5, .slice a6 rs2.length c6] 30)) := ⟨by simp [go_sem], by simp [go_sem], by simp [go_sem], by simp [go_sem], by simp [go_sem]⟩
  obtain ⟨rb, erb⟩ : ∃ b, b = w3.heap.size := ⟨_, rfl⟩
  rw [← erb] at HR ⊢
  clear erb
  generalize (w3.alloc (.cells #[.int .i64 rc, .int .i64 rr, .int .i64 rw', .slice a5 rs1.length c5, .slice a6 rs2.length c6] 30)) = w4 at *
  replace l1 := l1.below hB
  replace l2 := l2.below hB
  replace HG := HG.below hB
  replace m1 := m1.below hB
  replace m2 := m2.below hB
  have q4 : Below w.heap.size w w4 := q3.trans (hB.mono q3.size)
  clear hB q3
  refine (drawResize_calls zs a cap w4 (hv.below q4) HZ.out hlen).mono ?_
  rintro e w5 ⟨r2, wd2, v1, v2, cs2, bs2, rows, width, rfl, hd24, he40, i1, i2, k1, k2, hb5⟩
  obtain ⟨a7, c7, rfl, hx⟩ := id i1
  clear hx
  obtain ⟨a8, c8, rfl, hx⟩ := id i2
  clear hx
  replace l1 := l1.below hb5
  replace l2 := l2.below hb5
  replace HG := HG.below hb5
  replace m1 := m1.below hb5
  replace m2 := m2.below hb5
  replace HR := HR.below hb5
  have q5 : Below w.heap.size w w5 := q4.trans (hb5.mono q4.size)
  clear hb5 q4
  go_wp2_with fail
  have hB : Below w5.heap.size w5 (w5.alloc (.cells #[.int .i64 r2, .int .i64 wd2, .slice a7 cs2.length c7, .slice a8 bs2.length c8] 26)) := (Below.refl _ _).alloc (Nat.le_refl _) _
  have HH : B4 w5.heap.size (r2) (wd2) (.slice a7 cs2.length c7) (.slice a8 bs2.length c8) (w5.alloc (.cells #[.int .i64 r2, .int .i64 wd2, .slice a7 cs2.length c7, .slice a8 bs2.length c8] 26)) := ⟨by simp [go_sem], by simp [go_sem], by simp [go_sem], by simp [go_sem]⟩
  obtain ⟨hb, ehb⟩ : ∃ b, b = w5.heap.size := ⟨_, rfl⟩
  rw [← ehb] at HH ⊢
  clear ehb
  generalize (w5.alloc (.cells #[.int .i64 r2, .int .i64 wd2, .slice a7 cs2.length c7, .slice a8 bs2.length c8] 26)) = w6 at *
  replace l1 := l1.below hB
  replace l2 := l2.below hB
  replace HG := HG.below hB
  replace m1 := m1.below hB
  replace m2 := m2.below hB
  replace HR := HR.below hB
  replace i1 := i1.below hB
  replace i2 := i2.below hB
  have q6 : Below w.heap.size w w6 := q5.trans (hB.mono q5.size)
  clear hB q5
  refine (implResizeGrid_calls r2 wd2 cs2 bs2 rows width _ _ w6 (by omega) (by omega) i1 i2).mono ?_
  rintro e w7 ⟨v5, v6, rfl, ho, hb7⟩
  have zf := fun h => resize_facts (r := r2) (wd := wd2) (cs := cs2) (bs := bs2) (rows := rows) (width := width) h
  have zl := resizeRes_len r2 wd2 cs2 bs2 rows width
  generalize hX : resizeRes r2 wd2 cs2 bs2 rows width = Z at *
  have HZX := hide hX
  clear hX
  obtain ⟨zc, zr, zw, zs1, zs2⟩ := Z
  dsimp only at ho zf zl ⊢
  have HZF := hide zf
  have j1 := ho.read1
  have j2 := ho.read2
  clear ho zf
  obtain ⟨a9, c9, rfl, hx⟩ := id j1
  clear hx
  obtain ⟨a0, c0, rfl, hx⟩ := id j2
  clear hx
  replace l1 := l1.below hb7
  replace l2 := l2.below hb7
  replace HG := HG.below hb7
  replace m1 := m1.below hb7
  replace m2 := m2.below hb7
  replace HR := HR.below hb7
  replace i1 := i1.below hb7
  replace i2 := i2.below hb7
  replace HH := HH.below hb7
  have q7 : Below w.heap.size w w7 := q6.trans (hb7.mono q6.size)
  clear hb7 q6
  go_wp2_with fail
  have hB : Below w7.heap.size w7 (w7.alloc (.cells #[.int .i64 zc, .int .i64 zr, .int .i64 zw, .slice a9 zs1.length c9, .slice a0 zs2.length c0] 30)) := (Below.refl _ _).alloc (Nat.le_refl _) _
  have HZB : B5 w7.heap.size (zc) (zr) (zw) (.slice a9 zs1.length c9) (.slice a0 zs2.length c0) (w7.alloc (.cells #[.int .i64 zc, .int .i64 zr, .int .i64 zw, .slice a9 zs1.length c9, .slice a0 zs2.length c0] 30)) := ⟨by simp [go_sem], by simp [go_sem], by simp [go_sem], by simp [go_sem], by simp [go_sem]⟩
  obtain ⟨zb, ezb⟩ : ∃ b, b = w7.heap.size := ⟨_, rfl⟩
  rw [← ezb] at HZB ⊢
  clear ezb
  generalize (w7.alloc (.cells #[.int .i64 zc, .int .i64 zr, .int .i64 zw, .slice a9 zs1.length c9, .slice a0 zs2.length c0] 30)) = w8 at *
  replace l1 := l1.below hB
  replace l2 := l2.below hB
  replace HG := HG.below hB
  replace m1 := m1.below hB
  replace m2 := m2.below hB
  replace HR := HR.below hB
  replace i1 := i1.below hB
  replace i2 := i2.below hB
  replace HH := HH.below hB
  replace j1 := j1.below hB
  replace j2 := j2.below hB
  have q8 : Below w.heap.size w w8 := q7.trans (hB.mono q7.size)
  clear hB q7
  skip
  go_wp2_with fail
  by_cases hz0 : zc = 0
  · subst hz0
    have HZC := hide (HZF.out rfl).1
    have HZS := hide (HZF.out rfl).2
    clear HZF
    refine wp_region_held_drew (S := (fun w' => w'.cell? ⟨hb, 0, none⟩ = some (.int .i64 r2) ∧ w'.cell? ⟨hb, 1, none⟩ = some (.int .i64 wd2) ∧ w'.cell? ⟨hb, 2, none⟩ = some (.slice a7 cs2.length c7) ∧ w'.cell? ⟨hb, 3, none⟩ = some (.slice a8 bs2.length c8) ∧ w'.cell? ⟨zb, 0, none⟩ = some (.int .i64 0) ∧ w'.cell? ⟨zb, 1, none⟩ = some (.int .i64 zr) ∧ w'.cell? ⟨zb, 2, none⟩ = some (.int .i64 zw) ∧ w'.cell? ⟨zb, 3, none⟩ = some (.slice a9 zs1.length c9) ∧ w'.cell? ⟨zb, 4, none⟩ = some (.slice a0 zs2.length c0))) (by kernel_rfl) ?_ (fun hHeld => ?_)
    · (try dsimp only); exact ⟨HH.c0, HH.c1, HH.c2, HH.c3, HZB.c0, HZB.c1, HZB.c2, HZB.c3, HZB.c4⟩
    refine wpAnyH_take (i := 0) (oi := ⟨_, _, _, _, _, _⟩) (v := ?_) rfl (by kernel_rfl) (by kernel_rfl) (by kernel_rfl) (fun _ _ _ h => h) (Or.inl ⟨by rfl, ?_⟩) hHeld ?_
    rotate_left
    · (intro w hSw; (try dsimp only at hSw); go_simp; try (with_reducible rfl))
    try simp only [Act.put, List.setIfInBounds_toArray, List.set_cons_zero, List.set_cons_succ]
    refine wpAnyH_take (i := 1) (oi := ⟨_, _, _, _, _, _⟩) (v := ?_) rfl (by kernel_rfl) (by kernel_rfl) (by kernel_rfl) (fun _ _ _ h => h) (Or.inl ⟨by rfl, ?_⟩) hHeld ?_
    rotate_left
    · (intro w hSw; (try dsimp only at hSw); go_simp; try (with_reducible rfl))
    try simp only [Act.put, List.setIfInBounds_toArray, List.set_cons_zero, List.set_cons_succ]
    refine wpAnyH_take (i := 2) (oi := ⟨_, _, _, _, _, _⟩) (v := ?_) rfl (by kernel_rfl) (by kernel_rfl) (by kernel_rfl) (fun _ _ _ h => h) (Or.inl ⟨by rfl, ?_⟩) hHeld ?_
    rotate_left
    · (intro w hSw; (try dsimp only at hSw); go_simp; try (with_reducible rfl))
    try simp only [Act.put, List.setIfInBounds_toArray, List.set_cons_zero, List.set_cons_succ]
    refine wpAnyH_take (i := 3) (oi := ⟨_, _, _, _, _, _⟩) (v := ?_) rfl (by kernel_rfl) (by kernel_rfl) (by kernel_rfl) (fun _ _ _ h => h) (Or.inl ⟨by rfl, ?_⟩) hHeld ?_
    rotate_left
    · (intro w hSw; (try dsimp only at hSw); go_simp; try (with_reducible rfl))
    try simp only [Act.put, List.setIfInBounds_toArray, List.set_cons_zero, List.set_cons_succ]
    refine wpAnyH_take (i := 4) (oi := ⟨_, _, _, _, _, _⟩) (v := ?_) rfl (by kernel_rfl) (by kernel_rfl) (by kernel_rfl) (fun _ _ _ h => h) (Or.inl ⟨by rfl, ?_⟩) hHeld ?_
    rotate_left
    · (intro w hSw; (try dsimp only at hSw); go_simp; try (with_reducible rfl))
    try simp only [Act.put, List.setIfInBounds_toArray, List.set_cons_zero, List.set_cons_succ]
    refine wpAnyH_ready (rs := [5]) (by kernel_rfl) (by simp) ?_
    refine AllReadyH.cons (o := ⟨_, _, _, _, _, _⟩) rfl (fun K hK => ?_) AllReadyH.nil
    go_simp
    go_at_call 10
    refine (specResizeGrid_calls r2 wd2 cs2 bs2 rows width _ _ _ (by omega) (by omega) k1 k2 (i1.below (below_drewN (Below.refl _ _) 1)) (i2.below (below_drewN (Below.refl _ _) 1))).mono ?_
    rintro e w9 ⟨v5, v6, rfl, ho, hbx⟩
    replace hbx : Below w8.heap.size w8 w9 := (below_drewN (Below.refl _ _) 1).trans hbx
    rw [HZX.out] at ho ⊢
    dsimp only at ho ⊢
    have n1 := ho.read1
    have n2 := ho.read2
    clear ho
    obtain ⟨b5, d5, rfl, hx⟩ := id n1
    clear hx
    obtain ⟨b6, d6, rfl, hx⟩ := id n2
    clear hx
    replace l1 := l1.below hbx
    replace l2 := l2.below hbx
    replace HG := HG.below hbx
    replace m1 := m1.below hbx
    replace m2 := m2.below hbx
    replace HR := HR.below hbx
    replace i1 := i1.below hbx
    replace i2 := i2.below hbx
    replace HH := HH.below hbx
    replace j1 := j1.below hbx
    replace j2 := j2.below hbx
    replace HZB := HZB.below hbx
    have q9 : Below w.heap.size w w9 := q8.trans (hbx.mono q8.size)
    clear hbx q8
    try go_wp2_with fail
    refine hK.out _ _ ?_ ?_
    · (try dsimp only); exact ⟨HH.c0, HH.c1, HH.c2, HH.c3, HZB.c0, HZB.c1, HZB.c2, HZB.c3, HZB.c4⟩
    clear hHeld hK K
    intro hHeld
    try simp only [Act.put, List.setIfInBounds_toArray, List.set_cons_zero, List.set_cons_succ]
    refine wpAnyH_take (i := 6) (oi := ⟨_, _, _, _, _, _⟩) (v := ?_) rfl (by kernel_rfl) (by kernel_rfl) (by kernel_rfl) (fun _ _ _ h => h) (Or.inl ⟨by rfl, ?_⟩) hHeld ?_
    rotate_left
    · (intro w hSw; (try dsimp only at hSw); go_simp; try (with_reducible rfl))
    try simp only [Act.put, List.setIfInBounds_toArray, List.set_cons_zero, List.set_cons_succ]
    refine wpAnyH_take (i := 7) (oi := ⟨_, _, _, _, _, _⟩) (v := ?_) rfl (by kernel_rfl) (by kernel_rfl) (by kernel_rfl) (fun _ _ _ h => h) (Or.inl ⟨by rfl, ?_⟩) hHeld ?_
    rotate_left
    · (intro w hSw; (try dsimp only at hSw); go_simp; try (with_reducible rfl))
    try simp only [Act.put, List.setIfInBounds_toArray, List.set_cons_zero, List.set_cons_succ]
    refine wpAnyH_take (i := 8) (oi := ⟨_, _, _, _, _, _⟩) (v := ?_) rfl (by kernel_rfl) (by kernel_rfl) (by kernel_rfl) (fun _ _ _ h => h) (Or.inl ⟨by rfl, ?_⟩) hHeld ?_
    rotate_left
    · (intro w hSw; (try dsimp only at hSw); go_simp; try (with_reducible rfl))
    try simp only [Act.put, List.setIfInBounds_toArray, List.set_cons_zero, List.set_cons_succ]
    refine wpAnyH_take (i := 9) (oi := ⟨_, _, _, _, _, _⟩) (v := ?_) rfl (by kernel_rfl) (by kernel_rfl) (by kernel_rfl) (fun _ _ _ h => h) (Or.inl ⟨by rfl, ?_⟩) hHeld ?_
    rotate_left
    · (intro w hSw; (try dsimp only at hSw); go_simp; try (with_reducible rfl))
    try simp only [Act.put, List.setIfInBounds_toArray, List.set_cons_zero, List.set_cons_succ]
    refine wpAnyH_take (i := 10) (oi := ⟨_, _, _, _, _, _⟩) (v := ?_) rfl (by kernel_rfl) (by kernel_rfl) (by kernel_rfl) (fun _ _ _ h => h) (Or.inl ⟨by rfl, ?_⟩) hHeld ?_
    rotate_left
    · (intro w hSw; (try dsimp only at hSw); go_simp; try (with_reducible rfl))
    try simp only [Act.put, List.setIfInBounds_toArray, List.set_cons_zero, List.set_cons_succ]
    refine wpAnyH_take (i := 11) (oi := ⟨_, _, _, _, _, _⟩) (v := ?_) rfl (by kernel_rfl) (by kernel_rfl) (by kernel_rfl) (fun _ _ _ h => h) (Or.inl ⟨by rfl, ?_⟩) hHeld ?_
    rotate_left
    · (intro w hSw; (try dsimp only at hSw); go_simp; try (with_reducible rfl))
    try simp only [Act.put, List.setIfInBounds_toArray, List.set_cons_zero, List.set_cons_succ]
    refine wpAnyH_take (i := 12) (oi := ⟨_, _, _, _, _, _⟩) (v := ?_) rfl (by kernel_rfl) (by kernel_rfl) (by kernel_rfl) (fun _ _ _ h => h) (Or.inl ⟨by rfl, ?_⟩) hHeld ?_
    rotate_left
    · (intro w hSw; (try dsimp only at hSw); go_simp; try (with_reducible rfl))
    try simp only [Act.put, List.setIfInBounds_toArray, List.set_cons_zero, List.set_cons_succ]
    refine wpAnyH_take (i := 13) (oi := ⟨_, _, _, _, _, _⟩) (v := ?_) rfl (by kernel_rfl) (by kernel_rfl) (by kernel_rfl) (fun _ _ _ h => h) (Or.inl ⟨by rfl, ?_⟩) hHeld ?_
    rotate_left
    · (intro w hSw; (try dsimp only at hSw); go_simp; try (with_reducible rfl))
    try simp only [Act.put, List.setIfInBounds_toArray, List.set_cons_zero, List.set_cons_succ]
    refine wpAnyH_take (i := 14) (oi := ⟨_, _, _, _, _, _⟩) (v := ?_) rfl (by kernel_rfl) (by kernel_rfl) (by kernel_rfl) (fun _ _ _ h => h) (Or.inl ⟨by rfl, ?_⟩) hHeld ?_
    rotate_left
    · (intro w hSw; (try dsimp only at hSw); go_simp; try (with_reducible rfl))
    try simp only [Act.put, List.setIfInBounds_toArray, List.set_cons_zero, List.set_cons_succ]
    refine wpAnyH_ready (rs := [15]) (by kernel_rfl) (by simp) ?_
    refine AllReadyH.cons (o := ⟨_, _, _, _, _, _⟩) rfl (fun K hK => ?_) AllReadyH.nil
    go_simp
    go_at_call 11
    refine (implGridFault_calls zr zw zs1 zs2 _ _ _ (by omega) (by omega) j1 j2).mono ?_
    rintro e w10 ⟨rfl, hbx⟩
    rw [HZC.out]
    replace l1 := l1.below hbx
    replace l2 := l2.below hbx
    replace HG := HG.below hbx
    replace m1 := m1.below hbx
    replace m2 := m2.below hbx
    replace HR := HR.below hbx
    replace i1 := i1.below hbx
    replace i2 := i2.below hbx
    replace HH := HH.below hbx
    replace j1 := j1.below hbx
    replace j2 := j2.below hbx
    replace HZB := HZB.below hbx
    have q10 : Below w.heap.size w w10 := q9.trans (hbx.mono q9.size)
    clear hbx q9
    try go_wp2_with fail
    refine hK.out _ _ ?_ ?_
    · (try dsimp only); exact ⟨HH.c0, HH.c1, HH.c2, HH.c3, HZB.c0, HZB.c1, HZB.c2, HZB.c3, HZB.c4⟩
    clear hHeld hK K
    intro hHeld
    try simp only [Act.put, List.setIfInBounds_toArray, List.set_cons_zero, List.set_cons_succ]
    refine wpAnyH_take (i := 16) (oi := ⟨_, _, _, _, _, _⟩) (v := ?_) rfl (by kernel_rfl) (by kernel_rfl) (by kernel_rfl) (fun _ _ _ h => h) (Or.inl ⟨by rfl, ?_⟩) hHeld ?_
    rotate_left
    · (intro w hSw; (try dsimp only at hSw); go_simp; try (with_reducible rfl))
    try simp only [Act.put, List.setIfInBounds_toArray, List.set_cons_zero, List.set_cons_succ]
    refine wpAnyH_take (i := 17) (oi := ⟨_, _, _, _, _, _⟩) (v := ?_) rfl (by kernel_rfl) (by kernel_rfl) (by kernel_rfl) (fun _ _ _ h => h) (Or.inl ⟨by rfl, ?_⟩) hHeld ?_
    rotate_left
    · (intro w hSw; (try dsimp only at hSw); go_simp; try (with_reducible rfl))
    try simp only [Act.put, List.setIfInBounds_toArray, List.set_cons_zero, List.set_cons_succ]
    refine wpAnyH_take (i := 18) (oi := ⟨_, _, _, _, _, _⟩) (v := ?_) rfl (by kernel_rfl) (by kernel_rfl) (by kernel_rfl) (fun _ _ _ h => h) (Or.inl ⟨by rfl, ?_⟩) hHeld ?_
    rotate_left
    · (intro w hSw; (try dsimp only at hSw); go_simp; try (with_reducible rfl))
    try simp only [Act.put, List.setIfInBounds_toArray, List.set_cons_zero, List.set_cons_succ]
    refine wpAnyH_take (i := 19) (oi := ⟨_, _, _, _, _, _⟩) (v := ?_) rfl (by kernel_rfl) (by kernel_rfl) (by kernel_rfl) (fun _ _ _ h => h) (Or.inl ⟨by rfl, ?_⟩) hHeld ?_
    rotate_left
    · (intro w hSw; (try dsimp only at hSw); go_simp; try (with_reducible rfl))
    try simp only [Act.put, List.setIfInBounds_toArray, List.set_cons_zero, List.set_cons_succ]
    refine wpAnyH_take (i := 20) (oi := ⟨_, _, _, _, _, _⟩) (v := ?_) rfl (by kernel_rfl) (by kernel_rfl) (by kernel_rfl) (fun _ _ _ h => h) (Or.inl ⟨by rfl, ?_⟩) hHeld ?_
    rotate_left
    · (intro w hSw; (try dsimp only at hSw); go_simp; try (with_reducible rfl))
    try simp only [Act.put, List.setIfInBounds_toArray, List.set_cons_zero, List.set_cons_succ]
    refine wpAnyH_take (i := 21) (oi := ⟨_, _, _, _, _, _⟩) (v := ?_) rfl (by kernel_rfl) (by kernel_rfl) (by kernel_rfl) (fun _ _ _ h => h) (Or.inl ⟨by rfl, ?_⟩) hHeld ?_
    rotate_left
    · (intro w hSw; (try dsimp only at hSw); go_simp; try (with_reducible rfl))
    try simp only [Act.put, List.setIfInBounds_toArray, List.set_cons_zero, List.set_cons_succ]
    refine wpAnyH_take (i := 22) (oi := ⟨_, _, _, _, _, _⟩) (v := ?_) rfl (by kernel_rfl) (by kernel_rfl) (by kernel_rfl) (fun _ _ _ h => h) (Or.inl ⟨by rfl, ?_⟩) hHeld ?_
    rotate_left
    · (intro w hSw; (try dsimp only at hSw); go_simp; try (with_reducible rfl))
    try simp only [Act.put, List.setIfInBounds_toArray, List.set_cons_zero, List.set_cons_succ]
    refine wpAnyH_take (i := 25) (oi := ⟨_, _, _, _, _, _⟩) (v := ?_) rfl (by kernel_rfl) (by kernel_rfl) (by kernel_rfl) (fun _ _ _ h => h) (Or.inl ⟨by rfl, ?_⟩) hHeld ?_
    rotate_left
    · (intro w hSw; (try dsimp only at hSw); go_simp; try (with_reducible rfl))
    try simp only [Act.put, List.setIfInBounds_toArray, List.set_cons_zero, List.set_cons_succ]
    refine wpAnyH_ready (rs := [23]) (by kernel_rfl) (by simp) ?_
    refine AllReadyH.cons (o := ⟨_, _, _, _, _, _⟩) rfl (fun K hK => ?_) AllReadyH.nil
    go_simp
    go_at_call 9
    refine (implResizeGrid_calls r2 wd2 cs2 bs2 r2 wd2 _ _ _ (by omega) (by omega) i1 i2).mono ?_
    rintro e w11 ⟨v5, v6, rfl, ho, hbx⟩
    rw [HZS.out] at ho ⊢
    dsimp only at ho ⊢
    have t1 := ho.read1
    have t2 := ho.read2
    clear ho
    obtain ⟨e5, f5, rfl, hx⟩ := id t1
    clear hx
    obtain ⟨e6, f6, rfl, hx⟩ := id t2
    clear hx
    replace l1 := l1.below hbx
    replace l2 := l2.below hbx
    replace HG := HG.below hbx
    replace m1 := m1.below hbx
    replace m2 := m2.below hbx
    replace HR := HR.below hbx
    replace i1 := i1.below hbx
    replace i2 := i2.below hbx
    replace HH := HH.below hbx
    replace j1 := j1.below hbx
    replace j2 := j2.below hbx
    replace HZB := HZB.below hbx
    have q11 : Below w.heap.size w w11 := q10.trans (hbx.mono q10.size)
    clear hbx q10
    try go_wp2_with fail
    refine hK.out _ _ ?_ ?_
    · (try dsimp only); exact ⟨HH.c0, HH.c1, HH.c2, HH.c3, HZB.c0, HZB.c1, HZB.c2, HZB.c3, HZB.c4⟩
    clear hHeld hK K
    intro hHeld
    try simp only [Act.put, List.setIfInBounds_toArray, List.set_cons_zero, List.set_cons_succ]
    refine wpAnyH_take (i := 24) (oi := ⟨_, _, _, _, _, _⟩) (v := ?_) rfl (by kernel_rfl) (by kernel_rfl) (by kernel_rfl) (fun _ _ _ h => h) (Or.inl ⟨by rfl, ?_⟩) hHeld ?_
    rotate_left
    · (intro w hSw; (try dsimp only at hSw); go_simp; try (with_reducible rfl))
    try simp only [Act.put, List.setIfInBounds_toArray, List.set_cons_zero, List.set_cons_succ]
    refine wpAnyH_ready (rs := [26]) (by kernel_rfl) (by simp) ?_
    refine AllReadyH.cons (o := ⟨_, _, _, _, _, _⟩) rfl (fun K hK => ?_) AllReadyH.nil
    go_simp
    go_at_call 12
    refine (implSameGrids_calls r2 wd2 cs2 bs2 r2 wd2 cs2 bs2 _ _ _ _ _ (by omega) (by omega) (by omega) (by omega) t1 t2 i1 i2).mono ?_
    rintro e w12 ⟨rfl, hbx⟩
    rw [sameG_self]
    replace l1 := l1.below hbx
    replace l2 := l2.below hbx
    replace HG := HG.below hbx
    replace m1 := m1.below hbx
    replace m2 := m2.below hbx
    replace HR := HR.below hbx
    replace i1 := i1.below hbx
    replace i2 := i2.below hbx
    replace HH := HH.below hbx
    replace j1 := j1.below hbx
    replace j2 := j2.below hbx
    replace HZB := HZB.below hbx
    replace t1 := t1.below hbx
    replace t2 := t2.below hbx
    have q12 : Below w.heap.size w w12 := q11.trans (hbx.mono q11.size)
    clear hbx q11
    try go_wp2_with fail
    refine hK.out _ _ ?_ ?_
    · (try dsimp only); exact ⟨HH.c0, HH.c1, HH.c2, HH.c3, HZB.c0, HZB.c1, HZB.c2, HZB.c3, HZB.c4⟩
    clear hHeld hK K
    intro hHeld
    try simp only [Act.put, List.setIfInBounds_toArray, List.set_cons_zero, List.set_cons_succ]
    refine wpAnyH_take (i := 27) (oi := ⟨_, _, _, _, _, _⟩) (v := ?_) rfl (by kernel_rfl) (by kernel_rfl) (by kernel_rfl) (fun _ _ _ h => h) (Or.inl ⟨by rfl, ?_⟩) hHeld ?_
    rotate_left
    · (intro w hSw; (try dsimp only at hSw); go_simp; try (with_reducible rfl))
    try simp only [Act.put, List.setIfInBounds_toArray, List.set_cons_zero, List.set_cons_succ]
    refine wpAnyH_take (i := 28) (oi := ⟨_, _, _, _, _, _⟩) (v := ?_) rfl (by kernel_rfl) (by kernel_rfl) (by kernel_rfl) (fun _ _ _ h => h) (Or.inl ⟨by rfl, ?_⟩) hHeld ?_
    rotate_left
    · (intro w hSw; (try dsimp only at hSw); go_simp; try (with_reducible rfl))
    try simp only [Act.put, List.setIfInBounds_toArray, List.set_cons_zero, List.set_cons_succ]
    refine wpAnyH_take (i := 29) (oi := ⟨_, _, _, _, _, _⟩) (v := ?_) rfl (by kernel_rfl) (by kernel_rfl) (by kernel_rfl) (fun _ _ _ h => h) (Or.inl ⟨by rfl, ?_⟩) hHeld ?_
    rotate_left
    · (intro w hSw; (try dsimp only at hSw); go_simp; try (with_reducible rfl))
    try simp only [Act.put, List.setIfInBounds_toArray, List.set_cons_zero, List.set_cons_succ]
    refine wpAnyH_take (i := 30) (oi := ⟨_, _, _, _, _, _⟩) (v := ?_) rfl (by kernel_rfl) (by kernel_rfl) (by kernel_rfl) (fun _ _ _ h => h) (Or.inl ⟨by rfl, ?_⟩) hHeld ?_
    rotate_left
    · (intro w hSw; (try dsimp only at hSw); go_simp; try (with_reducible rfl))
    try simp only [Act.put, List.setIfInBounds_toArray, List.set_cons_zero, List.set_cons_succ]
    refine wpAnyH_take (i := 31) (oi := ⟨_, _, _, _, _, _⟩) (v := ?_) rfl (by kernel_rfl) (by kernel_rfl) (by kernel_rfl) (fun _ _ _ h => h) (Or.inl ⟨by rfl, ?_⟩) hHeld ?_
    rotate_left
    · (intro w hSw; (try dsimp only at hSw); go_simp; try (with_reducible rfl))
    try simp only [Act.put, List.setIfInBounds_toArray, List.set_cons_zero, List.set_cons_succ]
    refine wpAnyH_take (i := 32) (oi := ⟨_, _, _, _, _, _⟩) (v := ?_) rfl (by kernel_rfl) (by kernel_rfl) (by kernel_rfl) (fun _ _ _ h => h) (Or.inl ⟨by rfl, ?_⟩) hHeld ?_
    rotate_left
    · (intro w hSw; (try dsimp only at hSw); go_simp; try (with_reducible rfl))
    try simp only [Act.put, List.setIfInBounds_toArray, List.set_cons_zero, List.set_cons_succ]
    refine wpAnyH_take (i := 33) (oi := ⟨_, _, _, _, _, _⟩) (v := ?_) rfl (by kernel_rfl) (by kernel_rfl) (by kernel_rfl) (fun _ _ _ h => h) (Or.inl ⟨by rfl, ?_⟩) hHeld ?_
    rotate_left
    · (intro w hSw; (try dsimp only at hSw); go_simp; try (with_reducible rfl))
    try simp only [Act.put, List.setIfInBounds_toArray, List.set_cons_zero, List.set_cons_succ]
    refine wpAnyH_take (i := 34) (oi := ⟨_, _, _, _, _, _⟩) (v := ?_) rfl (by kernel_rfl) (by kernel_rfl) (by kernel_rfl) (fun _ _ _ h => h) (Or.inl ⟨by rfl, ?_⟩) hHeld ?_
    rotate_left
    · (intro w hSw; (try dsimp only at hSw); go_simp; try (with_reducible rfl))
    try simp only [Act.put, List.setIfInBounds_toArray, List.set_cons_zero, List.set_cons_succ]
    refine wpAnyH_ready (rs := [35]) (by kernel_rfl) (by simp) ?_
    refine AllReadyH.cons (o := ⟨_, _, _, _, _, _⟩) rfl (fun K hK => ?_) AllReadyH.nil
    go_simp
    go_at_call 10
    refine (specResizeGrid_calls r2 wd2 cs2 bs2 rows width _ _ _ (by omega) (by omega) k1 k2 (i1) (i2)).mono ?_
    rintro e w13 ⟨v5, v6, rfl, ho, hbx⟩
    rw [HZX.out] at ho ⊢
    dsimp only at ho ⊢
    have n1 := ho.read1
    have n2 := ho.read2
    clear ho
    obtain ⟨b5, d5, rfl, hx⟩ := id n1
    clear hx
    obtain ⟨b6, d6, rfl, hx⟩ := id n2
    clear hx
    replace l1 := l1.below hbx
    replace l2 := l2.below hbx
    replace HG := HG.below hbx
    replace m1 := m1.below hbx
    replace m2 := m2.below hbx
    replace HR := HR.below hbx
    replace i1 := i1.below hbx
    replace i2 := i2.below hbx
    replace HH := HH.below hbx
    replace j1 := j1.below hbx
    replace j2 := j2.below hbx
    replace HZB := HZB.below hbx
    replace t1 := t1.below hbx
    replace t2 := t2.below hbx
    have q13 : Below w.heap.size w w13 := q12.trans (hbx.mono q12.size)
    clear hbx q12
    try go_wp2_with fail
    refine hK.out _ _ ?_ ?_
    · (try dsimp only); exact ⟨HH.c0, HH.c1, HH.c2, HH.c3, HZB.c0, HZB.c1, HZB.c2, HZB.c3, HZB.c4⟩
    clear hHeld hK K
    intro hHeld
    try simp only [Act.put, List.setIfInBounds_toArray, List.set_cons_zero, List.set_cons_succ]
    refine wpAnyH_take (i := 36) (oi := ⟨_, _, _, _, _, _⟩) (v := ?_) rfl (by kernel_rfl) (by kernel_rfl) (by kernel_rfl) (fun _ _ _ h => h) (Or.inl ⟨by rfl, ?_⟩) hHeld ?_
    rotate_left
    · (intro w hSw; (try dsimp only at hSw); go_simp; try (with_reducible rfl))
    try simp only [Act.put, List.setIfInBounds_toArray, List.set_cons_zero, List.set_cons_succ]
    refine wpAnyH_ready (rs := [37]) (by kernel_rfl) (by simp) ?_
    refine AllReadyH.cons (o := ⟨_, _, _, _, _, _⟩) rfl (fun K hK => ?_) AllReadyH.nil
    go_simp
    go_at_call 12
    refine (implSameGrids_calls zr zw zs1 zs2 zr zw zs1 zs2 _ _ _ _ _ (by omega) (by omega) (by omega) (by omega) j1 j2 n1 n2).mono ?_
    rintro e w14 ⟨rfl, hbx⟩
    rw [sameG_self]
    replace l1 := l1.below hbx
    replace l2 := l2.below hbx
    replace HG := HG.below hbx
    replace m1 := m1.below hbx
    replace m2 := m2.below hbx
    replace HR := HR.below hbx
    replace i1 := i1.below hbx
    replace i2 := i2.below hbx
    replace HH := HH.below hbx
    replace j1 := j1.below hbx
    replace j2 := j2.below hbx
    replace HZB := HZB.below hbx
    replace t1 := t1.below hbx
    replace t2 := t2.below hbx
    replace n1 := n1.below hbx
    replace n2 := n2.below hbx
    have q14 : Below w.heap.size w w14 := q13.trans (hbx.mono q13.size)
    clear hbx q13
    try go_wp2_with fail
    refine hK.out _ _ ?_ ?_
    · (try dsimp only); exact ⟨HH.c0, HH.c1, HH.c2, HH.c3, HZB.c0, HZB.c1, HZB.c2, HZB.c3, HZB.c4⟩
    clear hHeld hK K
    intro hHeld
    try simp only [Act.put, List.setIfInBounds_toArray, List.set_cons_zero, List.set_cons_succ]
    refine wpAnyH_take (i := 38) (oi := ⟨_, _, _, _, _, _⟩) (v := ?_) rfl (by kernel_rfl) (by kernel_rfl) (by kernel_rfl) (fun _ _ _ h => h) (Or.inl ⟨by rfl, ?_⟩) hHeld ?_
    rotate_left
    · (intro w hSw; (try dsimp only at hSw); go_simp; try (with_reducible rfl))
    try simp only [Act.put, List.setIfInBounds_toArray, List.set_cons_zero, List.set_cons_succ]
    refine wpAnyH_take (i := 39) (oi := ⟨_, _, _, _, _, _⟩) (v := ?_) rfl (by kernel_rfl) (by kernel_rfl) (by kernel_rfl) (fun _ _ _ h => h) (Or.inl ⟨by rfl, ?_⟩) hHeld ?_
    rotate_left
    · (intro w hSw; (try dsimp only at hSw); go_simp; try (with_reducible rfl))
    try simp only [Act.put, List.setIfInBounds_toArray, List.set_cons_zero, List.set_cons_succ]
    refine wpAnyH_take (i := 40) (oi := ⟨_, _, _, _, _, _⟩) (v := ?_) rfl (by kernel_rfl) (by kernel_rfl) (by kernel_rfl) (fun _ _ _ h => h) (Or.inl ⟨by rfl, ?_⟩) hHeld ?_
    rotate_left
    · (intro w hSw; (try dsimp only at hSw); go_simp; try (with_reducible rfl))
    try simp only [Act.put, List.setIfInBounds_toArray, List.set_cons_zero, List.set_cons_succ]
    refine wpAnyH_take (i := 41) (oi := ⟨_, _, _, _, _, _⟩) (v := ?_) rfl (by kernel_rfl) (by kernel_rfl) (by kernel_rfl) (fun _ _ _ h => h) (Or.inl ⟨by rfl, ?_⟩) hHeld ?_
    rotate_left
    · (intro w hSw; (try dsimp only at hSw); go_simp; try (with_reducible rfl))
    try simp only [Act.put, List.setIfInBounds_toArray, List.set_cons_zero, List.set_cons_succ]
    refine wpAnyH_done (by kernel_rfl) ?_ _
    clear hHeld
    clear HH HZB i1 i2 j1 j2
    obtain ⟨wb, hwb⟩ : ∃ x, x = w14 := ⟨_, rfl⟩
    subst hwb
    have r0 := HR.c0
    by_cases hr0 : rc = 0
    · subst hr0
      obtain ⟨R, W, Y, X, rfl, rfl, rfl, rfl, hR6, hW2, hW12, hY, hXW, ⟨n1, n2⟩, hcl, rfl, rfl, hrl, hgc, hcell⟩ := HSF.out rfl
      have HCL := hide hcl
      have HCE := hide hcell
      have HGC := hide hgc
      have HRL := hide hrl
      clear hcl hcell hgc hrl HSF HX
      have hpos : 0 < rs1.length := by rw [HRL.out, HCL.out]; exact Nat.mul_pos (by omega) (by omega)
      go_wp2
      clear r0
      go_loopw [13] (fun i wr => ∃ j : Nat, j ≤ R ∧ i = .int .i64 j ∧ Hid (Below wb.heap.size wb wr)) (fun i _ => R - (intOf i).toNat)
      case atStart => exact ⟨0, Nat.zero_le _, rfl, hide (Below.refl _ _)⟩
      case round =>
        obtain ⟨j, hj, rfl, hbo⟩ := hrel
        have g0 := (HG.below hbo.out).c0
        by_cases hjl : j < R
        · have hjI : (j : Int) < (R : Int) := by omega
          have hjW : j * W + W ≤ cs.length := by
            have h := Nat.mul_le_mul_right W (show j + 1 ≤ R by omega)
            rw [Nat.add_mul, Nat.one_mul, ← HCL.out] at h
            exact h
          go_wp2
          clear g0
          go_loopw [14] (fun i wr => ∃ k : Nat, k ≤ W ∧ i = .int .i64 k ∧ Hid (Below wb.heap.size wb wr)) (fun i _ => W - (intOf i).toNat)
          case atStart => exact ⟨0, Nat.zero_le _, rfl, hbo⟩
          case round =>
            obtain ⟨k, hk, rfl, hbi⟩ := hrel
            clear hbo
            have G := HG.below hbi.out
            obtain ⟨g0, g1, g2, g3⟩ := id G
            by_cases hkl : k < W
            · have hkI : (k : Int) < (W : Int) := by omega
              have LG := l1.below hbi.out
              have RG := HR.below hbi.out
              have MG := m1.below hbi.out
              go_wp2_with fail
              refine (lwCell_calls (R : Int) (W : Int) j k cs _ _ (j * W) (j * W + k) wr LG ⟨_, _, _, rfl⟩ (by rw [Int.natCast_mul]) (by omega) (by omega) (by omega) (by omega)).mono ?_
              rintro e w20 ⟨rfl, hb20⟩
              have hce := HCE.out j k hjl hkl
              generalize hp : cs.getD (j * W + k) (0, 0) = p at *
              obtain ⟨p1, p2⟩ := p
              dsimp only at hce ⊢
              clear hp
              have hb21 := hbi.out.trans (hb20.mono hbi.out.size)
              have hsz20 : wb.heap.size ≤ w20.heap.size := hb21.size
              clear G LG RG MG hb20 g0 g1 g2 g3 hbi
              have HCEE := hide hce
              clear hce
              by_cases hA : j = Y ∧ X ≤ k
              · obtain ⟨rfl, hXk⟩ := hA
                have hjj : ((j : Int) == (j : Int)) = true := by simp
                have hkx : (X : Int) ≤ (k : Int) := by omega
                have hce : rs1.getD (j * W + k) (0, 0) = if (X : Int) ≤ (k : Int) - n ∧ (k : Int) - n < W then cs.getD (j * W + ((k : Int) - n).toNat) (0, 0) else (32, at') := by have h := HCEE.out; rw [if_pos ⟨rfl, hXk⟩] at h; exact h
                by_cases hin : (X : Int) ≤ (k : Int) - n ∧ (k : Int) - n < W
                · rw [if_pos hin] at hce
                  obtain ⟨i1, i2⟩ := hin
                  obtain ⟨u, hu⟩ : ∃ u : Nat, (k : Int) - n = (u : Int) := ⟨((k : Int) - n).toNat, by omega⟩
                  have hB : Below w20.heap.size w20 (w20.alloc (.cells #[.int .i64 32, .int .i64 at'] 38)) := (Below.refl _ _).alloc (Nat.le_refl _) _
                  have T : B2 w20.heap.size 32 at' (w20.alloc (.cells #[.int .i64 32, .int .i64 at'] 38)) := ⟨by simp [go_sem], by simp [go_sem]⟩
                  replace hb21 := hb21.trans (hB.mono hsz20)
                  clear hB
                  obtain ⟨g0, g1, g2, g3⟩ := HG.below hb21
                  have F0 : (w20.alloc (.cells #[.int .i64 32, .int .i64 at'] 38)).frozen? ⟨w20.heap.size, 0, none⟩ = false := by simp [go_sem]
                  have F1 : (w20.alloc (.cells #[.int .i64 32, .int .i64 at'] 38)).frozen? ⟨w20.heap.size, 1, none⟩ = false := by simp [go_sem]
                  have LG := l1.below hb21
                  have HU := hide hu
                  rw [show ((k : Int) - n).toNat = u by omega] at hce
                  have hul : j * W + u < cs.length := by omega
                  clear hu
                  go_wp2_with fail
                  refine (lwCell_calls (R : Int) (W : Int) j ((k : Int) - n) cs _ _ (j * W) (j * W + u) _ LG ⟨_, _, _, rfl⟩ (by rw [Int.natCast_mul]) (by have := HU.out; omega) hul (by omega) (by omega)).mono ?_
                  rintro e w22 ⟨rfl, hb22⟩
                  generalize hp : cs.getD (j * W + u) (0, 0) = p at *
                  obtain ⟨p3, p4⟩ := p
                  dsimp only at hce ⊢
                  clear hp g0 g1 g2 g3 LG
                  replace T := T.below hb22
                  replace F0 := (hb22.frozen (p := ⟨w20.heap.size, 0, none⟩) (by simp)).trans F0
                  replace F1 := (hb22.frozen (p := ⟨w20.heap.size, 1, none⟩) (by simp)).trans F1
                  replace hb21 := hb21.trans (hb22.mono hb21.size)
                  clear hb22
                  obtain ⟨t0, t1⟩ := id T
                  have T2 : B2 w20.heap.size p3 p4 ((w22.setCell ⟨w20.heap.size, 0, none⟩ (.int .i64 p3)).setCell ⟨w20.heap.size, 1, none⟩ (.int .i64 p4)) := by obtain ⟨s0, s1⟩ := res2 (w := w22) (r := w20.heap.size) (.int .i64 p3) (.int .i64 p4) T.c0 T.c1; exact ⟨s0, s1⟩
                  replace hb21 := hb21.trans (show Below wb.heap.size w22 ((w22.setCell ⟨w20.heap.size, 0, none⟩ (.int .i64 p3)).setCell ⟨w20.heap.size, 1, none⟩ (.int .i64 p4)) from ((Below.refl _ _).setCell hsz20 _).setCell hsz20 _)
                  clear T
                  have T := T2
                  clear T2
                  go_wp2_with fail
                  clear t0 t1 F0 F1
                  generalize ((w22.setCell ⟨w20.heap.size, 0, none⟩ (.int .i64 p3)).setCell ⟨w20.heap.size, 1, none⟩ (.int .i64 p4)) = w21 at *
                  obtain ⟨tb, htb⟩ : ∃ b, b = w20.heap.size := ⟨_, rfl⟩
                  rw [← htb] at T ⊢
                  clear htb
                  have RG2 := HR.below hb21
                  have MG2 := m1.below hb21
                  have hnc := neq_cell
                  have hgc := guard_cell
                  refine wp_region_held_drew (S := (fun w' => w'.cell? ⟨rb, 1, none⟩ = some (.int .i64 (R : Int)) ∧ w'.cell? ⟨rb, 2, none⟩ = some (.int .i64 (W : Int)) ∧ w'.cell? ⟨rb, 3, none⟩ = some (.slice a5 rs1.length c5) ∧ w'.cell? ⟨rb, 4, none⟩ = some (.slice a6 rs2.length c6) ∧ w'.cell? ⟨tb, 0, none⟩ = some (.int .i64 p3) ∧ w'.cell? ⟨tb, 1, none⟩ = some (.int .i64 p4))) (by kernel_rfl) ?_ (fun hHeld => ?_)
                  · (try dsimp only); exact ⟨RG2.c1, RG2.c2, RG2.c3, RG2.c4, T.c0, T.c1⟩
                  refine wpAnyH_take (i := 0) (oi := ⟨_, _, _, _, _, _⟩) (v := ?_) rfl (by kernel_rfl) (by kernel_rfl) (by kernel_rfl) (fun _ _ _ h => h) (Or.inl ⟨by rfl, ?_⟩) hHeld ?_
                  rotate_left
                  · (intro w hSw; (try dsimp only at hSw); go_simp; try (with_reducible rfl))
                  try simp only [Act.put, List.setIfInBounds_toArray, List.set_cons_zero, List.set_cons_succ]
                  refine wpAnyH_take (i := 1) (oi := ⟨_, _, _, _, _, _⟩) (v := ?_) rfl (by kernel_rfl) (by kernel_rfl) (by kernel_rfl) (fun _ _ _ h => h) (Or.inl ⟨by rfl, ?_⟩) hHeld ?_
                  rotate_left
                  · (intro w hSw; (try dsimp only at hSw); go_simp; try (with_reducible rfl))
                  try simp only [Act.put, List.setIfInBounds_toArray, List.set_cons_zero, List.set_cons_succ]
                  refine wpAnyH_take (i := 2) (oi := ⟨_, _, _, _, _, _⟩) (v := ?_) rfl (by kernel_rfl) (by kernel_rfl) (by kernel_rfl) (fun _ _ _ h => h) (Or.inl ⟨by rfl, ?_⟩) hHeld ?_
                  rotate_left
                  · (intro w hSw; (try dsimp only at hSw); go_simp; try (with_reducible rfl))
                  try simp only [Act.put, List.setIfInBounds_toArray, List.set_cons_zero, List.set_cons_succ]
                  refine wpAnyH_take (i := 3) (oi := ⟨_, _, _, _, _, _⟩) (v := ?_) rfl (by kernel_rfl) (by kernel_rfl) (by kernel_rfl) (fun _ _ _ h => h) (Or.inl ⟨by rfl, ?_⟩) hHeld ?_
                  rotate_left
                  · (intro w hSw; (try dsimp only at hSw); go_simp; try (with_reducible rfl))
                  try simp only [Act.put, List.setIfInBounds_toArray, List.set_cons_zero, List.set_cons_succ]
                  refine wpAnyH_take (i := 5) (oi := ⟨_, _, _, _, _, _⟩) (v := ?_) rfl (by kernel_rfl) (by kernel_rfl) (by kernel_rfl) (fun _ _ _ h => h) (Or.inl ⟨by rfl, ?_⟩) hHeld ?_
                  rotate_left
                  · (intro w hSw; (try dsimp only at hSw); go_simp; try (with_reducible rfl))
                  try simp only [Act.put, List.setIfInBounds_toArray, List.set_cons_zero, List.set_cons_succ]
                  refine wpAnyH_ready (rs := [4]) (by kernel_rfl) (by simp) ?_
                  refine AllReadyH.cons (o := ⟨_, _, _, _, _, _⟩) rfl (fun K hK => ?_) AllReadyH.nil
                  go_simp
                  go_at_call 14
                  refine (lwCell_calls (R : Int) (W : Int) j k rs1 _ _ (j * W) (j * W + k) w21.drew (MG2.below (show Below w21.heap.size w21 w21.drew from below_drewN (Below.refl _ _) 1)) ⟨_, _, _, rfl⟩ (by rw [Int.natCast_mul]) (by omega) (by have h1 := HRL.out; omega) (by have h1 := HRL.out; omega) (by omega)).mono ?_
                  rintro e w25 ⟨rfl, hb25⟩
                  replace hb25 : Below w21.heap.size w21 w25 := (below_drewN (Below.refl _ _) 1).trans hb25
                  rw [hce]
                  dsimp only
                  replace RG2 := RG2.below hb25
                  replace T := T.below hb25
                  have hb26 := hide (hb21.trans (hb25.mono hb21.size))
                  clear hb25 hb21
                  try go_wp2_with fail
                  refine hK.out _ _ ?_ ?_
                  · (try dsimp only); exact ⟨RG2.c1, RG2.c2, RG2.c3, RG2.c4, T.c0, T.c1⟩
                  clear hHeld hK K
                  intro hHeld
                  try simp only [Act.put, List.setIfInBounds_toArray, List.set_cons_zero, List.set_cons_succ]
                  refine wpAnyH_take (i := 6) (oi := ⟨_, _, _, _, _, _⟩) (v := ?_) rfl (by kernel_rfl) (by kernel_rfl) (by kernel_rfl) (fun _ _ _ h => h) (Or.inl ⟨by rfl, ?_⟩) hHeld ?_
                  rotate_left
                  · (intro w hSw; (try dsimp only at hSw); go_simp; try (with_reducible rfl))
                  try simp only [Act.put, List.setIfInBounds_toArray, List.set_cons_zero, List.set_cons_succ]
                  refine wpAnyH_done (by kernel_rfl) ?_ _
                  clear hHeld hnc hgc
                  go_wp2
                  go_roundw
                  case rel => exact ⟨k + 1, by omega, by go_num, hb26⟩
                  case measure => simp [intOf]; omega
                · rw [if_neg hin] at hce
                  have hin2 : ¬ (X : Int) ≤ (k : Int) - n ∨ ((X : Int) ≤ (k : Int) - n ∧ ¬ (k : Int) - n < (W : Int)) := by omega
                  rcases hin2 with i1 | ⟨i1, i2⟩
                  · skip
                    go_wp2_with fail
                    have hB : Below w20.heap.size w20 (w20.alloc (.cells #[.int .i64 32, .int .i64 at'] 38)) := (Below.refl _ _).alloc (Nat.le_refl _) _
                    have T : B2 w20.heap.size 32 at' (w20.alloc (.cells #[.int .i64 32, .int .i64 at'] 38)) := ⟨by simp [go_sem], by simp [go_sem]⟩
                    replace hb21 := hb21.trans (hB.mono hsz20)
                    clear hB
                    generalize (w20.alloc (.cells #[.int .i64 32, .int .i64 at'] 38)) = w21 at *
                    obtain ⟨tb, htb⟩ : ∃ b, b = w20.heap.size := ⟨_, rfl⟩
                    rw [← htb] at T ⊢
                    clear htb
                    have RG2 := HR.below hb21
                    have MG2 := m1.below hb21
                    have hnc := neq_cell
                    have hgc := guard_cell
                    refine wp_region_held_drew (S := (fun w' => w'.cell? ⟨rb, 1, none⟩ = some (.int .i64 (R : Int)) ∧ w'.cell? ⟨rb, 2, none⟩ = some (.int .i64 (W : Int)) ∧ w'.cell? ⟨rb, 3, none⟩ = some (.slice a5 rs1.length c5) ∧ w'.cell? ⟨rb, 4, none⟩ = some (.slice a6 rs2.length c6) ∧ w'.cell? ⟨tb, 0, none⟩ = some (.int .i64 32) ∧ w'.cell? ⟨tb, 1, none⟩ = some (.int .i64 at'))) (by kernel_rfl) ?_ (fun hHeld => ?_)
                    · (try dsimp only); exact ⟨RG2.c1, RG2.c2, RG2.c3, RG2.c4, T.c0, T.c1⟩
                    refine wpAnyH_take (i := 0) (oi := ⟨_, _, _, _, _, _⟩) (v := ?_) rfl (by kernel_rfl) (by kernel_rfl) (by kernel_rfl) (fun _ _ _ h => h) (Or.inl ⟨by rfl, ?_⟩) hHeld ?_
                    rotate_left
                    · (intro w hSw; (try dsimp only at hSw); go_simp; try (with_reducible rfl))
                    try simp only [Act.put, List.setIfInBounds_toArray, List.set_cons_zero, List.set_cons_succ]
                    refine wpAnyH_take (i := 1) (oi := ⟨_, _, _, _, _, _⟩) (v := ?_) rfl (by kernel_rfl) (by kernel_rfl) (by kernel_rfl) (fun _ _ _ h => h) (Or.inl ⟨by rfl, ?_⟩) hHeld ?_
                    rotate_left
                    · (intro w hSw; (try dsimp only at hSw); go_simp; try (with_reducible rfl))
                    try simp only [Act.put, List.setIfInBounds_toArray, List.set_cons_zero, List.set_cons_succ]
                    refine wpAnyH_take (i := 2) (oi := ⟨_, _, _, _, _, _⟩) (v := ?_) rfl (by kernel_rfl) (by kernel_rfl) (by kernel_rfl) (fun _ _ _ h => h) (Or.inl ⟨by rfl, ?_⟩) hHeld ?_
                    rotate_left
                    · (intro w hSw; (try dsimp only at hSw); go_simp; try (with_reducible rfl))
                    try simp only [Act.put, List.setIfInBounds_toArray, List.set_cons_zero, List.set_cons_succ]
                    refine wpAnyH_take (i := 3) (oi := ⟨_, _, _, _, _, _⟩) (v := ?_) rfl (by kernel_rfl) (by kernel_rfl) (by kernel_rfl) (fun _ _ _ h => h) (Or.inl ⟨by rfl, ?_⟩) hHeld ?_
                    rotate_left
                    · (intro w hSw; (try dsimp only at hSw); go_simp; try (with_reducible rfl))
                    try simp only [Act.put, List.setIfInBounds_toArray, List.set_cons_zero, List.set_cons_succ]
                    refine wpAnyH_take (i := 5) (oi := ⟨_, _, _, _, _, _⟩) (v := ?_) rfl (by kernel_rfl) (by kernel_rfl) (by kernel_rfl) (fun _ _ _ h => h) (Or.inl ⟨by rfl, ?_⟩) hHeld ?_
                    rotate_left
                    · (intro w hSw; (try dsimp only at hSw); go_simp; try (with_reducible rfl))
                    try simp only [Act.put, List.setIfInBounds_toArray, List.set_cons_zero, List.set_cons_succ]
                    refine wpAnyH_ready (rs := [4]) (by kernel_rfl) (by simp) ?_
                    refine AllReadyH.cons (o := ⟨_, _, _, _, _, _⟩) rfl (fun K hK => ?_) AllReadyH.nil
                    go_simp
                    go_at_call 14
                    refine (lwCell_calls (R : Int) (W : Int) j k rs1 _ _ (j * W) (j * W + k) w21.drew (MG2.below (show Below w21.heap.size w21 w21.drew from below_drewN (Below.refl _ _) 1)) ⟨_, _, _, rfl⟩ (by rw [Int.natCast_mul]) (by omega) (by have h1 := HRL.out; omega) (by have h1 := HRL.out; omega) (by omega)).mono ?_
                    rintro e w25 ⟨rfl, hb25⟩
                    replace hb25 : Below w21.heap.size w21 w25 := (below_drewN (Below.refl _ _) 1).trans hb25
                    rw [hce]
                    dsimp only
                    replace RG2 := RG2.below hb25
                    replace T := T.below hb25
                    have hb26 := hide (hb21.trans (hb25.mono hb21.size))
                    clear hb25 hb21
                    try go_wp2_with fail
                    refine hK.out _ _ ?_ ?_
                    · (try dsimp only); exact ⟨RG2.c1, RG2.c2, RG2.c3, RG2.c4, T.c0, T.c1⟩
                    clear hHeld hK K
                    intro hHeld
                    try simp only [Act.put, List.setIfInBounds_toArray, List.set_cons_zero, List.set_cons_succ]
                    refine wpAnyH_take (i := 6) (oi := ⟨_, _, _, _, _, _⟩) (v := ?_) rfl (by kernel_rfl) (by kernel_rfl) (by kernel_rfl) (fun _ _ _ h => h) (Or.inl ⟨by rfl, ?_⟩) hHeld ?_
                    rotate_left
                    · (intro w hSw; (try dsimp only at hSw); go_simp; try (with_reducible rfl))
                    try simp only [Act.put, List.setIfInBounds_toArray, List.set_cons_zero, List.set_cons_succ]
                    refine wpAnyH_done (by kernel_rfl) ?_ _
                    clear hHeld hnc hgc
                    go_wp2
                    go_roundw
                    case rel => exact ⟨k + 1, by omega, by go_num, hb26⟩
                    case measure => simp [intOf]; omega
                  · skip
                    have hB : Below w20.heap.size w20 (w20.alloc (.cells #[.int .i64 32, .int .i64 at'] 38)) := (Below.refl _ _).alloc (Nat.le_refl _) _
                    have T : B2 w20.heap.size 32 at' (w20.alloc (.cells #[.int .i64 32, .int .i64 at'] 38)) := ⟨by simp [go_sem], by simp [go_sem]⟩
                    replace hb21 := hb21.trans (hB.mono hsz20)
                    clear hB
                    have g1 := (HG.below hb21).c1
                    go_wp2_with fail
                    clear g1
                    generalize (w20.alloc (.cells #[.int .i64 32, .int .i64 at'] 38)) = w21 at *
                    obtain ⟨tb, htb⟩ : ∃ b, b = w20.heap.size := ⟨_, rfl⟩
                    rw [← htb] at T ⊢
                    clear htb
                    have RG2 := HR.below hb21
                    have MG2 := m1.below hb21
                    have hnc := neq_cell
                    have hgc := guard_cell
                    refine wp_region_held_drew (S := (fun w' => w'.cell? ⟨rb, 1, none⟩ = some (.int .i64 (R : Int)) ∧ w'.cell? ⟨rb, 2, none⟩ = some (.int .i64 (W : Int)) ∧ w'.cell? ⟨rb, 3, none⟩ = some (.slice a5 rs1.length c5) ∧ w'.cell? ⟨rb, 4, none⟩ = some (.slice a6 rs2.length c6) ∧ w'.cell? ⟨tb, 0, none⟩ = some (.int .i64 32) ∧ w'.cell? ⟨tb, 1, none⟩ = some (.int .i64 at'))) (by kernel_rfl) ?_ (fun hHeld => ?_)
                    · (try dsimp only); exact ⟨RG2.c1, RG2.c2, RG2.c3, RG2.c4, T.c0, T.c1⟩
                    refine wpAnyH_take (i := 0) (oi := ⟨_, _, _, _, _, _⟩) (v := ?_) rfl (by kernel_rfl) (by kernel_rfl) (by kernel_rfl) (fun _ _ _ h => h) (Or.inl ⟨by rfl, ?_⟩) hHeld ?_
                    rotate_left
                    · (intro w hSw; (try dsimp only at hSw); go_simp; try (with_reducible rfl))
                    try simp only [Act.put, List.setIfInBounds_toArray, List.set_cons_zero, List.set_cons_succ]
                    refine wpAnyH_take (i := 1) (oi := ⟨_, _, _, _, _, _⟩) (v := ?_) rfl (by kernel_rfl) (by kernel_rfl) (by kernel_rfl) (fun _ _ _ h => h) (Or.inl ⟨by rfl, ?_⟩) hHeld ?_
                    rotate_left
                    · (intro w hSw; (try dsimp only at hSw); go_simp; try (with_reducible rfl))
                    try simp only [Act.put, List.setIfInBounds_toArray, List.set_cons_zero, List.set_cons_succ]
                    refine wpAnyH_take (i := 2) (oi := ⟨_, _, _, _, _, _⟩) (v := ?_) rfl (by kernel_rfl) (by kernel_rfl) (by kernel_rfl) (fun _ _ _ h => h) (Or.inl ⟨by rfl, ?_⟩) hHeld ?_
                    rotate_left
                    · (intro w hSw; (try dsimp only at hSw); go_simp; try (with_reducible rfl))
                    try simp only [Act.put, List.setIfInBounds_toArray, List.set_cons_zero, List.set_cons_succ]
                    refine wpAnyH_take (i := 3) (oi := ⟨_, _, _, _, _, _⟩) (v := ?_) rfl (by kernel_rfl) (by kernel_rfl) (by kernel_rfl) (fun _ _ _ h => h) (Or.inl ⟨by rfl, ?_⟩) hHeld ?_
                    rotate_left
                    · (intro w hSw; (try dsimp only at hSw); go_simp; try (with_reducible rfl))
                    try simp only [Act.put, List.setIfInBounds_toArray, List.set_cons_zero, List.set_cons_succ]
                    refine wpAnyH_take (i := 5) (oi := ⟨_, _, _, _, _, _⟩) (v := ?_) rfl (by kernel_rfl) (by kernel_rfl) (by kernel_rfl) (fun _ _ _ h => h) (Or.inl ⟨by rfl, ?_⟩) hHeld ?_
                    rotate_left
                    · (intro w hSw; (try dsimp only at hSw); go_simp; try (with_reducible rfl))
                    try simp only [Act.put, List.setIfInBounds_toArray, List.set_cons_zero, List.set_cons_succ]
                    refine wpAnyH_ready (rs := [4]) (by kernel_rfl) (by simp) ?_
                    refine AllReadyH.cons (o := ⟨_, _, _, _, _, _⟩) rfl (fun K hK => ?_) AllReadyH.nil
                    go_simp
                    go_at_call 14
                    refine (lwCell_calls (R : Int) (W : Int) j k rs1 _ _ (j * W) (j * W + k) w21.drew (MG2.below (show Below w21.heap.size w21 w21.drew from below_drewN (Below.refl _ _) 1)) ⟨_, _, _, rfl⟩ (by rw [Int.natCast_mul]) (by omega) (by have h1 := HRL.out; omega) (by have h1 := HRL.out; omega) (by omega)).mono ?_
                    rintro e w25 ⟨rfl, hb25⟩
                    replace hb25 : Below w21.heap.size w21 w25 := (below_drewN (Below.refl _ _) 1).trans hb25
                    rw [hce]
                    dsimp only
                    replace RG2 := RG2.below hb25
                    replace T := T.below hb25
                    have hb26 := hide (hb21.trans (hb25.mono hb21.size))
                    clear hb25 hb21
                    try go_wp2_with fail
                    refine hK.out _ _ ?_ ?_
                    · (try dsimp only); exact ⟨RG2.c1, RG2.c2, RG2.c3, RG2.c4, T.c0, T.c1⟩
                    clear hHeld hK K
                    intro hHeld
                    try simp only [Act.put, List.setIfInBounds_toArray, List.set_cons_zero, List.set_cons_succ]
                    refine wpAnyH_take (i := 6) (oi := ⟨_, _, _, _, _, _⟩) (v := ?_) rfl (by kernel_rfl) (by kernel_rfl) (by kernel_rfl) (fun _ _ _ h => h) (Or.inl ⟨by rfl, ?_⟩) hHeld ?_
                    rotate_left
                    · (intro w hSw; (try dsimp only at hSw); go_simp; try (with_reducible rfl))
                    try simp only [Act.put, List.setIfInBounds_toArray, List.set_cons_zero, List.set_cons_succ]
                    refine wpAnyH_done (by kernel_rfl) ?_ _
                    clear hHeld hnc hgc
                    go_wp2
                    go_roundw
                    case rel => exact ⟨k + 1, by omega, by go_num, hb26⟩
                    case measure => simp [intOf]; omega
              · have hce : rs1.getD (j * W + k) (0, 0) = (p1, p2) := by have h := HCEE.out; rw [if_neg hA] at h; exact h
                by_cases hjy : j = Y
                · subst hjy
                  have hjj : ((j : Int) == (j : Int)) = true := by simp
                  have hkx : ¬ (X : Int) ≤ (k : Int) := by omega
                  go_wp2_with fail
                  have hB : Below w20.heap.size w20 (w20.alloc (.cells #[.int .i64 p1, .int .i64 p2] 38)) := (Below.refl _ _).alloc (Nat.le_refl _) _
                  have T : B2 w20.heap.size p1 p2 (w20.alloc (.cells #[.int .i64 p1, .int .i64 p2] 38)) := ⟨by simp [go_sem], by simp [go_sem]⟩
                  replace hb21 := hb21.trans (hB.mono hsz20)
                  clear hB
                  generalize (w20.alloc (.cells #[.int .i64 p1, .int .i64 p2] 38)) = w21 at *
                  obtain ⟨tb, htb⟩ : ∃ b, b = w20.heap.size := ⟨_, rfl⟩
                  rw [← htb] at T ⊢
                  clear htb
                  have RG2 := HR.below hb21
                  have MG2 := m1.below hb21
                  have hnc := neq_cell
                  have hgc := guard_cell
                  refine wp_region_held_drew (S := (fun w' => w'.cell? ⟨rb, 1, none⟩ = some (.int .i64 (R : Int)) ∧ w'.cell? ⟨rb, 2, none⟩ = some (.int .i64 (W : Int)) ∧ w'.cell? ⟨rb, 3, none⟩ = some (.slice a5 rs1.length c5) ∧ w'.cell? ⟨rb, 4, none⟩ = some (.slice a6 rs2.length c6) ∧ w'.cell? ⟨tb, 0, none⟩ = some (.int .i64 p1) ∧ w'.cell? ⟨tb, 1, none⟩ = some (.int .i64 p2))) (by kernel_rfl) ?_ (fun hHeld => ?_)
                  · (try dsimp only); exact ⟨RG2.c1, RG2.c2, RG2.c3, RG2.c4, T.c0, T.c1⟩
                  refine wpAnyH_take (i := 0) (oi := ⟨_, _, _, _, _, _⟩) (v := ?_) rfl (by kernel_rfl) (by kernel_rfl) (by kernel_rfl) (fun _ _ _ h => h) (Or.inl ⟨by rfl, ?_⟩) hHeld ?_
                  rotate_left
                  · (intro w hSw; (try dsimp only at hSw); go_simp; try (with_reducible rfl))
                  try simp only [Act.put, List.setIfInBounds_toArray, List.set_cons_zero, List.set_cons_succ]
                  refine wpAnyH_take (i := 1) (oi := ⟨_, _, _, _, _, _⟩) (v := ?_) rfl (by kernel_rfl) (by kernel_rfl) (by kernel_rfl) (fun _ _ _ h => h) (Or.inl ⟨by rfl, ?_⟩) hHeld ?_
                  rotate_left
                  · (intro w hSw; (try dsimp only at hSw); go_simp; try (with_reducible rfl))
                  try simp only [Act.put, List.setIfInBounds_toArray, List.set_cons_zero, List.set_cons_succ]
                  refine wpAnyH_take (i := 2) (oi := ⟨_, _, _, _, _, _⟩) (v := ?_) rfl (by kernel_rfl) (by kernel_rfl) (by kernel_rfl) (fun _ _ _ h => h) (Or.inl ⟨by rfl, ?_⟩) hHeld ?_
                  rotate_left
                  · (intro w hSw; (try dsimp only at hSw); go_simp; try (with_reducible rfl))
                  try simp only [Act.put, List.setIfInBounds_toArray, List.set_cons_zero, List.set_cons_succ]
                  refine wpAnyH_take (i := 3) (oi := ⟨_, _, _, _, _, _⟩) (v := ?_) rfl (by kernel_rfl) (by kernel_rfl) (by kernel_rfl) (fun _ _ _ h => h) (Or.inl ⟨by rfl, ?_⟩) hHeld ?_
                  rotate_left
                  · (intro w hSw; (try dsimp only at hSw); go_simp; try (with_reducible rfl))
                  try simp only [Act.put, List.setIfInBounds_toArray, List.set_cons_zero, List.set_cons_succ]
                  refine wpAnyH_take (i := 5) (oi := ⟨_, _, _, _, _, _⟩) (v := ?_) rfl (by kernel_rfl) (by kernel_rfl) (by kernel_rfl) (fun _ _ _ h => h) (Or.inl ⟨by rfl, ?_⟩) hHeld ?_
                  rotate_left
                  · (intro w hSw; (try dsimp only at hSw); go_simp; try (with_reducible rfl))
                  try simp only [Act.put, List.setIfInBounds_toArray, List.set_cons_zero, List.set_cons_succ]
                  refine wpAnyH_ready (rs := [4]) (by kernel_rfl) (by simp) ?_
                  refine AllReadyH.cons (o := ⟨_, _, _, _, _, _⟩) rfl (fun K hK => ?_) AllReadyH.nil
                  go_simp
                  go_at_call 14
                  refine (lwCell_calls (R : Int) (W : Int) j k rs1 _ _ (j * W) (j * W + k) w21.drew (MG2.below (show Below w21.heap.size w21 w21.drew from below_drewN (Below.refl _ _) 1)) ⟨_, _, _, rfl⟩ (by rw [Int.natCast_mul]) (by omega) (by have h1 := HRL.out; omega) (by have h1 := HRL.out; omega) (by omega)).mono ?_
                  rintro e w25 ⟨rfl, hb25⟩
                  replace hb25 : Below w21.heap.size w21 w25 := (below_drewN (Below.refl _ _) 1).trans hb25
                  rw [hce]
                  dsimp only
                  replace RG2 := RG2.below hb25
                  replace T := T.below hb25
                  have hb26 := hide (hb21.trans (hb25.mono hb21.size))
                  clear hb25 hb21
                  try go_wp2_with fail
                  refine hK.out _ _ ?_ ?_
                  · (try dsimp only); exact ⟨RG2.c1, RG2.c2, RG2.c3, RG2.c4, T.c0, T.c1⟩
                  clear hHeld hK K
                  intro hHeld
                  try simp only [Act.put, List.setIfInBounds_toArray, List.set_cons_zero, List.set_cons_succ]
                  refine wpAnyH_take (i := 6) (oi := ⟨_, _, _, _, _, _⟩) (v := ?_) rfl (by kernel_rfl) (by kernel_rfl) (by kernel_rfl) (fun _ _ _ h => h) (Or.inl ⟨by rfl, ?_⟩) hHeld ?_
                  rotate_left
                  · (intro w hSw; (try dsimp only at hSw); go_simp; try (with_reducible rfl))
                  try simp only [Act.put, List.setIfInBounds_toArray, List.set_cons_zero, List.set_cons_succ]
                  refine wpAnyH_done (by kernel_rfl) ?_ _
                  clear hHeld hnc hgc
                  go_wp2
                  go_roundw
                  case rel => exact ⟨k + 1, by omega, by go_num, hb26⟩
                  case measure => simp [intOf]; omega
                · have hjj : ((j : Int) == (Y : Int)) = false := by rw [beq_eq_false_iff_ne]; omega
                  go_wp2_with fail
                  have hB : Below w20.heap.size w20 (w20.alloc (.cells #[.int .i64 p1, .int .i64 p2] 38)) := (Below.refl _ _).alloc (Nat.le_refl _) _
                  have T : B2 w20.heap.size p1 p2 (w20.alloc (.cells #[.int .i64 p1, .int .i64 p2] 38)) := ⟨by simp [go_sem], by simp [go_sem]⟩
                  replace hb21 := hb21.trans (hB.mono hsz20)
                  clear hB
                  generalize (w20.alloc (.cells #[.int .i64 p1, .int .i64 p2] 38)) = w21 at *
                  obtain ⟨tb, htb⟩ : ∃ b, b = w20.heap.size := ⟨_, rfl⟩
                  rw [← htb] at T ⊢
                  clear htb
                  have RG2 := HR.below hb21
                  have MG2 := m1.below hb21
                  have hnc := neq_cell
                  have hgc := guard_cell
                  refine wp_region_held_drew (S := (fun w' => w'.cell? ⟨rb, 1, none⟩ = some (.int .i64 (R : Int)) ∧ w'.cell? ⟨rb, 2, none⟩ = some (.int .i64 (W : Int)) ∧ w'.cell? ⟨rb, 3, none⟩ = some (.slice a5 rs1.length c5) ∧ w'.cell? ⟨rb, 4, none⟩ = some (.slice a6 rs2.length c6) ∧ w'.cell? ⟨tb, 0, none⟩ = some (.int .i64 p1) ∧ w'.cell? ⟨tb, 1, none⟩ = some (.int .i64 p2))) (by kernel_rfl) ?_ (fun hHeld => ?_)
                  · (try dsimp only); exact ⟨RG2.c1, RG2.c2, RG2.c3, RG2.c4, T.c0, T.c1⟩
                  refine wpAnyH_take (i := 0) (oi := ⟨_, _, _, _, _, _⟩) (v := ?_) rfl (by kernel_rfl) (by kernel_rfl) (by kernel_rfl) (fun _ _ _ h => h) (Or.inl ⟨by rfl, ?_⟩) hHeld ?_
                  rotate_left
                  · (intro w hSw; (try dsimp only at hSw); go_simp; try (with_reducible rfl))
                  try simp only [Act.put, List.setIfInBounds_toArray, List.set_cons_zero, List.set_cons_succ]
                  refine wpAnyH_take (i := 1) (oi := ⟨_, _, _, _, _, _⟩) (v := ?_) rfl (by kernel_rfl) (by kernel_rfl) (by kernel_rfl) (fun _ _ _ h => h) (Or.inl ⟨by rfl, ?_⟩) hHeld ?_
                  rotate_left
                  · (intro w hSw; (try dsimp only at hSw); go_simp; try (with_reducible rfl))
                  try simp only [Act.put, List.setIfInBounds_toArray, List.set_cons_zero, List.set_cons_succ]
                  refine wpAnyH_take (i := 2) (oi := ⟨_, _, _, _, _, _⟩) (v := ?_) rfl (by kernel_rfl) (by kernel_rfl) (by kernel_rfl) (fun _ _ _ h => h) (Or.inl ⟨by rfl, ?_⟩) hHeld ?_
                  rotate_left
                  · (intro w hSw; (try dsimp only at hSw); go_simp; try (with_reducible rfl))
                  try simp only [Act.put, List.setIfInBounds_toArray, List.set_cons_zero, List.set_cons_succ]
                  refine wpAnyH_take (i := 3) (oi := ⟨_, _, _, _, _, _⟩) (v := ?_) rfl (by kernel_rfl) (by kernel_rfl) (by kernel_rfl) (fun _ _ _ h => h) (Or.inl ⟨by rfl, ?_⟩) hHeld ?_
                  rotate_left
                  · (intro w hSw; (try dsimp only at hSw); go_simp; try (with_reducible rfl))
                  try simp only [Act.put, List.setIfInBounds_toArray, List.set_cons_zero, List.set_cons_succ]
                  refine wpAnyH_take (i := 5) (oi := ⟨_, _, _, _, _, _⟩) (v := ?_) rfl (by kernel_rfl) (by kernel_rfl) (by kernel_rfl) (fun _ _ _ h => h) (Or.inl ⟨by rfl, ?_⟩) hHeld ?_
                  rotate_left
                  · (intro w hSw; (try dsimp only at hSw); go_simp; try (with_reducible rfl))
                  try simp only [Act.put, List.setIfInBounds_toArray, List.set_cons_zero, List.set_cons_succ]
                  refine wpAnyH_ready (rs := [4]) (by kernel_rfl) (by simp) ?_
                  refine AllReadyH.cons (o := ⟨_, _, _, _, _, _⟩) rfl (fun K hK => ?_) AllReadyH.nil
                  go_simp
                  go_at_call 14
                  refine (lwCell_calls (R : Int) (W : Int) j k rs1 _ _ (j * W) (j * W + k) w21.drew (MG2.below (show Below w21.heap.size w21 w21.drew from below_drewN (Below.refl _ _) 1)) ⟨_, _, _, rfl⟩ (by rw [Int.natCast_mul]) (by omega) (by have h1 := HRL.out; omega) (by have h1 := HRL.out; omega) (by omega)).mono ?_
                  rintro e w25 ⟨rfl, hb25⟩
                  replace hb25 : Below w21.heap.size w21 w25 := (below_drewN (Below.refl _ _) 1).trans hb25
                  rw [hce]
                  dsimp only
                  replace RG2 := RG2.below hb25
                  replace T := T.below hb25
                  have hb26 := hide (hb21.trans (hb25.mono hb21.size))
                  clear hb25 hb21
                  try go_wp2_with fail
                  refine hK.out _ _ ?_ ?_
                  · (try dsimp only); exact ⟨RG2.c1, RG2.c2, RG2.c3, RG2.c4, T.c0, T.c1⟩
                  clear hHeld hK K
                  intro hHeld
                  try simp only [Act.put, List.setIfInBounds_toArray, List.set_cons_zero, List.set_cons_succ]
                  refine wpAnyH_take (i := 6) (oi := ⟨_, _, _, _, _, _⟩) (v := ?_) rfl (by kernel_rfl) (by kernel_rfl) (by kernel_rfl) (fun _ _ _ h => h) (Or.inl ⟨by rfl, ?_⟩) hHeld ?_
                  rotate_left
                  · (intro w hSw; (try dsimp only at hSw); go_simp; try (with_reducible rfl))
                  try simp only [Act.put, List.setIfInBounds_toArray, List.set_cons_zero, List.set_cons_succ]
                  refine wpAnyH_done (by kernel_rfl) ?_ _
                  clear hHeld hnc hgc
                  go_wp2
                  go_roundw
                  case rel => exact ⟨k + 1, by omega, by go_num, hb26⟩
                  case measure => simp [intOf]; omega
            · obtain rfl : k = W := by omega
              have hge : ¬ ((k : Int) < (k : Int)) := by omega
              clear G g0 g2 g3
              go_wp2
              go_roundw
              case rel => exact ⟨j + 1, by omega, by go_num, hbi⟩
              case measure => simp [intOf]; omega
        · obtain rfl : j = R := by omega
          have hge : ¬ ((j : Int) < (j : Int)) := by omega
          have RG := HR.below hbo.out
          have M1 := m1.below hbo.out
          have M2 := m2.below hbo.out
          have qq : Below w.heap.size w wr := q14.trans (hbo.out.mono q14.size)
          go_wp2_with fail
          refine (drawNew_calls zs a cap wr (hv.below qq) HZ.out hlen).mono ?_
          rintro e w30 ⟨nr, nw, rfl, hb30⟩
          replace RG := RG.below hb30
          replace M1 := M1.below hb30
          replace M2 := M2.below hb30
          replace qq := qq.trans (hb30.mono qq.size)
          obtain ⟨r0, r1, r2', r3, r4⟩ := id RG
          clear hb30 g0
          go_wp2_with fail
          refine (implGridFault_calls (j : Int) (W : Int) rs1 rs2 _ _ w30 (by omega) (by omega) M1 M2).mono ?_
          rintro e w31 ⟨rfl, hb31⟩
          rw [HGC.out]
          replace RG := RG.below hb31
          replace qq := qq.trans (hb31.mono qq.size)
          clear hb31 M1 M2 r0 r1 r2' r3 r4
          go_wp2_with fail
          refine (implNewGrid_calls nr nw w31).mono ?_
          rintro e w32 ⟨x1, x2, rfl, ho1, hb32⟩
          obtain ⟨b1, d1, b2, d2, rfl, rfl⟩ := ho1.forms
          replace RG := RG.below hb32
          replace qq := qq.trans (hb32.mono qq.size)
          clear hb32 ho1
          go_wp2_with fail
          refine (specNewGrid_calls nr nw w32).mono ?_
          rintro e w33 ⟨x1, x2, rfl, ho1, hb33⟩
          obtain ⟨b3, d3, b4, d4, rfl, rfl⟩ := ho1.forms
          replace RG := RG.below hb33
          replace qq := qq.trans (hb33.mono qq.size)
          obtain ⟨r0, r1, r2', r3, r4⟩ := id RG
          have hlp : (0 : Int) < (rs1.length : Int) := by omega
          clear hb33 ho1
          go_wp2
          go_ret
          exact ⟨rfl, qq⟩
    · have hrb : (rc == 0) = false := by rw [beq_eq_false_iff_ne]; exact hr0
      go_wp2_with fail
      clear r0
      refine wp_region_held_drew (S := (fun w' => w'.cell? ⟨gb, 0, none⟩ = some (.int .i64 r) ∧ w'.cell? ⟨gb, 1, none⟩ = some (.int .i64 wd) ∧ w'.cell? ⟨gb, 2, none⟩ = some (.slice a1 cs.length c1) ∧ w'.cell? ⟨gb, 3, none⟩ = some (.slice a2 bs.length c2) ∧ w'.cell? ⟨rb, 0, none⟩ = some (.int .i64 rc))) (by kernel_rfl) ?_ (fun hHeld => ?_)
      · (try dsimp only); exact ⟨HG.c0, HG.c1, HG.c2, HG.c3, HR.c0⟩
      refine wpAnyH_take (i := 0) (oi := ⟨_, _, _, _, _, _⟩) (v := ?_) rfl (by kernel_rfl) (by kernel_rfl) (by kernel_rfl) (fun _ _ _ h => h) (Or.inl ⟨by rfl, ?_⟩) hHeld ?_
      rotate_left
      · (intro w hSw; (try dsimp only at hSw); go_simp; try (with_reducible rfl))
      try simp only [Act.put, List.setIfInBounds_toArray, List.set_cons_zero, List.set_cons_succ]
      refine wpAnyH_take (i := 1) (oi := ⟨_, _, _, _, _, _⟩) (v := ?_) rfl (by kernel_rfl) (by kernel_rfl) (by kernel_rfl) (fun _ _ _ h => h) (Or.inl ⟨by rfl, ?_⟩) hHeld ?_
      rotate_left
      · (intro w hSw; (try dsimp only at hSw); go_simp; try (with_reducible rfl))
      try simp only [Act.put, List.setIfInBounds_toArray, List.set_cons_zero, List.set_cons_succ]
      refine wpAnyH_take (i := 2) (oi := ⟨_, _, _, _, _, _⟩) (v := ?_) rfl (by kernel_rfl) (by kernel_rfl) (by kernel_rfl) (fun _ _ _ h => h) (Or.inl ⟨by rfl, ?_⟩) hHeld ?_
      rotate_left
      · (intro w hSw; (try dsimp only at hSw); go_simp; try (with_reducible rfl))
      try simp only [Act.put, List.setIfInBounds_toArray, List.set_cons_zero, List.set_cons_succ]
      refine wpAnyH_take (i := 3) (oi := ⟨_, _, _, _, _, _⟩) (v := ?_) rfl (by kernel_rfl) (by kernel_rfl) (by kernel_rfl) (fun _ _ _ h => h) (Or.inl ⟨by rfl, ?_⟩) hHeld ?_
      rotate_left
      · (intro w hSw; (try dsimp only at hSw); go_simp; try (with_reducible rfl))
      try simp only [Act.put, List.setIfInBounds_toArray, List.set_cons_zero, List.set_cons_succ]
      refine wpAnyH_take (i := 4) (oi := ⟨_, _, _, _, _, _⟩) (v := ?_) rfl (by kernel_rfl) (by kernel_rfl) (by kernel_rfl) (fun _ _ _ h => h) (Or.inl ⟨by rfl, ?_⟩) hHeld ?_
      rotate_left
      · (intro w hSw; (try dsimp only at hSw); go_simp; try (with_reducible rfl))
      try simp only [Act.put, List.setIfInBounds_toArray, List.set_cons_zero, List.set_cons_succ]
      refine wpAnyH_take (i := 7) (oi := ⟨_, _, _, _, _, _⟩) (v := ?_) rfl (by kernel_rfl) (by kernel_rfl) (by kernel_rfl) (fun _ _ _ h => h) (Or.inl ⟨by rfl, ?_⟩) hHeld ?_
      rotate_left
      · (intro w hSw; (try dsimp only at hSw); go_simp; try (with_reducible rfl))
      try simp only [Act.put, List.setIfInBounds_toArray, List.set_cons_zero, List.set_cons_succ]
      refine wpAnyH_take (i := 8) (oi := ⟨_, _, _, _, _, _⟩) (v := ?_) rfl (by kernel_rfl) (by kernel_rfl) (by kernel_rfl) (fun _ _ _ h => h) (Or.inl ⟨by rfl, ?_⟩) hHeld ?_
      rotate_left
      · (intro w hSw; (try dsimp only at hSw); go_simp; try (with_reducible rfl))
      try simp only [Act.put, List.setIfInBounds_toArray, List.set_cons_zero, List.set_cons_succ]
      refine wpAnyH_ready (rs := [5]) (by kernel_rfl) (by simp) ?_
      refine AllReadyH.cons (o := ⟨_, _, _, _, _, _⟩) rfl (fun K hK => ?_) AllReadyH.nil
      go_simp
      go_at_call 13
      refine (specShiftCells_calls r wd cs bs y x n at' _ _ wb.drew (by omega) (by omega) (l1.below (show Below wb.heap.size wb wb.drew from below_drewN (Below.refl _ _) 1)) (l2.below (show Below wb.heap.size wb wb.drew from below_drewN (Below.refl _ _) 1))).mono ?_
      rintro e w20 ⟨v5, v6, rfl, ho, hb20⟩
      replace hb20 : Below wb.heap.size wb w20 := (below_drewN (Below.refl _ _) 1).trans hb20
      rw [HX.out] at ho ⊢
      dsimp only at ho ⊢
      obtain ⟨b5, d5, b6, d6, rfl, rfl⟩ := ho.forms
      replace HG := HG.below hb20
      replace HR := HR.below hb20
      have qq := q14.trans (hb20.mono q14.size)
      clear ho hb20
      try go_wp2_with fail
      refine hK.out _ _ ?_ ?_
      · (try dsimp only); exact ⟨HG.c0, HG.c1, HG.c2, HG.c3, HR.c0⟩
      clear hHeld hK K
      intro hHeld
      try simp only [Act.put, List.setIfInBounds_toArray, List.set_cons_zero, List.set_cons_succ]
      refine wpAnyH_take (i := 6) (oi := ⟨_, _, _, _, _, _⟩) (v := ?_) rfl (by kernel_rfl) (by kernel_rfl) (by kernel_rfl) (fun _ _ _ h => h) (Or.inl ⟨by rfl, ?_⟩) hHeld ?_
      rotate_left
      · (intro w hSw; (try dsimp only at hSw); go_simp; try (with_reducible rfl))
      try simp only [Act.put, List.setIfInBounds_toArray, List.set_cons_zero, List.set_cons_succ]
      refine wpAnyH_take (i := 9) (oi := ⟨_, _, _, _, _, _⟩) (v := ?_) rfl (by kernel_rfl) (by kernel_rfl) (by kernel_rfl) (fun _ _ _ h => h) (Or.inl ⟨by rfl, ?_⟩) hHeld ?_
      rotate_left
      · (intro w hSw; (try dsimp only at hSw); go_simp; try (with_reducible rfl))
      try simp only [Act.put, List.setIfInBounds_toArray, List.set_cons_zero, List.set_cons_succ]
      refine wpAnyH_take (i := 10) (oi := ⟨_, _, _, _, _, _⟩) (v := ?_) rfl (by kernel_rfl) (by kernel_rfl) (by kernel_rfl) (fun _ _ _ h => h) (Or.inl ⟨by rfl, ?_⟩) hHeld ?_
      rotate_left
      · (intro w hSw; (try dsimp only at hSw); go_simp; try (with_reducible rfl))
      try simp only [Act.put, List.setIfInBounds_toArray, List.set_cons_zero, List.set_cons_succ]
      refine wpAnyH_done (by kernel_rfl) ?_ _
      clear hHeld
      go_wp2
      go_ret
      exact ⟨rfl, qq⟩
  · have hzb : (zc == 0) = false := by rw [beq_eq_false_iff_ne]; exact hz0
    refine wp_region_held_drew (S := (fun w' => w'.cell? ⟨hb, 0, none⟩ = some (.int .i64 r2) ∧ w'.cell? ⟨hb, 1, none⟩ = some (.int .i64 wd2) ∧ w'.cell? ⟨hb, 2, none⟩ = some (.slice a7 cs2.length c7) ∧ w'.cell? ⟨hb, 3, none⟩ = some (.slice a8 bs2.length c8) ∧ w'.cell? ⟨zb, 0, none⟩ = some (.int .i64 zc) ∧ w'.cell? ⟨zb, 1, none⟩ = some (.int .i64 zr) ∧ w'.cell? ⟨zb, 2, none⟩ = some (.int .i64 zw) ∧ w'.cell? ⟨zb, 3, none⟩ = some (.slice a9 zs1.length c9) ∧ w'.cell? ⟨zb, 4, none⟩ = some (.slice a0 zs2.length c0))) (by kernel_rfl) ?_ (fun hHeld => ?_)
    · (try dsimp only); exact ⟨HH.c0, HH.c1, HH.c2, HH.c3, HZB.c0, HZB.c1, HZB.c2, HZB.c3, HZB.c4⟩
    refine wpAnyH_take (i := 0) (oi := ⟨_, _, _, _, _, _⟩) (v := ?_) rfl (by kernel_rfl) (by kernel_rfl) (by kernel_rfl) (fun _ _ _ h => h) (Or.inl ⟨by rfl, ?_⟩) hHeld ?_
    rotate_left
    · (intro w hSw; (try dsimp only at hSw); go_simp; try (with_reducible rfl))
    try simp only [Act.put, List.setIfInBounds_toArray, List.set_cons_zero, List.set_cons_succ]
    refine wpAnyH_take (i := 1) (oi := ⟨_, _, _, _, _, _⟩) (v := ?_) rfl (by kernel_rfl) (by kernel_rfl) (by kernel_rfl) (fun _ _ _ h => h) (Or.inl ⟨by rfl, ?_⟩) hHeld ?_
    rotate_left
    · (intro w hSw; (try dsimp only at hSw); go_simp; try (with_reducible rfl))
    try simp only [Act.put, List.setIfInBounds_toArray, List.set_cons_zero, List.set_cons_succ]
    refine wpAnyH_take (i := 2) (oi := ⟨_, _, _, _, _, _⟩) (v := ?_) rfl (by kernel_rfl) (by kernel_rfl) (by kernel_rfl) (fun _ _ _ h => h) (Or.inl ⟨by rfl, ?_⟩) hHeld ?_
    rotate_left
    · (intro w hSw; (try dsimp only at hSw); go_simp; try (with_reducible rfl))
    try simp only [Act.put, List.setIfInBounds_toArray, List.set_cons_zero, List.set_cons_succ]
    refine wpAnyH_take (i := 3) (oi := ⟨_, _, _, _, _, _⟩) (v := ?_) rfl (by kernel_rfl) (by kernel_rfl) (by kernel_rfl) (fun _ _ _ h => h) (Or.inl ⟨by rfl, ?_⟩) hHeld ?_
    rotate_left
    · (intro w hSw; (try dsimp only at hSw); go_simp; try (with_reducible rfl))
    try simp only [Act.put, List.setIfInBounds_toArray, List.set_cons_zero, List.set_cons_succ]
    refine wpAnyH_take (i := 4) (oi := ⟨_, _, _, _, _, _⟩) (v := ?_) rfl (by kernel_rfl) (by kernel_rfl) (by kernel_rfl) (fun _ _ _ h => h) (Or.inl ⟨by rfl, ?_⟩) hHeld ?_
    rotate_left
    · (intro w hSw; (try dsimp only at hSw); go_simp; try (with_reducible rfl))
    try simp only [Act.put, List.setIfInBounds_toArray, List.set_cons_zero, List.set_cons_succ]
    refine wpAnyH_ready (rs := [5]) (by kernel_rfl) (by simp) ?_
    refine AllReadyH.cons (o := ⟨_, _, _, _, _, _⟩) rfl (fun K hK => ?_) AllReadyH.nil
    go_simp
    go_at_call 10
    refine (specResizeGrid_calls r2 wd2 cs2 bs2 rows width _ _ _ (by omega) (by omega) k1 k2 (i1.below (below_drewN (Below.refl _ _) 1)) (i2.below (below_drewN (Below.refl _ _) 1))).mono ?_
    rintro e w9 ⟨v5, v6, rfl, ho, hbx⟩
    replace hbx : Below w8.heap.size w8 w9 := (below_drewN (Below.refl _ _) 1).trans hbx
    rw [HZX.out] at ho ⊢
    dsimp only at ho ⊢
    have n1 := ho.read1
    have n2 := ho.read2
    clear ho
    obtain ⟨b5, d5, rfl, hx⟩ := id n1
    clear hx
    obtain ⟨b6, d6, rfl, hx⟩ := id n2
    clear hx
    replace l1 := l1.below hbx
    replace l2 := l2.below hbx
    replace HG := HG.below hbx
    replace m1 := m1.below hbx
    replace m2 := m2.below hbx
    replace HR := HR.below hbx
    replace i1 := i1.below hbx
    replace i2 := i2.below hbx
    replace HH := HH.below hbx
    replace j1 := j1.below hbx
    replace j2 := j2.below hbx
    replace HZB := HZB.below hbx
    have q9 : Below w.heap.size w w9 := q8.trans (hbx.mono q8.size)
    clear hbx q8
    try go_wp2_with fail
    refine hK.out _ _ ?_ ?_
    · (try dsimp only); exact ⟨HH.c0, HH.c1, HH.c2, HH.c3, HZB.c0, HZB.c1, HZB.c2, HZB.c3, HZB.c4⟩
    clear hHeld hK K
    intro hHeld
    try simp only [Act.put, List.setIfInBounds_toArray, List.set_cons_zero, List.set_cons_succ]
    refine wpAnyH_take (i := 6) (oi := ⟨_, _, _, _, _, _⟩) (v := ?_) rfl (by kernel_rfl) (by kernel_rfl) (by kernel_rfl) (fun _ _ _ h => h) (Or.inl ⟨by rfl, ?_⟩) hHeld ?_
    rotate_left
    · (intro w hSw; (try dsimp only at hSw); go_simp; try (with_reducible rfl))
    try simp only [Act.put, List.setIfInBounds_toArray, List.set_cons_zero, List.set_cons_succ]
    refine wpAnyH_take (i := 7) (oi := ⟨_, _, _, _, _, _⟩) (v := ?_) rfl (by kernel_rfl) (by kernel_rfl) (by kernel_rfl) (fun _ _ _ h => h) (Or.inl ⟨by rfl, ?_⟩) hHeld ?_
    rotate_left
    · (intro w hSw; (try dsimp only at hSw); go_simp; try (with_reducible rfl))
    try simp only [Act.put, List.setIfInBounds_toArray, List.set_cons_zero, List.set_cons_succ]
    refine wpAnyH_take (i := 8) (oi := ⟨_, _, _, _, _, _⟩) (v := ?_) rfl (by kernel_rfl) (by kernel_rfl) (by kernel_rfl) (fun _ _ _ h => h) (Or.inl ⟨by rfl, ?_⟩) hHeld ?_
    rotate_left
    · (intro w hSw; (try dsimp only at hSw); go_simp; try (with_reducible rfl))
    try simp only [Act.put, List.setIfInBounds_toArray, List.set_cons_zero, List.set_cons_succ]
    refine wpAnyH_take (i := 9) (oi := ⟨_, _, _, _, _, _⟩) (v := ?_) rfl (by kernel_rfl) (by kernel_rfl) (by kernel_rfl) (fun _ _ _ h => h) (Or.inl ⟨by rfl, ?_⟩) hHeld ?_
    rotate_left
    · (intro w hSw; (try dsimp only at hSw); go_simp; try (with_reducible rfl))
    try simp only [Act.put, List.setIfInBounds_toArray, List.set_cons_zero, List.set_cons_succ]
    refine wpAnyH_take (i := 10) (oi := ⟨_, _, _, _, _, _⟩) (v := ?_) rfl (by kernel_rfl) (by kernel_rfl) (by kernel_rfl) (fun _ _ _ h => h) (Or.inl ⟨by rfl, ?_⟩) hHeld ?_
    rotate_left
    · (intro w hSw; (try dsimp only at hSw); go_simp; try (with_reducible rfl))
    try simp only [Act.put, List.setIfInBounds_toArray, List.set_cons_zero, List.set_cons_succ]
    refine wpAnyH_take (i := 11) (oi := ⟨_, _, _, _, _, _⟩) (v := ?_) rfl (by kernel_rfl) (by kernel_rfl) (by kernel_rfl) (fun _ _ _ h => h) (Or.inl ⟨by rfl, ?_⟩) hHeld ?_
    rotate_left
    · (intro w hSw; (try dsimp only at hSw); go_simp; try (with_reducible rfl))
    try simp only [Act.put, List.setIfInBounds_toArray, List.set_cons_zero, List.set_cons_succ]
    refine wpAnyH_take (i := 12) (oi := ⟨_, _, _, _, _, _⟩) (v := ?_) rfl (by kernel_rfl) (by kernel_rfl) (by kernel_rfl) (fun _ _ _ h => h) (Or.inl ⟨by rfl, ?_⟩) hHeld ?_
    rotate_left
    · (intro w hSw; (try dsimp only at hSw); go_simp; try (with_reducible rfl))
    try simp only [Act.put, List.setIfInBounds_toArray, List.set_cons_zero, List.set_cons_succ]
    refine wpAnyH_take (i := 13) (oi := ⟨_, _, _, _, _, _⟩) (v := undef) rfl (by kernel_rfl) (by kernel_rfl) (by kernel_rfl) (fun _ _ _ h => h) (Or.inr ⟨by rfl, rfl⟩) hHeld ?_
    try simp only [Act.put, List.setIfInBounds_toArray, List.set_cons_zero, List.set_cons_succ]
    refine wpAnyH_take (i := 14) (oi := ⟨_, _, _, _, _, _⟩) (v := undef) rfl (by kernel_rfl) (by kernel_rfl) (by kernel_rfl) (fun _ _ _ h => h) (Or.inr ⟨by rfl, rfl⟩) hHeld ?_
    try simp only [Act.put, List.setIfInBounds_toArray, List.set_cons_zero, List.set_cons_succ]
    refine wpAnyH_take (i := 15) (oi := ⟨_, _, _, _, _, _⟩) (v := undef) rfl (by kernel_rfl) (by kernel_rfl) (by kernel_rfl) (fun _ _ _ h => h) (Or.inr ⟨by rfl, rfl⟩) hHeld ?_
    try simp only [Act.put, List.setIfInBounds_toArray, List.set_cons_zero, List.set_cons_succ]
    refine wpAnyH_take (i := 16) (oi := ⟨_, _, _, _, _, _⟩) (v := undef) rfl (by kernel_rfl) (by kernel_rfl) (by kernel_rfl) (fun _ _ _ h => h) (Or.inr ⟨by rfl, rfl⟩) hHeld ?_
    try simp only [Act.put, List.setIfInBounds_toArray, List.set_cons_zero, List.set_cons_succ]
    refine wpAnyH_take (i := 17) (oi := ⟨_, _, _, _, _, _⟩) (v := undef) rfl (by kernel_rfl) (by kernel_rfl) (by kernel_rfl) (fun _ _ _ h => h) (Or.inr ⟨by rfl, rfl⟩) hHeld ?_
    try simp only [Act.put, List.setIfInBounds_toArray, List.set_cons_zero, List.set_cons_succ]
    refine wpAnyH_take (i := 18) (oi := ⟨_, _, _, _, _, _⟩) (v := undef) rfl (by kernel_rfl) (by kernel_rfl) (by kernel_rfl) (fun _ _ _ h => h) (Or.inr ⟨by rfl, rfl⟩) hHeld ?_
    try simp only [Act.put, List.setIfInBounds_toArray, List.set_cons_zero, List.set_cons_succ]
    refine wpAnyH_take (i := 19) (oi := ⟨_, _, _, _, _, _⟩) (v := undef) rfl (by kernel_rfl) (by kernel_rfl) (by kernel_rfl) (fun _ _ _ h => h) (Or.inr ⟨by rfl, rfl⟩) hHeld ?_
    try simp only [Act.put, List.setIfInBounds_toArray, List.set_cons_zero, List.set_cons_succ]
    refine wpAnyH_take (i := 20) (oi := ⟨_, _, _, _, _, _⟩) (v := undef) rfl (by kernel_rfl) (by kernel_rfl) (by kernel_rfl) (fun _ _ _ h => h) (Or.inr ⟨by rfl, rfl⟩) hHeld ?_
    try simp only [Act.put, List.setIfInBounds_toArray, List.set_cons_zero, List.set_cons_succ]
    refine wpAnyH_take (i := 21) (oi := ⟨_, _, _, _, _, _⟩) (v := undef) rfl (by kernel_rfl) (by kernel_rfl) (by kernel_rfl) (fun _ _ _ h => h) (Or.inr ⟨by rfl, rfl⟩) hHeld ?_
    try simp only [Act.put, List.setIfInBounds_toArray, List.set_cons_zero, List.set_cons_succ]
    refine wpAnyH_take (i := 22) (oi := ⟨_, _, _, _, _, _⟩) (v := undef) rfl (by kernel_rfl) (by kernel_rfl) (by kernel_rfl) (fun _ _ _ h => h) (Or.inr ⟨by rfl, rfl⟩) hHeld ?_
    try simp only [Act.put, List.setIfInBounds_toArray, List.set_cons_zero, List.set_cons_succ]
    refine wpAnyH_take (i := 23) (oi := ⟨_, _, _, _, _, _⟩) (v := undef) rfl (by kernel_rfl) (by kernel_rfl) (by kernel_rfl) (fun _ _ _ h => h) (Or.inr ⟨by rfl, rfl⟩) hHeld ?_
    try simp only [Act.put, List.setIfInBounds_toArray, List.set_cons_zero, List.set_cons_succ]
    refine wpAnyH_take (i := 24) (oi := ⟨_, _, _, _, _, _⟩) (v := undef) rfl (by kernel_rfl) (by kernel_rfl) (by kernel_rfl) (fun _ _ _ h => h) (Or.inr ⟨by rfl, rfl⟩) hHeld ?_
    try simp only [Act.put, List.setIfInBounds_toArray, List.set_cons_zero, List.set_cons_succ]
    refine wpAnyH_take (i := 25) (oi := ⟨_, _, _, _, _, _⟩) (v := undef) rfl (by kernel_rfl) (by kernel_rfl) (by kernel_rfl) (fun _ _ _ h => h) (Or.inr ⟨by rfl, rfl⟩) hHeld ?_
    try simp only [Act.put, List.setIfInBounds_toArray, List.set_cons_zero, List.set_cons_succ]
    refine wpAnyH_take (i := 26) (oi := ⟨_, _, _, _, _, _⟩) (v := undef) rfl (by kernel_rfl) (by kernel_rfl) (by kernel_rfl) (fun _ _ _ h => h) (Or.inr ⟨by rfl, rfl⟩) hHeld ?_
    try simp only [Act.put, List.setIfInBounds_toArray, List.set_cons_zero, List.set_cons_succ]
    refine wpAnyH_take (i := 27) (oi := ⟨_, _, _, _, _, _⟩) (v := undef) rfl (by kernel_rfl) (by kernel_rfl) (by kernel_rfl) (fun _ _ _ h => h) (Or.inr ⟨by rfl, rfl⟩) hHeld ?_
    try simp only [Act.put, List.setIfInBounds_toArray, List.set_cons_zero, List.set_cons_succ]
    refine wpAnyH_take (i := 28) (oi := ⟨_, _, _, _, _, _⟩) (v := undef) rfl (by kernel_rfl) (by kernel_rfl) (by kernel_rfl) (fun _ _ _ h => h) (Or.inr ⟨by rfl, rfl⟩) hHeld ?_
    try simp only [Act.put, List.setIfInBounds_toArray, List.set_cons_zero, List.set_cons_succ]
    refine wpAnyH_take (i := 29) (oi := ⟨_, _, _, _, _, _⟩) (v := undef) rfl (by kernel_rfl) (by kernel_rfl) (by kernel_rfl) (fun _ _ _ h => h) (Or.inr ⟨by rfl, rfl⟩) hHeld ?_
    try simp only [Act.put, List.setIfInBounds_toArray, List.set_cons_zero, List.set_cons_succ]
    refine wpAnyH_take (i := 30) (oi := ⟨_, _, _, _, _, _⟩) (v := undef) rfl (by kernel_rfl) (by kernel_rfl) (by kernel_rfl) (fun _ _ _ h => h) (Or.inr ⟨by rfl, rfl⟩) hHeld ?_
    try simp only [Act.put, List.setIfInBounds_toArray, List.set_cons_zero, List.set_cons_succ]
    refine wpAnyH_take (i := 31) (oi := ⟨_, _, _, _, _, _⟩) (v := undef) rfl (by kernel_rfl) (by kernel_rfl) (by kernel_rfl) (fun _ _ _ h => h) (Or.inr ⟨by rfl, rfl⟩) hHeld ?_
    try simp only [Act.put, List.setIfInBounds_toArray, List.set_cons_zero, List.set_cons_succ]
    refine wpAnyH_take (i := 32) (oi := ⟨_, _, _, _, _, _⟩) (v := undef) rfl (by kernel_rfl) (by kernel_rfl) (by kernel_rfl) (fun _ _ _ h => h) (Or.inr ⟨by rfl, rfl⟩) hHeld ?_
    try simp only [Act.put, List.setIfInBounds_toArray, List.set_cons_zero, List.set_cons_succ]
    refine wpAnyH_take (i := 33) (oi := ⟨_, _, _, _, _, _⟩) (v := undef) rfl (by kernel_rfl) (by kernel_rfl) (by kernel_rfl) (fun _ _ _ h => h) (Or.inr ⟨by rfl, rfl⟩) hHeld ?_
    try simp only [Act.put, List.setIfInBounds_toArray, List.set_cons_zero, List.set_cons_succ]
    refine wpAnyH_take (i := 34) (oi := ⟨_, _, _, _, _, _⟩) (v := undef) rfl (by kernel_rfl) (by kernel_rfl) (by kernel_rfl) (fun _ _ _ h => h) (Or.inr ⟨by rfl, rfl⟩) hHeld ?_
    try simp only [Act.put, List.setIfInBounds_toArray, List.set_cons_zero, List.set_cons_succ]
    refine wpAnyH_take (i := 35) (oi := ⟨_, _, _, _, _, _⟩) (v := undef) rfl (by kernel_rfl) (by kernel_rfl) (by kernel_rfl) (fun _ _ _ h => h) (Or.inr ⟨by rfl, rfl⟩) hHeld ?_
    try simp only [Act.put, List.setIfInBounds_toArray, List.set_cons_zero, List.set_cons_succ]
    refine wpAnyH_take (i := 36) (oi := ⟨_, _, _, _, _, _⟩) (v := undef) rfl (by kernel_rfl) (by kernel_rfl) (by kernel_rfl) (fun _ _ _ h => h) (Or.inr ⟨by rfl, rfl⟩) hHeld ?_
    try simp only [Act.put, List.setIfInBounds_toArray, List.set_cons_zero, List.set_cons_succ]
    refine wpAnyH_take (i := 37) (oi := ⟨_, _, _, _, _, _⟩) (v := undef) rfl (by kernel_rfl) (by kernel_rfl) (by kernel_rfl) (fun _ _ _ h => h) (Or.inr ⟨by rfl, rfl⟩) hHeld ?_
    try simp only [Act.put, List.setIfInBounds_toArray, List.set_cons_zero, List.set_cons_succ]
    refine wpAnyH_take (i := 38) (oi := ⟨_, _, _, _, _, _⟩) (v := undef) rfl (by kernel_rfl) (by kernel_rfl) (by kernel_rfl) (fun _ _ _ h => h) (Or.inr ⟨by rfl, rfl⟩) hHeld ?_
    try simp only [Act.put, List.setIfInBounds_toArray, List.set_cons_zero, List.set_cons_succ]
    refine wpAnyH_take (i := 39) (oi := ⟨_, _, _, _, _, _⟩) (v := undef) rfl (by kernel_rfl) (by kernel_rfl) (by kernel_rfl) (fun _ _ _ h => h) (Or.inr ⟨by rfl, rfl⟩) hHeld ?_
    try simp only [Act.put, List.setIfInBounds_toArray, List.set_cons_zero, List.set_cons_succ]
    refine wpAnyH_take (i := 40) (oi := ⟨_, _, _, _, _, _⟩) (v := ?_) rfl (by kernel_rfl) (by kernel_rfl) (by kernel_rfl) (fun _ _ _ h => h) (Or.inl ⟨by rfl, ?_⟩) hHeld ?_
    rotate_left
    · (intro w hSw; (try dsimp only at hSw); go_simp; try (with_reducible rfl))
    try simp only [Act.put, List.setIfInBounds_toArray, List.set_cons_zero, List.set_cons_succ]
    refine wpAnyH_take (i := 41) (oi := ⟨_, _, _, _, _, _⟩) (v := ?_) rfl (by kernel_rfl) (by kernel_rfl) (by kernel_rfl) (fun _ _ _ h => h) (Or.inl ⟨by rfl, ?_⟩) hHeld ?_
    rotate_left
    · (intro w hSw; (try dsimp only at hSw); go_simp; try (with_reducible rfl))
    try simp only [Act.put, List.setIfInBounds_toArray, List.set_cons_zero, List.set_cons_succ]
    refine wpAnyH_done (by kernel_rfl) ?_ _
    clear hHeld
    clear HH HZB i1 i2 j1 j2
    obtain ⟨wb, hwb⟩ : ∃ x, x = w9 := ⟨_, rfl⟩
    subst hwb
    have r0 := HR.c0
    by_cases hr0 : rc = 0
    · subst hr0
      obtain ⟨R, W, Y, X, rfl, rfl, rfl, rfl, hR6, hW2, hW12, hY, hXW, ⟨n1, n2⟩, hcl, rfl, rfl, hrl, hgc, hcell⟩ := HSF.out rfl
      have HCL := hide hcl
      have HCE := hide hcell
      have HGC := hide hgc
      have HRL := hide hrl
      clear hcl hcell hgc hrl HSF HX
      have hpos : 0 < rs1.length := by rw [HRL.out, HCL.out]; exact Nat.mul_pos (by omega) (by omega)
      go_wp2
      clear r0
      go_loopw [13] (fun i wr => ∃ j : Nat, j ≤ R ∧ i = .int .i64 j ∧ Hid (Below wb.heap.size wb wr)) (fun i _ => R - (intOf i).toNat)
      case atStart => exact ⟨0, Nat.zero_le _, rfl, hide (Below.refl _ _)⟩
      case round =>
        obtain ⟨j, hj, rfl, hbo⟩ := hrel
        have g0 := (HG.below hbo.out).c0
        by_cases hjl : j < R
        · have hjI : (j : Int) < (R : Int) := by omega
          have hjW : j * W + W ≤ cs.length := by
            have h := Nat.mul_le_mul_right W (show j + 1 ≤ R by omega)
            rw [Nat.add_mul, Nat.one_mul, ← HCL.out] at h
            exact h
          go_wp2
          clear g0
          go_loopw [14] (fun i wr => ∃ k : Nat, k ≤ W ∧ i = .int .i64 k ∧ Hid (Below wb.heap.size wb wr)) (fun i _ => W - (intOf i).toNat)
          case atStart => exact ⟨0, Nat.zero_le _, rfl, hbo⟩
          case round =>
            obtain ⟨k, hk, rfl, hbi⟩ := hrel
            clear hbo
            have G := HG.below hbi.out
            obtain ⟨g0, g1, g2, g3⟩ := id G
            by_cases hkl : k < W
            · have hkI : (k : Int) < (W : Int) := by omega
              have LG := l1.below hbi.out
              have RG := HR.below hbi.out
              have MG := m1.below hbi.out
              go_wp2_with fail
              refine (lwCell_calls (R : Int) (W : Int) j k cs _ _ (j * W) (j * W + k) wr LG ⟨_, _, _, rfl⟩ (by rw [Int.natCast_mul]) (by omega) (by omega) (by omega) (by omega)).mono ?_
              rintro e w20 ⟨rfl, hb20⟩
              have hce := HCE.out j k hjl hkl
              generalize hp : cs.getD (j * W + k) (0, 0) = p at *
              obtain ⟨p1, p2⟩ := p
              dsimp only at hce ⊢
              clear hp
              have hb21 := hbi.out.trans (hb20.mono hbi.out.size)
              have hsz20 : wb.heap.size ≤ w20.heap.size := hb21.size
              clear G LG RG MG hb20 g0 g1 g2 g3 hbi
              have HCEE := hide hce
              clear hce
              by_cases hA : j = Y ∧ X ≤ k
              · obtain ⟨rfl, hXk⟩ := hA
                have hjj : ((j : Int) == (j : Int)) = true := by simp
                have hkx : (X : Int) ≤ (k : Int) := by omega
                have hce : rs1.getD (j * W + k) (0, 0) = if (X : Int) ≤ (k : Int) - n ∧ (k : Int) - n < W then cs.getD (j * W + ((k : Int) - n).toNat) (0, 0) else (32, at') := by have h := HCEE.out; rw [if_pos ⟨rfl, hXk⟩] at h; exact h
                by_cases hin : (X : Int) ≤ (k : Int) - n ∧ (k : Int) - n < W
                · rw [if_pos hin] at hce
                  obtain ⟨i1, i2⟩ := hin
                  obtain ⟨u, hu⟩ : ∃ u : Nat, (k : Int) - n = (u : Int) := ⟨((k : Int) - n).toNat, by omega⟩
                  have hB : Below w20.heap.size w20 (w20.alloc (.cells #[.int .i64 32, .int .i64 at'] 38)) := (Below.refl _ _).alloc (Nat.le_refl _) _
                  have T : B2 w20.heap.size 32 at' (w20.alloc (.cells #[.int .i64 32, .int .i64 at'] 38)) := ⟨by simp [go_sem], by simp [go_sem]⟩
                  replace hb21 := hb21.trans (hB.mono hsz20)
                  clear hB
                  obtain ⟨g0, g1, g2, g3⟩ := HG.below hb21
                  have F0 : (w20.alloc (.cells #[.int .i64 32, .int .i64 at'] 38)).frozen? ⟨w20.heap.size, 0, none⟩ = false := by simp [go_sem]
                  have F1 : (w20.alloc (.cells #[.int .i64 32, .int .i64 at'] 38)).frozen? ⟨w20.heap.size, 1, none⟩ = false := by simp [go_sem]
                  have LG := l1.below hb21
                  have HU := hide hu
                  rw [show ((k : Int) - n).toNat = u by omega] at hce
                  have hul : j * W + u < cs.length := by omega
                  clear hu
                  go_wp2_with fail
                  refine (lwCell_calls (R : Int) (W : Int) j ((k : Int) - n) cs _ _ (j * W) (j * W + u) _ LG ⟨_, _, _, rfl⟩ (by rw [Int.natCast_mul]) (by have := HU.out; omega) hul (by omega) (by omega)).mono ?_
                  rintro e w22 ⟨rfl, hb22⟩
                  generalize hp : cs.getD (j * W + u) (0, 0) = p at *
                  obtain ⟨p3, p4⟩ := p
                  dsimp only at hce ⊢
                  clear hp g0 g1 g2 g3 LG
                  replace T := T.below hb22
                  replace F0 := (hb22.frozen (p := ⟨w20.heap.size, 0, none⟩) (by simp)).trans F0
                  replace F1 := (hb22.frozen (p := ⟨w20.heap.size, 1, none⟩) (by simp)).trans F1
                  replace hb21 := hb21.trans (hb22.mono hb21.size)
                  clear hb22
                  obtain ⟨t0, t1⟩ := id T
                  have T2 : B2 w20.heap.size p3 p4 ((w22.setCell ⟨w20.heap.size, 0, none⟩ (.int .i64 p3)).setCell ⟨w20.heap.size, 1, none⟩ (.int .i64 p4)) := by obtain ⟨s0, s1⟩ := res2 (w := w22) (r := w20.heap.size) (.int .i64 p3) (.int .i64 p4) T.c0 T.c1; exact ⟨s0, s1⟩
                  replace hb21 := hb21.trans (show Below wb.heap.size w22 ((w22.setCell ⟨w20.heap.size, 0, none⟩ (.int .i64 p3)).setCell ⟨w20.heap.size, 1, none⟩ (.int .i64 p4)) from ((Below.refl _ _).setCell hsz20 _).setCell hsz20 _)
                  clear T
                  have T := T2
                  clear T2
                  go_wp2_with fail
                  clear t0 t1 F0 F1
                  generalize ((w22.setCell ⟨w20.heap.size, 0, none⟩ (.int .i64 p3)).setCell ⟨w20.heap.size, 1, none⟩ (.int .i64 p4)) = w21 at *
                  obtain ⟨tb, htb⟩ : ∃ b, b = w20.heap.size := ⟨_, rfl⟩
                  rw [← htb] at T ⊢
                  clear htb
                  have RG2 := HR.below hb21
                  have MG2 := m1.below hb21
                  have hnc := neq_cell
                  have hgc := guard_cell
                  refine wp_region_held_drew (S := (fun w' => w'.cell? ⟨rb, 1, none⟩ = some (.int .i64 (R : Int)) ∧ w'.cell? ⟨rb, 2, none⟩ = some (.int .i64 (W : Int)) ∧ w'.cell? ⟨rb, 3, none⟩ = some (.slice a5 rs1.length c5) ∧ w'.cell? ⟨rb, 4, none⟩ = some (.slice a6 rs2.length c6) ∧ w'.cell? ⟨tb, 0, none⟩ = some (.int .i64 p3) ∧ w'.cell? ⟨tb, 1, none⟩ = some (.int .i64 p4))) (by kernel_rfl) ?_ (fun hHeld => ?_)
                  · (try dsimp only); exact ⟨RG2.c1, RG2.c2, RG2.c3, RG2.c4, T.c0, T.c1⟩
                  refine wpAnyH_take (i := 0) (oi := ⟨_, _, _, _, _, _⟩) (v := ?_) rfl (by kernel_rfl) (by kernel_rfl) (by kernel_rfl) (fun _ _ _ h => h) (Or.inl ⟨by rfl, ?_⟩) hHeld ?_
                  rotate_left
                  · (intro w hSw; (try dsimp only at hSw); go_simp; try (with_reducible rfl))
                  try simp only [Act.put, List.setIfInBounds_toArray, List.set_cons_zero, List.set_cons_succ]
                  refine wpAnyH_take (i := 1) (oi := ⟨_, _, _, _, _, _⟩) (v := ?_) rfl (by kernel_rfl) (by kernel_rfl) (by kernel_rfl) (fun _ _ _ h => h) (Or.inl ⟨by rfl, ?_⟩) hHeld ?_
                  rotate_left
                  · (intro w hSw; (try dsimp only at hSw); go_simp; try (with_reducible rfl))
                  try simp only [Act.put, List.setIfInBounds_toArray, List.set_cons_zero, List.set_cons_succ]
                  refine wpAnyH_take (i := 2) (oi := ⟨_, _, _, _, _, _⟩) (v := ?_) rfl (by kernel_rfl) (by kernel_rfl) (by kernel_rfl) (fun _ _ _ h => h) (Or.inl ⟨by rfl, ?_⟩) hHeld ?_
                  rotate_left
                  · (intro w hSw; (try dsimp only at hSw); go_simp; try (with_reducible rfl))
                  try simp only [Act.put, List.setIfInBounds_toArray, List.set_cons_zero, List.set_cons_succ]
                  refine wpAnyH_take (i := 3) (oi := ⟨_, _, _, _, _, _⟩) (v := ?_) rfl (by kernel_rfl) (by kernel_rfl) (by kernel_rfl) (fun _ _ _ h => h) (Or.inl ⟨by rfl, ?_⟩) hHeld ?_
                  rotate_left
                  · (intro w hSw; (try dsimp only at hSw); go_simp; try (with_reducible rfl))
                  try simp only [Act.put, List.setIfInBounds_toArray, List.set_cons_zero, List.set_cons_succ]
                  refine wpAnyH_take (i := 5) (oi := ⟨_, _, _, _, _, _⟩) (v := ?_) rfl (by kernel_rfl) (by kernel_rfl) (by kernel_rfl) (fun _ _ _ h => h) (Or.inl ⟨by rfl, ?_⟩) hHeld ?_
                  rotate_left
                  · (intro w hSw; (try dsimp only at hSw); go_simp; try (with_reducible rfl))
                  try simp only [Act.put, List.setIfInBounds_toArray, List.set_cons_zero, List.set_cons_succ]
                  refine wpAnyH_ready (rs := [4]) (by kernel_rfl) (by simp) ?_
                  refine AllReadyH.cons (o := ⟨_, _, _, _, _, _⟩) rfl (fun K hK => ?_) AllReadyH.nil
                  go_simp
                  go_at_call 14
                  refine (lwCell_calls (R : Int) (W : Int) j k rs1 _ _ (j * W) (j * W + k) w21.drew (MG2.below (show Below w21.heap.size w21 w21.drew from below_drewN (Below.refl _ _) 1)) ⟨_, _, _, rfl⟩ (by rw [Int.natCast_mul]) (by omega) (by have h1 := HRL.out; omega) (by have h1 := HRL.out; omega) (by omega)).mono ?_
                  rintro e w25 ⟨rfl, hb25⟩
                  replace hb25 : Below w21.heap.size w21 w25 := (below_drewN (Below.refl _ _) 1).trans hb25
                  rw [hce]
                  dsimp only
                  replace RG2 := RG2.below hb25
                  replace T := T.below hb25
                  have hb26 := hide (hb21.trans (hb25.mono hb21.size))
                  clear hb25 hb21
                  try go_wp2_with fail
                  refine hK.out _ _ ?_ ?_
                  · (try dsimp only); exact ⟨RG2.c1, RG2.c2, RG2.c3, RG2.c4, T.c0, T.c1⟩
                  clear hHeld hK K
                  intro hHeld
                  try simp only [Act.put, List.setIfInBounds_toArray, List.set_cons_zero, List.set_cons_succ]
                  refine wpAnyH_take (i := 6) (oi := ⟨_, _, _, _, _, _⟩) (v := ?_) rfl (by kernel_rfl) (by kernel_rfl) (by kernel_rfl) (fun _ _ _ h => h) (Or.inl ⟨by rfl, ?_⟩) hHeld ?_
                  rotate_left
                  · (intro w hSw; (try dsimp only at hSw); go_simp; try (with_reducible rfl))
                  try simp only [Act.put, List.setIfInBounds_toArray, List.set_cons_zero, List.set_cons_succ]
                  refine wpAnyH_done (by kernel_rfl) ?_ _
                  clear hHeld hnc hgc
                  go_wp2
                  go_roundw
                  case rel => exact ⟨k + 1, by omega, by go_num, hb26⟩
                  case measure => simp [intOf]; omega
                · rw [if_neg hin] at hce
                  have hin2 : ¬ (X : Int) ≤ (k : Int) - n ∨ ((X : Int) ≤ (k : Int) - n ∧ ¬ (k : Int) - n < (W : Int)) := by omega
                  rcases hin2 with i1 | ⟨i1, i2⟩
                  · skip
                    go_wp2_with fail
                    have hB : Below w20.heap.size w20 (w20.alloc (.cells #[.int .i64 32, .int .i64 at'] 38)) := (Below.refl _ _).alloc (Nat.le_refl _) _
                    have T : B2 w20.heap.size 32 at' (w20.alloc (.cells #[.int .i64 32, .int .i64 at'] 38)) := ⟨by simp [go_sem], by simp [go_sem]⟩
                    replace hb21 := hb21.trans (hB.mono hsz20)
                    clear hB
                    generalize (w20.alloc (.cells #[.int .i64 32, .int .i64 at'] 38)) = w21 at *
                    obtain ⟨tb, htb⟩ : ∃ b, b = w20.heap.size := ⟨_, rfl⟩
                    rw [← htb] at T ⊢
                    clear htb
                    have RG2 := HR.below hb21
                    have MG2 := m1.below hb21
                    have hnc := neq_cell
                    have hgc := guard_cell
                    refine wp_region_held_drew (S := (fun w' => w'.cell? ⟨rb, 1, none⟩ = some (.int .i64 (R : Int)) ∧ w'.cell? ⟨rb, 2, none⟩ = some (.int .i64 (W : Int)) ∧ w'.cell? ⟨rb, 3, none⟩ = some (.slice a5 rs1.length c5) ∧ w'.cell? ⟨rb, 4, none⟩ = some (.slice a6 rs2.length c6) ∧ w'.cell? ⟨tb, 0, none⟩ = some (.int .i64 32) ∧ w'.cell? ⟨tb, 1, none⟩ = some (.int .i64 at'))) (by kernel_rfl) ?_ (fun hHeld => ?_)
                    · (try dsimp only); exact ⟨RG2.c1, RG2.c2, RG2.c3, RG2.c4, T.c0, T.c1⟩
                    refine wpAnyH_take (i := 0) (oi := ⟨_, _, _, _, _, _⟩) (v := ?_) rfl (by kernel_rfl) (by kernel_rfl) (by kernel_rfl) (fun _ _ _ h => h) (Or.inl ⟨by rfl, ?_⟩) hHeld ?_
                    rotate_left
                    · (intro w hSw; (try dsimp only at hSw); go_simp; try (with_reducible rfl))
                    try simp only [Act.put, List.setIfInBounds_toArray, List.set_cons_zero, List.set_cons_succ]
                    refine wpAnyH_take (i := 1) (oi := ⟨_, _, _, _, _, _⟩) (v := ?_) rfl (by kernel_rfl) (by kernel_rfl) (by kernel_rfl) (fun _ _ _ h => h) (Or.inl ⟨by rfl, ?_⟩) hHeld ?_
                    rotate_left
                    · (intro w hSw; (try dsimp only at hSw); go_simp; try (with_reducible rfl))
                    try simp only [Act.put, List.setIfInBounds_toArray, List.set_cons_zero, List.set_cons_succ]
                    refine wpAnyH_take (i := 2) (oi := ⟨_, _, _, _, _, _⟩) (v := ?_) rfl (by kernel_rfl) (by kernel_rfl) (by kernel_rfl) (fun _ _ _ h => h) (Or.inl ⟨by rfl, ?_⟩) hHeld ?_
                    rotate_left
                    · (intro w hSw; (try dsimp only at hSw); go_simp; try (with_reducible rfl))
                    try simp only [Act.put, List.setIfInBounds_toArray, List.set_cons_zero, List.set_cons_succ]
                    refine wpAnyH_take (i := 3) (oi := ⟨_, _, _, _, _, _⟩) (v := ?_) rfl (by kernel_rfl) (by kernel_rfl) (by kernel_rfl) (fun _ _ _ h => h) (Or.inl ⟨by rfl, ?_⟩) hHeld ?_
                    rotate_left
                    · (intro w hSw; (try dsimp only at hSw); go_simp; try (with_reducible rfl))
                    try simp only [Act.put, List.setIfInBounds_toArray, List.set_cons_zero, List.set_cons_succ]
                    refine wpAnyH_take (i := 5) (oi := ⟨_, _, _, _, _, _⟩) (v := ?_) rfl (by kernel_rfl) (by kernel_rfl) (by kernel_rfl) (fun _ _ _ h => h) (Or.inl ⟨by rfl, ?_⟩) hHeld ?_
                    rotate_left
                    · (intro w hSw; (try dsimp only at hSw); go_simp; try (with_reducible rfl))
                    try simp only [Act.put, List.setIfInBounds_toArray, List.set_cons_zero, List.set_cons_succ]
                    refine wpAnyH_ready (rs := [4]) (by kernel_rfl) (by simp) ?_
                    refine AllReadyH.cons (o := ⟨_, _, _, _, _, _⟩) rfl (fun K hK => ?_) AllReadyH.nil
                    go_simp
                    go_at_call 14
                    refine (lwCell_calls (R : Int) (W : Int) j k rs1 _ _ (j * W) (j * W + k) w21.drew (MG2.below (show Below w21.heap.size w21 w21.drew from below_drewN (Below.refl _ _) 1)) ⟨_, _, _, rfl⟩ (by rw [Int.natCast_mul]) (by omega) (by have h1 := HRL.out; omega) (by have h1 := HRL.out; omega) (by omega)).mono ?_
                    rintro e w25 ⟨rfl, hb25⟩
                    replace hb25 : Below w21.heap.size w21 w25 := (below_drewN (Below.refl _ _) 1).trans hb25
                    rw [hce]
                    dsimp only
                    replace RG2 := RG2.below hb25
                    replace T := T.below hb25
                    have hb26 := hide (hb21.trans (hb25.mono hb21.size))
                    clear hb25 hb21
                    try go_wp2_with fail
                    refine hK.out _ _ ?_ ?_
                    · (try dsimp only); exact ⟨RG2.c1, RG2.c2, RG2.c3, RG2.c4, T.c0, T.c1⟩
                    clear hHeld hK K
                    intro hHeld
                    try simp only [Act.put, List.setIfInBounds_toArray, List.set_cons_zero, List.set_cons_succ]
                    refine wpAnyH_take (i := 6) (oi := ⟨_, _, _, _, _, _⟩) (v := ?_) rfl (by kernel_rfl) (by kernel_rfl) (by kernel_rfl) (fun _ _ _ h => h) (Or.inl ⟨by rfl, ?_⟩) hHeld ?_
                    rotate_left
                    · (intro w hSw; (try dsimp only at hSw); go_simp; try (with_reducible rfl))
                    try simp only [Act.put, List.setIfInBounds_toArray, List.set_cons_zero, List.set_cons_succ]
                    refine wpAnyH_done (by kernel_rfl) ?_ _
                    clear hHeld hnc hgc
                    go_wp2
                    go_roundw
                    case rel => exact ⟨k + 1, by omega, by go_num, hb26⟩
                    case measure => simp [intOf]; omega
                  · skip
                    have hB : Below w20.heap.size w20 (w20.alloc (.cells #[.int .i64 32, .int .i64 at'] 38)) := (Below.refl _ _).alloc (Nat.le_refl _) _
                    have T : B2 w20.heap.size 32 at' (w20.alloc (.cells #[.int .i64 32, .int .i64 at'] 38)) := ⟨by simp [go_sem], by simp [go_sem]⟩
                    replace hb21 := hb21.trans (hB.mono hsz20)
                    clear hB
                    have g1 := (HG.below hb21).c1
                    go_wp2_with fail
                    clear g1
                    generalize (w20.alloc (.cells #[.int .i64 32, .int .i64 at'] 38)) = w21 at *
                    obtain ⟨tb, htb⟩ : ∃ b, b = w20.heap.size := ⟨_, rfl⟩
                    rw [← htb] at T ⊢
                    clear htb
                    have RG2 := HR.below hb21
                    have MG2 := m1.below hb21
                    have hnc := neq_cell
                    have hgc := guard_cell
                    refine wp_region_held_drew (S := (fun w' => w'.cell? ⟨rb, 1, none⟩ = some (.int .i64 (R : Int)) ∧ w'.cell? ⟨rb, 2, none⟩ = some (.int .i64 (W : Int)) ∧ w'.cell? ⟨rb, 3, none⟩ = some (.slice a5 rs1.length c5) ∧ w'.cell? ⟨rb, 4, none⟩ = some (.slice a6 rs2.length c6) ∧ w'.cell? ⟨tb, 0, none⟩ = some (.int .i64 32) ∧ w'.cell? ⟨tb, 1, none⟩ = some (.int .i64 at'))) (by kernel_rfl) ?_ (fun hHeld => ?_)
                    · (try dsimp only); exact ⟨RG2.c1, RG2.c2, RG2.c3, RG2.c4, T.c0, T.c1⟩
                    refine wpAnyH_take (i := 0) (oi := ⟨_, _, _, _, _, _⟩) (v := ?_) rfl (by kernel_rfl) (by kernel_rfl) (by kernel_rfl) (fun _ _ _ h => h) (Or.inl ⟨by rfl, ?_⟩) hHeld ?_
                    rotate_left
                    · (intro w hSw; (try dsimp only at hSw); go_simp; try (with_reducible rfl))
                    try simp only [Act.put, List.setIfInBounds_toArray, List.set_cons_zero, List.set_cons_succ]
                    refine wpAnyH_take (i := 1) (oi := ⟨_, _, _, _, _, _⟩) (v := ?_) rfl (by kernel_rfl) (by kernel_rfl) (by kernel_rfl) (fun _ _ _ h => h) (Or.inl ⟨by rfl, ?_⟩) hHeld ?_
                    rotate_left
                    · (intro w hSw; (try dsimp only at hSw); go_simp; try (with_reducible rfl))
                    try simp only [Act.put, List.setIfInBounds_toArray, List.set_cons_zero, List.set_cons_succ]
                    refine wpAnyH_take (i := 2) (oi := ⟨_, _, _, _, _, _⟩) (v := ?_) rfl (by kernel_rfl) (by kernel_rfl) (by kernel_rfl) (fun _ _ _ h => h) (Or.inl ⟨by rfl, ?_⟩) hHeld ?_
                    rotate_left
                    · (intro w hSw; (try dsimp only at hSw); go_simp; try (with_reducible rfl))
                    try simp only [Act.put, List.setIfInBounds_toArray, List.set_cons_zero, List.set_cons_succ]
                    refine wpAnyH_take (i := 3) (oi := ⟨_, _, _, _, _, _⟩) (v := ?_) rfl (by kernel_rfl) (by kernel_rfl) (by kernel_rfl) (fun _ _ _ h => h) (Or.inl ⟨by rfl, ?_⟩) hHeld ?_
                    rotate_left
                    · (intro w hSw; (try dsimp only at hSw); go_simp; try (with_reducible rfl))
                    try simp only [Act.put, List.setIfInBounds_toArray, List.set_cons_zero, List.set_cons_succ]
                    refine wpAnyH_take (i := 5) (oi := ⟨_, _, _, _, _, _⟩) (v := ?_) rfl (by kernel_rfl) (by kernel_rfl) (by kernel_rfl) (fun _ _ _ h => h) (Or.inl ⟨by rfl, ?_⟩) hHeld ?_
                    rotate_left
                    · (intro w hSw; (try dsimp only at hSw); go_simp; try (with_reducible rfl))
                    try simp only [Act.put, List.setIfInBounds_toArray, List.set_cons_zero, List.set_cons_succ]
                    refine wpAnyH_ready (rs := [4]) (by kernel_rfl) (by simp) ?_
                    refine AllReadyH.cons (o := ⟨_, _, _, _, _, _⟩) rfl (fun K hK => ?_) AllReadyH.nil
                    go_simp
                    go_at_call 14
                    refine (lwCell_calls (R : Int) (W : Int) j k rs1 _ _ (j * W) (j * W + k) w21.drew (MG2.below (show Below w21.heap.size w21 w21.drew from below_drewN (Below.refl _ _) 1)) ⟨_, _, _, rfl⟩ (by rw [Int.natCast_mul]) (by omega) (by have h1 := HRL.out; omega) (by have h1 := HRL.out; omega) (by omega)).mono ?_
                    rintro e w25 ⟨rfl, hb25⟩
                    replace hb25 : Below w21.heap.size w21 w25 := (below_drewN (Below.refl _ _) 1).trans hb25
                    rw [hce]
                    dsimp only
                    replace RG2 := RG2.below hb25
                    replace T := T.below hb25
                    have hb26 := hide (hb21.trans (hb25.mono hb21.size))
                    clear hb25 hb21
                    try go_wp2_with fail
                    refine hK.out _ _ ?_ ?_
                    · (try dsimp only); exact ⟨RG2.c1, RG2.c2, RG2.c3, RG2.c4, T.c0, T.c1⟩
                    clear hHeld hK K
                    intro hHeld
                    try simp only [Act.put, List.setIfInBounds_toArray, List.set_cons_zero, List.set_cons_succ]
                    refine wpAnyH_take (i := 6) (oi := ⟨_, _, _, _, _, _⟩) (v := ?_) rfl (by kernel_rfl) (by kernel_rfl) (by kernel_rfl) (fun _ _ _ h => h) (Or.inl ⟨by rfl, ?_⟩) hHeld ?_
                    rotate_left
                    · (intro w hSw; (try dsimp only at hSw); go_simp; try (with_reducible rfl))
                    try simp only [Act.put, List.setIfInBounds_toArray, List.set_cons_zero, List.set_cons_succ]
                    refine wpAnyH_done (by kernel_rfl) ?_ _
                    clear hHeld hnc hgc
                    go_wp2
                    go_roundw
                    case rel => exact ⟨k + 1, by omega, by go_num, hb26⟩
                    case measure => simp [intOf]; omega
              · have hce : rs1.getD (j * W + k) (0, 0) = (p1, p2) := by have h := HCEE.out; rw [if_neg hA] at h; exact h
                by_cases hjy : j = Y
                · subst hjy
                  have hjj : ((j : Int) == (j : Int)) = true := by simp
                  have hkx : ¬ (X : Int) ≤ (k : Int) := by omega
                  go_wp2_with fail
                  have hB : Below w20.heap.size w20 (w20.alloc (.cells #[.int .i64 p1, .int .i64 p2] 38)) := (Below.refl _ _).alloc (Nat.le_refl _) _
                  have T : B2 w20.heap.size p1 p2 (w20.alloc (.cells #[.int .i64 p1, .int .i64 p2] 38)) := ⟨by simp [go_sem], by simp [go_sem]⟩
                  replace hb21 := hb21.trans (hB.mono hsz20)
                  clear hB
                  generalize (w20.alloc (.cells #[.int .i64 p1, .int .i64 p2] 38)) = w21 at *
                  obtain ⟨tb, htb⟩ : ∃ b, b = w20.heap.size := ⟨_, rfl⟩
                  rw [← htb] at T ⊢
                  clear htb
                  have RG2 := HR.below hb21
                  have MG2 := m1.below hb21
                  have hnc := neq_cell
                  have hgc := guard_cell
                  refine wp_region_held_drew (S := (fun w' => w'.cell? ⟨rb, 1, none⟩ = some (.int .i64 (R : Int)) ∧ w'.cell? ⟨rb, 2, none⟩ = some (.int .i64 (W : Int)) ∧ w'.cell? ⟨rb, 3, none⟩ = some (.slice a5 rs1.length c5) ∧ w'.cell? ⟨rb, 4, none⟩ = some (.slice a6 rs2.length c6) ∧ w'.cell? ⟨tb, 0, none⟩ = some (.int .i64 p1) ∧ w'.cell? ⟨tb, 1, none⟩ = some (.int .i64 p2))) (by kernel_rfl) ?_ (fun hHeld => ?_)
                  · (try dsimp only); exact ⟨RG2.c1, RG2.c2, RG2.c3, RG2.c4, T.c0, T.c1⟩
                  refine wpAnyH_take (i := 0) (oi := ⟨_, _, _, _, _, _⟩) (v := ?_) rfl (by kernel_rfl) (by kernel_rfl) (by kernel_rfl) (fun _ _ _ h => h) (Or.inl ⟨by rfl, ?_⟩) hHeld ?_
                  rotate_left
                  · (intro w hSw; (try dsimp only at hSw); go_simp; try (with_reducible rfl))
                  try simp only [Act.put, List.setIfInBounds_toArray, List.set_cons_zero, List.set_cons_succ]
                  refine wpAnyH_take (i := 1) (oi := ⟨_, _, _, _, _, _⟩) (v := ?_) rfl (by kernel_rfl) (by kernel_rfl) (by kernel_rfl) (fun _ _ _ h => h) (Or.inl ⟨by rfl, ?_⟩) hHeld ?_
                  rotate_left
                  · (intro w hSw; (try dsimp only at hSw); go_simp; try (with_reducible rfl))
                  try simp only [Act.put, List.setIfInBounds_toArray, List.set_cons_zero, List.set_cons_succ]
                  refine wpAnyH_take (i := 2) (oi := ⟨_, _, _, _, _, _⟩) (v := ?_) rfl (by kernel_rfl) (by kernel_rfl) (by kernel_rfl) (fun _ _ _ h => h) (Or.inl ⟨by rfl, ?_⟩) hHeld ?_
                  rotate_left
                  · (intro w hSw; (try dsimp only at hSw); go_simp; try (with_reducible rfl))
                  try simp only [Act.put, List.setIfInBounds_toArray, List.set_cons_zero, List.set_cons_succ]
                  refine wpAnyH_take (i := 3) (oi := ⟨_, _, _, _, _, _⟩) (v := ?_) rfl (by kernel_rfl) (by kernel_rfl) (by kernel_rfl) (fun _ _ _ h => h) (Or.inl ⟨by rfl, ?_⟩) hHeld ?_
                  rotate_left
                  · (intro w hSw; (try dsimp only at hSw); go_simp; try (with_reducible rfl))
                  try simp only [Act.put, List.setIfInBounds_toArray, List.set_cons_zero, List.set_cons_succ]
                  refine wpAnyH_take (i := 5) (oi := ⟨_, _, _, _, _, _⟩) (v := ?_) rfl (by kernel_rfl) (by kernel_rfl) (by kernel_rfl) (fun _ _ _ h => h) (Or.inl ⟨by rfl, ?_⟩) hHeld ?_
                  rotate_left
                  · (intro w hSw; (try dsimp only at hSw); go_simp; try (with_reducible rfl))
                  try simp only [Act.put, List.setIfInBounds_toArray, List.set_cons_zero, List.set_cons_succ]
                  refine wpAnyH_ready (rs := [4]) (by kernel_rfl) (by simp) ?_
                  refine AllReadyH.cons (o := ⟨_, _, _, _, _, _⟩) rfl (fun K hK => ?_) AllReadyH.nil
                  go_simp
                  go_at_call 14
                  refine (lwCell_calls (R : Int) (W : Int) j k rs1 _ _ (j * W) (j * W + k) w21.drew (MG2.below (show Below w21.heap.size w21 w21.drew from below_drewN (Below.refl _ _) 1)) ⟨_, _, _, rfl⟩ (by rw [Int.natCast_mul]) (by omega) (by have h1 := HRL.out; omega) (by have h1 := HRL.out; omega) (by omega)).mono ?_
                  rintro e w25 ⟨rfl, hb25⟩
                  replace hb25 : Below w21.heap.size w21 w25 := (below_drewN (Below.refl _ _) 1).trans hb25
                  rw [hce]
                  dsimp only
                  replace RG2 := RG2.below hb25
                  replace T := T.below hb25
                  have hb26 := hide (hb21.trans (hb25.mono hb21.size))
                  clear hb25 hb21
                  try go_wp2_with fail
                  refine hK.out _ _ ?_ ?_
                  · (try dsimp only); exact ⟨RG2.c1, RG2.c2, RG2.c3, RG2.c4, T.c0, T.c1⟩
                  clear hHeld hK K
                  intro hHeld
                  try simp only [Act.put, List.setIfInBounds_toArray, List.set_cons_zero, List.set_cons_succ]
                  refine wpAnyH_take (i := 6) (oi := ⟨_, _, _, _, _, _⟩) (v := ?_) rfl (by kernel_rfl) (by kernel_rfl) (by kernel_rfl) (fun _ _ _ h => h) (Or.inl ⟨by rfl, ?_⟩) hHeld ?_
                  rotate_left
                  · (intro w hSw; (try dsimp only at hSw); go_simp; try (with_reducible rfl))
                  try simp only [Act.put, List.setIfInBounds_toArray, List.set_cons_zero, List.set_cons_succ]
                  refine wpAnyH_done (by kernel_rfl) ?_ _
                  clear hHeld hnc hgc
                  go_wp2
                  go_roundw
                  case rel => exact ⟨k + 1, by omega, by go_num, hb26⟩
                  case measure => simp [intOf]; omega
                · have hjj : ((j : Int) == (Y : Int)) = false := by rw [beq_eq_false_iff_ne]; omega
                  go_wp2_with fail
                  have hB : Below w20.heap.size w20 (w20.alloc (.cells #[.int .i64 p1, .int .i64 p2] 38)) := (Below.refl _ _).alloc (Nat.le_refl _) _
                  have T : B2 w20.heap.size p1 p2 (w20.alloc (.cells #[.int .i64 p1, .int .i64 p2] 38)) := ⟨by simp [go_sem], by simp [go_sem]⟩
                  replace hb21 := hb21.trans (hB.mono hsz20)
                  clear hB
                  generalize (w20.alloc (.cells #[.int .i64 p1, .int .i64 p2] 38)) = w21 at *
                  obtain ⟨tb, htb⟩ : ∃ b, b = w20.heap.size := ⟨_, rfl⟩
                  rw [← htb] at T ⊢
                  clear htb
                  have RG2 := HR.below hb21
                  have MG2 := m1.below hb21
                  have hnc := neq_cell
                  have hgc := guard_cell
                  refine wp_region_held_drew (S := (fun w' => w'.cell? ⟨rb, 1, none⟩ = some (.int .i64 (R : Int)) ∧ w'.cell? ⟨rb, 2, none⟩ = some (.int .i64 (W : Int)) ∧ w'.cell? ⟨rb, 3, none⟩ = some (.slice a5 rs1.length c5) ∧ w'.cell? ⟨rb, 4, none⟩ = some (.slice a6 rs2.length c6) ∧ w'.cell? ⟨tb, 0, none⟩ = some (.int .i64 p1) ∧ w'.cell? ⟨tb, 1, none⟩ = some (.int .i64 p2))) (by kernel_rfl) ?_ (fun hHeld => ?_)
                  · (try dsimp only); exact ⟨RG2.c1, RG2.c2, RG2.c3, RG2.c4, T.c0, T.c1⟩
                  refine wpAnyH_take (i := 0) (oi := ⟨_, _, _, _, _, _⟩) (v := ?_) rfl (by kernel_rfl) (by kernel_rfl) (by kernel_rfl) (fun _ _ _ h => h) (Or.inl ⟨by rfl, ?_⟩) hHeld ?_
                  rotate_left
                  · (intro w hSw; (try dsimp only at hSw); go_simp; try (with_reducible rfl))
                  try simp only [Act.put, List.setIfInBounds_toArray, List.set_cons_zero, List.set_cons_succ]
                  refine wpAnyH_take (i := 1) (oi := ⟨_, _, _, _, _, _⟩) (v := ?_) rfl (by kernel_rfl) (by kernel_rfl) (by kernel_rfl) (fun _ _ _ h => h) (Or.inl ⟨by rfl, ?_⟩) hHeld ?_
                  rotate_left
                  · (intro w hSw; (try dsimp only at hSw); go_simp; try (with_reducible rfl))
                  try simp only [Act.put, List.setIfInBounds_toArray, List.set_cons_zero, List.set_cons_succ]
                  refine wpAnyH_take (i := 2) (oi := ⟨_, _, _, _, _, _⟩) (v := ?_) rfl (by kernel_rfl) (by kernel_rfl) (by kernel_rfl) (fun _ _ _ h => h) (Or.inl ⟨by rfl, ?_⟩) hHeld ?_
                  rotate_left
                  · (intro w hSw; (try dsimp only at hSw); go_simp; try (with_reducible rfl))
                  try simp only [Act.put, List.setIfInBounds_toArray, List.set_cons_zero, List.set_cons_succ]
                  refine wpAnyH_take (i := 3) (oi := ⟨_, _, _, _, _, _⟩) (v := ?_) rfl (by kernel_rfl) (by kernel_rfl) (by kernel_rfl) (fun _ _ _ h => h) (Or.inl ⟨by rfl, ?_⟩) hHeld ?_
                  rotate_left
                  · (intro w hSw; (try dsimp only at hSw); go_simp; try (with_reducible rfl))
                  try simp only [Act.put, List.setIfInBounds_toArray, List.set_cons_zero, List.set_cons_succ]
                  refine wpAnyH_take (i := 5) (oi := ⟨_, _, _, _, _, _⟩) (v := ?_) rfl (by kernel_rfl) (by kernel_rfl) (by kernel_rfl) (fun _ _ _ h => h) (Or.inl ⟨by rfl, ?_⟩) hHeld ?_
                  rotate_left
                  · (intro w hSw; (try dsimp only at hSw); go_simp; try (with_reducible rfl))
                  try simp only [Act.put, List.setIfInBounds_toArray, List.set_cons_zero, List.set_cons_succ]
                  refine wpAnyH_ready (rs := [4]) (by kernel_rfl) (by simp) ?_
                  refine AllReadyH.cons (o := ⟨_, _, _, _, _, _⟩) rfl (fun K hK => ?_) AllReadyH.nil
                  go_simp
                  go_at_call 14
                  refine (lwCell_calls (R : Int) (W : Int) j k rs1 _ _ (j * W) (j * W + k) w21.drew (MG2.below (show Below w21.heap.size w21 w21.drew from below_drewN (Below.refl _ _) 1)) ⟨_, _, _, rfl⟩ (by rw [Int.natCast_mul]) (by omega) (by have h1 := HRL.out; omega) (by have h1 := HRL.out; omega) (by omega)).mono ?_
                  rintro e w25 ⟨rfl, hb25⟩
                  replace hb25 : Below w21.heap.size w21 w25 := (below_drewN (Below.refl _ _) 1).trans hb25
                  rw [hce]
                  dsimp only
                  replace RG2 := RG2.below hb25
                  replace T := T.below hb25
                  have hb26 := hide (hb21.trans (hb25.mono hb21.size))
                  clear hb25 hb21
                  try go_wp2_with fail
                  refine hK.out _ _ ?_ ?_
                  · (try dsimp only); exact ⟨RG2.c1, RG2.c2, RG2.c3, RG2.c4, T.c0, T.c1⟩
                  clear hHeld hK K
                  intro hHeld
                  try simp only [Act.put, List.setIfInBounds_toArray, List.set_cons_zero, List.set_cons_succ]
                  refine wpAnyH_take (i := 6) (oi := ⟨_, _, _, _, _, _⟩) (v := ?_) rfl (by kernel_rfl) (by kernel_rfl) (by kernel_rfl) (fun _ _ _ h => h) (Or.inl ⟨by rfl, ?_⟩) hHeld ?_
                  rotate_left
                  · (intro w hSw; (try dsimp only at hSw); go_simp; try (with_reducible rfl))
                  try simp only [Act.put, List.setIfInBounds_toArray, List.set_cons_zero, List.set_cons_succ]
                  refine wpAnyH_done (by kernel_rfl) ?_ _
                  clear hHeld hnc hgc
                  go_wp2
                  go_roundw
                  case rel => exact ⟨k + 1, by omega, by go_num, hb26⟩
                  case measure => simp [intOf]; omega
            · obtain rfl : k = W := by omega
              have hge : ¬ ((k : Int) < (k : Int)) := by omega
              clear G g0 g2 g3
              go_wp2
              go_roundw
              case rel => exact ⟨j + 1, by omega, by go_num, hbi⟩
              case measure => simp [intOf]; omega
        · obtain rfl : j = R := by omega
          have hge : ¬ ((j : Int) < (j : Int)) := by omega
          have RG := HR.below hbo.out
          have M1 := m1.below hbo.out
          have M2 := m2.below hbo.out
          have qq : Below w.heap.size w wr := q9.trans (hbo.out.mono q9.size)
          go_wp2_with fail
          refine (drawNew_calls zs a cap wr (hv.below qq) HZ.out hlen).mono ?_
          rintro e w30 ⟨nr, nw, rfl, hb30⟩
          replace RG := RG.below hb30
          replace M1 := M1.below hb30
          replace M2 := M2.below hb30
          replace qq := qq.trans (hb30.mono qq.size)
          obtain ⟨r0, r1, r2', r3, r4⟩ := id RG
          clear hb30 g0
          go_wp2_with fail
          refine (implGridFault_calls (j : Int) (W : Int) rs1 rs2 _ _ w30 (by omega) (by omega) M1 M2).mono ?_
          rintro e w31 ⟨rfl, hb31⟩
          rw [HGC.out]
          replace RG := RG.below hb31
          replace qq := qq.trans (hb31.mono qq.size)
          clear hb31 M1 M2 r0 r1 r2' r3 r4
          go_wp2_with fail
          refine (implNewGrid_calls nr nw w31).mono ?_
          rintro e w32 ⟨x1, x2, rfl, ho1, hb32⟩
          obtain ⟨b1, d1, b2, d2, rfl, rfl⟩ := ho1.forms
          replace RG := RG.below hb32
          replace qq := qq.trans (hb32.mono qq.size)
          clear hb32 ho1
          go_wp2_with fail
          refine (specNewGrid_calls nr nw w32).mono ?_
          rintro e w33 ⟨x1, x2, rfl, ho1, hb33⟩
          obtain ⟨b3, d3, b4, d4, rfl, rfl⟩ := ho1.forms
          replace RG := RG.below hb33
          replace qq := qq.trans (hb33.mono qq.size)
          obtain ⟨r0, r1, r2', r3, r4⟩ := id RG
          have hlp : (0 : Int) < (rs1.length : Int) := by omega
          clear hb33 ho1
          go_wp2
          go_ret
          exact ⟨rfl, qq⟩
    · have hrb : (rc == 0) = false := by rw [beq_eq_false_iff_ne]; exact hr0
      go_wp2_with fail
      clear r0
      refine wp_region_held_drew (S := (fun w' => w'.cell? ⟨gb, 0, none⟩ = some (.int .i64 r) ∧ w'.cell? ⟨gb, 1, none⟩ = some (.int .i64 wd) ∧ w'.cell? ⟨gb, 2, none⟩ = some (.slice a1 cs.length c1) ∧ w'.cell? ⟨gb, 3, none⟩ = some (.slice a2 bs.length c2) ∧ w'.cell? ⟨rb, 0, none⟩ = some (.int .i64 rc))) (by kernel_rfl) ?_ (fun hHeld => ?_)
      · (try dsimp only); exact ⟨HG.c0, HG.c1, HG.c2, HG.c3, HR.c0⟩
      refine wpAnyH_take (i := 0) (oi := ⟨_, _, _, _, _, _⟩) (v := ?_) rfl (by kernel_rfl) (by kernel_rfl) (by kernel_rfl) (fun _ _ _ h => h) (Or.inl ⟨by rfl, ?_⟩) hHeld ?_
      rotate_left
      · (intro w hSw; (try dsimp only at hSw); go_simp; try (with_reducible rfl))
      try simp only [Act.put, List.setIfInBounds_toArray, List.set_cons_zero, List.set_cons_succ]
      refine wpAnyH_take (i := 1) (oi := ⟨_, _, _, _, _, _⟩) (v := ?_) rfl (by kernel_rfl) (by kernel_rfl) (by kernel_rfl) (fun _ _ _ h => h) (Or.inl ⟨by rfl, ?_⟩) hHeld ?_
      rotate_left
      · (intro w hSw; (try dsimp only at hSw); go_simp; try (with_reducible rfl))
      try simp only [Act.put, List.setIfInBounds_toArray, List.set_cons_zero, List.set_cons_succ]
      refine wpAnyH_take (i := 2) (oi := ⟨_, _, _, _, _, _⟩) (v := ?_) rfl (by kernel_rfl) (by kernel_rfl) (by kernel_rfl) (fun _ _ _ h => h) (Or.inl ⟨by rfl, ?_⟩) hHeld ?_
      rotate_left
      · (intro w hSw; (try dsimp only at hSw); go_simp; try (with_reducible rfl))
      try simp only [Act.put, List.setIfInBounds_toArray, List.set_cons_zero, List.set_cons_succ]
      refine wpAnyH_take (i := 3) (oi := ⟨_, _, _, _, _, _⟩) (v := ?_) rfl (by kernel_rfl) (by kernel_rfl) (by kernel_rfl) (fun _ _ _ h => h) (Or.inl ⟨by rfl, ?_⟩) hHeld ?_
      rotate_left
      · (intro w hSw; (try dsimp only at hSw); go_simp; try (with_reducible rfl))
      try simp only [Act.put, List.setIfInBounds_toArray, List.set_cons_zero, List.set_cons_succ]
      refine wpAnyH_take (i := 4) (oi := ⟨_, _, _, _, _, _⟩) (v := ?_) rfl (by kernel_rfl) (by kernel_rfl) (by kernel_rfl) (fun _ _ _ h => h) (Or.inl ⟨by rfl, ?_⟩) hHeld ?_
      rotate_left
      · (intro w hSw; (try dsimp only at hSw); go_simp; try (with_reducible rfl))
      try simp only [Act.put, List.setIfInBounds_toArray, List.set_cons_zero, List.set_cons_succ]
      refine wpAnyH_take (i := 7) (oi := ⟨_, _, _, _, _, _⟩) (v := ?_) rfl (by kernel_rfl) (by kernel_rfl) (by kernel_rfl) (fun _ _ _ h => h) (Or.inl ⟨by rfl, ?_⟩) hHeld ?_
      rotate_left
      · (intro w hSw; (try dsimp only at hSw); go_simp; try (with_reducible rfl))
      try simp only [Act.put, List.setIfInBounds_toArray, List.set_cons_zero, List.set_cons_succ]
      refine wpAnyH_take (i := 8) (oi := ⟨_, _, _, _, _, _⟩) (v := ?_) rfl (by kernel_rfl) (by kernel_rfl) (by kernel_rfl) (fun _ _ _ h => h) (Or.inl ⟨by rfl, ?_⟩) hHeld ?_
      rotate_left
      · (intro w hSw; (try dsimp only at hSw); go_simp; try (with_reducible rfl))
      try simp only [Act.put, List.setIfInBounds_toArray, List.set_cons_zero, List.set_cons_succ]
      refine wpAnyH_ready (rs := [5]) (by kernel_rfl) (by simp) ?_
      refine AllReadyH.cons (o := ⟨_, _, _, _, _, _⟩) rfl (fun K hK => ?_) AllReadyH.nil
      go_simp
      go_at_call 13
      refine (specShiftCells_calls r wd cs bs y x n at' _ _ wb.drew (by omega) (by omega) (l1.below (show Below wb.heap.size wb wb.drew from below_drewN (Below.refl _ _) 1)) (l2.below (show Below wb.heap.size wb wb.drew from below_drewN (Below.refl _ _) 1))).mono ?_
      rintro e w20 ⟨v5, v6, rfl, ho, hb20⟩
      replace hb20 : Below wb.heap.size wb w20 := (below_drewN (Below.refl _ _) 1).trans hb20
      rw [HX.out] at ho ⊢
      dsimp only at ho ⊢
      obtain ⟨b5, d5, b6, d6, rfl, rfl⟩ := ho.forms
      replace HG := HG.below hb20
      replace HR := HR.below hb20
      have qq := q9.trans (hb20.mono q9.size)
      clear ho hb20
      try go_wp2_with fail
      refine hK.out _ _ ?_ ?_
      · (try dsimp only); exact ⟨HG.c0, HG.c1, HG.c2, HG.c3, HR.c0⟩
      clear hHeld hK K
      intro hHeld
      try simp only [Act.put, List.setIfInBounds_toArray, List.set_cons_zero, List.set_cons_succ]
      refine wpAnyH_take (i := 6) (oi := ⟨_, _, _, _, _, _⟩) (v := ?_) rfl (by kernel_rfl) (by kernel_rfl) (by kernel_rfl) (fun _ _ _ h => h) (Or.inl ⟨by rfl, ?_⟩) hHeld ?_
      rotate_left
      · (intro w hSw; (try dsimp only at hSw); go_simp; try (with_reducible rfl))
      try simp only [Act.put, List.setIfInBounds_toArray, List.set_cons_zero, List.set_cons_succ]
      refine wpAnyH_take (i := 9) (oi := ⟨_, _, _, _, _, _⟩) (v := ?_) rfl (by kernel_rfl) (by kernel_rfl) (by kernel_rfl) (fun _ _ _ h => h) (Or.inl ⟨by rfl, ?_⟩) hHeld ?_
      rotate_left
      · (intro w hSw; (try dsimp only at hSw); go_simp; try (with_reducible rfl))
      try simp only [Act.put, List.setIfInBounds_toArray, List.set_cons_zero, List.set_cons_succ]
      refine wpAnyH_take (i := 10) (oi := ⟨_, _, _, _, _, _⟩) (v := ?_) rfl (by kernel_rfl) (by kernel_rfl) (by kernel_rfl) (fun _ _ _ h => h) (Or.inl ⟨by rfl, ?_⟩) hHeld ?_
      rotate_left
      · (intro w hSw; (try dsimp only at hSw); go_simp; try (with_reducible rfl))
      try simp only [Act.put, List.setIfInBounds_toArray, List.set_cons_zero, List.set_cons_succ]
      refine wpAnyH_done (by kernel_rfl) ?_ _
      clear hHeld
      go_wp2
      go_ret
      exact ⟨rfl, qq⟩
end Go.Proofs.Ytbndncfkkhjkoab
