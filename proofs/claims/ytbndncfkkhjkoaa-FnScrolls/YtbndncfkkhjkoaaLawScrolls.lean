/-
  For every code of bytes the law FnScrolls returns true: rows that scroll go up or down as far as they stay, those outside stay, and what leaves at the top is kept. No condition (the law itself passes codes of more than 1048576 bytes by).
-/
import Derived.Test.YtbndncfkkhjkoaaRows
import Derived.Test.YtbndncfkkhjkoaaGridDraw6
import Derived.Test.YtbndncfkkhjkoaaScrollMath
import Derived.Test.YtbndncfkkhjkoaaScrollTop
import Derived.Test.YtbndncfkkhjkoaaLawKit3
import Derived.Deep.RegionHeld
import Derived.Deep.RegionHeld3
namespace Go.Proofs.Ytbndncfkkhjkoaa
set_option maxRecDepth 20000
open Go.ChangeShapes Go.WideShapes Go.ChangeAt Go.RowKit
set_option linter.unusedVariables false
set_option linter.unusedSimpArgs false
set_option maxRecDepth 20000

set_option maxHeartbeats 4000000 in
theorem lawScrolls_walk (zs : List Int) (a : Option Addr) (cap : Nat) (w : World) (hv : ReadAt .u8 w (.slice a zs.length cap) zs) (hz : ∀ z ∈ zs, 0 ≤ z ∧ z ≤ 255) (hlen : zs.length ≤ 1048576) :
    Calls Try.prog 8 #[.slice a zs.length cap] w fun e w' => e = .returned (.bool true) ∧ Below w.heap.size w w' := by
  have HZ := hide hz
  clear hz
  have hle : ¬ ((1048576 : Int) < (zs.length : Int)) := by omega
  have ff0 := fld_gr0
  have ff1 := fld_gr1
  go_enter Try.func8, Try.ntmps8
  go_wp2_with (first | (go_at_call 9; go_in))
  refine (drawScroll_calls zs a cap _ hv HZ.out hlen).mono ?_
  rintro e w1 ⟨r, wd, v1, v2, cs, bs, top, bot, n, at', rfl, hc24, hb40, l1, l2, k1, k2, q1⟩
  clear k1 k2
  obtain ⟨a1, c1, rfl, hx⟩ := id l1
  clear hx
  obtain ⟨a2, c2, rfl, hx⟩ := id l2
  clear hx
  go_wp2_with fail
  have hB : Below w1.heap.size w1 (w1.alloc (.cells #[.int .i64 r, .int .i64 wd, .slice a1 cs.length c1, .slice a2 bs.length c2] 71)) := (Below.refl _ _).alloc (Nat.le_refl _) _
  have HG : B4 w1.heap.size r wd (.slice a1 cs.length c1) (.slice a2 bs.length c2) (w1.alloc (.cells #[.int .i64 r, .int .i64 wd, .slice a1 cs.length c1, .slice a2 bs.length c2] 71)) := ⟨by simp [go_sem], by simp [go_sem], by simp [go_sem], by simp [go_sem]⟩
  obtain ⟨gb, egb⟩ : ∃ b, b = w1.heap.size := ⟨_, rfl⟩
  rw [← egb] at HG ⊢
  clear egb
  generalize (w1.alloc (.cells #[.int .i64 r, .int .i64 wd, .slice a1 cs.length c1, .slice a2 bs.length c2] 71)) = w2 at *
  replace l1 := l1.below hB
  replace l2 := l2.below hB
  have q2 : Below w.heap.size w w2 := q1.trans (hB.mono q1.size)
  clear hB q1
  refine (implScrollGrid_calls r wd cs bs top bot n at' _ _ w2 (by omega) (by omega) l1 l2).mono ?_
  rintro e w3 ⟨v5, v6, rfl, ho, hb3⟩
  have sf := fun h => scroll_facts (r := r) (wd := wd) (cs := cs) (bs := bs) (top := top) (bot := bot) (n := n) (at' := at') h
  have sl := scrollRes_len r wd cs bs top bot n at'
  generalize hX : scrollRes r wd cs bs top bot n at' = X at *
  have HX := hide hX
  clear hX
  obtain ⟨rc, rr, rw', rs1, rs2⟩ := X
  dsimp only at ho sf sl ⊢
  have HSF := hide sf
  have m1 := ho.read1
  have m2 := ho.read2
  clear ho sf
  obtain ⟨a5, c5, rfl, hx⟩ := id m1
  clear hx
  obtain ⟨a6, c6, rfl, hx⟩ := id m2
  clear hx
  replace l1 := l1.below hb3
  replace l2 := l2.below hb3
  replace HG := HG.below hb3
  have q3 : Below w.heap.size w w3 := q2.trans (hb3.mono q2.size)
  clear hb3 q2
  by_cases hr0 : rc = 0
  · subst hr0
    obtain ⟨R, W, Tp, Bt, rfl, rfl, rfl, rfl, hR6, hW2, hW12, hTB, hBR, ⟨n1, n2⟩, hcl, rfl, rfl, hrl, hgc, hcell, hnb, hlast⟩ := HSF.out rfl
    have HCL := hide hcl
    have HCE := hide hcell
    have HGC := hide hgc
    have HRL := hide hrl
    have HNB := hide hnb
    have HLA := hide hlast
    clear hcl hcell hgc hrl HSF hnb hlast
    have hB : Below w3.heap.size w3 (w3.alloc (.cells #[.int .i64 0, .int .i64 (R : Int), .int .i64 (W : Int), .slice a5 rs1.length c5, .slice a6 rs2.length c6] 77)) := (Below.refl _ _).alloc (Nat.le_refl _) _
    have HR : B5 w3.heap.size 0 (R : Int) (W : Int) (.slice a5 rs1.length c5) (.slice a6 rs2.length c6) (w3.alloc (.cells #[.int .i64 0, .int .i64 (R : Int), .int .i64 (W : Int), .slice a5 rs1.length c5, .slice a6 rs2.length c6] 77)) := ⟨by simp [go_sem], by simp [go_sem], by simp [go_sem], by simp [go_sem], by simp [go_sem]⟩
    have r0 := HR.c0
    go_wp2
    obtain ⟨rb, erb⟩ : ∃ b, b = w3.heap.size := ⟨_, rfl⟩
    rw [← erb] at HR r0 ⊢
    clear erb
    generalize (w3.alloc (.cells #[.int .i64 0, .int .i64 (R : Int), .int .i64 (W : Int), .slice a5 rs1.length c5, .slice a6 rs2.length c6] 77)) = wb at *
    replace l1 := l1.below hB
    replace l2 := l2.below hB
    replace m1 := m1.below hB
    replace m2 := m2.below hB
    replace HG := HG.below hB
    have qb : Below w.heap.size w wb := q3.trans (hB.mono q3.size)
    clear hB q3 r0
    go_loopw [9] (fun i wr => ∃ j : Nat, j ≤ R ∧ i = .int .i64 j ∧ Hid (Below wb.heap.size wb wr)) (fun i _ => R - (intOf i).toNat)
    case atStart => exact ⟨0, Nat.zero_le _, rfl, hide (Below.refl _ _)⟩
    case round =>
      obtain ⟨j, hj, rfl, hbo⟩ := hrel
      have g0 := (HG.below hbo.out).c0
      by_cases hjl : j < R
      · have hjI : (j : Int) < (R : Int) := by omega
        have hjW : j * W + W ≤ cs.length := by
          have h := Nat.mul_le_mul_right W (show j + 1 ≤ R by omega)
          rw [Nat.add_mul, Nat.one_mul, ← HCL.out] at h
          exact h
        go_wp2
        clear g0
        go_loopw [10] (fun i wr => ∃ k : Nat, k ≤ W ∧ i = .int .i64 k ∧ Hid (Below wb.heap.size wb wr)) (fun i _ => W - (intOf i).toNat)
        case atStart => exact ⟨0, Nat.zero_le _, rfl, hbo⟩
        case round =>
          obtain ⟨k, hk, rfl, hbi⟩ := hrel
          clear hbo
          obtain ⟨g0, g1, g2, g3⟩ := HG.below hbi.out
          by_cases hkl : k < W
          · have hkI : (k : Int) < (W : Int) := by omega
            have LG := l1.below hbi.out
            go_wp2_with fail
            refine (lwCell_calls (R : Int) (W : Int) j k cs _ _ (j * W) (j * W + k) wr LG ⟨_, _, _, rfl⟩ (by rw [Int.natCast_mul]) (by omega) (by omega) (by omega) (by omega)).mono ?_
            rintro e w20 ⟨rfl, hb20⟩
            have hce := HCE.out j k hjl hkl
            generalize hp : cs.getD (j * W + k) (0, 0) = p at *
            obtain ⟨p1, p2⟩ := p
            dsimp only at hce ⊢
            clear hp
            have hb21 := hbi.out.trans (hb20.mono hbi.out.size)
            have hsz20 : wb.heap.size ≤ w20.heap.size := hb21.size
            clear LG hb20 g0 g1 g2 g3 hbi
            have HCEE := hide hce
            clear hce
            by_cases hA : Tp ≤ j ∧ j ≤ Bt
            · have hce : rs1.getD (j * W + k) (0, 0) = if (Tp : Int) ≤ (j : Int) + n ∧ (j : Int) + n ≤ (Bt : Int) then cs.getD (((j : Int) + n).toNat * W + k) (0, 0) else (32, at') := by have h := HCEE.out; rw [if_pos hA] at h; exact h
              obtain ⟨f1, f2⟩ := hA
              have f3 : (Tp : Int) ≤ (j : Int) := by omega
              have f4 : (j : Int) ≤ (Bt : Int) := by omega
              by_cases hin : (Tp : Int) ≤ (j : Int) + n ∧ (j : Int) + n ≤ (Bt : Int)
              · rw [if_pos hin] at hce
                obtain ⟨i1, i2⟩ := hin
                obtain ⟨u, hu⟩ : ∃ u : Nat, (j : Int) + n = (u : Int) := ⟨((j : Int) + n).toNat, by omega⟩
                have hB : Below w20.heap.size w20 (w20.alloc (.cells #[.int .i64 32, .int .i64 at'] 73)) := (Below.refl _ _).alloc (Nat.le_refl _) _
                have T : B2 w20.heap.size 32 at' (w20.alloc (.cells #[.int .i64 32, .int .i64 at'] 73)) := ⟨by simp [go_sem], by simp [go_sem]⟩
                replace hb21 := hb21.trans (hB.mono hsz20)
                clear hB
                obtain ⟨g0, g1, g2, g3⟩ := HG.below hb21
                have F0 : (w20.alloc (.cells #[.int .i64 32, .int .i64 at'] 73)).frozen? ⟨w20.heap.size, 0, none⟩ = false := by simp [go_sem]
                have F1 : (w20.alloc (.cells #[.int .i64 32, .int .i64 at'] 73)).frozen? ⟨w20.heap.size, 1, none⟩ = false := by simp [go_sem]
                have LG := l1.below hb21
                have HU := hide hu
                rw [show ((j : Int) + n).toNat = u by omega] at hce
                have huW : u * W + W ≤ cs.length := by
                  have h := Nat.mul_le_mul_right W (show u + 1 ≤ R by omega)
                  rw [Nat.add_mul, Nat.one_mul, ← HCL.out] at h
                  exact h
                clear hu
                go_wp2_with fail
                refine (lwCell_calls (R : Int) (W : Int) ((j : Int) + n) k cs _ _ (u * W) (u * W + k) _ LG ⟨_, _, _, rfl⟩ (by rw [HU.out, Int.natCast_mul]) (by omega) (by omega) (by omega) (by omega)).mono ?_
                rintro e w22 ⟨rfl, hb22⟩
                generalize hp : cs.getD (u * W + k) (0, 0) = p at *
                obtain ⟨p3, p4⟩ := p
                dsimp only at hce ⊢
                clear hp g0 g1 g2 g3 LG
                replace T := T.below hb22
                replace F0 := (hb22.frozen (p := ⟨w20.heap.size, 0, none⟩) (by simp)).trans F0
                replace F1 := (hb22.frozen (p := ⟨w20.heap.size, 1, none⟩) (by simp)).trans F1
                replace hb21 := hb21.trans (hb22.mono hb21.size)
                clear hb22
                obtain ⟨t0, t1⟩ := id T
                have T2 : B2 w20.heap.size p3 p4 ((w22.setCell ⟨w20.heap.size, 0, none⟩ (.int .i64 p3)).setCell ⟨w20.heap.size, 1, none⟩ (.int .i64 p4)) := by obtain ⟨s0, s1⟩ := res2 (w := w22) (r := w20.heap.size) (.int .i64 p3) (.int .i64 p4) T.c0 T.c1; exact ⟨s0, s1⟩
                replace hb21 := hb21.trans (show Below wb.heap.size w22 ((w22.setCell ⟨w20.heap.size, 0, none⟩ (.int .i64 p3)).setCell ⟨w20.heap.size, 1, none⟩ (.int .i64 p4)) from ((Below.refl _ _).setCell hsz20 _).setCell hsz20 _)
                clear T
                have T := T2
                clear T2
                go_wp2_with fail
                clear t0 t1 F0 F1
                generalize ((w22.setCell ⟨w20.heap.size, 0, none⟩ (.int .i64 p3)).setCell ⟨w20.heap.size, 1, none⟩ (.int .i64 p4)) = w21 at *
                obtain ⟨tb, htb⟩ : ∃ b, b = w20.heap.size := ⟨_, rfl⟩
                rw [← htb] at T ⊢
                clear htb
                have RG2 := HR.below hb21
                have MG2 := m1.below hb21
                have hnc := neq_cell
                have hgc := guard_cell
                refine wp_region_held_drew (S := (fun w' => w'.cell? ⟨rb, 1, none⟩ = some (.int .i64 (R : Int)) ∧ w'.cell? ⟨rb, 2, none⟩ = some (.int .i64 (W : Int)) ∧ w'.cell? ⟨rb, 3, none⟩ = some (.slice a5 rs1.length c5) ∧ w'.cell? ⟨rb, 4, none⟩ = some (.slice a6 rs2.length c6) ∧ w'.cell? ⟨tb, 0, none⟩ = some (.int .i64 p3) ∧ w'.cell? ⟨tb, 1, none⟩ = some (.int .i64 p4))) (by kernel_rfl) ?_ (fun hHeld => ?_)
                · (try dsimp only); exact ⟨RG2.c1, RG2.c2, RG2.c3, RG2.c4, T.c0, T.c1⟩
                refine wpAnyH_take (i := 0) (oi := ⟨_, _, _, _, _, _⟩) (v := ?_) rfl (by kernel_rfl) (by kernel_rfl) (by kernel_rfl) (fun _ _ _ h => h) (Or.inl ⟨by rfl, ?_⟩) hHeld ?_
                rotate_left
                · (intro w hSw; (try dsimp only at hSw); go_simp; try (with_reducible rfl))
                try simp only [Act.put, List.setIfInBounds_toArray, List.set_cons_zero, List.set_cons_succ]
                refine wpAnyH_take (i := 1) (oi := ⟨_, _, _, _, _, _⟩) (v := ?_) rfl (by kernel_rfl) (by kernel_rfl) (by kernel_rfl) (fun _ _ _ h => h) (Or.inl ⟨by rfl, ?_⟩) hHeld ?_
                rotate_left
                · (intro w hSw; (try dsimp only at hSw); go_simp; try (with_reducible rfl))
                try simp only [Act.put, List.setIfInBounds_toArray, List.set_cons_zero, List.set_cons_succ]
                refine wpAnyH_take (i := 2) (oi := ⟨_, _, _, _, _, _⟩) (v := ?_) rfl (by kernel_rfl) (by kernel_rfl) (by kernel_rfl) (fun _ _ _ h => h) (Or.inl ⟨by rfl, ?_⟩) hHeld ?_
                rotate_left
                · (intro w hSw; (try dsimp only at hSw); go_simp; try (with_reducible rfl))
                try simp only [Act.put, List.setIfInBounds_toArray, List.set_cons_zero, List.set_cons_succ]
                refine wpAnyH_take (i := 3) (oi := ⟨_, _, _, _, _, _⟩) (v := ?_) rfl (by kernel_rfl) (by kernel_rfl) (by kernel_rfl) (fun _ _ _ h => h) (Or.inl ⟨by rfl, ?_⟩) hHeld ?_
                rotate_left
                · (intro w hSw; (try dsimp only at hSw); go_simp; try (with_reducible rfl))
                try simp only [Act.put, List.setIfInBounds_toArray, List.set_cons_zero, List.set_cons_succ]
                refine wpAnyH_take (i := 5) (oi := ⟨_, _, _, _, _, _⟩) (v := ?_) rfl (by kernel_rfl) (by kernel_rfl) (by kernel_rfl) (fun _ _ _ h => h) (Or.inl ⟨by rfl, ?_⟩) hHeld ?_
                rotate_left
                · (intro w hSw; (try dsimp only at hSw); go_simp; try (with_reducible rfl))
                try simp only [Act.put, List.setIfInBounds_toArray, List.set_cons_zero, List.set_cons_succ]
                refine wpAnyH_ready (rs := [4]) (by kernel_rfl) (by simp) ?_
                refine AllReadyH.cons (o := ⟨_, _, _, _, _, _⟩) rfl (fun K hK => ?_) AllReadyH.nil
                go_simp
                go_at_call 47
                refine (lwCell_calls (R : Int) (W : Int) j k rs1 _ _ (j * W) (j * W + k) w21.drew (MG2.below (show Below w21.heap.size w21 w21.drew from below_drewN (Below.refl _ _) 1)) ⟨_, _, _, rfl⟩ (by rw [Int.natCast_mul]) (by omega) (by have h1 := HRL.out; omega) (by have h1 := HRL.out; omega) (by omega)).mono ?_
                rintro e w25 ⟨rfl, hb25⟩
                replace hb25 : Below w21.heap.size w21 w25 := (below_drewN (Below.refl _ _) 1).trans hb25
                rw [hce]
                dsimp only
                replace RG2 := RG2.below hb25
                replace T := T.below hb25
                have hb26 := hide (hb21.trans (hb25.mono hb21.size))
                clear hb25 hb21
                try go_wp2_with fail
                refine hK.out _ _ ?_ ?_
                · (try dsimp only); exact ⟨RG2.c1, RG2.c2, RG2.c3, RG2.c4, T.c0, T.c1⟩
                clear hHeld hK K
                intro hHeld
                try simp only [Act.put, List.setIfInBounds_toArray, List.set_cons_zero, List.set_cons_succ]
                refine wpAnyH_take (i := 6) (oi := ⟨_, _, _, _, _, _⟩) (v := ?_) rfl (by kernel_rfl) (by kernel_rfl) (by kernel_rfl) (fun _ _ _ h => h) (Or.inl ⟨by rfl, ?_⟩) hHeld ?_
                rotate_left
                · (intro w hSw; (try dsimp only at hSw); go_simp; try (with_reducible rfl))
                try simp only [Act.put, List.setIfInBounds_toArray, List.set_cons_zero, List.set_cons_succ]
                refine wpAnyH_done (by kernel_rfl) ?_ _
                clear hHeld hnc hgc
                go_wp2
                go_roundw
                case rel => exact ⟨k + 1, by omega, by go_num, hb26⟩
                case measure => simp [intOf]; omega
              · rw [if_neg hin] at hce
                have hin2 : ¬ (Tp : Int) ≤ (j : Int) + n ∨ ((Tp : Int) ≤ (j : Int) + n ∧ ¬ (j : Int) + n ≤ (Bt : Int)) := by omega
                rcases hin2 with i1 | ⟨i1, i2⟩
                · skip
                  go_wp2_with fail
                  have hB : Below w20.heap.size w20 (w20.alloc (.cells #[.int .i64 32, .int .i64 at'] 73)) := (Below.refl _ _).alloc (Nat.le_refl _) _
                  have T : B2 w20.heap.size 32 at' (w20.alloc (.cells #[.int .i64 32, .int .i64 at'] 73)) := ⟨by simp [go_sem], by simp [go_sem]⟩
                  replace hb21 := hb21.trans (hB.mono hsz20)
                  clear hB
                  generalize (w20.alloc (.cells #[.int .i64 32, .int .i64 at'] 73)) = w21 at *
                  obtain ⟨tb, htb⟩ : ∃ b, b = w20.heap.size := ⟨_, rfl⟩
                  rw [← htb] at T ⊢
                  clear htb
                  have RG2 := HR.below hb21
                  have MG2 := m1.below hb21
                  have hnc := neq_cell
                  have hgc := guard_cell
                  refine wp_region_held_drew (S := (fun w' => w'.cell? ⟨rb, 1, none⟩ = some (.int .i64 (R : Int)) ∧ w'.cell? ⟨rb, 2, none⟩ = some (.int .i64 (W : Int)) ∧ w'.cell? ⟨rb, 3, none⟩ = some (.slice a5 rs1.length c5) ∧ w'.cell? ⟨rb, 4, none⟩ = some (.slice a6 rs2.length c6) ∧ w'.cell? ⟨tb, 0, none⟩ = some (.int .i64 32) ∧ w'.cell? ⟨tb, 1, none⟩ = some (.int .i64 at'))) (by kernel_rfl) ?_ (fun hHeld => ?_)
                  · (try dsimp only); exact ⟨RG2.c1, RG2.c2, RG2.c3, RG2.c4, T.c0, T.c1⟩
                  refine wpAnyH_take (i := 0) (oi := ⟨_, _, _, _, _, _⟩) (v := ?_) rfl (by kernel_rfl) (by kernel_rfl) (by kernel_rfl) (fun _ _ _ h => h) (Or.inl ⟨by rfl, ?_⟩) hHeld ?_
                  rotate_left
                  · (intro w hSw; (try dsimp only at hSw); go_simp; try (with_reducible rfl))
                  try simp only [Act.put, List.setIfInBounds_toArray, List.set_cons_zero, List.set_cons_succ]
                  refine wpAnyH_take (i := 1) (oi := ⟨_, _, _, _, _, _⟩) (v := ?_) rfl (by kernel_rfl) (by kernel_rfl) (by kernel_rfl) (fun _ _ _ h => h) (Or.inl ⟨by rfl, ?_⟩) hHeld ?_
                  rotate_left
                  · (intro w hSw; (try dsimp only at hSw); go_simp; try (with_reducible rfl))
                  try simp only [Act.put, List.setIfInBounds_toArray, List.set_cons_zero, List.set_cons_succ]
                  refine wpAnyH_take (i := 2) (oi := ⟨_, _, _, _, _, _⟩) (v := ?_) rfl (by kernel_rfl) (by kernel_rfl) (by kernel_rfl) (fun _ _ _ h => h) (Or.inl ⟨by rfl, ?_⟩) hHeld ?_
                  rotate_left
                  · (intro w hSw; (try dsimp only at hSw); go_simp; try (with_reducible rfl))
                  try simp only [Act.put, List.setIfInBounds_toArray, List.set_cons_zero, List.set_cons_succ]
                  refine wpAnyH_take (i := 3) (oi := ⟨_, _, _, _, _, _⟩) (v := ?_) rfl (by kernel_rfl) (by kernel_rfl) (by kernel_rfl) (fun _ _ _ h => h) (Or.inl ⟨by rfl, ?_⟩) hHeld ?_
                  rotate_left
                  · (intro w hSw; (try dsimp only at hSw); go_simp; try (with_reducible rfl))
                  try simp only [Act.put, List.setIfInBounds_toArray, List.set_cons_zero, List.set_cons_succ]
                  refine wpAnyH_take (i := 5) (oi := ⟨_, _, _, _, _, _⟩) (v := ?_) rfl (by kernel_rfl) (by kernel_rfl) (by kernel_rfl) (fun _ _ _ h => h) (Or.inl ⟨by rfl, ?_⟩) hHeld ?_
                  rotate_left
                  · (intro w hSw; (try dsimp only at hSw); go_simp; try (with_reducible rfl))
                  try simp only [Act.put, List.setIfInBounds_toArray, List.set_cons_zero, List.set_cons_succ]
                  refine wpAnyH_ready (rs := [4]) (by kernel_rfl) (by simp) ?_
                  refine AllReadyH.cons (o := ⟨_, _, _, _, _, _⟩) rfl (fun K hK => ?_) AllReadyH.nil
                  go_simp
                  go_at_call 47
                  refine (lwCell_calls (R : Int) (W : Int) j k rs1 _ _ (j * W) (j * W + k) w21.drew (MG2.below (show Below w21.heap.size w21 w21.drew from below_drewN (Below.refl _ _) 1)) ⟨_, _, _, rfl⟩ (by rw [Int.natCast_mul]) (by omega) (by have h1 := HRL.out; omega) (by have h1 := HRL.out; omega) (by omega)).mono ?_
                  rintro e w25 ⟨rfl, hb25⟩
                  replace hb25 : Below w21.heap.size w21 w25 := (below_drewN (Below.refl _ _) 1).trans hb25
                  rw [hce]
                  dsimp only
                  replace RG2 := RG2.below hb25
                  replace T := T.below hb25
                  have hb26 := hide (hb21.trans (hb25.mono hb21.size))
                  clear hb25 hb21
                  try go_wp2_with fail
                  refine hK.out _ _ ?_ ?_
                  · (try dsimp only); exact ⟨RG2.c1, RG2.c2, RG2.c3, RG2.c4, T.c0, T.c1⟩
                  clear hHeld hK K
                  intro hHeld
                  try simp only [Act.put, List.setIfInBounds_toArray, List.set_cons_zero, List.set_cons_succ]
                  refine wpAnyH_take (i := 6) (oi := ⟨_, _, _, _, _, _⟩) (v := ?_) rfl (by kernel_rfl) (by kernel_rfl) (by kernel_rfl) (fun _ _ _ h => h) (Or.inl ⟨by rfl, ?_⟩) hHeld ?_
                  rotate_left
                  · (intro w hSw; (try dsimp only at hSw); go_simp; try (with_reducible rfl))
                  try simp only [Act.put, List.setIfInBounds_toArray, List.set_cons_zero, List.set_cons_succ]
                  refine wpAnyH_done (by kernel_rfl) ?_ _
                  clear hHeld hnc hgc
                  go_wp2
                  go_roundw
                  case rel => exact ⟨k + 1, by omega, by go_num, hb26⟩
                  case measure => simp [intOf]; omega
                · skip
                  go_wp2_with fail
                  have hB : Below w20.heap.size w20 (w20.alloc (.cells #[.int .i64 32, .int .i64 at'] 73)) := (Below.refl _ _).alloc (Nat.le_refl _) _
                  have T : B2 w20.heap.size 32 at' (w20.alloc (.cells #[.int .i64 32, .int .i64 at'] 73)) := ⟨by simp [go_sem], by simp [go_sem]⟩
                  replace hb21 := hb21.trans (hB.mono hsz20)
                  clear hB
                  generalize (w20.alloc (.cells #[.int .i64 32, .int .i64 at'] 73)) = w21 at *
                  obtain ⟨tb, htb⟩ : ∃ b, b = w20.heap.size := ⟨_, rfl⟩
                  rw [← htb] at T ⊢
                  clear htb
                  have RG2 := HR.below hb21
                  have MG2 := m1.below hb21
                  have hnc := neq_cell
                  have hgc := guard_cell
                  refine wp_region_held_drew (S := (fun w' => w'.cell? ⟨rb, 1, none⟩ = some (.int .i64 (R : Int)) ∧ w'.cell? ⟨rb, 2, none⟩ = some (.int .i64 (W : Int)) ∧ w'.cell? ⟨rb, 3, none⟩ = some (.slice a5 rs1.length c5) ∧ w'.cell? ⟨rb, 4, none⟩ = some (.slice a6 rs2.length c6) ∧ w'.cell? ⟨tb, 0, none⟩ = some (.int .i64 32) ∧ w'.cell? ⟨tb, 1, none⟩ = some (.int .i64 at'))) (by kernel_rfl) ?_ (fun hHeld => ?_)
                  · (try dsimp only); exact ⟨RG2.c1, RG2.c2, RG2.c3, RG2.c4, T.c0, T.c1⟩
                  refine wpAnyH_take (i := 0) (oi := ⟨_, _, _, _, _, _⟩) (v := ?_) rfl (by kernel_rfl) (by kernel_rfl) (by kernel_rfl) (fun _ _ _ h => h) (Or.inl ⟨by rfl, ?_⟩) hHeld ?_
                  rotate_left
                  · (intro w hSw; (try dsimp only at hSw); go_simp; try (with_reducible rfl))
                  try simp only [Act.put, List.setIfInBounds_toArray, List.set_cons_zero, List.set_cons_succ]
                  refine wpAnyH_take (i := 1) (oi := ⟨_, _, _, _, _, _⟩) (v := ?_) rfl (by kernel_rfl) (by kernel_rfl) (by kernel_rfl) (fun _ _ _ h => h) (Or.inl ⟨by rfl, ?_⟩) hHeld ?_
                  rotate_left
                  · (intro w hSw; (try dsimp only at hSw); go_simp; try (with_reducible rfl))
                  try simp only [Act.put, List.setIfInBounds_toArray, List.set_cons_zero, List.set_cons_succ]
                  refine wpAnyH_take (i := 2) (oi := ⟨_, _, _, _, _, _⟩) (v := ?_) rfl (by kernel_rfl) (by kernel_rfl) (by kernel_rfl) (fun _ _ _ h => h) (Or.inl ⟨by rfl, ?_⟩) hHeld ?_
                  rotate_left
                  · (intro w hSw; (try dsimp only at hSw); go_simp; try (with_reducible rfl))
                  try simp only [Act.put, List.setIfInBounds_toArray, List.set_cons_zero, List.set_cons_succ]
                  refine wpAnyH_take (i := 3) (oi := ⟨_, _, _, _, _, _⟩) (v := ?_) rfl (by kernel_rfl) (by kernel_rfl) (by kernel_rfl) (fun _ _ _ h => h) (Or.inl ⟨by rfl, ?_⟩) hHeld ?_
                  rotate_left
                  · (intro w hSw; (try dsimp only at hSw); go_simp; try (with_reducible rfl))
                  try simp only [Act.put, List.setIfInBounds_toArray, List.set_cons_zero, List.set_cons_succ]
                  refine wpAnyH_take (i := 5) (oi := ⟨_, _, _, _, _, _⟩) (v := ?_) rfl (by kernel_rfl) (by kernel_rfl) (by kernel_rfl) (fun _ _ _ h => h) (Or.inl ⟨by rfl, ?_⟩) hHeld ?_
                  rotate_left
                  · (intro w hSw; (try dsimp only at hSw); go_simp; try (with_reducible rfl))
                  try simp only [Act.put, List.setIfInBounds_toArray, List.set_cons_zero, List.set_cons_succ]
                  refine wpAnyH_ready (rs := [4]) (by kernel_rfl) (by simp) ?_
                  refine AllReadyH.cons (o := ⟨_, _, _, _, _, _⟩) rfl (fun K hK => ?_) AllReadyH.nil
                  go_simp
                  go_at_call 47
                  refine (lwCell_calls (R : Int) (W : Int) j k rs1 _ _ (j * W) (j * W + k) w21.drew (MG2.below (show Below w21.heap.size w21 w21.drew from below_drewN (Below.refl _ _) 1)) ⟨_, _, _, rfl⟩ (by rw [Int.natCast_mul]) (by omega) (by have h1 := HRL.out; omega) (by have h1 := HRL.out; omega) (by omega)).mono ?_
                  rintro e w25 ⟨rfl, hb25⟩
                  replace hb25 : Below w21.heap.size w21 w25 := (below_drewN (Below.refl _ _) 1).trans hb25
                  rw [hce]
                  dsimp only
                  replace RG2 := RG2.below hb25
                  replace T := T.below hb25
                  have hb26 := hide (hb21.trans (hb25.mono hb21.size))
                  clear hb25 hb21
                  try go_wp2_with fail
                  refine hK.out _ _ ?_ ?_
                  · (try dsimp only); exact ⟨RG2.c1, RG2.c2, RG2.c3, RG2.c4, T.c0, T.c1⟩
                  clear hHeld hK K
                  intro hHeld
                  try simp only [Act.put, List.setIfInBounds_toArray, List.set_cons_zero, List.set_cons_succ]
                  refine wpAnyH_take (i := 6) (oi := ⟨_, _, _, _, _, _⟩) (v := ?_) rfl (by kernel_rfl) (by kernel_rfl) (by kernel_rfl) (fun _ _ _ h => h) (Or.inl ⟨by rfl, ?_⟩) hHeld ?_
                  rotate_left
                  · (intro w hSw; (try dsimp only at hSw); go_simp; try (with_reducible rfl))
                  try simp only [Act.put, List.setIfInBounds_toArray, List.set_cons_zero, List.set_cons_succ]
                  refine wpAnyH_done (by kernel_rfl) ?_ _
                  clear hHeld hnc hgc
                  go_wp2
                  go_roundw
                  case rel => exact ⟨k + 1, by omega, by go_num, hb26⟩
                  case measure => simp [intOf]; omega
            · have hce : rs1.getD (j * W + k) (0, 0) = (p1, p2) := by have h := HCEE.out; rw [if_neg hA] at h; exact h
              by_cases hA1 : Tp ≤ j
              · have f1 : ¬ j ≤ Bt := fun h => hA ⟨hA1, h⟩
                have f3 : (Tp : Int) ≤ (j : Int) := by omega
                have f4 : ¬ (j : Int) ≤ (Bt : Int) := by omega
                go_wp2_with fail
                have hB : Below w20.heap.size w20 (w20.alloc (.cells #[.int .i64 p1, .int .i64 p2] 73)) := (Below.refl _ _).alloc (Nat.le_refl _) _
                have T : B2 w20.heap.size p1 p2 (w20.alloc (.cells #[.int .i64 p1, .int .i64 p2] 73)) := ⟨by simp [go_sem], by simp [go_sem]⟩
                replace hb21 := hb21.trans (hB.mono hsz20)
                clear hB
                generalize (w20.alloc (.cells #[.int .i64 p1, .int .i64 p2] 73)) = w21 at *
                obtain ⟨tb, htb⟩ : ∃ b, b = w20.heap.size := ⟨_, rfl⟩
                rw [← htb] at T ⊢
                clear htb
                have RG2 := HR.below hb21
                have MG2 := m1.below hb21
                have hnc := neq_cell
                have hgc := guard_cell
                refine wp_region_held_drew (S := (fun w' => w'.cell? ⟨rb, 1, none⟩ = some (.int .i64 (R : Int)) ∧ w'.cell? ⟨rb, 2, none⟩ = some (.int .i64 (W : Int)) ∧ w'.cell? ⟨rb, 3, none⟩ = some (.slice a5 rs1.length c5) ∧ w'.cell? ⟨rb, 4, none⟩ = some (.slice a6 rs2.length c6) ∧ w'.cell? ⟨tb, 0, none⟩ = some (.int .i64 p1) ∧ w'.cell? ⟨tb, 1, none⟩ = some (.int .i64 p2))) (by kernel_rfl) ?_ (fun hHeld => ?_)
                · (try dsimp only); exact ⟨RG2.c1, RG2.c2, RG2.c3, RG2.c4, T.c0, T.c1⟩
                refine wpAnyH_take (i := 0) (oi := ⟨_, _, _, _, _, _⟩) (v := ?_) rfl (by kernel_rfl) (by kernel_rfl) (by kernel_rfl) (fun _ _ _ h => h) (Or.inl ⟨by rfl, ?_⟩) hHeld ?_
                rotate_left
                · (intro w hSw; (try dsimp only at hSw); go_simp; try (with_reducible rfl))
                try simp only [Act.put, List.setIfInBounds_toArray, List.set_cons_zero, List.set_cons_succ]
                refine wpAnyH_take (i := 1) (oi := ⟨_, _, _, _, _, _⟩) (v := ?_) rfl (by kernel_rfl) (by kernel_rfl) (by kernel_rfl) (fun _ _ _ h => h) (Or.inl ⟨by rfl, ?_⟩) hHeld ?_
                rotate_left
                · (intro w hSw; (try dsimp only at hSw); go_simp; try (with_reducible rfl))
                try simp only [Act.put, List.setIfInBounds_toArray, List.set_cons_zero, List.set_cons_succ]
                refine wpAnyH_take (i := 2) (oi := ⟨_, _, _, _, _, _⟩) (v := ?_) rfl (by kernel_rfl) (by kernel_rfl) (by kernel_rfl) (fun _ _ _ h => h) (Or.inl ⟨by rfl, ?_⟩) hHeld ?_
                rotate_left
                · (intro w hSw; (try dsimp only at hSw); go_simp; try (with_reducible rfl))
                try simp only [Act.put, List.setIfInBounds_toArray, List.set_cons_zero, List.set_cons_succ]
                refine wpAnyH_take (i := 3) (oi := ⟨_, _, _, _, _, _⟩) (v := ?_) rfl (by kernel_rfl) (by kernel_rfl) (by kernel_rfl) (fun _ _ _ h => h) (Or.inl ⟨by rfl, ?_⟩) hHeld ?_
                rotate_left
                · (intro w hSw; (try dsimp only at hSw); go_simp; try (with_reducible rfl))
                try simp only [Act.put, List.setIfInBounds_toArray, List.set_cons_zero, List.set_cons_succ]
                refine wpAnyH_take (i := 5) (oi := ⟨_, _, _, _, _, _⟩) (v := ?_) rfl (by kernel_rfl) (by kernel_rfl) (by kernel_rfl) (fun _ _ _ h => h) (Or.inl ⟨by rfl, ?_⟩) hHeld ?_
                rotate_left
                · (intro w hSw; (try dsimp only at hSw); go_simp; try (with_reducible rfl))
                try simp only [Act.put, List.setIfInBounds_toArray, List.set_cons_zero, List.set_cons_succ]
                refine wpAnyH_ready (rs := [4]) (by kernel_rfl) (by simp) ?_
                refine AllReadyH.cons (o := ⟨_, _, _, _, _, _⟩) rfl (fun K hK => ?_) AllReadyH.nil
                go_simp
                go_at_call 47
                refine (lwCell_calls (R : Int) (W : Int) j k rs1 _ _ (j * W) (j * W + k) w21.drew (MG2.below (show Below w21.heap.size w21 w21.drew from below_drewN (Below.refl _ _) 1)) ⟨_, _, _, rfl⟩ (by rw [Int.natCast_mul]) (by omega) (by have h1 := HRL.out; omega) (by have h1 := HRL.out; omega) (by omega)).mono ?_
                rintro e w25 ⟨rfl, hb25⟩
                replace hb25 : Below w21.heap.size w21 w25 := (below_drewN (Below.refl _ _) 1).trans hb25
                rw [hce]
                dsimp only
                replace RG2 := RG2.below hb25
                replace T := T.below hb25
                have hb26 := hide (hb21.trans (hb25.mono hb21.size))
                clear hb25 hb21
                try go_wp2_with fail
                refine hK.out _ _ ?_ ?_
                · (try dsimp only); exact ⟨RG2.c1, RG2.c2, RG2.c3, RG2.c4, T.c0, T.c1⟩
                clear hHeld hK K
                intro hHeld
                try simp only [Act.put, List.setIfInBounds_toArray, List.set_cons_zero, List.set_cons_succ]
                refine wpAnyH_take (i := 6) (oi := ⟨_, _, _, _, _, _⟩) (v := ?_) rfl (by kernel_rfl) (by kernel_rfl) (by kernel_rfl) (fun _ _ _ h => h) (Or.inl ⟨by rfl, ?_⟩) hHeld ?_
                rotate_left
                · (intro w hSw; (try dsimp only at hSw); go_simp; try (with_reducible rfl))
                try simp only [Act.put, List.setIfInBounds_toArray, List.set_cons_zero, List.set_cons_succ]
                refine wpAnyH_done (by kernel_rfl) ?_ _
                clear hHeld hnc hgc
                go_wp2
                go_roundw
                case rel => exact ⟨k + 1, by omega, by go_num, hb26⟩
                case measure => simp [intOf]; omega
              · have f3 : ¬ (Tp : Int) ≤ (j : Int) := by omega
                go_wp2_with fail
                have hB : Below w20.heap.size w20 (w20.alloc (.cells #[.int .i64 p1, .int .i64 p2] 73)) := (Below.refl _ _).alloc (Nat.le_refl _) _
                have T : B2 w20.heap.size p1 p2 (w20.alloc (.cells #[.int .i64 p1, .int .i64 p2] 73)) := ⟨by simp [go_sem], by simp [go_sem]⟩
                replace hb21 := hb21.trans (hB.mono hsz20)
                clear hB
                generalize (w20.alloc (.cells #[.int .i64 p1, .int .i64 p2] 73)) = w21 at *
                obtain ⟨tb, htb⟩ : ∃ b, b = w20.heap.size := ⟨_, rfl⟩
                rw [← htb] at T ⊢
                clear htb
                have RG2 := HR.below hb21
                have MG2 := m1.below hb21
                have hnc := neq_cell
                have hgc := guard_cell
                refine wp_region_held_drew (S := (fun w' => w'.cell? ⟨rb, 1, none⟩ = some (.int .i64 (R : Int)) ∧ w'.cell? ⟨rb, 2, none⟩ = some (.int .i64 (W : Int)) ∧ w'.cell? ⟨rb, 3, none⟩ = some (.slice a5 rs1.length c5) ∧ w'.cell? ⟨rb, 4, none⟩ = some (.slice a6 rs2.length c6) ∧ w'.cell? ⟨tb, 0, none⟩ = some (.int .i64 p1) ∧ w'.cell? ⟨tb, 1, none⟩ = some (.int .i64 p2))) (by kernel_rfl) ?_ (fun hHeld => ?_)
                · (try dsimp only); exact ⟨RG2.c1, RG2.c2, RG2.c3, RG2.c4, T.c0, T.c1⟩
                refine wpAnyH_take (i := 0) (oi := ⟨_, _, _, _, _, _⟩) (v := ?_) rfl (by kernel_rfl) (by kernel_rfl) (by kernel_rfl) (fun _ _ _ h => h) (Or.inl ⟨by rfl, ?_⟩) hHeld ?_
                rotate_left
                · (intro w hSw; (try dsimp only at hSw); go_simp; try (with_reducible rfl))
                try simp only [Act.put, List.setIfInBounds_toArray, List.set_cons_zero, List.set_cons_succ]
                refine wpAnyH_take (i := 1) (oi := ⟨_, _, _, _, _, _⟩) (v := ?_) rfl (by kernel_rfl) (by kernel_rfl) (by kernel_rfl) (fun _ _ _ h => h) (Or.inl ⟨by rfl, ?_⟩) hHeld ?_
                rotate_left
                · (intro w hSw; (try dsimp only at hSw); go_simp; try (with_reducible rfl))
                try simp only [Act.put, List.setIfInBounds_toArray, List.set_cons_zero, List.set_cons_succ]
                refine wpAnyH_take (i := 2) (oi := ⟨_, _, _, _, _, _⟩) (v := ?_) rfl (by kernel_rfl) (by kernel_rfl) (by kernel_rfl) (fun _ _ _ h => h) (Or.inl ⟨by rfl, ?_⟩) hHeld ?_
                rotate_left
                · (intro w hSw; (try dsimp only at hSw); go_simp; try (with_reducible rfl))
                try simp only [Act.put, List.setIfInBounds_toArray, List.set_cons_zero, List.set_cons_succ]
                refine wpAnyH_take (i := 3) (oi := ⟨_, _, _, _, _, _⟩) (v := ?_) rfl (by kernel_rfl) (by kernel_rfl) (by kernel_rfl) (fun _ _ _ h => h) (Or.inl ⟨by rfl, ?_⟩) hHeld ?_
                rotate_left
                · (intro w hSw; (try dsimp only at hSw); go_simp; try (with_reducible rfl))
                try simp only [Act.put, List.setIfInBounds_toArray, List.set_cons_zero, List.set_cons_succ]
                refine wpAnyH_take (i := 5) (oi := ⟨_, _, _, _, _, _⟩) (v := ?_) rfl (by kernel_rfl) (by kernel_rfl) (by kernel_rfl) (fun _ _ _ h => h) (Or.inl ⟨by rfl, ?_⟩) hHeld ?_
                rotate_left
                · (intro w hSw; (try dsimp only at hSw); go_simp; try (with_reducible rfl))
                try simp only [Act.put, List.setIfInBounds_toArray, List.set_cons_zero, List.set_cons_succ]
                refine wpAnyH_ready (rs := [4]) (by kernel_rfl) (by simp) ?_
                refine AllReadyH.cons (o := ⟨_, _, _, _, _, _⟩) rfl (fun K hK => ?_) AllReadyH.nil
                go_simp
                go_at_call 47
                refine (lwCell_calls (R : Int) (W : Int) j k rs1 _ _ (j * W) (j * W + k) w21.drew (MG2.below (show Below w21.heap.size w21 w21.drew from below_drewN (Below.refl _ _) 1)) ⟨_, _, _, rfl⟩ (by rw [Int.natCast_mul]) (by omega) (by have h1 := HRL.out; omega) (by have h1 := HRL.out; omega) (by omega)).mono ?_
                rintro e w25 ⟨rfl, hb25⟩
                replace hb25 : Below w21.heap.size w21 w25 := (below_drewN (Below.refl _ _) 1).trans hb25
                rw [hce]
                dsimp only
                replace RG2 := RG2.below hb25
                replace T := T.below hb25
                have hb26 := hide (hb21.trans (hb25.mono hb21.size))
                clear hb25 hb21
                try go_wp2_with fail
                refine hK.out _ _ ?_ ?_
                · (try dsimp only); exact ⟨RG2.c1, RG2.c2, RG2.c3, RG2.c4, T.c0, T.c1⟩
                clear hHeld hK K
                intro hHeld
                try simp only [Act.put, List.setIfInBounds_toArray, List.set_cons_zero, List.set_cons_succ]
                refine wpAnyH_take (i := 6) (oi := ⟨_, _, _, _, _, _⟩) (v := ?_) rfl (by kernel_rfl) (by kernel_rfl) (by kernel_rfl) (fun _ _ _ h => h) (Or.inl ⟨by rfl, ?_⟩) hHeld ?_
                rotate_left
                · (intro w hSw; (try dsimp only at hSw); go_simp; try (with_reducible rfl))
                try simp only [Act.put, List.setIfInBounds_toArray, List.set_cons_zero, List.set_cons_succ]
                refine wpAnyH_done (by kernel_rfl) ?_ _
                clear hHeld hnc hgc
                go_wp2
                go_roundw
                case rel => exact ⟨k + 1, by omega, by go_num, hb26⟩
                case measure => simp [intOf]; omega
          · obtain rfl : k = W := by omega
            have hge : ¬ ((k : Int) < (k : Int)) := by omega
            clear g0 g2 g3
            go_wp2
            go_roundw
            case rel => exact ⟨j + 1, by omega, by go_num, hbi⟩
            case measure => simp [intOf]; omega
      · obtain rfl : j = R := by omega
        have hge : ¬ ((j : Int) < (j : Int)) := by omega
        obtain ⟨wo, hwo⟩ : ∃ x, x = wr := ⟨_, rfl⟩
        subst hwo
        by_cases hC : Tp = 0 ∧ 0 < n
        · obtain ⟨rfl, hn0⟩ := hC
          obtain ⟨hlw, hlr⟩ := HLA.out ⟨rfl, hn0⟩
          have HLR := hide hlr
          clear hlr HLA HNB
          have HX2 : Hid (scrollRes (j : Int) (W : Int) cs bs 0 (Bt : Int) n at' = ⟨0, (j : Int), (W : Int), rs1, rs2⟩) := HX
          obtain ⟨dl, hdl⟩ : ∃ dl, dl = rs2.length - W := ⟨_, rfl⟩
          have hdl2 : dl + W = rs2.length := by omega
          have HDL := hide hdl
          clear hdl
          have zz1 : IntKind.i64.wrap ((rs2.length : Int) - (W : Int)) = (dl : Int) := by rw [wrap_small (by omega) (by omega)]; omega
          have hge1 : ¬ ((rs2.length : Int) < (W : Int)) := by omega
          have hge2 : ¬ (rs2.length < W) := by omega
          obtain ⟨fb, fo, rfl, hlf⟩ : ∃ lb lo, a6 = some ⟨lb, lo, none⟩ ∧ ∀ i, i < rs2.length → wb.cell? ⟨lb, lo + i * 2, none⟩ = some (.int .i64 (rs2.getD i (0, 0)).1) ∧ wb.cell? ⟨lb, lo + i * 2 + 1, none⟩ = some (.int .i64 (rs2.getD i (0, 0)).2) := by
            obtain ⟨a', c', e', h'⟩ := m2
            injection e' with e1 e2 e3
            subst e1
            rcases h' with h' | ⟨b, off, h1, h2⟩
            · rw [h'] at hlw; simp at hlw; omega
            · exact ⟨b, off, h1, h2⟩
          have HLF := hide hlf
          clear hlf
          have r4 := (HR.below hbo.out).c4
          have g1 := (HG.below hbo.out).c1
          by_cases hlb : (Bt : Int) < n - 1
          · rw [show min (n.toNat - 1) Bt = Bt by omega] at HLR
            have hBW : Bt * W + W ≤ cs.length := by
              have h := Nat.mul_le_mul_right W (show Bt + 1 ≤ j by omega)
              rw [Nat.add_mul, Nat.one_mul, ← HCL.out] at h
              exact h
            go_wp2
            clear r4 g1 g0
            go_loopw [14] (fun i wr => ∃ k : Nat, k ≤ W ∧ i = .int .i64 k ∧ Hid (Below wb.heap.size wb wr)) (fun i _ => W - (intOf i).toNat)
            case atStart => exact ⟨0, Nat.zero_le _, rfl, hbo⟩
            case round =>
              obtain ⟨k, hk, rfl, hbi⟩ := hrel
              clear hbo
              have G := HG.below hbi.out
              have RG := HR.below hbi.out
              have g1 := G.c1
              by_cases hkl : k < W
              · have hkI : (k : Int) < (W : Int) := by omega
                obtain ⟨ix, hix⟩ : ∃ ix, ix = dl + k := ⟨_, rfl⟩
                have zz2 : IntKind.i64.wrap ((dl : Int) + (k : Int)) = (ix : Int) := by rw [wrap_small (by omega) (by omega)]; omega
                have hix1 : ix < rs2.length := by omega
                have hix2 : (ix : Int) < (rs2.length : Int) := by omega
                obtain ⟨y1, y2⟩ := HLF.out ix hix1
                replace y1 := cellb hbi.out y1
                replace y2 := cellb hbi.out y2
                have hpe : cs.getD (Bt * W + k) (0, 0) = rs2.getD ix (0, 0) := by rw [hix, HDL.out]; exact (HLR.out k hkl).symm
                generalize rs2.getD ix (0, 0) = p at *
                obtain ⟨p1, p2⟩ := p
                dsimp only at y1 y2
                have LG := l1.below hbi.out
                have hnc := neq_cell
                have hgc := guard_cell
                clear hix
                go_wp2_with fail
                clear g1
                refine wp_region_held_drew (S := (fun w' => w'.cell? ⟨rb, 4, none⟩ = some (.slice (some ⟨fb, fo, none⟩) rs2.length c6) ∧ w'.cell? ⟨gb, 0, none⟩ = some (.int .i64 (j : Int)) ∧ w'.cell? ⟨gb, 1, none⟩ = some (.int .i64 (W : Int)) ∧ w'.cell? ⟨gb, 2, none⟩ = some (.slice a1 cs.length c1) ∧ w'.cell? ⟨gb, 3, none⟩ = some (.slice a2 bs.length c2) ∧ w'.cell? ⟨fb, fo + ix * 2, none⟩ = some (.int .i64 p1) ∧ w'.cell? ⟨fb, fo + ix * 2 + 1, none⟩ = some (.int .i64 p2))) (by kernel_rfl) ?_ (fun hHeld => ?_)
                · (try dsimp only); exact ⟨RG.c4, G.c0, G.c1, G.c2, G.c3, y1, y2⟩
                refine wpAnyH_take (i := 0) (oi := ⟨_, _, _, _, _, _⟩) (v := ?_) rfl (by kernel_rfl) (by kernel_rfl) (by kernel_rfl) (fun _ _ _ h => h) (Or.inl ⟨by rfl, ?_⟩) hHeld ?_
                rotate_left
                · (intro w hSw; (try dsimp only at hSw); go_simp; try (with_reducible rfl))
                try simp only [Act.put, List.setIfInBounds_toArray, List.set_cons_zero, List.set_cons_succ]
                refine wpAnyH_take (i := 1) (oi := ⟨_, _, _, _, _, _⟩) (v := ?_) rfl (by kernel_rfl) (by kernel_rfl) (by kernel_rfl) (fun _ _ _ h => h) (Or.inl ⟨by rfl, ?_⟩) hHeld ?_
                rotate_left
                · (intro w hSw; (try dsimp only at hSw); go_simp; try (with_reducible rfl))
                try simp only [Act.put, List.setIfInBounds_toArray, List.set_cons_zero, List.set_cons_succ]
                refine wpAnyH_take (i := 2) (oi := ⟨_, _, _, _, _, _⟩) (v := ?_) rfl (by kernel_rfl) (by kernel_rfl) (by kernel_rfl) (fun _ _ _ h => h) (Or.inl ⟨by rfl, ?_⟩) hHeld ?_
                rotate_left
                · (intro w hSw; (try dsimp only at hSw); go_simp; try (with_reducible rfl))
                try simp only [Act.put, List.setIfInBounds_toArray, List.set_cons_zero, List.set_cons_succ]
                refine wpAnyH_take (i := 3) (oi := ⟨_, _, _, _, _, _⟩) (v := ?_) rfl (by kernel_rfl) (by kernel_rfl) (by kernel_rfl) (fun _ _ _ h => h) (Or.inl ⟨by rfl, ?_⟩) hHeld ?_
                rotate_left
                · (intro w hSw; (try dsimp only at hSw); go_simp; try (with_reducible rfl))
                try simp only [Act.put, List.setIfInBounds_toArray, List.set_cons_zero, List.set_cons_succ]
                refine wpAnyH_take (i := 4) (oi := ⟨_, _, _, _, _, _⟩) (v := ?_) rfl (by kernel_rfl) (by kernel_rfl) (by kernel_rfl) (fun _ _ _ h => h) (Or.inl ⟨by rfl, ?_⟩) hHeld ?_
                rotate_left
                · (intro w hSw; (try dsimp only at hSw); go_simp; try (with_reducible rfl))
                try simp only [Act.put, List.setIfInBounds_toArray, List.set_cons_zero, List.set_cons_succ]
                refine wpAnyH_take (i := 5) (oi := ⟨_, _, _, _, _, _⟩) (v := ?_) rfl (by kernel_rfl) (by kernel_rfl) (by kernel_rfl) (fun _ _ _ h => h) (Or.inl ⟨by rfl, ?_⟩) hHeld ?_
                rotate_left
                · (intro w hSw; (try dsimp only at hSw); go_simp; try (with_reducible rfl))
                try simp only [Act.put, List.setIfInBounds_toArray, List.set_cons_zero, List.set_cons_succ]
                refine wpAnyH_take (i := 6) (oi := ⟨_, _, _, _, _, _⟩) (v := ?_) rfl (by kernel_rfl) (by kernel_rfl) (by kernel_rfl) (fun _ _ _ h => h) (Or.inl ⟨by rfl, ?_⟩) hHeld ?_
                rotate_left
                · (intro w hSw; (try dsimp only at hSw); go_simp; try (with_reducible rfl))
                try simp only [Act.put, List.setIfInBounds_toArray, List.set_cons_zero, List.set_cons_succ]
                refine wpAnyH_take (i := 7) (oi := ⟨_, _, _, _, _, _⟩) (v := ?_) rfl (by kernel_rfl) (by kernel_rfl) (by kernel_rfl) (fun _ _ _ h => h) (Or.inl ⟨by rfl, ?_⟩) hHeld ?_
                rotate_left
                · (intro w hSw; (try dsimp only at hSw); go_simp; try (with_reducible rfl))
                try simp only [Act.put, List.setIfInBounds_toArray, List.set_cons_zero, List.set_cons_succ]
                refine wpAnyH_take (i := 8) (oi := ⟨_, _, _, _, _, _⟩) (v := ?_) rfl (by kernel_rfl) (by kernel_rfl) (by kernel_rfl) (fun _ _ _ h => h) (Or.inl ⟨by rfl, ?_⟩) hHeld ?_
                rotate_left
                · (intro w hSw; (try dsimp only at hSw); go_simp; try (with_reducible rfl))
                try simp only [Act.put, List.setIfInBounds_toArray, List.set_cons_zero, List.set_cons_succ]
                refine wpAnyH_take (i := 9) (oi := ⟨_, _, _, _, _, _⟩) (v := ?_) rfl (by kernel_rfl) (by kernel_rfl) (by kernel_rfl) (fun _ _ _ h => h) (Or.inl ⟨by rfl, ?_⟩) hHeld ?_
                rotate_left
                · (intro w hSw; (try dsimp only at hSw); go_simp; try (with_reducible rfl))
                try simp only [Act.put, List.setIfInBounds_toArray, List.set_cons_zero, List.set_cons_succ]
                refine wpAnyH_take (i := 10) (oi := ⟨_, _, _, _, _, _⟩) (v := ?_) rfl (by kernel_rfl) (by kernel_rfl) (by kernel_rfl) (fun _ _ _ h => h) (Or.inl ⟨by rfl, ?_⟩) hHeld ?_
                rotate_left
                · (intro w hSw; (try dsimp only at hSw); go_simp; try (with_reducible rfl))
                try simp only [Act.put, List.setIfInBounds_toArray, List.set_cons_zero, List.set_cons_succ]
                refine wpAnyH_take (i := 11) (oi := ⟨_, _, _, _, _, _⟩) (v := ?_) rfl (by kernel_rfl) (by kernel_rfl) (by kernel_rfl) (fun _ _ _ h => h) (Or.inl ⟨by rfl, ?_⟩) hHeld ?_
                rotate_left
                · (intro w hSw; (try dsimp only at hSw); go_simp; try (with_reducible rfl))
                try simp only [Act.put, List.setIfInBounds_toArray, List.set_cons_zero, List.set_cons_succ]
                refine wpAnyH_take (i := 12) (oi := ⟨_, _, _, _, _, _⟩) (v := ?_) rfl (by kernel_rfl) (by kernel_rfl) (by kernel_rfl) (fun _ _ _ h => h) (Or.inl ⟨by rfl, ?_⟩) hHeld ?_
                rotate_left
                · (intro w hSw; (try dsimp only at hSw); go_simp; try (with_reducible rfl))
                try simp only [Act.put, List.setIfInBounds_toArray, List.set_cons_zero, List.set_cons_succ]
                refine wpAnyH_take (i := 13) (oi := ⟨_, _, _, _, _, _⟩) (v := ?_) rfl (by kernel_rfl) (by kernel_rfl) (by kernel_rfl) (fun _ _ _ h => h) (Or.inl ⟨by rfl, ?_⟩) hHeld ?_
                rotate_left
                · (intro w hSw; (try dsimp only at hSw); go_simp; try (with_reducible rfl))
                try simp only [Act.put, List.setIfInBounds_toArray, List.set_cons_zero, List.set_cons_succ]
                refine wpAnyH_ready (rs := [14]) (by kernel_rfl) (by simp) ?_
                refine AllReadyH.cons (o := ⟨_, _, _, _, _, _⟩) rfl (fun K hK => ?_) AllReadyH.nil
                go_simp
                go_at_call 47
                refine (lwCell_calls (j : Int) (W : Int) (Bt : Int) k cs _ _ (Bt * W) (Bt * W + k) wr.drew (LG.below (show Below wr.heap.size wr wr.drew from below_drewN (Below.refl _ _) 1)) ⟨_, _, _, rfl⟩ (by rw [Int.natCast_mul]) (by omega) (by omega) (by omega) (by omega)).mono ?_
                rintro e w25 ⟨rfl, hb25⟩
                replace hb25 : Below wr.heap.size wr w25 := (below_drewN (Below.refl _ _) 1).trans hb25
                rw [hpe]
                dsimp only
                replace G := G.below hb25
                replace RG := RG.below hb25
                replace y1 := cellb hb25 y1
                replace y2 := cellb hb25 y2
                have hb26 := hide (hbi.out.trans (hb25.mono hbi.out.size))
                clear hb25 hbi
                try go_wp2_with fail
                refine hK.out _ _ ?_ ?_
                · (try dsimp only); exact ⟨RG.c4, G.c0, G.c1, G.c2, G.c3, y1, y2⟩
                clear hHeld hK K
                intro hHeld
                try simp only [Act.put, List.setIfInBounds_toArray, List.set_cons_zero, List.set_cons_succ]
                refine wpAnyH_take (i := 15) (oi := ⟨_, _, _, _, _, _⟩) (v := ?_) rfl (by kernel_rfl) (by kernel_rfl) (by kernel_rfl) (fun _ _ _ h => h) (Or.inl ⟨by rfl, ?_⟩) hHeld ?_
                rotate_left
                · (intro w hSw; (try dsimp only at hSw); go_simp; try (with_reducible rfl))
                try simp only [Act.put, List.setIfInBounds_toArray, List.set_cons_zero, List.set_cons_succ]
                refine wpAnyH_done (by kernel_rfl) ?_ _
                clear hHeld hnc hgc
                go_wp2
                go_roundw
                case rel => exact ⟨k + 1, by omega, by go_num, hb26⟩
                case measure => simp [intOf]; omega
              · obtain rfl : k = W := by omega
                have hge : ¬ ((k : Int) < (k : Int)) := by omega
                clear G RG
                go_wp2_with fail
                clear g1
                have G := HG.below hbi.out
                have RG := HR.below hbi.out
                have M1 := m1.below hbi.out
                have M2 := m2.below hbi.out
                have L1 := l1.below hbi.out
                have L2 := l2.below hbi.out
                have qq : Below w.heap.size w wr := qb.trans (hbi.out.mono qb.size)
                refine wp_region_held_drew (S := (fun w' => w'.cell? ⟨rb, 1, none⟩ = some (.int .i64 (j : Int)) ∧ w'.cell? ⟨rb, 2, none⟩ = some (.int .i64 (k : Int)) ∧ w'.cell? ⟨rb, 3, none⟩ = some (.slice a5 rs1.length c5) ∧ w'.cell? ⟨rb, 4, none⟩ = some (.slice (some ⟨fb, fo, none⟩) rs2.length c6) ∧ w'.cell? ⟨gb, 0, none⟩ = some (.int .i64 (j : Int)) ∧ w'.cell? ⟨gb, 1, none⟩ = some (.int .i64 (k : Int)) ∧ w'.cell? ⟨gb, 2, none⟩ = some (.slice a1 cs.length c1) ∧ w'.cell? ⟨gb, 3, none⟩ = some (.slice a2 bs.length c2))) (by kernel_rfl) ?_ (fun hHeld => ?_)
                · (try dsimp only); exact ⟨RG.c1, RG.c2, RG.c3, RG.c4, G.c0, G.c1, G.c2, G.c3⟩
                refine wpAnyH_take (i := 0) (oi := ⟨_, _, _, _, _, _⟩) (v := ?_) rfl (by kernel_rfl) (by kernel_rfl) (by kernel_rfl) (fun _ _ _ h => h) (Or.inl ⟨by rfl, ?_⟩) hHeld ?_
                rotate_left
                · (intro w hSw; (try dsimp only at hSw); go_simp; try (with_reducible rfl))
                try simp only [Act.put, List.setIfInBounds_toArray, List.set_cons_zero, List.set_cons_succ]
                refine wpAnyH_take (i := 1) (oi := ⟨_, _, _, _, _, _⟩) (v := ?_) rfl (by kernel_rfl) (by kernel_rfl) (by kernel_rfl) (fun _ _ _ h => h) (Or.inl ⟨by rfl, ?_⟩) hHeld ?_
                rotate_left
                · (intro w hSw; (try dsimp only at hSw); go_simp; try (with_reducible rfl))
                try simp only [Act.put, List.setIfInBounds_toArray, List.set_cons_zero, List.set_cons_succ]
                refine wpAnyH_ready (rs := [2]) (by kernel_rfl) (by simp) ?_
                refine AllReadyH.cons (o := ⟨_, _, _, _, _, _⟩) rfl (fun K hK => ?_) AllReadyH.nil
                go_simp
                go_at_call 48
                refine (implGridFault_calls (j : Int) (k : Int) rs1 rs2 _ _ wr.drew (by omega) (by omega) (M1.below (show Below wr.heap.size wr wr.drew from below_drewN (Below.refl _ _) 1)) (M2.below (show Below wr.heap.size wr wr.drew from below_drewN (Below.refl _ _) 1))).mono ?_
                rintro e w25 ⟨rfl, hbx⟩
                replace hbx : Below wr.heap.size wr w25 := (below_drewN (Below.refl _ _) 1).trans hbx
                rw [HGC.out]
                replace G := G.below hbx
                replace RG := RG.below hbx
                replace M1 := M1.below hbx
                replace M2 := M2.below hbx
                replace L1 := L1.below hbx
                replace L2 := L2.below hbx
                replace qq := qq.trans (hbx.mono qq.size)
                clear hbx
                try go_wp2_with fail
                refine hK.out _ _ ?_ ?_
                · (try dsimp only); exact ⟨RG.c1, RG.c2, RG.c3, RG.c4, G.c0, G.c1, G.c2, G.c3⟩
                clear hHeld hK K
                intro hHeld
                try simp only [Act.put, List.setIfInBounds_toArray, List.set_cons_zero, List.set_cons_succ]
                refine wpAnyH_take (i := 3) (oi := ⟨_, _, _, _, _, _⟩) (v := ?_) rfl (by kernel_rfl) (by kernel_rfl) (by kernel_rfl) (fun _ _ _ h => h) (Or.inl ⟨by rfl, ?_⟩) hHeld ?_
                rotate_left
                · (intro w hSw; (try dsimp only at hSw); go_simp; try (with_reducible rfl))
                try simp only [Act.put, List.setIfInBounds_toArray, List.set_cons_zero, List.set_cons_succ]
                refine wpAnyH_take (i := 4) (oi := ⟨_, _, _, _, _, _⟩) (v := ?_) rfl (by kernel_rfl) (by kernel_rfl) (by kernel_rfl) (fun _ _ _ h => h) (Or.inl ⟨by rfl, ?_⟩) hHeld ?_
                rotate_left
                · (intro w hSw; (try dsimp only at hSw); go_simp; try (with_reducible rfl))
                try simp only [Act.put, List.setIfInBounds_toArray, List.set_cons_zero, List.set_cons_succ]
                refine wpAnyH_take (i := 5) (oi := ⟨_, _, _, _, _, _⟩) (v := ?_) rfl (by kernel_rfl) (by kernel_rfl) (by kernel_rfl) (fun _ _ _ h => h) (Or.inl ⟨by rfl, ?_⟩) hHeld ?_
                rotate_left
                · (intro w hSw; (try dsimp only at hSw); go_simp; try (with_reducible rfl))
                try simp only [Act.put, List.setIfInBounds_toArray, List.set_cons_zero, List.set_cons_succ]
                refine wpAnyH_take (i := 6) (oi := ⟨_, _, _, _, _, _⟩) (v := ?_) rfl (by kernel_rfl) (by kernel_rfl) (by kernel_rfl) (fun _ _ _ h => h) (Or.inl ⟨by rfl, ?_⟩) hHeld ?_
                rotate_left
                · (intro w hSw; (try dsimp only at hSw); go_simp; try (with_reducible rfl))
                try simp only [Act.put, List.setIfInBounds_toArray, List.set_cons_zero, List.set_cons_succ]
                refine wpAnyH_take (i := 7) (oi := ⟨_, _, _, _, _, _⟩) (v := ?_) rfl (by kernel_rfl) (by kernel_rfl) (by kernel_rfl) (fun _ _ _ h => h) (Or.inl ⟨by rfl, ?_⟩) hHeld ?_
                rotate_left
                · (intro w hSw; (try dsimp only at hSw); go_simp; try (with_reducible rfl))
                try simp only [Act.put, List.setIfInBounds_toArray, List.set_cons_zero, List.set_cons_succ]
                refine wpAnyH_take (i := 8) (oi := ⟨_, _, _, _, _, _⟩) (v := ?_) rfl (by kernel_rfl) (by kernel_rfl) (by kernel_rfl) (fun _ _ _ h => h) (Or.inl ⟨by rfl, ?_⟩) hHeld ?_
                rotate_left
                · (intro w hSw; (try dsimp only at hSw); go_simp; try (with_reducible rfl))
                try simp only [Act.put, List.setIfInBounds_toArray, List.set_cons_zero, List.set_cons_succ]
                refine wpAnyH_take (i := 9) (oi := ⟨_, _, _, _, _, _⟩) (v := ?_) rfl (by kernel_rfl) (by kernel_rfl) (by kernel_rfl) (fun _ _ _ h => h) (Or.inl ⟨by rfl, ?_⟩) hHeld ?_
                rotate_left
                · (intro w hSw; (try dsimp only at hSw); go_simp; try (with_reducible rfl))
                try simp only [Act.put, List.setIfInBounds_toArray, List.set_cons_zero, List.set_cons_succ]
                refine wpAnyH_take (i := 10) (oi := ⟨_, _, _, _, _, _⟩) (v := ?_) rfl (by kernel_rfl) (by kernel_rfl) (by kernel_rfl) (fun _ _ _ h => h) (Or.inl ⟨by rfl, ?_⟩) hHeld ?_
                rotate_left
                · (intro w hSw; (try dsimp only at hSw); go_simp; try (with_reducible rfl))
                try simp only [Act.put, List.setIfInBounds_toArray, List.set_cons_zero, List.set_cons_succ]
                refine wpAnyH_take (i := 11) (oi := ⟨_, _, _, _, _, _⟩) (v := ?_) rfl (by kernel_rfl) (by kernel_rfl) (by kernel_rfl) (fun _ _ _ h => h) (Or.inl ⟨by rfl, ?_⟩) hHeld ?_
                rotate_left
                · (intro w hSw; (try dsimp only at hSw); go_simp; try (with_reducible rfl))
                try simp only [Act.put, List.setIfInBounds_toArray, List.set_cons_zero, List.set_cons_succ]
                refine wpAnyH_take (i := 12) (oi := ⟨_, _, _, _, _, _⟩) (v := undef) rfl (by kernel_rfl) (by kernel_rfl) (by kernel_rfl) (fun _ _ _ h => h) (Or.inr ⟨by rfl, rfl⟩) hHeld ?_
                try simp only [Act.put, List.setIfInBounds_toArray, List.set_cons_zero, List.set_cons_succ]
                refine wpAnyH_take (i := 13) (oi := ⟨_, _, _, _, _, _⟩) (v := undef) rfl (by kernel_rfl) (by kernel_rfl) (by kernel_rfl) (fun _ _ _ h => h) (Or.inr ⟨by rfl, rfl⟩) hHeld ?_
                try simp only [Act.put, List.setIfInBounds_toArray, List.set_cons_zero, List.set_cons_succ]
                refine wpAnyH_take (i := 14) (oi := ⟨_, _, _, _, _, _⟩) (v := undef) rfl (by kernel_rfl) (by kernel_rfl) (by kernel_rfl) (fun _ _ _ h => h) (Or.inr ⟨by rfl, rfl⟩) hHeld ?_
                try simp only [Act.put, List.setIfInBounds_toArray, List.set_cons_zero, List.set_cons_succ]
                refine wpAnyH_take (i := 15) (oi := ⟨_, _, _, _, _, _⟩) (v := undef) rfl (by kernel_rfl) (by kernel_rfl) (by kernel_rfl) (fun _ _ _ h => h) (Or.inr ⟨by rfl, rfl⟩) hHeld ?_
                try simp only [Act.put, List.setIfInBounds_toArray, List.set_cons_zero, List.set_cons_succ]
                refine wpAnyH_take (i := 16) (oi := ⟨_, _, _, _, _, _⟩) (v := undef) rfl (by kernel_rfl) (by kernel_rfl) (by kernel_rfl) (fun _ _ _ h => h) (Or.inr ⟨by rfl, rfl⟩) hHeld ?_
                try simp only [Act.put, List.setIfInBounds_toArray, List.set_cons_zero, List.set_cons_succ]
                refine wpAnyH_take (i := 17) (oi := ⟨_, _, _, _, _, _⟩) (v := undef) rfl (by kernel_rfl) (by kernel_rfl) (by kernel_rfl) (fun _ _ _ h => h) (Or.inr ⟨by rfl, rfl⟩) hHeld ?_
                try simp only [Act.put, List.setIfInBounds_toArray, List.set_cons_zero, List.set_cons_succ]
                refine wpAnyH_take (i := 18) (oi := ⟨_, _, _, _, _, _⟩) (v := undef) rfl (by kernel_rfl) (by kernel_rfl) (by kernel_rfl) (fun _ _ _ h => h) (Or.inr ⟨by rfl, rfl⟩) hHeld ?_
                try simp only [Act.put, List.setIfInBounds_toArray, List.set_cons_zero, List.set_cons_succ]
                refine wpAnyH_take (i := 19) (oi := ⟨_, _, _, _, _, _⟩) (v := undef) rfl (by kernel_rfl) (by kernel_rfl) (by kernel_rfl) (fun _ _ _ h => h) (Or.inr ⟨by rfl, rfl⟩) hHeld ?_
                try simp only [Act.put, List.setIfInBounds_toArray, List.set_cons_zero, List.set_cons_succ]
                refine wpAnyH_take (i := 20) (oi := ⟨_, _, _, _, _, _⟩) (v := ?_) rfl (by kernel_rfl) (by kernel_rfl) (by kernel_rfl) (fun _ _ _ h => h) (Or.inl ⟨by rfl, ?_⟩) hHeld ?_
                rotate_left
                · (intro w hSw; (try dsimp only at hSw); go_simp; try (with_reducible rfl))
                try simp only [Act.put, List.setIfInBounds_toArray, List.set_cons_zero, List.set_cons_succ]
                refine wpAnyH_take (i := 21) (oi := ⟨_, _, _, _, _, _⟩) (v := ?_) rfl (by kernel_rfl) (by kernel_rfl) (by kernel_rfl) (fun _ _ _ h => h) (Or.inl ⟨by rfl, ?_⟩) hHeld ?_
                rotate_left
                · (intro w hSw; (try dsimp only at hSw); go_simp; try (with_reducible rfl))
                try simp only [Act.put, List.setIfInBounds_toArray, List.set_cons_zero, List.set_cons_succ]
                refine wpAnyH_take (i := 22) (oi := ⟨_, _, _, _, _, _⟩) (v := ?_) rfl (by kernel_rfl) (by kernel_rfl) (by kernel_rfl) (fun _ _ _ h => h) (Or.inl ⟨by rfl, ?_⟩) hHeld ?_
                rotate_left
                · (intro w hSw; (try dsimp only at hSw); go_simp; try (with_reducible rfl))
                try simp only [Act.put, List.setIfInBounds_toArray, List.set_cons_zero, List.set_cons_succ]
                refine wpAnyH_take (i := 23) (oi := ⟨_, _, _, _, _, _⟩) (v := ?_) rfl (by kernel_rfl) (by kernel_rfl) (by kernel_rfl) (fun _ _ _ h => h) (Or.inl ⟨by rfl, ?_⟩) hHeld ?_
                rotate_left
                · (intro w hSw; (try dsimp only at hSw); go_simp; try (with_reducible rfl))
                try simp only [Act.put, List.setIfInBounds_toArray, List.set_cons_zero, List.set_cons_succ]
                refine wpAnyH_take (i := 24) (oi := ⟨_, _, _, _, _, _⟩) (v := ?_) rfl (by kernel_rfl) (by kernel_rfl) (by kernel_rfl) (fun _ _ _ h => h) (Or.inl ⟨by rfl, ?_⟩) hHeld ?_
                rotate_left
                · (intro w hSw; (try dsimp only at hSw); go_simp; try (with_reducible rfl))
                try simp only [Act.put, List.setIfInBounds_toArray, List.set_cons_zero, List.set_cons_succ]
                refine wpAnyH_take (i := 25) (oi := ⟨_, _, _, _, _, _⟩) (v := ?_) rfl (by kernel_rfl) (by kernel_rfl) (by kernel_rfl) (fun _ _ _ h => h) (Or.inl ⟨by rfl, ?_⟩) hHeld ?_
                rotate_left
                · (intro w hSw; (try dsimp only at hSw); go_simp; try (with_reducible rfl))
                try simp only [Act.put, List.setIfInBounds_toArray, List.set_cons_zero, List.set_cons_succ]
                refine wpAnyH_take (i := 26) (oi := ⟨_, _, _, _, _, _⟩) (v := ?_) rfl (by kernel_rfl) (by kernel_rfl) (by kernel_rfl) (fun _ _ _ h => h) (Or.inl ⟨by rfl, ?_⟩) hHeld ?_
                rotate_left
                · (intro w hSw; (try dsimp only at hSw); go_simp; try (with_reducible rfl))
                try simp only [Act.put, List.setIfInBounds_toArray, List.set_cons_zero, List.set_cons_succ]
                refine wpAnyH_take (i := 27) (oi := ⟨_, _, _, _, _, _⟩) (v := ?_) rfl (by kernel_rfl) (by kernel_rfl) (by kernel_rfl) (fun _ _ _ h => h) (Or.inl ⟨by rfl, ?_⟩) hHeld ?_
                rotate_left
                · (intro w hSw; (try dsimp only at hSw); go_simp; try (with_reducible rfl))
                try simp only [Act.put, List.setIfInBounds_toArray, List.set_cons_zero, List.set_cons_succ]
                refine wpAnyH_take (i := 28) (oi := ⟨_, _, _, _, _, _⟩) (v := ?_) rfl (by kernel_rfl) (by kernel_rfl) (by kernel_rfl) (fun _ _ _ h => h) (Or.inl ⟨by rfl, ?_⟩) hHeld ?_
                rotate_left
                · (intro w hSw; (try dsimp only at hSw); go_simp; try (with_reducible rfl))
                try simp only [Act.put, List.setIfInBounds_toArray, List.set_cons_zero, List.set_cons_succ]
                refine wpAnyH_take (i := 29) (oi := ⟨_, _, _, _, _, _⟩) (v := ?_) rfl (by kernel_rfl) (by kernel_rfl) (by kernel_rfl) (fun _ _ _ h => h) (Or.inl ⟨by rfl, ?_⟩) hHeld ?_
                rotate_left
                · (intro w hSw; (try dsimp only at hSw); go_simp; try (with_reducible rfl))
                try simp only [Act.put, List.setIfInBounds_toArray, List.set_cons_zero, List.set_cons_succ]
                refine wpAnyH_ready (rs := [30]) (by kernel_rfl) (by simp) ?_
                refine AllReadyH.cons (o := ⟨_, _, _, _, _, _⟩) rfl (fun K hK => ?_) AllReadyH.nil
                go_simp
                go_at_call 51
                refine (specScrollGrid_calls (j : Int) (k : Int) cs bs 0 (Bt : Int) n at' _ _ w25 (by omega) (by omega) L1 L2).mono ?_
                rintro e w26 ⟨v5, v6, rfl, ho, hbx⟩
                rw [HX2.out] at ho ⊢
                dsimp only at ho ⊢
                have N1 := ho.read1
                have N2 := ho.read2
                clear ho
                obtain ⟨b5, d5, rfl, hx⟩ := id N1
                clear hx
                obtain ⟨b6, d6, rfl, hx⟩ := id N2
                clear hx
                replace G := G.below hbx
                replace RG := RG.below hbx
                replace M1 := M1.below hbx
                replace M2 := M2.below hbx
                replace L1 := L1.below hbx
                replace L2 := L2.below hbx
                replace qq := qq.trans (hbx.mono qq.size)
                clear hbx
                try go_wp2_with fail
                refine hK.out _ _ ?_ ?_
                · (try dsimp only); exact ⟨RG.c1, RG.c2, RG.c3, RG.c4, G.c0, G.c1, G.c2, G.c3⟩
                clear hHeld hK K
                intro hHeld
                try simp only [Act.put, List.setIfInBounds_toArray, List.set_cons_zero, List.set_cons_succ]
                refine wpAnyH_take (i := 31) (oi := ⟨_, _, _, _, _, _⟩) (v := ?_) rfl (by kernel_rfl) (by kernel_rfl) (by kernel_rfl) (fun _ _ _ h => h) (Or.inl ⟨by rfl, ?_⟩) hHeld ?_
                rotate_left
                · (intro w hSw; (try dsimp only at hSw); go_simp; try (with_reducible rfl))
                try simp only [Act.put, List.setIfInBounds_toArray, List.set_cons_zero, List.set_cons_succ]
                refine wpAnyH_ready (rs := [32]) (by kernel_rfl) (by simp) ?_
                refine AllReadyH.cons (o := ⟨_, _, _, _, _, _⟩) rfl (fun K hK => ?_) AllReadyH.nil
                go_simp
                go_at_call 52
                refine (implSameGrids_calls (j : Int) (k : Int) rs1 rs2 (j : Int) (k : Int) rs1 rs2 _ _ _ _ w26 (by omega) (by omega) (by omega) (by omega) M1 M2 N1 N2).mono ?_
                rintro e w27 ⟨rfl, hbx⟩
                rw [sameG_self]
                replace G := G.below hbx
                replace RG := RG.below hbx
                replace M1 := M1.below hbx
                replace M2 := M2.below hbx
                replace L1 := L1.below hbx
                replace L2 := L2.below hbx
                replace qq := qq.trans (hbx.mono qq.size)
                clear hbx
                try go_wp2_with fail
                refine hK.out _ _ ?_ ?_
                · (try dsimp only); exact ⟨RG.c1, RG.c2, RG.c3, RG.c4, G.c0, G.c1, G.c2, G.c3⟩
                clear hHeld hK K
                intro hHeld
                try simp only [Act.put, List.setIfInBounds_toArray, List.set_cons_zero, List.set_cons_succ]
                refine wpAnyH_take (i := 33) (oi := ⟨_, _, _, _, _, _⟩) (v := ?_) rfl (by kernel_rfl) (by kernel_rfl) (by kernel_rfl) (fun _ _ _ h => h) (Or.inl ⟨by rfl, ?_⟩) hHeld ?_
                rotate_left
                · (intro w hSw; (try dsimp only at hSw); go_simp; try (with_reducible rfl))
                try simp only [Act.put, List.setIfInBounds_toArray, List.set_cons_zero, List.set_cons_succ]
                refine wpAnyH_take (i := 34) (oi := ⟨_, _, _, _, _, _⟩) (v := ?_) rfl (by kernel_rfl) (by kernel_rfl) (by kernel_rfl) (fun _ _ _ h => h) (Or.inl ⟨by rfl, ?_⟩) hHeld ?_
                rotate_left
                · (intro w hSw; (try dsimp only at hSw); go_simp; try (with_reducible rfl))
                try simp only [Act.put, List.setIfInBounds_toArray, List.set_cons_zero, List.set_cons_succ]
                refine wpAnyH_done (by kernel_rfl) ?_ _
                clear hHeld
                go_wp2
                go_ret
                exact ⟨rfl, qq⟩
          · obtain ⟨ln, hln⟩ : ∃ ln : Nat, n - 1 = (ln : Int) := ⟨(n - 1).toNat, by omega⟩
            rw [show min (n.toNat - 1) Bt = ln by omega] at HLR
            have hBW : ln * W + W ≤ cs.length := by
              have h := Nat.mul_le_mul_right W (show ln + 1 ≤ j by omega)
              rw [Nat.add_mul, Nat.one_mul, ← HCL.out] at h
              exact h
            have HLN := hide hln
            clear hln
            go_wp2
            clear r4 g1 g0
            go_loopw [14] (fun i wr => ∃ k : Nat, k ≤ W ∧ i = .int .i64 k ∧ Hid (Below wb.heap.size wb wr)) (fun i _ => W - (intOf i).toNat)
            case atStart => exact ⟨0, Nat.zero_le _, rfl, hbo⟩
            case round =>
              obtain ⟨k, hk, rfl, hbi⟩ := hrel
              clear hbo
              have G := HG.below hbi.out
              have RG := HR.below hbi.out
              have g1 := G.c1
              by_cases hkl : k < W
              · have hkI : (k : Int) < (W : Int) := by omega
                obtain ⟨ix, hix⟩ : ∃ ix, ix = dl + k := ⟨_, rfl⟩
                have zz2 : IntKind.i64.wrap ((dl : Int) + (k : Int)) = (ix : Int) := by rw [wrap_small (by omega) (by omega)]; omega
                have hix1 : ix < rs2.length := by omega
                have hix2 : (ix : Int) < (rs2.length : Int) := by omega
                obtain ⟨y1, y2⟩ := HLF.out ix hix1
                replace y1 := cellb hbi.out y1
                replace y2 := cellb hbi.out y2
                have hpe : cs.getD (ln * W + k) (0, 0) = rs2.getD ix (0, 0) := by rw [hix, HDL.out]; exact (HLR.out k hkl).symm
                generalize rs2.getD ix (0, 0) = p at *
                obtain ⟨p1, p2⟩ := p
                dsimp only at y1 y2
                have LG := l1.below hbi.out
                have hnc := neq_cell
                have hgc := guard_cell
                clear hix
                go_wp2_with fail
                clear g1
                refine wp_region_held_drew (S := (fun w' => w'.cell? ⟨rb, 4, none⟩ = some (.slice (some ⟨fb, fo, none⟩) rs2.length c6) ∧ w'.cell? ⟨gb, 0, none⟩ = some (.int .i64 (j : Int)) ∧ w'.cell? ⟨gb, 1, none⟩ = some (.int .i64 (W : Int)) ∧ w'.cell? ⟨gb, 2, none⟩ = some (.slice a1 cs.length c1) ∧ w'.cell? ⟨gb, 3, none⟩ = some (.slice a2 bs.length c2) ∧ w'.cell? ⟨fb, fo + ix * 2, none⟩ = some (.int .i64 p1) ∧ w'.cell? ⟨fb, fo + ix * 2 + 1, none⟩ = some (.int .i64 p2))) (by kernel_rfl) ?_ (fun hHeld => ?_)
                · (try dsimp only); exact ⟨RG.c4, G.c0, G.c1, G.c2, G.c3, y1, y2⟩
                refine wpAnyH_take (i := 0) (oi := ⟨_, _, _, _, _, _⟩) (v := ?_) rfl (by kernel_rfl) (by kernel_rfl) (by kernel_rfl) (fun _ _ _ h => h) (Or.inl ⟨by rfl, ?_⟩) hHeld ?_
                rotate_left
                · (intro w hSw; (try dsimp only at hSw); go_simp; try (with_reducible rfl))
                try simp only [Act.put, List.setIfInBounds_toArray, List.set_cons_zero, List.set_cons_succ]
                refine wpAnyH_take (i := 1) (oi := ⟨_, _, _, _, _, _⟩) (v := ?_) rfl (by kernel_rfl) (by kernel_rfl) (by kernel_rfl) (fun _ _ _ h => h) (Or.inl ⟨by rfl, ?_⟩) hHeld ?_
                rotate_left
                · (intro w hSw; (try dsimp only at hSw); go_simp; try (with_reducible rfl))
                try simp only [Act.put, List.setIfInBounds_toArray, List.set_cons_zero, List.set_cons_succ]
                refine wpAnyH_take (i := 2) (oi := ⟨_, _, _, _, _, _⟩) (v := ?_) rfl (by kernel_rfl) (by kernel_rfl) (by kernel_rfl) (fun _ _ _ h => h) (Or.inl ⟨by rfl, ?_⟩) hHeld ?_
                rotate_left
                · (intro w hSw; (try dsimp only at hSw); go_simp; try (with_reducible rfl))
                try simp only [Act.put, List.setIfInBounds_toArray, List.set_cons_zero, List.set_cons_succ]
                refine wpAnyH_take (i := 3) (oi := ⟨_, _, _, _, _, _⟩) (v := ?_) rfl (by kernel_rfl) (by kernel_rfl) (by kernel_rfl) (fun _ _ _ h => h) (Or.inl ⟨by rfl, ?_⟩) hHeld ?_
                rotate_left
                · (intro w hSw; (try dsimp only at hSw); go_simp; try (with_reducible rfl))
                try simp only [Act.put, List.setIfInBounds_toArray, List.set_cons_zero, List.set_cons_succ]
                refine wpAnyH_take (i := 4) (oi := ⟨_, _, _, _, _, _⟩) (v := ?_) rfl (by kernel_rfl) (by kernel_rfl) (by kernel_rfl) (fun _ _ _ h => h) (Or.inl ⟨by rfl, ?_⟩) hHeld ?_
                rotate_left
                · (intro w hSw; (try dsimp only at hSw); go_simp; try (with_reducible rfl))
                try simp only [Act.put, List.setIfInBounds_toArray, List.set_cons_zero, List.set_cons_succ]
                refine wpAnyH_take (i := 5) (oi := ⟨_, _, _, _, _, _⟩) (v := ?_) rfl (by kernel_rfl) (by kernel_rfl) (by kernel_rfl) (fun _ _ _ h => h) (Or.inl ⟨by rfl, ?_⟩) hHeld ?_
                rotate_left
                · (intro w hSw; (try dsimp only at hSw); go_simp; try (with_reducible rfl))
                try simp only [Act.put, List.setIfInBounds_toArray, List.set_cons_zero, List.set_cons_succ]
                refine wpAnyH_take (i := 6) (oi := ⟨_, _, _, _, _, _⟩) (v := ?_) rfl (by kernel_rfl) (by kernel_rfl) (by kernel_rfl) (fun _ _ _ h => h) (Or.inl ⟨by rfl, ?_⟩) hHeld ?_
                rotate_left
                · (intro w hSw; (try dsimp only at hSw); go_simp; try (with_reducible rfl))
                try simp only [Act.put, List.setIfInBounds_toArray, List.set_cons_zero, List.set_cons_succ]
                refine wpAnyH_take (i := 7) (oi := ⟨_, _, _, _, _, _⟩) (v := ?_) rfl (by kernel_rfl) (by kernel_rfl) (by kernel_rfl) (fun _ _ _ h => h) (Or.inl ⟨by rfl, ?_⟩) hHeld ?_
                rotate_left
                · (intro w hSw; (try dsimp only at hSw); go_simp; try (with_reducible rfl))
                try simp only [Act.put, List.setIfInBounds_toArray, List.set_cons_zero, List.set_cons_succ]
                refine wpAnyH_take (i := 8) (oi := ⟨_, _, _, _, _, _⟩) (v := ?_) rfl (by kernel_rfl) (by kernel_rfl) (by kernel_rfl) (fun _ _ _ h => h) (Or.inl ⟨by rfl, ?_⟩) hHeld ?_
                rotate_left
                · (intro w hSw; (try dsimp only at hSw); go_simp; try (with_reducible rfl))
                try simp only [Act.put, List.setIfInBounds_toArray, List.set_cons_zero, List.set_cons_succ]
                refine wpAnyH_take (i := 9) (oi := ⟨_, _, _, _, _, _⟩) (v := ?_) rfl (by kernel_rfl) (by kernel_rfl) (by kernel_rfl) (fun _ _ _ h => h) (Or.inl ⟨by rfl, ?_⟩) hHeld ?_
                rotate_left
                · (intro w hSw; (try dsimp only at hSw); go_simp; try (with_reducible rfl))
                try simp only [Act.put, List.setIfInBounds_toArray, List.set_cons_zero, List.set_cons_succ]
                refine wpAnyH_take (i := 10) (oi := ⟨_, _, _, _, _, _⟩) (v := ?_) rfl (by kernel_rfl) (by kernel_rfl) (by kernel_rfl) (fun _ _ _ h => h) (Or.inl ⟨by rfl, ?_⟩) hHeld ?_
                rotate_left
                · (intro w hSw; (try dsimp only at hSw); go_simp; try (with_reducible rfl))
                try simp only [Act.put, List.setIfInBounds_toArray, List.set_cons_zero, List.set_cons_succ]
                refine wpAnyH_take (i := 11) (oi := ⟨_, _, _, _, _, _⟩) (v := ?_) rfl (by kernel_rfl) (by kernel_rfl) (by kernel_rfl) (fun _ _ _ h => h) (Or.inl ⟨by rfl, ?_⟩) hHeld ?_
                rotate_left
                · (intro w hSw; (try dsimp only at hSw); go_simp; try (with_reducible rfl))
                try simp only [Act.put, List.setIfInBounds_toArray, List.set_cons_zero, List.set_cons_succ]
                refine wpAnyH_take (i := 12) (oi := ⟨_, _, _, _, _, _⟩) (v := ?_) rfl (by kernel_rfl) (by kernel_rfl) (by kernel_rfl) (fun _ _ _ h => h) (Or.inl ⟨by rfl, ?_⟩) hHeld ?_
                rotate_left
                · (intro w hSw; (try dsimp only at hSw); go_simp; try (with_reducible rfl))
                try simp only [Act.put, List.setIfInBounds_toArray, List.set_cons_zero, List.set_cons_succ]
                refine wpAnyH_take (i := 13) (oi := ⟨_, _, _, _, _, _⟩) (v := ?_) rfl (by kernel_rfl) (by kernel_rfl) (by kernel_rfl) (fun _ _ _ h => h) (Or.inl ⟨by rfl, ?_⟩) hHeld ?_
                rotate_left
                · (intro w hSw; (try dsimp only at hSw); go_simp; try (with_reducible rfl))
                try simp only [Act.put, List.setIfInBounds_toArray, List.set_cons_zero, List.set_cons_succ]
                refine wpAnyH_ready (rs := [14]) (by kernel_rfl) (by simp) ?_
                refine AllReadyH.cons (o := ⟨_, _, _, _, _, _⟩) rfl (fun K hK => ?_) AllReadyH.nil
                go_simp
                go_at_call 47
                refine (lwCell_calls (j : Int) (W : Int) (n - 1) k cs _ _ (ln * W) (ln * W + k) wr.drew (LG.below (show Below wr.heap.size wr wr.drew from below_drewN (Below.refl _ _) 1)) ⟨_, _, _, rfl⟩ (by rw [HLN.out, Int.natCast_mul]) (by omega) (by omega) (by omega) (by omega)).mono ?_
                rintro e w25 ⟨rfl, hb25⟩
                replace hb25 : Below wr.heap.size wr w25 := (below_drewN (Below.refl _ _) 1).trans hb25
                rw [hpe]
                dsimp only
                replace G := G.below hb25
                replace RG := RG.below hb25
                replace y1 := cellb hb25 y1
                replace y2 := cellb hb25 y2
                have hb26 := hide (hbi.out.trans (hb25.mono hbi.out.size))
                clear hb25 hbi
                try go_wp2_with fail
                refine hK.out _ _ ?_ ?_
                · (try dsimp only); exact ⟨RG.c4, G.c0, G.c1, G.c2, G.c3, y1, y2⟩
                clear hHeld hK K
                intro hHeld
                try simp only [Act.put, List.setIfInBounds_toArray, List.set_cons_zero, List.set_cons_succ]
                refine wpAnyH_take (i := 15) (oi := ⟨_, _, _, _, _, _⟩) (v := ?_) rfl (by kernel_rfl) (by kernel_rfl) (by kernel_rfl) (fun _ _ _ h => h) (Or.inl ⟨by rfl, ?_⟩) hHeld ?_
                rotate_left
                · (intro w hSw; (try dsimp only at hSw); go_simp; try (with_reducible rfl))
                try simp only [Act.put, List.setIfInBounds_toArray, List.set_cons_zero, List.set_cons_succ]
                refine wpAnyH_done (by kernel_rfl) ?_ _
                clear hHeld hnc hgc
                go_wp2
                go_roundw
                case rel => exact ⟨k + 1, by omega, by go_num, hb26⟩
                case measure => simp [intOf]; omega
              · obtain rfl : k = W := by omega
                have hge : ¬ ((k : Int) < (k : Int)) := by omega
                clear G RG
                go_wp2_with fail
                clear g1
                have G := HG.below hbi.out
                have RG := HR.below hbi.out
                have M1 := m1.below hbi.out
                have M2 := m2.below hbi.out
                have L1 := l1.below hbi.out
                have L2 := l2.below hbi.out
                have qq : Below w.heap.size w wr := qb.trans (hbi.out.mono qb.size)
                refine wp_region_held_drew (S := (fun w' => w'.cell? ⟨rb, 1, none⟩ = some (.int .i64 (j : Int)) ∧ w'.cell? ⟨rb, 2, none⟩ = some (.int .i64 (k : Int)) ∧ w'.cell? ⟨rb, 3, none⟩ = some (.slice a5 rs1.length c5) ∧ w'.cell? ⟨rb, 4, none⟩ = some (.slice (some ⟨fb, fo, none⟩) rs2.length c6) ∧ w'.cell? ⟨gb, 0, none⟩ = some (.int .i64 (j : Int)) ∧ w'.cell? ⟨gb, 1, none⟩ = some (.int .i64 (k : Int)) ∧ w'.cell? ⟨gb, 2, none⟩ = some (.slice a1 cs.length c1) ∧ w'.cell? ⟨gb, 3, none⟩ = some (.slice a2 bs.length c2))) (by kernel_rfl) ?_ (fun hHeld => ?_)
                · (try dsimp only); exact ⟨RG.c1, RG.c2, RG.c3, RG.c4, G.c0, G.c1, G.c2, G.c3⟩
                refine wpAnyH_take (i := 0) (oi := ⟨_, _, _, _, _, _⟩) (v := ?_) rfl (by kernel_rfl) (by kernel_rfl) (by kernel_rfl) (fun _ _ _ h => h) (Or.inl ⟨by rfl, ?_⟩) hHeld ?_
                rotate_left
                · (intro w hSw; (try dsimp only at hSw); go_simp; try (with_reducible rfl))
                try simp only [Act.put, List.setIfInBounds_toArray, List.set_cons_zero, List.set_cons_succ]
                refine wpAnyH_take (i := 1) (oi := ⟨_, _, _, _, _, _⟩) (v := ?_) rfl (by kernel_rfl) (by kernel_rfl) (by kernel_rfl) (fun _ _ _ h => h) (Or.inl ⟨by rfl, ?_⟩) hHeld ?_
                rotate_left
                · (intro w hSw; (try dsimp only at hSw); go_simp; try (with_reducible rfl))
                try simp only [Act.put, List.setIfInBounds_toArray, List.set_cons_zero, List.set_cons_succ]
                refine wpAnyH_ready (rs := [2]) (by kernel_rfl) (by simp) ?_
                refine AllReadyH.cons (o := ⟨_, _, _, _, _, _⟩) rfl (fun K hK => ?_) AllReadyH.nil
                go_simp
                go_at_call 48
                refine (implGridFault_calls (j : Int) (k : Int) rs1 rs2 _ _ wr.drew (by omega) (by omega) (M1.below (show Below wr.heap.size wr wr.drew from below_drewN (Below.refl _ _) 1)) (M2.below (show Below wr.heap.size wr wr.drew from below_drewN (Below.refl _ _) 1))).mono ?_
                rintro e w25 ⟨rfl, hbx⟩
                replace hbx : Below wr.heap.size wr w25 := (below_drewN (Below.refl _ _) 1).trans hbx
                rw [HGC.out]
                replace G := G.below hbx
                replace RG := RG.below hbx
                replace M1 := M1.below hbx
                replace M2 := M2.below hbx
                replace L1 := L1.below hbx
                replace L2 := L2.below hbx
                replace qq := qq.trans (hbx.mono qq.size)
                clear hbx
                try go_wp2_with fail
                refine hK.out _ _ ?_ ?_
                · (try dsimp only); exact ⟨RG.c1, RG.c2, RG.c3, RG.c4, G.c0, G.c1, G.c2, G.c3⟩
                clear hHeld hK K
                intro hHeld
                try simp only [Act.put, List.setIfInBounds_toArray, List.set_cons_zero, List.set_cons_succ]
                refine wpAnyH_take (i := 3) (oi := ⟨_, _, _, _, _, _⟩) (v := ?_) rfl (by kernel_rfl) (by kernel_rfl) (by kernel_rfl) (fun _ _ _ h => h) (Or.inl ⟨by rfl, ?_⟩) hHeld ?_
                rotate_left
                · (intro w hSw; (try dsimp only at hSw); go_simp; try (with_reducible rfl))
                try simp only [Act.put, List.setIfInBounds_toArray, List.set_cons_zero, List.set_cons_succ]
                refine wpAnyH_take (i := 4) (oi := ⟨_, _, _, _, _, _⟩) (v := ?_) rfl (by kernel_rfl) (by kernel_rfl) (by kernel_rfl) (fun _ _ _ h => h) (Or.inl ⟨by rfl, ?_⟩) hHeld ?_
                rotate_left
                · (intro w hSw; (try dsimp only at hSw); go_simp; try (with_reducible rfl))
                try simp only [Act.put, List.setIfInBounds_toArray, List.set_cons_zero, List.set_cons_succ]
                refine wpAnyH_take (i := 5) (oi := ⟨_, _, _, _, _, _⟩) (v := ?_) rfl (by kernel_rfl) (by kernel_rfl) (by kernel_rfl) (fun _ _ _ h => h) (Or.inl ⟨by rfl, ?_⟩) hHeld ?_
                rotate_left
                · (intro w hSw; (try dsimp only at hSw); go_simp; try (with_reducible rfl))
                try simp only [Act.put, List.setIfInBounds_toArray, List.set_cons_zero, List.set_cons_succ]
                refine wpAnyH_take (i := 6) (oi := ⟨_, _, _, _, _, _⟩) (v := ?_) rfl (by kernel_rfl) (by kernel_rfl) (by kernel_rfl) (fun _ _ _ h => h) (Or.inl ⟨by rfl, ?_⟩) hHeld ?_
                rotate_left
                · (intro w hSw; (try dsimp only at hSw); go_simp; try (with_reducible rfl))
                try simp only [Act.put, List.setIfInBounds_toArray, List.set_cons_zero, List.set_cons_succ]
                refine wpAnyH_take (i := 7) (oi := ⟨_, _, _, _, _, _⟩) (v := ?_) rfl (by kernel_rfl) (by kernel_rfl) (by kernel_rfl) (fun _ _ _ h => h) (Or.inl ⟨by rfl, ?_⟩) hHeld ?_
                rotate_left
                · (intro w hSw; (try dsimp only at hSw); go_simp; try (with_reducible rfl))
                try simp only [Act.put, List.setIfInBounds_toArray, List.set_cons_zero, List.set_cons_succ]
                refine wpAnyH_take (i := 8) (oi := ⟨_, _, _, _, _, _⟩) (v := ?_) rfl (by kernel_rfl) (by kernel_rfl) (by kernel_rfl) (fun _ _ _ h => h) (Or.inl ⟨by rfl, ?_⟩) hHeld ?_
                rotate_left
                · (intro w hSw; (try dsimp only at hSw); go_simp; try (with_reducible rfl))
                try simp only [Act.put, List.setIfInBounds_toArray, List.set_cons_zero, List.set_cons_succ]
                refine wpAnyH_take (i := 9) (oi := ⟨_, _, _, _, _, _⟩) (v := ?_) rfl (by kernel_rfl) (by kernel_rfl) (by kernel_rfl) (fun _ _ _ h => h) (Or.inl ⟨by rfl, ?_⟩) hHeld ?_
                rotate_left
                · (intro w hSw; (try dsimp only at hSw); go_simp; try (with_reducible rfl))
                try simp only [Act.put, List.setIfInBounds_toArray, List.set_cons_zero, List.set_cons_succ]
                refine wpAnyH_take (i := 10) (oi := ⟨_, _, _, _, _, _⟩) (v := ?_) rfl (by kernel_rfl) (by kernel_rfl) (by kernel_rfl) (fun _ _ _ h => h) (Or.inl ⟨by rfl, ?_⟩) hHeld ?_
                rotate_left
                · (intro w hSw; (try dsimp only at hSw); go_simp; try (with_reducible rfl))
                try simp only [Act.put, List.setIfInBounds_toArray, List.set_cons_zero, List.set_cons_succ]
                refine wpAnyH_take (i := 11) (oi := ⟨_, _, _, _, _, _⟩) (v := ?_) rfl (by kernel_rfl) (by kernel_rfl) (by kernel_rfl) (fun _ _ _ h => h) (Or.inl ⟨by rfl, ?_⟩) hHeld ?_
                rotate_left
                · (intro w hSw; (try dsimp only at hSw); go_simp; try (with_reducible rfl))
                try simp only [Act.put, List.setIfInBounds_toArray, List.set_cons_zero, List.set_cons_succ]
                refine wpAnyH_take (i := 12) (oi := ⟨_, _, _, _, _, _⟩) (v := undef) rfl (by kernel_rfl) (by kernel_rfl) (by kernel_rfl) (fun _ _ _ h => h) (Or.inr ⟨by rfl, rfl⟩) hHeld ?_
                try simp only [Act.put, List.setIfInBounds_toArray, List.set_cons_zero, List.set_cons_succ]
                refine wpAnyH_take (i := 13) (oi := ⟨_, _, _, _, _, _⟩) (v := undef) rfl (by kernel_rfl) (by kernel_rfl) (by kernel_rfl) (fun _ _ _ h => h) (Or.inr ⟨by rfl, rfl⟩) hHeld ?_
                try simp only [Act.put, List.setIfInBounds_toArray, List.set_cons_zero, List.set_cons_succ]
                refine wpAnyH_take (i := 14) (oi := ⟨_, _, _, _, _, _⟩) (v := undef) rfl (by kernel_rfl) (by kernel_rfl) (by kernel_rfl) (fun _ _ _ h => h) (Or.inr ⟨by rfl, rfl⟩) hHeld ?_
                try simp only [Act.put, List.setIfInBounds_toArray, List.set_cons_zero, List.set_cons_succ]
                refine wpAnyH_take (i := 15) (oi := ⟨_, _, _, _, _, _⟩) (v := undef) rfl (by kernel_rfl) (by kernel_rfl) (by kernel_rfl) (fun _ _ _ h => h) (Or.inr ⟨by rfl, rfl⟩) hHeld ?_
                try simp only [Act.put, List.setIfInBounds_toArray, List.set_cons_zero, List.set_cons_succ]
                refine wpAnyH_take (i := 16) (oi := ⟨_, _, _, _, _, _⟩) (v := undef) rfl (by kernel_rfl) (by kernel_rfl) (by kernel_rfl) (fun _ _ _ h => h) (Or.inr ⟨by rfl, rfl⟩) hHeld ?_
                try simp only [Act.put, List.setIfInBounds_toArray, List.set_cons_zero, List.set_cons_succ]
                refine wpAnyH_take (i := 17) (oi := ⟨_, _, _, _, _, _⟩) (v := undef) rfl (by kernel_rfl) (by kernel_rfl) (by kernel_rfl) (fun _ _ _ h => h) (Or.inr ⟨by rfl, rfl⟩) hHeld ?_
                try simp only [Act.put, List.setIfInBounds_toArray, List.set_cons_zero, List.set_cons_succ]
                refine wpAnyH_take (i := 18) (oi := ⟨_, _, _, _, _, _⟩) (v := undef) rfl (by kernel_rfl) (by kernel_rfl) (by kernel_rfl) (fun _ _ _ h => h) (Or.inr ⟨by rfl, rfl⟩) hHeld ?_
                try simp only [Act.put, List.setIfInBounds_toArray, List.set_cons_zero, List.set_cons_succ]
                refine wpAnyH_take (i := 19) (oi := ⟨_, _, _, _, _, _⟩) (v := undef) rfl (by kernel_rfl) (by kernel_rfl) (by kernel_rfl) (fun _ _ _ h => h) (Or.inr ⟨by rfl, rfl⟩) hHeld ?_
                try simp only [Act.put, List.setIfInBounds_toArray, List.set_cons_zero, List.set_cons_succ]
                refine wpAnyH_take (i := 20) (oi := ⟨_, _, _, _, _, _⟩) (v := ?_) rfl (by kernel_rfl) (by kernel_rfl) (by kernel_rfl) (fun _ _ _ h => h) (Or.inl ⟨by rfl, ?_⟩) hHeld ?_
                rotate_left
                · (intro w hSw; (try dsimp only at hSw); go_simp; try (with_reducible rfl))
                try simp only [Act.put, List.setIfInBounds_toArray, List.set_cons_zero, List.set_cons_succ]
                refine wpAnyH_take (i := 21) (oi := ⟨_, _, _, _, _, _⟩) (v := ?_) rfl (by kernel_rfl) (by kernel_rfl) (by kernel_rfl) (fun _ _ _ h => h) (Or.inl ⟨by rfl, ?_⟩) hHeld ?_
                rotate_left
                · (intro w hSw; (try dsimp only at hSw); go_simp; try (with_reducible rfl))
                try simp only [Act.put, List.setIfInBounds_toArray, List.set_cons_zero, List.set_cons_succ]
                refine wpAnyH_take (i := 22) (oi := ⟨_, _, _, _, _, _⟩) (v := ?_) rfl (by kernel_rfl) (by kernel_rfl) (by kernel_rfl) (fun _ _ _ h => h) (Or.inl ⟨by rfl, ?_⟩) hHeld ?_
                rotate_left
                · (intro w hSw; (try dsimp only at hSw); go_simp; try (with_reducible rfl))
                try simp only [Act.put, List.setIfInBounds_toArray, List.set_cons_zero, List.set_cons_succ]
                refine wpAnyH_take (i := 23) (oi := ⟨_, _, _, _, _, _⟩) (v := ?_) rfl (by kernel_rfl) (by kernel_rfl) (by kernel_rfl) (fun _ _ _ h => h) (Or.inl ⟨by rfl, ?_⟩) hHeld ?_
                rotate_left
                · (intro w hSw; (try dsimp only at hSw); go_simp; try (with_reducible rfl))
                try simp only [Act.put, List.setIfInBounds_toArray, List.set_cons_zero, List.set_cons_succ]
                refine wpAnyH_take (i := 24) (oi := ⟨_, _, _, _, _, _⟩) (v := ?_) rfl (by kernel_rfl) (by kernel_rfl) (by kernel_rfl) (fun _ _ _ h => h) (Or.inl ⟨by rfl, ?_⟩) hHeld ?_
                rotate_left
                · (intro w hSw; (try dsimp only at hSw); go_simp; try (with_reducible rfl))
                try simp only [Act.put, List.setIfInBounds_toArray, List.set_cons_zero, List.set_cons_succ]
                refine wpAnyH_take (i := 25) (oi := ⟨_, _, _, _, _, _⟩) (v := ?_) rfl (by kernel_rfl) (by kernel_rfl) (by kernel_rfl) (fun _ _ _ h => h) (Or.inl ⟨by rfl, ?_⟩) hHeld ?_
                rotate_left
                · (intro w hSw; (try dsimp only at hSw); go_simp; try (with_reducible rfl))
                try simp only [Act.put, List.setIfInBounds_toArray, List.set_cons_zero, List.set_cons_succ]
                refine wpAnyH_take (i := 26) (oi := ⟨_, _, _, _, _, _⟩) (v := ?_) rfl (by kernel_rfl) (by kernel_rfl) (by kernel_rfl) (fun _ _ _ h => h) (Or.inl ⟨by rfl, ?_⟩) hHeld ?_
                rotate_left
                · (intro w hSw; (try dsimp only at hSw); go_simp; try (with_reducible rfl))
                try simp only [Act.put, List.setIfInBounds_toArray, List.set_cons_zero, List.set_cons_succ]
                refine wpAnyH_take (i := 27) (oi := ⟨_, _, _, _, _, _⟩) (v := ?_) rfl (by kernel_rfl) (by kernel_rfl) (by kernel_rfl) (fun _ _ _ h => h) (Or.inl ⟨by rfl, ?_⟩) hHeld ?_
                rotate_left
                · (intro w hSw; (try dsimp only at hSw); go_simp; try (with_reducible rfl))
                try simp only [Act.put, List.setIfInBounds_toArray, List.set_cons_zero, List.set_cons_succ]
                refine wpAnyH_take (i := 28) (oi := ⟨_, _, _, _, _, _⟩) (v := ?_) rfl (by kernel_rfl) (by kernel_rfl) (by kernel_rfl) (fun _ _ _ h => h) (Or.inl ⟨by rfl, ?_⟩) hHeld ?_
                rotate_left
                · (intro w hSw; (try dsimp only at hSw); go_simp; try (with_reducible rfl))
                try simp only [Act.put, List.setIfInBounds_toArray, List.set_cons_zero, List.set_cons_succ]
                refine wpAnyH_take (i := 29) (oi := ⟨_, _, _, _, _, _⟩) (v := ?_) rfl (by kernel_rfl) (by kernel_rfl) (by kernel_rfl) (fun _ _ _ h => h) (Or.inl ⟨by rfl, ?_⟩) hHeld ?_
                rotate_left
                · (intro w hSw; (try dsimp only at hSw); go_simp; try (with_reducible rfl))
                try simp only [Act.put, List.setIfInBounds_toArray, List.set_cons_zero, List.set_cons_succ]
                refine wpAnyH_ready (rs := [30]) (by kernel_rfl) (by simp) ?_
                refine AllReadyH.cons (o := ⟨_, _, _, _, _, _⟩) rfl (fun K hK => ?_) AllReadyH.nil
                go_simp
                go_at_call 51
                refine (specScrollGrid_calls (j : Int) (k : Int) cs bs 0 (Bt : Int) n at' _ _ w25 (by omega) (by omega) L1 L2).mono ?_
                rintro e w26 ⟨v5, v6, rfl, ho, hbx⟩
                rw [HX2.out] at ho ⊢
                dsimp only at ho ⊢
                have N1 := ho.read1
                have N2 := ho.read2
                clear ho
                obtain ⟨b5, d5, rfl, hx⟩ := id N1
                clear hx
                obtain ⟨b6, d6, rfl, hx⟩ := id N2
                clear hx
                replace G := G.below hbx
                replace RG := RG.below hbx
                replace M1 := M1.below hbx
                replace M2 := M2.below hbx
                replace L1 := L1.below hbx
                replace L2 := L2.below hbx
                replace qq := qq.trans (hbx.mono qq.size)
                clear hbx
                try go_wp2_with fail
                refine hK.out _ _ ?_ ?_
                · (try dsimp only); exact ⟨RG.c1, RG.c2, RG.c3, RG.c4, G.c0, G.c1, G.c2, G.c3⟩
                clear hHeld hK K
                intro hHeld
                try simp only [Act.put, List.setIfInBounds_toArray, List.set_cons_zero, List.set_cons_succ]
                refine wpAnyH_take (i := 31) (oi := ⟨_, _, _, _, _, _⟩) (v := ?_) rfl (by kernel_rfl) (by kernel_rfl) (by kernel_rfl) (fun _ _ _ h => h) (Or.inl ⟨by rfl, ?_⟩) hHeld ?_
                rotate_left
                · (intro w hSw; (try dsimp only at hSw); go_simp; try (with_reducible rfl))
                try simp only [Act.put, List.setIfInBounds_toArray, List.set_cons_zero, List.set_cons_succ]
                refine wpAnyH_ready (rs := [32]) (by kernel_rfl) (by simp) ?_
                refine AllReadyH.cons (o := ⟨_, _, _, _, _, _⟩) rfl (fun K hK => ?_) AllReadyH.nil
                go_simp
                go_at_call 52
                refine (implSameGrids_calls (j : Int) (k : Int) rs1 rs2 (j : Int) (k : Int) rs1 rs2 _ _ _ _ w26 (by omega) (by omega) (by omega) (by omega) M1 M2 N1 N2).mono ?_
                rintro e w27 ⟨rfl, hbx⟩
                rw [sameG_self]
                replace G := G.below hbx
                replace RG := RG.below hbx
                replace M1 := M1.below hbx
                replace M2 := M2.below hbx
                replace L1 := L1.below hbx
                replace L2 := L2.below hbx
                replace qq := qq.trans (hbx.mono qq.size)
                clear hbx
                try go_wp2_with fail
                refine hK.out _ _ ?_ ?_
                · (try dsimp only); exact ⟨RG.c1, RG.c2, RG.c3, RG.c4, G.c0, G.c1, G.c2, G.c3⟩
                clear hHeld hK K
                intro hHeld
                try simp only [Act.put, List.setIfInBounds_toArray, List.set_cons_zero, List.set_cons_succ]
                refine wpAnyH_take (i := 33) (oi := ⟨_, _, _, _, _, _⟩) (v := ?_) rfl (by kernel_rfl) (by kernel_rfl) (by kernel_rfl) (fun _ _ _ h => h) (Or.inl ⟨by rfl, ?_⟩) hHeld ?_
                rotate_left
                · (intro w hSw; (try dsimp only at hSw); go_simp; try (with_reducible rfl))
                try simp only [Act.put, List.setIfInBounds_toArray, List.set_cons_zero, List.set_cons_succ]
                refine wpAnyH_take (i := 34) (oi := ⟨_, _, _, _, _, _⟩) (v := ?_) rfl (by kernel_rfl) (by kernel_rfl) (by kernel_rfl) (fun _ _ _ h => h) (Or.inl ⟨by rfl, ?_⟩) hHeld ?_
                rotate_left
                · (intro w hSw; (try dsimp only at hSw); go_simp; try (with_reducible rfl))
                try simp only [Act.put, List.setIfInBounds_toArray, List.set_cons_zero, List.set_cons_succ]
                refine wpAnyH_done (by kernel_rfl) ?_ _
                clear hHeld
                go_wp2
                go_ret
                exact ⟨rfl, qq⟩
        · have hlen := HNB.out hC
          have hle2 : ((rs2.length : Int) == (bs.length : Int)) = true := by rw [hlen]; simp
          clear HNB HLA hlen
          by_cases hT0 : Tp = 0
          · subst hT0
            have HX2 : Hid (scrollRes (j : Int) (W : Int) cs bs 0 (Bt : Int) n at' = ⟨0, (j : Int), (W : Int), rs1, rs2⟩) := HX
            have hn0 : ¬ (0 : Int) < n := fun h => hC ⟨rfl, h⟩
            have hn1 : n ≤ 0 := by omega
            have hn2 : decide ((0 : Int) < n) = false := by rw [decide_eq_false_iff_not]; exact hn0
            have hn3 : (decide (0 < n)) = false := hn2
            clear hC
            go_wp2_with fail
            have G := HG.below hbo.out
            have RG := HR.below hbo.out
            have M1 := m1.below hbo.out
            have M2 := m2.below hbo.out
            have L1 := l1.below hbo.out
            have L2 := l2.below hbo.out
            have qq : Below w.heap.size w wo := qb.trans (hbo.out.mono qb.size)
            refine wp_region_held_drew (S := (fun w' => w'.cell? ⟨rb, 1, none⟩ = some (.int .i64 (j : Int)) ∧ w'.cell? ⟨rb, 2, none⟩ = some (.int .i64 (W : Int)) ∧ w'.cell? ⟨rb, 3, none⟩ = some (.slice a5 rs1.length c5) ∧ w'.cell? ⟨rb, 4, none⟩ = some (.slice a6 rs2.length c6) ∧ w'.cell? ⟨gb, 0, none⟩ = some (.int .i64 (j : Int)) ∧ w'.cell? ⟨gb, 1, none⟩ = some (.int .i64 (W : Int)) ∧ w'.cell? ⟨gb, 2, none⟩ = some (.slice a1 cs.length c1) ∧ w'.cell? ⟨gb, 3, none⟩ = some (.slice a2 bs.length c2))) (by kernel_rfl) ?_ (fun hHeld => ?_)
            · (try dsimp only); exact ⟨RG.c1, RG.c2, RG.c3, RG.c4, G.c0, G.c1, G.c2, G.c3⟩
            refine wpAnyH_take (i := 0) (oi := ⟨_, _, _, _, _, _⟩) (v := ?_) rfl (by kernel_rfl) (by kernel_rfl) (by kernel_rfl) (fun _ _ _ h => h) (Or.inl ⟨by rfl, ?_⟩) hHeld ?_
            rotate_left
            · (intro w hSw; (try dsimp only at hSw); go_simp; try (with_reducible rfl))
            try simp only [Act.put, List.setIfInBounds_toArray, List.set_cons_zero, List.set_cons_succ]
            refine wpAnyH_take (i := 1) (oi := ⟨_, _, _, _, _, _⟩) (v := ?_) rfl (by kernel_rfl) (by kernel_rfl) (by kernel_rfl) (fun _ _ _ h => h) (Or.inl ⟨by rfl, ?_⟩) hHeld ?_
            rotate_left
            · (intro w hSw; (try dsimp only at hSw); go_simp; try (with_reducible rfl))
            try simp only [Act.put, List.setIfInBounds_toArray, List.set_cons_zero, List.set_cons_succ]
            refine wpAnyH_ready (rs := [2]) (by kernel_rfl) (by simp) ?_
            refine AllReadyH.cons (o := ⟨_, _, _, _, _, _⟩) rfl (fun K hK => ?_) AllReadyH.nil
            go_simp
            go_at_call 48
            refine (implGridFault_calls (j : Int) (W : Int) rs1 rs2 _ _ wo.drew (by omega) (by omega) (M1.below (show Below wo.heap.size wo wo.drew from below_drewN (Below.refl _ _) 1)) (M2.below (show Below wo.heap.size wo wo.drew from below_drewN (Below.refl _ _) 1))).mono ?_
            rintro e w25 ⟨rfl, hbx⟩
            replace hbx : Below wo.heap.size wo w25 := (below_drewN (Below.refl _ _) 1).trans hbx
            rw [HGC.out]
            replace G := G.below hbx
            replace RG := RG.below hbx
            replace M1 := M1.below hbx
            replace M2 := M2.below hbx
            replace L1 := L1.below hbx
            replace L2 := L2.below hbx
            replace qq := qq.trans (hbx.mono qq.size)
            clear hbx
            try go_wp2_with fail
            refine hK.out _ _ ?_ ?_
            · (try dsimp only); exact ⟨RG.c1, RG.c2, RG.c3, RG.c4, G.c0, G.c1, G.c2, G.c3⟩
            clear hHeld hK K
            intro hHeld
            try simp only [Act.put, List.setIfInBounds_toArray, List.set_cons_zero, List.set_cons_succ]
            refine wpAnyH_take (i := 3) (oi := ⟨_, _, _, _, _, _⟩) (v := ?_) rfl (by kernel_rfl) (by kernel_rfl) (by kernel_rfl) (fun _ _ _ h => h) (Or.inl ⟨by rfl, ?_⟩) hHeld ?_
            rotate_left
            · (intro w hSw; (try dsimp only at hSw); go_simp; try (with_reducible rfl))
            try simp only [Act.put, List.setIfInBounds_toArray, List.set_cons_zero, List.set_cons_succ]
            refine wpAnyH_take (i := 4) (oi := ⟨_, _, _, _, _, _⟩) (v := ?_) rfl (by kernel_rfl) (by kernel_rfl) (by kernel_rfl) (fun _ _ _ h => h) (Or.inl ⟨by rfl, ?_⟩) hHeld ?_
            rotate_left
            · (intro w hSw; (try dsimp only at hSw); go_simp; try (with_reducible rfl))
            try simp only [Act.put, List.setIfInBounds_toArray, List.set_cons_zero, List.set_cons_succ]
            refine wpAnyH_take (i := 5) (oi := ⟨_, _, _, _, _, _⟩) (v := ?_) rfl (by kernel_rfl) (by kernel_rfl) (by kernel_rfl) (fun _ _ _ h => h) (Or.inl ⟨by rfl, ?_⟩) hHeld ?_
            rotate_left
            · (intro w hSw; (try dsimp only at hSw); go_simp; try (with_reducible rfl))
            try simp only [Act.put, List.setIfInBounds_toArray, List.set_cons_zero, List.set_cons_succ]
            refine wpAnyH_take (i := 6) (oi := ⟨_, _, _, _, _, _⟩) (v := ?_) rfl (by kernel_rfl) (by kernel_rfl) (by kernel_rfl) (fun _ _ _ h => h) (Or.inl ⟨by rfl, ?_⟩) hHeld ?_
            rotate_left
            · (intro w hSw; (try dsimp only at hSw); go_simp; try (with_reducible rfl))
            try simp only [Act.put, List.setIfInBounds_toArray, List.set_cons_zero, List.set_cons_succ]
            refine wpAnyH_take (i := 7) (oi := ⟨_, _, _, _, _, _⟩) (v := ?_) rfl (by kernel_rfl) (by kernel_rfl) (by kernel_rfl) (fun _ _ _ h => h) (Or.inl ⟨by rfl, ?_⟩) hHeld ?_
            rotate_left
            · (intro w hSw; (try dsimp only at hSw); go_simp; try (with_reducible rfl))
            try simp only [Act.put, List.setIfInBounds_toArray, List.set_cons_zero, List.set_cons_succ]
            refine wpAnyH_take (i := 8) (oi := ⟨_, _, _, _, _, _⟩) (v := ?_) rfl (by kernel_rfl) (by kernel_rfl) (by kernel_rfl) (fun _ _ _ h => h) (Or.inl ⟨by rfl, ?_⟩) hHeld ?_
            rotate_left
            · (intro w hSw; (try dsimp only at hSw); go_simp; try (with_reducible rfl))
            try simp only [Act.put, List.setIfInBounds_toArray, List.set_cons_zero, List.set_cons_succ]
            refine wpAnyH_take (i := 9) (oi := ⟨_, _, _, _, _, _⟩) (v := ?_) rfl (by kernel_rfl) (by kernel_rfl) (by kernel_rfl) (fun _ _ _ h => h) (Or.inl ⟨by rfl, ?_⟩) hHeld ?_
            rotate_left
            · (intro w hSw; (try dsimp only at hSw); go_simp; try (with_reducible rfl))
            try simp only [Act.put, List.setIfInBounds_toArray, List.set_cons_zero, List.set_cons_succ]
            refine wpAnyH_take (i := 10) (oi := ⟨_, _, _, _, _, _⟩) (v := ?_) rfl (by kernel_rfl) (by kernel_rfl) (by kernel_rfl) (fun _ _ _ h => h) (Or.inl ⟨by rfl, ?_⟩) hHeld ?_
            rotate_left
            · (intro w hSw; (try dsimp only at hSw); go_simp; try (with_reducible rfl))
            try simp only [Act.put, List.setIfInBounds_toArray, List.set_cons_zero, List.set_cons_succ]
            refine wpAnyH_take (i := 11) (oi := ⟨_, _, _, _, _, _⟩) (v := ?_) rfl (by kernel_rfl) (by kernel_rfl) (by kernel_rfl) (fun _ _ _ h => h) (Or.inl ⟨by rfl, ?_⟩) hHeld ?_
            rotate_left
            · (intro w hSw; (try dsimp only at hSw); go_simp; try (with_reducible rfl))
            try simp only [Act.put, List.setIfInBounds_toArray, List.set_cons_zero, List.set_cons_succ]
            refine wpAnyH_take (i := 12) (oi := ⟨_, _, _, _, _, _⟩) (v := ?_) rfl (by kernel_rfl) (by kernel_rfl) (by kernel_rfl) (fun _ _ _ h => h) (Or.inl ⟨by rfl, ?_⟩) hHeld ?_
            rotate_left
            · (intro w hSw; (try dsimp only at hSw); go_simp; try (with_reducible rfl))
            try simp only [Act.put, List.setIfInBounds_toArray, List.set_cons_zero, List.set_cons_succ]
            refine wpAnyH_take (i := 13) (oi := ⟨_, _, _, _, _, _⟩) (v := ?_) rfl (by kernel_rfl) (by kernel_rfl) (by kernel_rfl) (fun _ _ _ h => h) (Or.inl ⟨by rfl, ?_⟩) hHeld ?_
            rotate_left
            · (intro w hSw; (try dsimp only at hSw); go_simp; try (with_reducible rfl))
            try simp only [Act.put, List.setIfInBounds_toArray, List.set_cons_zero, List.set_cons_succ]
            refine wpAnyH_take (i := 14) (oi := ⟨_, _, _, _, _, _⟩) (v := ?_) rfl (by kernel_rfl) (by kernel_rfl) (by kernel_rfl) (fun _ _ _ h => h) (Or.inl ⟨by rfl, ?_⟩) hHeld ?_
            rotate_left
            · (intro w hSw; (try dsimp only at hSw); go_simp; try (with_reducible rfl))
            try simp only [Act.put, List.setIfInBounds_toArray, List.set_cons_zero, List.set_cons_succ]
            refine wpAnyH_take (i := 15) (oi := ⟨_, _, _, _, _, _⟩) (v := ?_) rfl (by kernel_rfl) (by kernel_rfl) (by kernel_rfl) (fun _ _ _ h => h) (Or.inl ⟨by rfl, ?_⟩) hHeld ?_
            rotate_left
            · (intro w hSw; (try dsimp only at hSw); go_simp; try (with_reducible rfl))
            try simp only [Act.put, List.setIfInBounds_toArray, List.set_cons_zero, List.set_cons_succ]
            refine wpAnyH_take (i := 16) (oi := ⟨_, _, _, _, _, _⟩) (v := ?_) rfl (by kernel_rfl) (by kernel_rfl) (by kernel_rfl) (fun _ _ _ h => h) (Or.inl ⟨by rfl, ?_⟩) hHeld ?_
            rotate_left
            · (intro w hSw; (try dsimp only at hSw); go_simp; try (with_reducible rfl))
            try simp only [Act.put, List.setIfInBounds_toArray, List.set_cons_zero, List.set_cons_succ]
            refine wpAnyH_take (i := 17) (oi := ⟨_, _, _, _, _, _⟩) (v := ?_) rfl (by kernel_rfl) (by kernel_rfl) (by kernel_rfl) (fun _ _ _ h => h) (Or.inl ⟨by rfl, ?_⟩) hHeld ?_
            rotate_left
            · (intro w hSw; (try dsimp only at hSw); go_simp; try (with_reducible rfl))
            try simp only [Act.put, List.setIfInBounds_toArray, List.set_cons_zero, List.set_cons_succ]
            refine wpAnyH_take (i := 18) (oi := ⟨_, _, _, _, _, _⟩) (v := ?_) rfl (by kernel_rfl) (by kernel_rfl) (by kernel_rfl) (fun _ _ _ h => h) (Or.inl ⟨by rfl, ?_⟩) hHeld ?_
            rotate_left
            · (intro w hSw; (try dsimp only at hSw); go_simp; try (with_reducible rfl))
            try simp only [Act.put, List.setIfInBounds_toArray, List.set_cons_zero, List.set_cons_succ]
            refine wpAnyH_take (i := 19) (oi := ⟨_, _, _, _, _, _⟩) (v := ?_) rfl (by kernel_rfl) (by kernel_rfl) (by kernel_rfl) (fun _ _ _ h => h) (Or.inl ⟨by rfl, ?_⟩) hHeld ?_
            rotate_left
            · (intro w hSw; (try dsimp only at hSw); go_simp; try (with_reducible rfl))
            try simp only [Act.put, List.setIfInBounds_toArray, List.set_cons_zero, List.set_cons_succ]
            refine wpAnyH_take (i := 20) (oi := ⟨_, _, _, _, _, _⟩) (v := ?_) rfl (by kernel_rfl) (by kernel_rfl) (by kernel_rfl) (fun _ _ _ h => h) (Or.inl ⟨by rfl, ?_⟩) hHeld ?_
            rotate_left
            · (intro w hSw; (try dsimp only at hSw); go_simp; try (with_reducible rfl))
            try simp only [Act.put, List.setIfInBounds_toArray, List.set_cons_zero, List.set_cons_succ]
            refine wpAnyH_take (i := 21) (oi := ⟨_, _, _, _, _, _⟩) (v := ?_) rfl (by kernel_rfl) (by kernel_rfl) (by kernel_rfl) (fun _ _ _ h => h) (Or.inl ⟨by rfl, ?_⟩) hHeld ?_
            rotate_left
            · (intro w hSw; (try dsimp only at hSw); go_simp; try (with_reducible rfl))
            try simp only [Act.put, List.setIfInBounds_toArray, List.set_cons_zero, List.set_cons_succ]
            refine wpAnyH_take (i := 22) (oi := ⟨_, _, _, _, _, _⟩) (v := ?_) rfl (by kernel_rfl) (by kernel_rfl) (by kernel_rfl) (fun _ _ _ h => h) (Or.inl ⟨by rfl, ?_⟩) hHeld ?_
            rotate_left
            · (intro w hSw; (try dsimp only at hSw); go_simp; try (with_reducible rfl))
            try simp only [Act.put, List.setIfInBounds_toArray, List.set_cons_zero, List.set_cons_succ]
            refine wpAnyH_take (i := 23) (oi := ⟨_, _, _, _, _, _⟩) (v := ?_) rfl (by kernel_rfl) (by kernel_rfl) (by kernel_rfl) (fun _ _ _ h => h) (Or.inl ⟨by rfl, ?_⟩) hHeld ?_
            rotate_left
            · (intro w hSw; (try dsimp only at hSw); go_simp; try (with_reducible rfl))
            try simp only [Act.put, List.setIfInBounds_toArray, List.set_cons_zero, List.set_cons_succ]
            refine wpAnyH_take (i := 24) (oi := ⟨_, _, _, _, _, _⟩) (v := ?_) rfl (by kernel_rfl) (by kernel_rfl) (by kernel_rfl) (fun _ _ _ h => h) (Or.inl ⟨by rfl, ?_⟩) hHeld ?_
            rotate_left
            · (intro w hSw; (try dsimp only at hSw); go_simp; try (with_reducible rfl))
            try simp only [Act.put, List.setIfInBounds_toArray, List.set_cons_zero, List.set_cons_succ]
            refine wpAnyH_take (i := 25) (oi := ⟨_, _, _, _, _, _⟩) (v := ?_) rfl (by kernel_rfl) (by kernel_rfl) (by kernel_rfl) (fun _ _ _ h => h) (Or.inl ⟨by rfl, ?_⟩) hHeld ?_
            rotate_left
            · (intro w hSw; (try dsimp only at hSw); go_simp; try (with_reducible rfl))
            try simp only [Act.put, List.setIfInBounds_toArray, List.set_cons_zero, List.set_cons_succ]
            refine wpAnyH_take (i := 26) (oi := ⟨_, _, _, _, _, _⟩) (v := ?_) rfl (by kernel_rfl) (by kernel_rfl) (by kernel_rfl) (fun _ _ _ h => h) (Or.inl ⟨by rfl, ?_⟩) hHeld ?_
            rotate_left
            · (intro w hSw; (try dsimp only at hSw); go_simp; try (with_reducible rfl))
            try simp only [Act.put, List.setIfInBounds_toArray, List.set_cons_zero, List.set_cons_succ]
            refine wpAnyH_take (i := 27) (oi := ⟨_, _, _, _, _, _⟩) (v := ?_) rfl (by kernel_rfl) (by kernel_rfl) (by kernel_rfl) (fun _ _ _ h => h) (Or.inl ⟨by rfl, ?_⟩) hHeld ?_
            rotate_left
            · (intro w hSw; (try dsimp only at hSw); go_simp; try (with_reducible rfl))
            try simp only [Act.put, List.setIfInBounds_toArray, List.set_cons_zero, List.set_cons_succ]
            refine wpAnyH_take (i := 28) (oi := ⟨_, _, _, _, _, _⟩) (v := ?_) rfl (by kernel_rfl) (by kernel_rfl) (by kernel_rfl) (fun _ _ _ h => h) (Or.inl ⟨by rfl, ?_⟩) hHeld ?_
            rotate_left
            · (intro w hSw; (try dsimp only at hSw); go_simp; try (with_reducible rfl))
            try simp only [Act.put, List.setIfInBounds_toArray, List.set_cons_zero, List.set_cons_succ]
            refine wpAnyH_take (i := 29) (oi := ⟨_, _, _, _, _, _⟩) (v := ?_) rfl (by kernel_rfl) (by kernel_rfl) (by kernel_rfl) (fun _ _ _ h => h) (Or.inl ⟨by rfl, ?_⟩) hHeld ?_
            rotate_left
            · (intro w hSw; (try dsimp only at hSw); go_simp; try (with_reducible rfl))
            try simp only [Act.put, List.setIfInBounds_toArray, List.set_cons_zero, List.set_cons_succ]
            refine wpAnyH_ready (rs := [30]) (by kernel_rfl) (by simp) ?_
            refine AllReadyH.cons (o := ⟨_, _, _, _, _, _⟩) rfl (fun K hK => ?_) AllReadyH.nil
            go_simp
            go_at_call 51
            refine (specScrollGrid_calls (j : Int) (W : Int) cs bs 0 (Bt : Int) n at' _ _ w25 (by omega) (by omega) L1 L2).mono ?_
            rintro e w26 ⟨v5, v6, rfl, ho, hbx⟩
            rw [HX2.out] at ho ⊢
            dsimp only at ho ⊢
            have N1 := ho.read1
            have N2 := ho.read2
            clear ho
            obtain ⟨b5, d5, rfl, hx⟩ := id N1
            clear hx
            obtain ⟨b6, d6, rfl, hx⟩ := id N2
            clear hx
            replace G := G.below hbx
            replace RG := RG.below hbx
            replace M1 := M1.below hbx
            replace M2 := M2.below hbx
            replace L1 := L1.below hbx
            replace L2 := L2.below hbx
            replace qq := qq.trans (hbx.mono qq.size)
            clear hbx
            try go_wp2_with fail
            refine hK.out _ _ ?_ ?_
            · (try dsimp only); exact ⟨RG.c1, RG.c2, RG.c3, RG.c4, G.c0, G.c1, G.c2, G.c3⟩
            clear hHeld hK K
            intro hHeld
            try simp only [Act.put, List.setIfInBounds_toArray, List.set_cons_zero, List.set_cons_succ]
            refine wpAnyH_take (i := 31) (oi := ⟨_, _, _, _, _, _⟩) (v := ?_) rfl (by kernel_rfl) (by kernel_rfl) (by kernel_rfl) (fun _ _ _ h => h) (Or.inl ⟨by rfl, ?_⟩) hHeld ?_
            rotate_left
            · (intro w hSw; (try dsimp only at hSw); go_simp; try (with_reducible rfl))
            try simp only [Act.put, List.setIfInBounds_toArray, List.set_cons_zero, List.set_cons_succ]
            refine wpAnyH_ready (rs := [32]) (by kernel_rfl) (by simp) ?_
            refine AllReadyH.cons (o := ⟨_, _, _, _, _, _⟩) rfl (fun K hK => ?_) AllReadyH.nil
            go_simp
            go_at_call 52
            refine (implSameGrids_calls (j : Int) (W : Int) rs1 rs2 (j : Int) (W : Int) rs1 rs2 _ _ _ _ w26 (by omega) (by omega) (by omega) (by omega) M1 M2 N1 N2).mono ?_
            rintro e w27 ⟨rfl, hbx⟩
            rw [sameG_self]
            replace G := G.below hbx
            replace RG := RG.below hbx
            replace M1 := M1.below hbx
            replace M2 := M2.below hbx
            replace L1 := L1.below hbx
            replace L2 := L2.below hbx
            replace qq := qq.trans (hbx.mono qq.size)
            clear hbx
            try go_wp2_with fail
            refine hK.out _ _ ?_ ?_
            · (try dsimp only); exact ⟨RG.c1, RG.c2, RG.c3, RG.c4, G.c0, G.c1, G.c2, G.c3⟩
            clear hHeld hK K
            intro hHeld
            try simp only [Act.put, List.setIfInBounds_toArray, List.set_cons_zero, List.set_cons_succ]
            refine wpAnyH_take (i := 33) (oi := ⟨_, _, _, _, _, _⟩) (v := ?_) rfl (by kernel_rfl) (by kernel_rfl) (by kernel_rfl) (fun _ _ _ h => h) (Or.inl ⟨by rfl, ?_⟩) hHeld ?_
            rotate_left
            · (intro w hSw; (try dsimp only at hSw); go_simp; try (with_reducible rfl))
            try simp only [Act.put, List.setIfInBounds_toArray, List.set_cons_zero, List.set_cons_succ]
            refine wpAnyH_take (i := 34) (oi := ⟨_, _, _, _, _, _⟩) (v := ?_) rfl (by kernel_rfl) (by kernel_rfl) (by kernel_rfl) (fun _ _ _ h => h) (Or.inl ⟨by rfl, ?_⟩) hHeld ?_
            rotate_left
            · (intro w hSw; (try dsimp only at hSw); go_simp; try (with_reducible rfl))
            try simp only [Act.put, List.setIfInBounds_toArray, List.set_cons_zero, List.set_cons_succ]
            refine wpAnyH_done (by kernel_rfl) ?_ _
            clear hHeld
            go_wp2
            go_ret
            exact ⟨rfl, qq⟩
          · have HX2 := HX
            have hTb : ((Tp : Int) == 0) = false := by rw [beq_eq_false_iff_ne]; omega
            go_wp2_with fail
            have G := HG.below hbo.out
            have RG := HR.below hbo.out
            have M1 := m1.below hbo.out
            have M2 := m2.below hbo.out
            have L1 := l1.below hbo.out
            have L2 := l2.below hbo.out
            have qq : Below w.heap.size w wo := qb.trans (hbo.out.mono qb.size)
            refine wp_region_held_drew (S := (fun w' => w'.cell? ⟨rb, 1, none⟩ = some (.int .i64 (j : Int)) ∧ w'.cell? ⟨rb, 2, none⟩ = some (.int .i64 (W : Int)) ∧ w'.cell? ⟨rb, 3, none⟩ = some (.slice a5 rs1.length c5) ∧ w'.cell? ⟨rb, 4, none⟩ = some (.slice a6 rs2.length c6) ∧ w'.cell? ⟨gb, 0, none⟩ = some (.int .i64 (j : Int)) ∧ w'.cell? ⟨gb, 1, none⟩ = some (.int .i64 (W : Int)) ∧ w'.cell? ⟨gb, 2, none⟩ = some (.slice a1 cs.length c1) ∧ w'.cell? ⟨gb, 3, none⟩ = some (.slice a2 bs.length c2))) (by kernel_rfl) ?_ (fun hHeld => ?_)
            · (try dsimp only); exact ⟨RG.c1, RG.c2, RG.c3, RG.c4, G.c0, G.c1, G.c2, G.c3⟩
            refine wpAnyH_take (i := 0) (oi := ⟨_, _, _, _, _, _⟩) (v := ?_) rfl (by kernel_rfl) (by kernel_rfl) (by kernel_rfl) (fun _ _ _ h => h) (Or.inl ⟨by rfl, ?_⟩) hHeld ?_
            rotate_left
            · (intro w hSw; (try dsimp only at hSw); go_simp; try (with_reducible rfl))
            try simp only [Act.put, List.setIfInBounds_toArray, List.set_cons_zero, List.set_cons_succ]
            refine wpAnyH_take (i := 1) (oi := ⟨_, _, _, _, _, _⟩) (v := ?_) rfl (by kernel_rfl) (by kernel_rfl) (by kernel_rfl) (fun _ _ _ h => h) (Or.inl ⟨by rfl, ?_⟩) hHeld ?_
            rotate_left
            · (intro w hSw; (try dsimp only at hSw); go_simp; try (with_reducible rfl))
            try simp only [Act.put, List.setIfInBounds_toArray, List.set_cons_zero, List.set_cons_succ]
            refine wpAnyH_ready (rs := [2]) (by kernel_rfl) (by simp) ?_
            refine AllReadyH.cons (o := ⟨_, _, _, _, _, _⟩) rfl (fun K hK => ?_) AllReadyH.nil
            go_simp
            go_at_call 48
            refine (implGridFault_calls (j : Int) (W : Int) rs1 rs2 _ _ wo.drew (by omega) (by omega) (M1.below (show Below wo.heap.size wo wo.drew from below_drewN (Below.refl _ _) 1)) (M2.below (show Below wo.heap.size wo wo.drew from below_drewN (Below.refl _ _) 1))).mono ?_
            rintro e w25 ⟨rfl, hbx⟩
            replace hbx : Below wo.heap.size wo w25 := (below_drewN (Below.refl _ _) 1).trans hbx
            rw [HGC.out]
            replace G := G.below hbx
            replace RG := RG.below hbx
            replace M1 := M1.below hbx
            replace M2 := M2.below hbx
            replace L1 := L1.below hbx
            replace L2 := L2.below hbx
            replace qq := qq.trans (hbx.mono qq.size)
            clear hbx
            try go_wp2_with fail
            refine hK.out _ _ ?_ ?_
            · (try dsimp only); exact ⟨RG.c1, RG.c2, RG.c3, RG.c4, G.c0, G.c1, G.c2, G.c3⟩
            clear hHeld hK K
            intro hHeld
            try simp only [Act.put, List.setIfInBounds_toArray, List.set_cons_zero, List.set_cons_succ]
            refine wpAnyH_take (i := 3) (oi := ⟨_, _, _, _, _, _⟩) (v := ?_) rfl (by kernel_rfl) (by kernel_rfl) (by kernel_rfl) (fun _ _ _ h => h) (Or.inl ⟨by rfl, ?_⟩) hHeld ?_
            rotate_left
            · (intro w hSw; (try dsimp only at hSw); go_simp; try (with_reducible rfl))
            try simp only [Act.put, List.setIfInBounds_toArray, List.set_cons_zero, List.set_cons_succ]
            refine wpAnyH_take (i := 4) (oi := ⟨_, _, _, _, _, _⟩) (v := ?_) rfl (by kernel_rfl) (by kernel_rfl) (by kernel_rfl) (fun _ _ _ h => h) (Or.inl ⟨by rfl, ?_⟩) hHeld ?_
            rotate_left
            · (intro w hSw; (try dsimp only at hSw); go_simp; try (with_reducible rfl))
            try simp only [Act.put, List.setIfInBounds_toArray, List.set_cons_zero, List.set_cons_succ]
            refine wpAnyH_take (i := 5) (oi := ⟨_, _, _, _, _, _⟩) (v := ?_) rfl (by kernel_rfl) (by kernel_rfl) (by kernel_rfl) (fun _ _ _ h => h) (Or.inl ⟨by rfl, ?_⟩) hHeld ?_
            rotate_left
            · (intro w hSw; (try dsimp only at hSw); go_simp; try (with_reducible rfl))
            try simp only [Act.put, List.setIfInBounds_toArray, List.set_cons_zero, List.set_cons_succ]
            refine wpAnyH_take (i := 6) (oi := ⟨_, _, _, _, _, _⟩) (v := ?_) rfl (by kernel_rfl) (by kernel_rfl) (by kernel_rfl) (fun _ _ _ h => h) (Or.inl ⟨by rfl, ?_⟩) hHeld ?_
            rotate_left
            · (intro w hSw; (try dsimp only at hSw); go_simp; try (with_reducible rfl))
            try simp only [Act.put, List.setIfInBounds_toArray, List.set_cons_zero, List.set_cons_succ]
            refine wpAnyH_take (i := 7) (oi := ⟨_, _, _, _, _, _⟩) (v := ?_) rfl (by kernel_rfl) (by kernel_rfl) (by kernel_rfl) (fun _ _ _ h => h) (Or.inl ⟨by rfl, ?_⟩) hHeld ?_
            rotate_left
            · (intro w hSw; (try dsimp only at hSw); go_simp; try (with_reducible rfl))
            try simp only [Act.put, List.setIfInBounds_toArray, List.set_cons_zero, List.set_cons_succ]
            refine wpAnyH_take (i := 8) (oi := ⟨_, _, _, _, _, _⟩) (v := undef) rfl (by kernel_rfl) (by kernel_rfl) (by kernel_rfl) (fun _ _ _ h => h) (Or.inr ⟨by rfl, rfl⟩) hHeld ?_
            try simp only [Act.put, List.setIfInBounds_toArray, List.set_cons_zero, List.set_cons_succ]
            refine wpAnyH_take (i := 9) (oi := ⟨_, _, _, _, _, _⟩) (v := undef) rfl (by kernel_rfl) (by kernel_rfl) (by kernel_rfl) (fun _ _ _ h => h) (Or.inr ⟨by rfl, rfl⟩) hHeld ?_
            try simp only [Act.put, List.setIfInBounds_toArray, List.set_cons_zero, List.set_cons_succ]
            refine wpAnyH_take (i := 10) (oi := ⟨_, _, _, _, _, _⟩) (v := ?_) rfl (by kernel_rfl) (by kernel_rfl) (by kernel_rfl) (fun _ _ _ h => h) (Or.inl ⟨by rfl, ?_⟩) hHeld ?_
            rotate_left
            · (intro w hSw; (try dsimp only at hSw); go_simp; try (with_reducible rfl))
            try simp only [Act.put, List.setIfInBounds_toArray, List.set_cons_zero, List.set_cons_succ]
            refine wpAnyH_take (i := 11) (oi := ⟨_, _, _, _, _, _⟩) (v := ?_) rfl (by kernel_rfl) (by kernel_rfl) (by kernel_rfl) (fun _ _ _ h => h) (Or.inl ⟨by rfl, ?_⟩) hHeld ?_
            rotate_left
            · (intro w hSw; (try dsimp only at hSw); go_simp; try (with_reducible rfl))
            try simp only [Act.put, List.setIfInBounds_toArray, List.set_cons_zero, List.set_cons_succ]
            refine wpAnyH_take (i := 12) (oi := ⟨_, _, _, _, _, _⟩) (v := ?_) rfl (by kernel_rfl) (by kernel_rfl) (by kernel_rfl) (fun _ _ _ h => h) (Or.inl ⟨by rfl, ?_⟩) hHeld ?_
            rotate_left
            · (intro w hSw; (try dsimp only at hSw); go_simp; try (with_reducible rfl))
            try simp only [Act.put, List.setIfInBounds_toArray, List.set_cons_zero, List.set_cons_succ]
            refine wpAnyH_take (i := 13) (oi := ⟨_, _, _, _, _, _⟩) (v := ?_) rfl (by kernel_rfl) (by kernel_rfl) (by kernel_rfl) (fun _ _ _ h => h) (Or.inl ⟨by rfl, ?_⟩) hHeld ?_
            rotate_left
            · (intro w hSw; (try dsimp only at hSw); go_simp; try (with_reducible rfl))
            try simp only [Act.put, List.setIfInBounds_toArray, List.set_cons_zero, List.set_cons_succ]
            refine wpAnyH_take (i := 14) (oi := ⟨_, _, _, _, _, _⟩) (v := ?_) rfl (by kernel_rfl) (by kernel_rfl) (by kernel_rfl) (fun _ _ _ h => h) (Or.inl ⟨by rfl, ?_⟩) hHeld ?_
            rotate_left
            · (intro w hSw; (try dsimp only at hSw); go_simp; try (with_reducible rfl))
            try simp only [Act.put, List.setIfInBounds_toArray, List.set_cons_zero, List.set_cons_succ]
            refine wpAnyH_take (i := 15) (oi := ⟨_, _, _, _, _, _⟩) (v := ?_) rfl (by kernel_rfl) (by kernel_rfl) (by kernel_rfl) (fun _ _ _ h => h) (Or.inl ⟨by rfl, ?_⟩) hHeld ?_
            rotate_left
            · (intro w hSw; (try dsimp only at hSw); go_simp; try (with_reducible rfl))
            try simp only [Act.put, List.setIfInBounds_toArray, List.set_cons_zero, List.set_cons_succ]
            refine wpAnyH_take (i := 16) (oi := ⟨_, _, _, _, _, _⟩) (v := ?_) rfl (by kernel_rfl) (by kernel_rfl) (by kernel_rfl) (fun _ _ _ h => h) (Or.inl ⟨by rfl, ?_⟩) hHeld ?_
            rotate_left
            · (intro w hSw; (try dsimp only at hSw); go_simp; try (with_reducible rfl))
            try simp only [Act.put, List.setIfInBounds_toArray, List.set_cons_zero, List.set_cons_succ]
            refine wpAnyH_take (i := 17) (oi := ⟨_, _, _, _, _, _⟩) (v := ?_) rfl (by kernel_rfl) (by kernel_rfl) (by kernel_rfl) (fun _ _ _ h => h) (Or.inl ⟨by rfl, ?_⟩) hHeld ?_
            rotate_left
            · (intro w hSw; (try dsimp only at hSw); go_simp; try (with_reducible rfl))
            try simp only [Act.put, List.setIfInBounds_toArray, List.set_cons_zero, List.set_cons_succ]
            refine wpAnyH_take (i := 18) (oi := ⟨_, _, _, _, _, _⟩) (v := ?_) rfl (by kernel_rfl) (by kernel_rfl) (by kernel_rfl) (fun _ _ _ h => h) (Or.inl ⟨by rfl, ?_⟩) hHeld ?_
            rotate_left
            · (intro w hSw; (try dsimp only at hSw); go_simp; try (with_reducible rfl))
            try simp only [Act.put, List.setIfInBounds_toArray, List.set_cons_zero, List.set_cons_succ]
            refine wpAnyH_take (i := 19) (oi := ⟨_, _, _, _, _, _⟩) (v := ?_) rfl (by kernel_rfl) (by kernel_rfl) (by kernel_rfl) (fun _ _ _ h => h) (Or.inl ⟨by rfl, ?_⟩) hHeld ?_
            rotate_left
            · (intro w hSw; (try dsimp only at hSw); go_simp; try (with_reducible rfl))
            try simp only [Act.put, List.setIfInBounds_toArray, List.set_cons_zero, List.set_cons_succ]
            refine wpAnyH_take (i := 20) (oi := ⟨_, _, _, _, _, _⟩) (v := ?_) rfl (by kernel_rfl) (by kernel_rfl) (by kernel_rfl) (fun _ _ _ h => h) (Or.inl ⟨by rfl, ?_⟩) hHeld ?_
            rotate_left
            · (intro w hSw; (try dsimp only at hSw); go_simp; try (with_reducible rfl))
            try simp only [Act.put, List.setIfInBounds_toArray, List.set_cons_zero, List.set_cons_succ]
            refine wpAnyH_take (i := 21) (oi := ⟨_, _, _, _, _, _⟩) (v := ?_) rfl (by kernel_rfl) (by kernel_rfl) (by kernel_rfl) (fun _ _ _ h => h) (Or.inl ⟨by rfl, ?_⟩) hHeld ?_
            rotate_left
            · (intro w hSw; (try dsimp only at hSw); go_simp; try (with_reducible rfl))
            try simp only [Act.put, List.setIfInBounds_toArray, List.set_cons_zero, List.set_cons_succ]
            refine wpAnyH_take (i := 22) (oi := ⟨_, _, _, _, _, _⟩) (v := ?_) rfl (by kernel_rfl) (by kernel_rfl) (by kernel_rfl) (fun _ _ _ h => h) (Or.inl ⟨by rfl, ?_⟩) hHeld ?_
            rotate_left
            · (intro w hSw; (try dsimp only at hSw); go_simp; try (with_reducible rfl))
            try simp only [Act.put, List.setIfInBounds_toArray, List.set_cons_zero, List.set_cons_succ]
            refine wpAnyH_take (i := 23) (oi := ⟨_, _, _, _, _, _⟩) (v := ?_) rfl (by kernel_rfl) (by kernel_rfl) (by kernel_rfl) (fun _ _ _ h => h) (Or.inl ⟨by rfl, ?_⟩) hHeld ?_
            rotate_left
            · (intro w hSw; (try dsimp only at hSw); go_simp; try (with_reducible rfl))
            try simp only [Act.put, List.setIfInBounds_toArray, List.set_cons_zero, List.set_cons_succ]
            refine wpAnyH_take (i := 24) (oi := ⟨_, _, _, _, _, _⟩) (v := ?_) rfl (by kernel_rfl) (by kernel_rfl) (by kernel_rfl) (fun _ _ _ h => h) (Or.inl ⟨by rfl, ?_⟩) hHeld ?_
            rotate_left
            · (intro w hSw; (try dsimp only at hSw); go_simp; try (with_reducible rfl))
            try simp only [Act.put, List.setIfInBounds_toArray, List.set_cons_zero, List.set_cons_succ]
            refine wpAnyH_take (i := 25) (oi := ⟨_, _, _, _, _, _⟩) (v := ?_) rfl (by kernel_rfl) (by kernel_rfl) (by kernel_rfl) (fun _ _ _ h => h) (Or.inl ⟨by rfl, ?_⟩) hHeld ?_
            rotate_left
            · (intro w hSw; (try dsimp only at hSw); go_simp; try (with_reducible rfl))
            try simp only [Act.put, List.setIfInBounds_toArray, List.set_cons_zero, List.set_cons_succ]
            refine wpAnyH_take (i := 26) (oi := ⟨_, _, _, _, _, _⟩) (v := ?_) rfl (by kernel_rfl) (by kernel_rfl) (by kernel_rfl) (fun _ _ _ h => h) (Or.inl ⟨by rfl, ?_⟩) hHeld ?_
            rotate_left
            · (intro w hSw; (try dsimp only at hSw); go_simp; try (with_reducible rfl))
            try simp only [Act.put, List.setIfInBounds_toArray, List.set_cons_zero, List.set_cons_succ]
            refine wpAnyH_take (i := 27) (oi := ⟨_, _, _, _, _, _⟩) (v := ?_) rfl (by kernel_rfl) (by kernel_rfl) (by kernel_rfl) (fun _ _ _ h => h) (Or.inl ⟨by rfl, ?_⟩) hHeld ?_
            rotate_left
            · (intro w hSw; (try dsimp only at hSw); go_simp; try (with_reducible rfl))
            try simp only [Act.put, List.setIfInBounds_toArray, List.set_cons_zero, List.set_cons_succ]
            refine wpAnyH_take (i := 28) (oi := ⟨_, _, _, _, _, _⟩) (v := ?_) rfl (by kernel_rfl) (by kernel_rfl) (by kernel_rfl) (fun _ _ _ h => h) (Or.inl ⟨by rfl, ?_⟩) hHeld ?_
            rotate_left
            · (intro w hSw; (try dsimp only at hSw); go_simp; try (with_reducible rfl))
            try simp only [Act.put, List.setIfInBounds_toArray, List.set_cons_zero, List.set_cons_succ]
            refine wpAnyH_take (i := 29) (oi := ⟨_, _, _, _, _, _⟩) (v := ?_) rfl (by kernel_rfl) (by kernel_rfl) (by kernel_rfl) (fun _ _ _ h => h) (Or.inl ⟨by rfl, ?_⟩) hHeld ?_
            rotate_left
            · (intro w hSw; (try dsimp only at hSw); go_simp; try (with_reducible rfl))
            try simp only [Act.put, List.setIfInBounds_toArray, List.set_cons_zero, List.set_cons_succ]
            refine wpAnyH_ready (rs := [30]) (by kernel_rfl) (by simp) ?_
            refine AllReadyH.cons (o := ⟨_, _, _, _, _, _⟩) rfl (fun K hK => ?_) AllReadyH.nil
            go_simp
            go_at_call 51
            refine (specScrollGrid_calls (j : Int) (W : Int) cs bs (Tp : Int) (Bt : Int) n at' _ _ w25 (by omega) (by omega) L1 L2).mono ?_
            rintro e w26 ⟨v5, v6, rfl, ho, hbx⟩
            rw [HX2.out] at ho ⊢
            dsimp only at ho ⊢
            have N1 := ho.read1
            have N2 := ho.read2
            clear ho
            obtain ⟨b5, d5, rfl, hx⟩ := id N1
            clear hx
            obtain ⟨b6, d6, rfl, hx⟩ := id N2
            clear hx
            replace G := G.below hbx
            replace RG := RG.below hbx
            replace M1 := M1.below hbx
            replace M2 := M2.below hbx
            replace L1 := L1.below hbx
            replace L2 := L2.below hbx
            replace qq := qq.trans (hbx.mono qq.size)
            clear hbx
            try go_wp2_with fail
            refine hK.out _ _ ?_ ?_
            · (try dsimp only); exact ⟨RG.c1, RG.c2, RG.c3, RG.c4, G.c0, G.c1, G.c2, G.c3⟩
            clear hHeld hK K
            intro hHeld
            try simp only [Act.put, List.setIfInBounds_toArray, List.set_cons_zero, List.set_cons_succ]
            refine wpAnyH_take (i := 31) (oi := ⟨_, _, _, _, _, _⟩) (v := ?_) rfl (by kernel_rfl) (by kernel_rfl) (by kernel_rfl) (fun _ _ _ h => h) (Or.inl ⟨by rfl, ?_⟩) hHeld ?_
            rotate_left
            · (intro w hSw; (try dsimp only at hSw); go_simp; try (with_reducible rfl))
            try simp only [Act.put, List.setIfInBounds_toArray, List.set_cons_zero, List.set_cons_succ]
            refine wpAnyH_ready (rs := [32]) (by kernel_rfl) (by simp) ?_
            refine AllReadyH.cons (o := ⟨_, _, _, _, _, _⟩) rfl (fun K hK => ?_) AllReadyH.nil
            go_simp
            go_at_call 52
            refine (implSameGrids_calls (j : Int) (W : Int) rs1 rs2 (j : Int) (W : Int) rs1 rs2 _ _ _ _ w26 (by omega) (by omega) (by omega) (by omega) M1 M2 N1 N2).mono ?_
            rintro e w27 ⟨rfl, hbx⟩
            rw [sameG_self]
            replace G := G.below hbx
            replace RG := RG.below hbx
            replace M1 := M1.below hbx
            replace M2 := M2.below hbx
            replace L1 := L1.below hbx
            replace L2 := L2.below hbx
            replace qq := qq.trans (hbx.mono qq.size)
            clear hbx
            try go_wp2_with fail
            refine hK.out _ _ ?_ ?_
            · (try dsimp only); exact ⟨RG.c1, RG.c2, RG.c3, RG.c4, G.c0, G.c1, G.c2, G.c3⟩
            clear hHeld hK K
            intro hHeld
            try simp only [Act.put, List.setIfInBounds_toArray, List.set_cons_zero, List.set_cons_succ]
            refine wpAnyH_take (i := 33) (oi := ⟨_, _, _, _, _, _⟩) (v := ?_) rfl (by kernel_rfl) (by kernel_rfl) (by kernel_rfl) (fun _ _ _ h => h) (Or.inl ⟨by rfl, ?_⟩) hHeld ?_
            rotate_left
            · (intro w hSw; (try dsimp only at hSw); go_simp; try (with_reducible rfl))
            try simp only [Act.put, List.setIfInBounds_toArray, List.set_cons_zero, List.set_cons_succ]
            refine wpAnyH_take (i := 34) (oi := ⟨_, _, _, _, _, _⟩) (v := ?_) rfl (by kernel_rfl) (by kernel_rfl) (by kernel_rfl) (fun _ _ _ h => h) (Or.inl ⟨by rfl, ?_⟩) hHeld ?_
            rotate_left
            · (intro w hSw; (try dsimp only at hSw); go_simp; try (with_reducible rfl))
            try simp only [Act.put, List.setIfInBounds_toArray, List.set_cons_zero, List.set_cons_succ]
            refine wpAnyH_done (by kernel_rfl) ?_ _
            clear hHeld
            go_wp2
            go_ret
            exact ⟨rfl, qq⟩
  · have hrb : (rc == 0) = false := by rw [beq_eq_false_iff_ne]; exact hr0
    have hrn : (rc != 0) = true := by simpa using hr0
    have hB : Below w3.heap.size w3 (w3.alloc (.cells #[.int .i64 rc, .int .i64 rr, .int .i64 rw', .slice a5 rs1.length c5, .slice a6 rs2.length c6] 77)) := (Below.refl _ _).alloc (Nat.le_refl _) _
    have HR : B5 w3.heap.size rc rr rw' (.slice a5 rs1.length c5) (.slice a6 rs2.length c6) (w3.alloc (.cells #[.int .i64 rc, .int .i64 rr, .int .i64 rw', .slice a5 rs1.length c5, .slice a6 rs2.length c6] 77)) := ⟨by simp [go_sem], by simp [go_sem], by simp [go_sem], by simp [go_sem], by simp [go_sem]⟩
    have r0 := HR.c0
    go_wp2_with fail
    obtain ⟨rb, erb⟩ : ∃ b, b = w3.heap.size := ⟨_, rfl⟩
    rw [← erb] at HR r0 ⊢
    clear erb
    generalize (w3.alloc (.cells #[.int .i64 rc, .int .i64 rr, .int .i64 rw', .slice a5 rs1.length c5, .slice a6 rs2.length c6] 77)) = wb at *
    replace l1 := l1.below hB
    replace l2 := l2.below hB
    replace m1 := m1.below hB
    replace m2 := m2.below hB
    replace HG := HG.below hB
    have qb : Below w.heap.size w wb := q3.trans (hB.mono q3.size)
    clear hB q3 r0
    refine wp_region_held_drew (S := (fun w' => w'.cell? ⟨gb, 0, none⟩ = some (.int .i64 r) ∧ w'.cell? ⟨gb, 1, none⟩ = some (.int .i64 wd) ∧ w'.cell? ⟨gb, 2, none⟩ = some (.slice a1 cs.length c1) ∧ w'.cell? ⟨gb, 3, none⟩ = some (.slice a2 bs.length c2) ∧ w'.cell? ⟨rb, 0, none⟩ = some (.int .i64 rc))) (by kernel_rfl) ?_ (fun hHeld => ?_)
    · (try dsimp only); exact ⟨HG.c0, HG.c1, HG.c2, HG.c3, HR.c0⟩
    refine wpAnyH_take (i := 0) (oi := ⟨_, _, _, _, _, _⟩) (v := ?_) rfl (by kernel_rfl) (by kernel_rfl) (by kernel_rfl) (fun _ _ _ h => h) (Or.inl ⟨by rfl, ?_⟩) hHeld ?_
    rotate_left
    · (intro w hSw; (try dsimp only at hSw); go_simp; try (with_reducible rfl))
    try simp only [Act.put, List.setIfInBounds_toArray, List.set_cons_zero, List.set_cons_succ]
    refine wpAnyH_take (i := 1) (oi := ⟨_, _, _, _, _, _⟩) (v := ?_) rfl (by kernel_rfl) (by kernel_rfl) (by kernel_rfl) (fun _ _ _ h => h) (Or.inl ⟨by rfl, ?_⟩) hHeld ?_
    rotate_left
    · (intro w hSw; (try dsimp only at hSw); go_simp; try (with_reducible rfl))
    try simp only [Act.put, List.setIfInBounds_toArray, List.set_cons_zero, List.set_cons_succ]
    refine wpAnyH_take (i := 2) (oi := ⟨_, _, _, _, _, _⟩) (v := ?_) rfl (by kernel_rfl) (by kernel_rfl) (by kernel_rfl) (fun _ _ _ h => h) (Or.inl ⟨by rfl, ?_⟩) hHeld ?_
    rotate_left
    · (intro w hSw; (try dsimp only at hSw); go_simp; try (with_reducible rfl))
    try simp only [Act.put, List.setIfInBounds_toArray, List.set_cons_zero, List.set_cons_succ]
    refine wpAnyH_take (i := 3) (oi := ⟨_, _, _, _, _, _⟩) (v := ?_) rfl (by kernel_rfl) (by kernel_rfl) (by kernel_rfl) (fun _ _ _ h => h) (Or.inl ⟨by rfl, ?_⟩) hHeld ?_
    rotate_left
    · (intro w hSw; (try dsimp only at hSw); go_simp; try (with_reducible rfl))
    try simp only [Act.put, List.setIfInBounds_toArray, List.set_cons_zero, List.set_cons_succ]
    refine wpAnyH_take (i := 4) (oi := ⟨_, _, _, _, _, _⟩) (v := ?_) rfl (by kernel_rfl) (by kernel_rfl) (by kernel_rfl) (fun _ _ _ h => h) (Or.inl ⟨by rfl, ?_⟩) hHeld ?_
    rotate_left
    · (intro w hSw; (try dsimp only at hSw); go_simp; try (with_reducible rfl))
    try simp only [Act.put, List.setIfInBounds_toArray, List.set_cons_zero, List.set_cons_succ]
    refine wpAnyH_take (i := 7) (oi := ⟨_, _, _, _, _, _⟩) (v := ?_) rfl (by kernel_rfl) (by kernel_rfl) (by kernel_rfl) (fun _ _ _ h => h) (Or.inl ⟨by rfl, ?_⟩) hHeld ?_
    rotate_left
    · (intro w hSw; (try dsimp only at hSw); go_simp; try (with_reducible rfl))
    try simp only [Act.put, List.setIfInBounds_toArray, List.set_cons_zero, List.set_cons_succ]
    refine wpAnyH_take (i := 8) (oi := ⟨_, _, _, _, _, _⟩) (v := ?_) rfl (by kernel_rfl) (by kernel_rfl) (by kernel_rfl) (fun _ _ _ h => h) (Or.inl ⟨by rfl, ?_⟩) hHeld ?_
    rotate_left
    · (intro w hSw; (try dsimp only at hSw); go_simp; try (with_reducible rfl))
    try simp only [Act.put, List.setIfInBounds_toArray, List.set_cons_zero, List.set_cons_succ]
    refine wpAnyH_ready (rs := [5]) (by kernel_rfl) (by simp) ?_
    refine AllReadyH.cons (o := ⟨_, _, _, _, _, _⟩) rfl (fun K hK => ?_) AllReadyH.nil
    go_simp
    go_at_call 51
    refine (specScrollGrid_calls r wd cs bs top bot n at' _ _ wb.drew (by omega) (by omega) (l1.below (show Below wb.heap.size wb wb.drew from below_drewN (Below.refl _ _) 1)) (l2.below (show Below wb.heap.size wb wb.drew from below_drewN (Below.refl _ _) 1))).mono ?_
    rintro e w20 ⟨v5, v6, rfl, ho, hb20⟩
    replace hb20 : Below wb.heap.size wb w20 := (below_drewN (Below.refl _ _) 1).trans hb20
    rw [HX.out] at ho ⊢
    dsimp only at ho ⊢
    obtain ⟨b5, d5, b6, d6, rfl, rfl⟩ := ho.forms
    replace HG := HG.below hb20
    replace HR := HR.below hb20
    have qq := qb.trans (hb20.mono qb.size)
    clear ho hb20
    try go_wp2_with fail
    refine hK.out _ _ ?_ ?_
    · (try dsimp only); exact ⟨HG.c0, HG.c1, HG.c2, HG.c3, HR.c0⟩
    clear hHeld hK K
    intro hHeld
    try simp only [Act.put, List.setIfInBounds_toArray, List.set_cons_zero, List.set_cons_succ]
    refine wpAnyH_take (i := 6) (oi := ⟨_, _, _, _, _, _⟩) (v := ?_) rfl (by kernel_rfl) (by kernel_rfl) (by kernel_rfl) (fun _ _ _ h => h) (Or.inl ⟨by rfl, ?_⟩) hHeld ?_
    rotate_left
    · (intro w hSw; (try dsimp only at hSw); go_simp; try (with_reducible rfl))
    try simp only [Act.put, List.setIfInBounds_toArray, List.set_cons_zero, List.set_cons_succ]
    refine wpAnyH_take (i := 9) (oi := ⟨_, _, _, _, _, _⟩) (v := ?_) rfl (by kernel_rfl) (by kernel_rfl) (by kernel_rfl) (fun _ _ _ h => h) (Or.inl ⟨by rfl, ?_⟩) hHeld ?_
    rotate_left
    · (intro w hSw; (try dsimp only at hSw); go_simp; try (with_reducible rfl))
    try simp only [Act.put, List.setIfInBounds_toArray, List.set_cons_zero, List.set_cons_succ]
    refine wpAnyH_take (i := 10) (oi := ⟨_, _, _, _, _, _⟩) (v := ?_) rfl (by kernel_rfl) (by kernel_rfl) (by kernel_rfl) (fun _ _ _ h => h) (Or.inl ⟨by rfl, ?_⟩) hHeld ?_
    rotate_left
    · (intro w hSw; (try dsimp only at hSw); go_simp; try (with_reducible rfl))
    try simp only [Act.put, List.setIfInBounds_toArray, List.set_cons_zero, List.set_cons_succ]
    refine wpAnyH_done (by kernel_rfl) ?_ _
    clear hHeld
    go_wp2
    go_ret
    exact ⟨rfl, qq⟩
end Go.Proofs.Ytbndncfkkhjkoaa
