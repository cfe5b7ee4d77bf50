/-
  A draw of chapter 3's laws: DrawScrollGrid, walked.
-/
import Derived.Test.YtbndncfkkhjkoaaGridDraw5
import Derived.Test.YtbndncfkkhjkoaaLawKit3
namespace Go.Proofs.Ytbndncfkkhjkoaa
set_option maxRecDepth 20000
open Go.ChangeShapes Go.WideShapes Go.ChangeAt Go.RowKit
set_option linter.unusedVariables false
set_option linter.unusedSimpArgs false
set_option maxRecDepth 20000

theorem cut_with {P Q : Prop} (h : Hid P → Q) (p : P) : Q := h (hide p)
/-- A list that was made for a pick. -/
structure LI (B g : Nat) (xs : List Int) (W : World) : Prop where
  hB : B + 1 ≤ g
  h : ∀ i, i < xs.length → W.cell? ⟨g, i, none⟩ = some (.int .i64 (xs.getD i 0))
theorem LI.below {B g : Nat} {xs : List Int} {W W' : World} (l : LI B g xs W) (hb : Below W.heap.size W W') : LI B g xs W' := ⟨l.hB, fun i hi => cellb hb (l.h i hi)⟩
theorem LI.within {B g : Nat} {xs : List Int} {W W' : World} (l : LI B g xs W) (x : Within B (B + 1) W W') : LI B g xs W' := ⟨l.hB, fun i hi => x.cellg (.inr l.hB) (l.h i hi)⟩
/-- Between two operations: the grid that was drawn, its box, the result's box, the source. -/
structure DS (w u W : World) (B T bx n cx : Nat) (code : Value) (p r wd : Int) (v : Value) (bs : List (Int × Int)) : Prop where
  V : GV w u W B bx n cx code p v bs
  rb : RB w.heap.size W
  E : B4 T r wd (.slice (some ⟨bx, 0, none⟩) n cx) v W
  lo : w.heap.size < B ∧ B + 1 ≤ W.heap.size ∧ B + 1 ≤ T
theorem DS.within {w u W W' : World} {B T bx n cx : Nat} {code : Value} {p q r wd : Int} {v : Value} {bs : List (Int × Int)} (d : DS w u W B T bx n cx code p r wd v bs) (s : Src w W' B code q) (x : Within B (B + 1) W W') : DS w u W' B T bx n cx code q r wd v bs := by
  have l := d.lo
  have sz := x.size
  exact ⟨d.V.within s x, d.rb.within x (by omega), ⟨x.cellg (by omega) d.E.c0, x.cellg (by omega) d.E.c1, x.cellg (by omega) d.E.c2, x.cellg (by omega) d.E.c3⟩, by omega⟩
theorem DS.below {w u W W' : World} {B T bx n cx : Nat} {code : Value} {p r wd : Int} {v : Value} {bs : List (Int × Int)} (d : DS w u W B T bx n cx code p r wd v bs) (hb : Below W.heap.size W W') : DS w u W' B T bx n cx code p r wd v bs := d.within (d.V.src.below hb) (Within.of_below hb (Nat.le_refl _))

set_option maxHeartbeats 8000000 in
theorem drawScroll_calls (zs : List Int) (a : Option Addr) (cap : Nat) (w : World) (hv : ReadAt .u8 w (.slice a zs.length cap) zs) (hz : ∀ z ∈ zs, 0 ≤ z ∧ z ≤ 255) (hlen : zs.length ≤ 1048576) :
    Calls Try.prog 49 #[.slice a zs.length cap] w fun e w' => ∃ (r wd : Int) (v1 v2 : Value) (cs bs : List (Int × Int)) (top bot n at' : Int), e = .returned (.tuple #[.agg #[.int .i64 r, .int .i64 wd, v1, v2], .int .i64 top, .int .i64 bot, .int .i64 n, .int .i64 at']) ∧ cs.length ≤ 24 ∧ bs.length ≤ 40 ∧ PRead w' v1 cs ∧ PRead w' v2 bs ∧ Capped v1 ∧ Capped v2 ∧ Below w.heap.size w w' := by
  have HZ := hide hz
  clear hz
  go_enter Try.func49, Try.ntmps49
  go_wp2_with fail
  refine (l1Source_calls (.slice a zs.length cap) _ _ _ _).mono ?_
  rintro e w' ⟨rfl, hw⟩
  rw [hw]
  clear hw w'
  go_wp2_with fail
  have q0 : Below w.heap.size w ((w.alloc (.cells #[.int .i64 0, .int .i64 0, .slice none 0 0, .slice none 0 0] 71)).alloc (.cells #[.slice a zs.length cap, .int .i64 0] 156)) := (by repeat' (first | with_reducible exact Below.refl _ _ | with_reducible assumption | with_reducible refine Below.drew ?_ | with_reducible refine Below.alloc ?_ ?_ _ | with_reducible refine Below.setCell ?_ ?_ _ | (simp; done) | (simp; omega) | omega))
  have sc : Src w ((w.alloc (.cells #[.int .i64 0, .int .i64 0, .slice none 0 0, .slice none 0 0] 71)).alloc (.cells #[.slice a zs.length cap, .int .i64 0] 156)) (w.heap.size + 1) (.slice a zs.length cap) 0 := ⟨by simp [go_sem], by simp [go_sem], fun o => by simp [go_sem], q0, by omega⟩
  have rb : RB w.heap.size ((w.alloc (.cells #[.int .i64 0, .int .i64 0, .slice none 0 0, .slice none 0 0] 71)).alloc (.cells #[.slice a zs.length cap, .int .i64 0] 156)) := ⟨⟨.int .i64 0, by simp [go_sem]⟩, ⟨.int .i64 0, by simp [go_sem]⟩, ⟨.slice none 0 0, by simp [go_sem]⟩, ⟨.slice none 0 0, by simp [go_sem]⟩, fun o => by simp [go_sem]⟩
  have hsz : w.heap.size + 1 + 1 ≤ ((w.alloc (.cells #[.int .i64 0, .int .i64 0, .slice none 0 0, .slice none 0 0] 71)).alloc (.cells #[.slice a zs.length cap, .int .i64 0] 156)).heap.size := by simp; try omega
  have esz : ((w.alloc (.cells #[.int .i64 0, .int .i64 0, .slice none 0 0, .slice none 0 0] 71)).alloc (.cells #[.slice a zs.length cap, .int .i64 0] 156)).heap.size = w.heap.size + 1 + 1 := by simp
  generalize ((w.alloc (.cells #[.int .i64 0, .int .i64 0, .slice none 0 0, .slice none 0 0] 71)).alloc (.cells #[.slice a zs.length cap, .int .i64 0] 156)) = u0 at *
  skip
  clear esz
  clear q0
  try go_wp2_with fail
  refine (l3Bent_calls zs a cap (w.heap.size + 1) 0 w u0 hv HZ.out hlen sc (by omega) (by omega)).mono ?_
  rintro e u1 ⟨r, wd, bx, n, cx, v, bs, q, rfl, _, hq0, hq1, V, _, _⟩
  have xx := V.wi
  have hU : w.heap.size + 1 + 1 ≤ u0.heap.size := hsz
  replace rb := rb.within xx (by omega)
  replace hsz : w.heap.size + 1 + 1 ≤ u1.heap.size := Nat.le_trans hsz xx.size
  obtain ⟨av, cv, rfl, hcv⟩ := own_room2 V.own
  clear xx sc
  have hb : Below u1.heap.size u1 (u1.alloc (.cells #[.int .i64 r, .int .i64 wd, .slice (some ⟨bx, 0, none⟩) n cx, .slice av bs.length cv] 71)) := (Below.refl _ _).alloc (Nat.le_refl _) _
  have E : B4 u1.heap.size r wd (.slice (some ⟨bx, 0, none⟩) n cx) (.slice av bs.length cv) (u1.alloc (.cells #[.int .i64 r, .int .i64 wd, .slice (some ⟨bx, 0, none⟩) n cx, .slice av bs.length cv] 71)) := ⟨by simp [go_sem], by simp [go_sem], by simp [go_sem], by simp [go_sem]⟩
  have hold : w.heap.size + 1 + 1 ≤ u1.heap.size := hsz
  have D0 : DS w u0 (u1.alloc (.cells #[.int .i64 r, .int .i64 wd, .slice (some ⟨bx, 0, none⟩) n cx, .slice av bs.length cv] 71)) (w.heap.size + 1) u1.heap.size bx n cx (.slice a zs.length cap) q r wd (.slice av bs.length cv) bs := ⟨V.below hb, rb.below hb, E, by have := hb.size; omega⟩
  clear hb V rb E hsz
  go_wp2_with fail
  generalize (u1.alloc (.cells #[.int .i64 r, .int .i64 wd, .slice (some ⟨bx, 0, none⟩) n cx, .slice av bs.length cv] 71)) = v0 at *
  obtain ⟨T, hT⟩ : ∃ T, T = u1.heap.size := ⟨_, rfl⟩
  rw [← hT] at D0 ⊢
  clear hT hold
  obtain ⟨z, hzz⟩ : ∃ z, IntKind.i64.wrap (r - 1) = z := ⟨_, rfl⟩
  refine wp_region_held_drew (S := (fun w' => w'.cell? ⟨T, 0, none⟩ = some (.int .i64 r) ∧ w'.cell? ⟨T, 1, none⟩ = some (.int .i64 wd) ∧ w'.cell? ⟨T, 2, none⟩ = some (.slice (some ⟨bx, 0, none⟩) n cx) ∧ w'.cell? ⟨T, 3, none⟩ = some (.slice av bs.length cv))) (by kernel_rfl) ?_ (fun hHeld => ?_)
  · (try dsimp only); exact ⟨D0.E.c0, D0.E.c1, D0.E.c2, D0.E.c3⟩
  have D := D0.below (show Below v0.heap.size v0 v0.drew from below_drewN (Below.refl _ _) 1)
  clear D0
  generalize v0.drew = vw at *
  clear v0
  refine wpAnyH_take (i := 0) (oi := ⟨_, _, _, _, _, _⟩) (v := ?_) rfl (by kernel_rfl) (by kernel_rfl) (by kernel_rfl) (fun _ _ _ h => h) (Or.inl ⟨by rfl, ?_⟩) hHeld ?_
  rotate_left
  · (intro w hSw; (try dsimp only at hSw); go_simp; try (with_reducible rfl))
  try simp only [Act.put, List.setIfInBounds_toArray, List.set_cons_zero, List.set_cons_succ]
  refine wpAnyH_take (i := 1) (oi := ⟨_, _, _, _, _, _⟩) (v := ?_) rfl (by kernel_rfl) (by kernel_rfl) (by kernel_rfl) (fun _ _ _ h => h) (Or.inl ⟨by rfl, ?_⟩) hHeld ?_
  rotate_left
  · (intro w hSw; (try dsimp only at hSw); go_simp; try (with_reducible rfl))
  try simp only [Act.put, List.setIfInBounds_toArray, List.set_cons_zero, List.set_cons_succ]
  refine wpAnyH_take (i := 4) (oi := ⟨_, _, _, _, _, _⟩) (v := ?_) rfl (by kernel_rfl) (by kernel_rfl) (by kernel_rfl) (fun _ _ _ h => h) (Or.inl ⟨by rfl, ?_⟩) hHeld ?_
  rotate_left
  · (intro w hSw; (try dsimp only at hSw); go_simp; try (with_reducible rfl))
  try simp only [Act.put, List.setIfInBounds_toArray, List.set_cons_zero, List.set_cons_succ]
  refine wpAnyH_take (i := 5) (oi := ⟨_, _, _, _, _, _⟩) (v := ?_) rfl (by kernel_rfl) (by kernel_rfl) (by kernel_rfl) (fun _ _ _ h => h) (Or.inl ⟨by rfl, ?_⟩) hHeld ?_
  rotate_left
  · (intro w hSw; (try dsimp only at hSw); go_simp; try (with_reducible rfl))
  try simp only [Act.put, List.setIfInBounds_toArray, List.set_cons_zero, List.set_cons_succ]
  refine wpAnyH_take (i := 6) (oi := ⟨_, _, _, _, _, _⟩) (v := ?_) rfl (by kernel_rfl) (by kernel_rfl) (by kernel_rfl) (fun _ _ _ h => h) (Or.inl ⟨by rfl, ?_⟩) hHeld ?_
  rotate_left
  · (intro w hSw; (try dsimp only at hSw); go_simp; try (with_reducible rfl))
  try simp only [Act.put, List.setIfInBounds_toArray, List.set_cons_zero, List.set_cons_succ]
  refine wpAnyH_take (i := 7) (oi := ⟨_, _, _, _, _, _⟩) (v := ?_) rfl (by kernel_rfl) (by kernel_rfl) (by kernel_rfl) (fun _ _ _ h => h) (Or.inl ⟨by rfl, ?_⟩) hHeld ?_
  rotate_left
  · (intro w hSw; (try dsimp only at hSw); go_simp; try (with_reducible rfl))
  try simp only [Act.put, List.setIfInBounds_toArray, List.set_cons_zero, List.set_cons_succ]
  refine wpAnyH_take (i := 8) (oi := ⟨_, _, _, _, _, _⟩) (v := ?_) rfl (by kernel_rfl) (by kernel_rfl) (by kernel_rfl) (fun _ _ _ h => h) (Or.inl ⟨by rfl, ?_⟩) hHeld ?_
  rotate_left
  · (intro w hSw; (try dsimp only at hSw); go_simp; try (with_reducible rfl))
  try simp only [Act.put, List.setIfInBounds_toArray, List.set_cons_zero, List.set_cons_succ]
  refine wpAnyH_take (i := 9) (oi := ⟨_, _, _, _, _, _⟩) (v := ?_) rfl (by kernel_rfl) (by kernel_rfl) (by kernel_rfl) (fun _ _ _ h => h) (Or.inl ⟨by rfl, ?_⟩) hHeld ?_
  rotate_left
  · (intro w hSw; (try dsimp only at hSw); go_simp; try (with_reducible rfl))
  try simp only [Act.put, List.setIfInBounds_toArray, List.set_cons_zero, List.set_cons_succ]
  refine wpAnyH_take (i := 10) (oi := ⟨_, _, _, _, _, _⟩) (v := ?_) rfl (by kernel_rfl) (by kernel_rfl) (by kernel_rfl) (fun _ _ _ h => h) (Or.inl ⟨by rfl, ?_⟩) hHeld ?_
  rotate_left
  · (intro w hSw; (try dsimp only at hSw); go_simp; try (with_reducible rfl))
  try simp only [Act.put, List.setIfInBounds_toArray, List.set_cons_zero, List.set_cons_succ]
  refine wpAnyH_take (i := 11) (oi := ⟨_, _, _, _, _, _⟩) (v := ?_) rfl (by kernel_rfl) (by kernel_rfl) (by kernel_rfl) (fun _ _ _ h => h) (Or.inl ⟨by rfl, ?_⟩) hHeld ?_
  rotate_left
  · (intro w hSw; (try dsimp only at hSw); go_simp; try (with_reducible rfl))
  try simp only [Act.put, List.setIfInBounds_toArray, List.set_cons_zero, List.set_cons_succ]
  refine wpAnyH_take (i := 12) (oi := ⟨_, _, _, _, _, _⟩) (v := ?_) rfl (by kernel_rfl) (by kernel_rfl) (by kernel_rfl) (fun _ _ _ h => h) (Or.inl ⟨by rfl, ?_⟩) hHeld ?_
  rotate_left
  · (intro w hSw; (try dsimp only at hSw); go_simp; try (with_reducible rfl))
  try simp only [Act.put, List.setIfInBounds_toArray, List.set_cons_zero, List.set_cons_succ]
  refine wpAnyH_take (i := 15) (oi := ⟨_, _, _, _, _, _⟩) (v := ?_) rfl (by kernel_rfl) (by kernel_rfl) (by kernel_rfl) (fun _ _ _ h => h) (Or.inl ⟨by rfl, ?_⟩) hHeld ?_
  rotate_left
  · (intro w hSw; (try dsimp only at hSw); go_simp; try (with_reducible rfl))
  try simp only [Act.put, List.setIfInBounds_toArray, List.set_cons_zero, List.set_cons_succ]
  refine wpAnyH_take (i := 18) (oi := ⟨_, _, _, _, _, _⟩) (v := ?_) rfl (by kernel_rfl) (by kernel_rfl) (by kernel_rfl) (fun _ _ _ h => h) (Or.inl ⟨by rfl, ?_⟩) hHeld ?_
  rotate_left
  · (intro w hSw; (try dsimp only at hSw); go_simp; try (with_reducible rfl))
  try simp only [Act.put, List.setIfInBounds_toArray, List.set_cons_zero, List.set_cons_succ]
  clear hzz
  revert hHeld
  revert D
  revert vw
  apply cut_with
  intro key4_0123
  apply cut_with
  intro key3_0123
  apply cut_with
  intro key2_0123
  apply cut_with
  intro key3_012
  apply cut_with
  intro key1_0123
  apply cut_with
  intro key2_012
  apply cut_with
  intro key2_013
  apply cut_with
  intro key0_0123
  apply cut_with
  intro key1_012
  apply cut_with
  intro key1_013
  apply cut_with
  intro key1_023
  apply cut_with
  intro key2_01
  apply cut_with
  intro key0_012
  apply cut_with
  intro key0_013
  apply cut_with
  intro key0_023
  apply cut_with
  intro key0_123
  apply cut_with
  intro key1_01
  apply cut_with
  intro key1_02
  apply cut_with
  intro key1_03
  apply cut_with
  intro key0_01
  apply cut_with
  intro key0_02
  apply cut_with
  intro key0_03
  apply cut_with
  intro key0_12
  apply cut_with
  intro key0_13
  apply cut_with
  intro key0_23
  apply cut_with
  intro key1_0
  apply cut_with
  intro key0_0
  apply cut_with
  intro key0_1
  apply cut_with
  intro key0_2
  apply cut_with
  intro key0_3
  · skip
    intro vw D hHeld
    have hvl := D.V.lo
    have hlo := D.lo
    refine wpAnyH_ready (rs := [2, 13, 16, 19]) (by kernel_rfl) (by simp) ?_
    refine (AllReadyH.cons (o := ⟨_, _, _, _, _, _⟩) rfl (fun K hK => ?_) (AllReadyH.cons (o := ⟨_, _, _, _, _, _⟩) rfl (fun K hK => ?_) (AllReadyH.cons (o := ⟨_, _, _, _, _, _⟩) rfl (fun K hK => ?_) (AllReadyH.cons (o := ⟨_, _, _, _, _, _⟩) rfl (fun K hK => ?_) AllReadyH.nil))))
    · skip
      go_simp
      have hb : Below vw.heap.size vw (vw.alloc (.cells #[.int .i64 0, .int .i64 0, .int .i64 1, .int .i64 (-1)] 2)) := (Below.refl _ _).alloc (Nat.le_refl _) _
      have L0 : LI (w.heap.size + 1) vw.heap.size [0, 0, 1, -1] (vw.alloc (.cells #[.int .i64 0, .int .i64 0, .int .i64 1, .int .i64 (-1)] 2)) := ⟨hlo.2.1, new_ints rfl⟩
      replace D := D.below hb
      obtain ⟨g0, eg⟩ : ∃ g, g = vw.heap.size := ⟨_, rfl⟩
      rw [← eg] at L0 ⊢
      clear eg hb
      generalize (vw.alloc (.cells #[.int .i64 0, .int .i64 0, .int .i64 1, .int .i64 (-1)] 2)) = vn at *
      clear hvl hlo
      refine hK.out _ _ ?_ ?_
      · (try dsimp only); exact ⟨D.E.c0, D.E.c1, D.E.c2, D.E.c3⟩
      clear hHeld hK K
      intro hHeld
      try simp only [Act.put, List.setIfInBounds_toArray, List.set_cons_zero, List.set_cons_succ]
      clear vw
      revert hHeld
      revert L0
      revert D
      revert g0
      revert vn
      exact key0_0.out
    · skip
      go_simp
      have hb : Below vw.heap.size vw (vw.alloc (.cells #[.int .i64 z, .int .i64 z, .int .i64 1, .int .i64 r] 2)) := (Below.refl _ _).alloc (Nat.le_refl _) _
      have L1 : LI (w.heap.size + 1) vw.heap.size [z, z, 1, r] (vw.alloc (.cells #[.int .i64 z, .int .i64 z, .int .i64 1, .int .i64 r] 2)) := ⟨hlo.2.1, new_ints rfl⟩
      replace D := D.below hb
      obtain ⟨g1, eg⟩ : ∃ g, g = vw.heap.size := ⟨_, rfl⟩
      rw [← eg] at L1 ⊢
      clear eg hb
      generalize (vw.alloc (.cells #[.int .i64 z, .int .i64 z, .int .i64 1, .int .i64 r] 2)) = vn at *
      clear hvl hlo
      refine hK.out _ _ ?_ ?_
      · (try dsimp only); exact ⟨D.E.c0, D.E.c1, D.E.c2, D.E.c3⟩
      clear hHeld hK K
      intro hHeld
      try simp only [Act.put, List.setIfInBounds_toArray, List.set_cons_zero, List.set_cons_succ]
      clear vw
      revert hHeld
      revert L1
      revert D
      revert g1
      revert vn
      exact key0_1.out
    · skip
      go_simp
      have hb : Below vw.heap.size vw (vw.alloc (.cells #[.int .i64 1, .int .i64 2, .int .i64 (-1), .int .i64 (-2), .int .i64 0, .int .i64 9, .int .i64 10] 2)) := (Below.refl _ _).alloc (Nat.le_refl _) _
      have L2 : LI (w.heap.size + 1) vw.heap.size [1, 2, -1, -2, 0, 9, 10] (vw.alloc (.cells #[.int .i64 1, .int .i64 2, .int .i64 (-1), .int .i64 (-2), .int .i64 0, .int .i64 9, .int .i64 10] 2)) := ⟨hlo.2.1, new_ints rfl⟩
      replace D := D.below hb
      obtain ⟨g2, eg⟩ : ∃ g, g = vw.heap.size := ⟨_, rfl⟩
      rw [← eg] at L2 ⊢
      clear eg hb
      generalize (vw.alloc (.cells #[.int .i64 1, .int .i64 2, .int .i64 (-1), .int .i64 (-2), .int .i64 0, .int .i64 9, .int .i64 10] 2)) = vn at *
      clear hvl hlo
      refine hK.out _ _ ?_ ?_
      · (try dsimp only); exact ⟨D.E.c0, D.E.c1, D.E.c2, D.E.c3⟩
      clear hHeld hK K
      intro hHeld
      try simp only [Act.put, List.setIfInBounds_toArray, List.set_cons_zero, List.set_cons_succ]
      clear vw
      revert hHeld
      revert L2
      revert D
      revert g2
      revert vn
      exact key0_2.out
    · skip
      go_simp
      have hb : Below vw.heap.size vw (vw.alloc (.cells #[.int .i64 0, .int .i64 3, .int .i64 32] 2)) := (Below.refl _ _).alloc (Nat.le_refl _) _
      have L3 : LI (w.heap.size + 1) vw.heap.size [0, 3, 32] (vw.alloc (.cells #[.int .i64 0, .int .i64 3, .int .i64 32] 2)) := ⟨hlo.2.1, new_ints rfl⟩
      replace D := D.below hb
      obtain ⟨g3, eg⟩ : ∃ g, g = vw.heap.size := ⟨_, rfl⟩
      rw [← eg] at L3 ⊢
      clear eg hb
      generalize (vw.alloc (.cells #[.int .i64 0, .int .i64 3, .int .i64 32] 2)) = vn at *
      clear hvl hlo
      refine hK.out _ _ ?_ ?_
      · (try dsimp only); exact ⟨D.E.c0, D.E.c1, D.E.c2, D.E.c3⟩
      clear hHeld hK K
      intro hHeld
      try simp only [Act.put, List.setIfInBounds_toArray, List.set_cons_zero, List.set_cons_succ]
      clear vw
      revert hHeld
      revert L3
      revert D
      revert g3
      revert vn
      exact key0_3.out
  · skip
    intro vw g3 D L3 hHeld
    have hvl := D.V.lo
    have hlo := D.lo
    refine wpAnyH_ready (rs := [2, 13, 16]) (by kernel_rfl) (by simp) ?_
    refine (AllReadyH.cons (o := ⟨_, _, _, _, _, _⟩) rfl (fun K hK => ?_) (AllReadyH.cons (o := ⟨_, _, _, _, _, _⟩) rfl (fun K hK => ?_) (AllReadyH.cons (o := ⟨_, _, _, _, _, _⟩) rfl (fun K hK => ?_) AllReadyH.nil)))
    · skip
      go_simp
      have hb : Below vw.heap.size vw (vw.alloc (.cells #[.int .i64 0, .int .i64 0, .int .i64 1, .int .i64 (-1)] 2)) := (Below.refl _ _).alloc (Nat.le_refl _) _
      have L0 : LI (w.heap.size + 1) vw.heap.size [0, 0, 1, -1] (vw.alloc (.cells #[.int .i64 0, .int .i64 0, .int .i64 1, .int .i64 (-1)] 2)) := ⟨hlo.2.1, new_ints rfl⟩
      replace D := D.below hb
      replace L3 := L3.below hb
      obtain ⟨g0, eg⟩ : ∃ g, g = vw.heap.size := ⟨_, rfl⟩
      rw [← eg] at L0 ⊢
      clear eg hb
      generalize (vw.alloc (.cells #[.int .i64 0, .int .i64 0, .int .i64 1, .int .i64 (-1)] 2)) = vn at *
      clear hvl hlo
      refine hK.out _ _ ?_ ?_
      · (try dsimp only); exact ⟨D.E.c0, D.E.c1, D.E.c2, D.E.c3⟩
      clear hHeld hK K
      intro hHeld
      try simp only [Act.put, List.setIfInBounds_toArray, List.set_cons_zero, List.set_cons_succ]
      clear vw
      revert hHeld
      revert L3
      revert L0
      revert D
      revert g3
      revert g0
      revert vn
      exact key0_03.out
    · skip
      go_simp
      have hb : Below vw.heap.size vw (vw.alloc (.cells #[.int .i64 z, .int .i64 z, .int .i64 1, .int .i64 r] 2)) := (Below.refl _ _).alloc (Nat.le_refl _) _
      have L1 : LI (w.heap.size + 1) vw.heap.size [z, z, 1, r] (vw.alloc (.cells #[.int .i64 z, .int .i64 z, .int .i64 1, .int .i64 r] 2)) := ⟨hlo.2.1, new_ints rfl⟩
      replace D := D.below hb
      replace L3 := L3.below hb
      obtain ⟨g1, eg⟩ : ∃ g, g = vw.heap.size := ⟨_, rfl⟩
      rw [← eg] at L1 ⊢
      clear eg hb
      generalize (vw.alloc (.cells #[.int .i64 z, .int .i64 z, .int .i64 1, .int .i64 r] 2)) = vn at *
      clear hvl hlo
      refine hK.out _ _ ?_ ?_
      · (try dsimp only); exact ⟨D.E.c0, D.E.c1, D.E.c2, D.E.c3⟩
      clear hHeld hK K
      intro hHeld
      try simp only [Act.put, List.setIfInBounds_toArray, List.set_cons_zero, List.set_cons_succ]
      clear vw
      revert hHeld
      revert L3
      revert L1
      revert D
      revert g3
      revert g1
      revert vn
      exact key0_13.out
    · skip
      go_simp
      have hb : Below vw.heap.size vw (vw.alloc (.cells #[.int .i64 1, .int .i64 2, .int .i64 (-1), .int .i64 (-2), .int .i64 0, .int .i64 9, .int .i64 10] 2)) := (Below.refl _ _).alloc (Nat.le_refl _) _
      have L2 : LI (w.heap.size + 1) vw.heap.size [1, 2, -1, -2, 0, 9, 10] (vw.alloc (.cells #[.int .i64 1, .int .i64 2, .int .i64 (-1), .int .i64 (-2), .int .i64 0, .int .i64 9, .int .i64 10] 2)) := ⟨hlo.2.1, new_ints rfl⟩
      replace D := D.below hb
      replace L3 := L3.below hb
      obtain ⟨g2, eg⟩ : ∃ g, g = vw.heap.size := ⟨_, rfl⟩
      rw [← eg] at L2 ⊢
      clear eg hb
      generalize (vw.alloc (.cells #[.int .i64 1, .int .i64 2, .int .i64 (-1), .int .i64 (-2), .int .i64 0, .int .i64 9, .int .i64 10] 2)) = vn at *
      clear hvl hlo
      refine hK.out _ _ ?_ ?_
      · (try dsimp only); exact ⟨D.E.c0, D.E.c1, D.E.c2, D.E.c3⟩
      clear hHeld hK K
      intro hHeld
      try simp only [Act.put, List.setIfInBounds_toArray, List.set_cons_zero, List.set_cons_succ]
      clear vw
      revert hHeld
      revert L3
      revert L2
      revert D
      revert g3
      revert g2
      revert vn
      exact key0_23.out
  · skip
    intro vw g2 D L2 hHeld
    have hvl := D.V.lo
    have hlo := D.lo
    refine wpAnyH_ready (rs := [2, 13, 19]) (by kernel_rfl) (by simp) ?_
    refine (AllReadyH.cons (o := ⟨_, _, _, _, _, _⟩) rfl (fun K hK => ?_) (AllReadyH.cons (o := ⟨_, _, _, _, _, _⟩) rfl (fun K hK => ?_) (AllReadyH.cons (o := ⟨_, _, _, _, _, _⟩) rfl (fun K hK => ?_) AllReadyH.nil)))
    · skip
      go_simp
      have hb : Below vw.heap.size vw (vw.alloc (.cells #[.int .i64 0, .int .i64 0, .int .i64 1, .int .i64 (-1)] 2)) := (Below.refl _ _).alloc (Nat.le_refl _) _
      have L0 : LI (w.heap.size + 1) vw.heap.size [0, 0, 1, -1] (vw.alloc (.cells #[.int .i64 0, .int .i64 0, .int .i64 1, .int .i64 (-1)] 2)) := ⟨hlo.2.1, new_ints rfl⟩
      replace D := D.below hb
      replace L2 := L2.below hb
      obtain ⟨g0, eg⟩ : ∃ g, g = vw.heap.size := ⟨_, rfl⟩
      rw [← eg] at L0 ⊢
      clear eg hb
      generalize (vw.alloc (.cells #[.int .i64 0, .int .i64 0, .int .i64 1, .int .i64 (-1)] 2)) = vn at *
      clear hvl hlo
      refine hK.out _ _ ?_ ?_
      · (try dsimp only); exact ⟨D.E.c0, D.E.c1, D.E.c2, D.E.c3⟩
      clear hHeld hK K
      intro hHeld
      try simp only [Act.put, List.setIfInBounds_toArray, List.set_cons_zero, List.set_cons_succ]
      clear vw
      revert hHeld
      revert L2
      revert L0
      revert D
      revert g2
      revert g0
      revert vn
      exact key0_02.out
    · skip
      go_simp
      have hb : Below vw.heap.size vw (vw.alloc (.cells #[.int .i64 z, .int .i64 z, .int .i64 1, .int .i64 r] 2)) := (Below.refl _ _).alloc (Nat.le_refl _) _
      have L1 : LI (w.heap.size + 1) vw.heap.size [z, z, 1, r] (vw.alloc (.cells #[.int .i64 z, .int .i64 z, .int .i64 1, .int .i64 r] 2)) := ⟨hlo.2.1, new_ints rfl⟩
      replace D := D.below hb
      replace L2 := L2.below hb
      obtain ⟨g1, eg⟩ : ∃ g, g = vw.heap.size := ⟨_, rfl⟩
      rw [← eg] at L1 ⊢
      clear eg hb
      generalize (vw.alloc (.cells #[.int .i64 z, .int .i64 z, .int .i64 1, .int .i64 r] 2)) = vn at *
      clear hvl hlo
      refine hK.out _ _ ?_ ?_
      · (try dsimp only); exact ⟨D.E.c0, D.E.c1, D.E.c2, D.E.c3⟩
      clear hHeld hK K
      intro hHeld
      try simp only [Act.put, List.setIfInBounds_toArray, List.set_cons_zero, List.set_cons_succ]
      clear vw
      revert hHeld
      revert L2
      revert L1
      revert D
      revert g2
      revert g1
      revert vn
      exact key0_12.out
    · skip
      go_simp
      have hb : Below vw.heap.size vw (vw.alloc (.cells #[.int .i64 0, .int .i64 3, .int .i64 32] 2)) := (Below.refl _ _).alloc (Nat.le_refl _) _
      have L3 : LI (w.heap.size + 1) vw.heap.size [0, 3, 32] (vw.alloc (.cells #[.int .i64 0, .int .i64 3, .int .i64 32] 2)) := ⟨hlo.2.1, new_ints rfl⟩
      replace D := D.below hb
      replace L2 := L2.below hb
      obtain ⟨g3, eg⟩ : ∃ g, g = vw.heap.size := ⟨_, rfl⟩
      rw [← eg] at L3 ⊢
      clear eg hb
      generalize (vw.alloc (.cells #[.int .i64 0, .int .i64 3, .int .i64 32] 2)) = vn at *
      clear hvl hlo
      refine hK.out _ _ ?_ ?_
      · (try dsimp only); exact ⟨D.E.c0, D.E.c1, D.E.c2, D.E.c3⟩
      clear hHeld hK K
      intro hHeld
      try simp only [Act.put, List.setIfInBounds_toArray, List.set_cons_zero, List.set_cons_succ]
      clear vw
      revert hHeld
      revert L3
      revert L2
      revert D
      revert g3
      revert g2
      revert vn
      exact key0_23.out
  · skip
    intro vw g1 D L1 hHeld
    have hvl := D.V.lo
    have hlo := D.lo
    refine wpAnyH_ready (rs := [2, 16, 19]) (by kernel_rfl) (by simp) ?_
    refine (AllReadyH.cons (o := ⟨_, _, _, _, _, _⟩) rfl (fun K hK => ?_) (AllReadyH.cons (o := ⟨_, _, _, _, _, _⟩) rfl (fun K hK => ?_) (AllReadyH.cons (o := ⟨_, _, _, _, _, _⟩) rfl (fun K hK => ?_) AllReadyH.nil)))
    · skip
      go_simp
      have hb : Below vw.heap.size vw (vw.alloc (.cells #[.int .i64 0, .int .i64 0, .int .i64 1, .int .i64 (-1)] 2)) := (Below.refl _ _).alloc (Nat.le_refl _) _
      have L0 : LI (w.heap.size + 1) vw.heap.size [0, 0, 1, -1] (vw.alloc (.cells #[.int .i64 0, .int .i64 0, .int .i64 1, .int .i64 (-1)] 2)) := ⟨hlo.2.1, new_ints rfl⟩
      replace D := D.below hb
      replace L1 := L1.below hb
      obtain ⟨g0, eg⟩ : ∃ g, g = vw.heap.size := ⟨_, rfl⟩
      rw [← eg] at L0 ⊢
      clear eg hb
      generalize (vw.alloc (.cells #[.int .i64 0, .int .i64 0, .int .i64 1, .int .i64 (-1)] 2)) = vn at *
      clear hvl hlo
      refine hK.out _ _ ?_ ?_
      · (try dsimp only); exact ⟨D.E.c0, D.E.c1, D.E.c2, D.E.c3⟩
      clear hHeld hK K
      intro hHeld
      try simp only [Act.put, List.setIfInBounds_toArray, List.set_cons_zero, List.set_cons_succ]
      clear vw
      revert hHeld
      revert L1
      revert L0
      revert D
      revert g1
      revert g0
      revert vn
      exact key0_01.out
    · skip
      go_simp
      have hb : Below vw.heap.size vw (vw.alloc (.cells #[.int .i64 1, .int .i64 2, .int .i64 (-1), .int .i64 (-2), .int .i64 0, .int .i64 9, .int .i64 10] 2)) := (Below.refl _ _).alloc (Nat.le_refl _) _
      have L2 : LI (w.heap.size + 1) vw.heap.size [1, 2, -1, -2, 0, 9, 10] (vw.alloc (.cells #[.int .i64 1, .int .i64 2, .int .i64 (-1), .int .i64 (-2), .int .i64 0, .int .i64 9, .int .i64 10] 2)) := ⟨hlo.2.1, new_ints rfl⟩
      replace D := D.below hb
      replace L1 := L1.below hb
      obtain ⟨g2, eg⟩ : ∃ g, g = vw.heap.size := ⟨_, rfl⟩
      rw [← eg] at L2 ⊢
      clear eg hb
      generalize (vw.alloc (.cells #[.int .i64 1, .int .i64 2, .int .i64 (-1), .int .i64 (-2), .int .i64 0, .int .i64 9, .int .i64 10] 2)) = vn at *
      clear hvl hlo
      refine hK.out _ _ ?_ ?_
      · (try dsimp only); exact ⟨D.E.c0, D.E.c1, D.E.c2, D.E.c3⟩
      clear hHeld hK K
      intro hHeld
      try simp only [Act.put, List.setIfInBounds_toArray, List.set_cons_zero, List.set_cons_succ]
      clear vw
      revert hHeld
      revert L2
      revert L1
      revert D
      revert g2
      revert g1
      revert vn
      exact key0_12.out
    · skip
      go_simp
      have hb : Below vw.heap.size vw (vw.alloc (.cells #[.int .i64 0, .int .i64 3, .int .i64 32] 2)) := (Below.refl _ _).alloc (Nat.le_refl _) _
      have L3 : LI (w.heap.size + 1) vw.heap.size [0, 3, 32] (vw.alloc (.cells #[.int .i64 0, .int .i64 3, .int .i64 32] 2)) := ⟨hlo.2.1, new_ints rfl⟩
      replace D := D.below hb
      replace L1 := L1.below hb
      obtain ⟨g3, eg⟩ : ∃ g, g = vw.heap.size := ⟨_, rfl⟩
      rw [← eg] at L3 ⊢
      clear eg hb
      generalize (vw.alloc (.cells #[.int .i64 0, .int .i64 3, .int .i64 32] 2)) = vn at *
      clear hvl hlo
      refine hK.out _ _ ?_ ?_
      · (try dsimp only); exact ⟨D.E.c0, D.E.c1, D.E.c2, D.E.c3⟩
      clear hHeld hK K
      intro hHeld
      try simp only [Act.put, List.setIfInBounds_toArray, List.set_cons_zero, List.set_cons_succ]
      clear vw
      revert hHeld
      revert L3
      revert L1
      revert D
      revert g3
      revert g1
      revert vn
      exact key0_13.out
  · skip
    intro vw g0 D L0 hHeld
    have hvl := D.V.lo
    have hlo := D.lo
    refine wpAnyH_ready (rs := [3, 13, 16, 19]) (by kernel_rfl) (by simp) ?_
    refine (AllReadyH.cons (o := ⟨_, _, _, _, _, _⟩) rfl (fun K hK => ?_) (AllReadyH.cons (o := ⟨_, _, _, _, _, _⟩) rfl (fun K hK => ?_) (AllReadyH.cons (o := ⟨_, _, _, _, _, _⟩) rfl (fun K hK => ?_) (AllReadyH.cons (o := ⟨_, _, _, _, _, _⟩) rfl (fun K hK => ?_) AllReadyH.nil))))
    · skip
      go_simp
      go_at_call 64
      refine (l1Pick_calls zs [0, 0, 1, -1] a cap (w.heap.size + 1) g0 4 4 (q) w vw hv HZ.out hlen D.V.src (by omega) (by omega) rfl (by omega) (by omega) (.inr L0.hB) L0.h).mono ?_
      rintro e vn ⟨y0, rfl, -, ss, xx⟩
      replace D := D.within ss xx
      clear ss xx L0 hvl hlo
      try go_wp2_with fail
      refine hK.out _ _ ?_ ?_
      · (try dsimp only); exact ⟨D.E.c0, D.E.c1, D.E.c2, D.E.c3⟩
      clear hHeld hK K
      intro hHeld
      try simp only [Act.put, List.setIfInBounds_toArray, List.set_cons_zero, List.set_cons_succ]
      clear vw
      revert hHeld
      revert D
      revert y0
      revert g0
      revert vn
      exact key1_0.out
    · skip
      go_simp
      have hb : Below vw.heap.size vw (vw.alloc (.cells #[.int .i64 z, .int .i64 z, .int .i64 1, .int .i64 r] 2)) := (Below.refl _ _).alloc (Nat.le_refl _) _
      have L1 : LI (w.heap.size + 1) vw.heap.size [z, z, 1, r] (vw.alloc (.cells #[.int .i64 z, .int .i64 z, .int .i64 1, .int .i64 r] 2)) := ⟨hlo.2.1, new_ints rfl⟩
      replace D := D.below hb
      replace L0 := L0.below hb
      obtain ⟨g1, eg⟩ : ∃ g, g = vw.heap.size := ⟨_, rfl⟩
      rw [← eg] at L1 ⊢
      clear eg hb
      generalize (vw.alloc (.cells #[.int .i64 z, .int .i64 z, .int .i64 1, .int .i64 r] 2)) = vn at *
      clear hvl hlo
      refine hK.out _ _ ?_ ?_
      · (try dsimp only); exact ⟨D.E.c0, D.E.c1, D.E.c2, D.E.c3⟩
      clear hHeld hK K
      intro hHeld
      try simp only [Act.put, List.setIfInBounds_toArray, List.set_cons_zero, List.set_cons_succ]
      clear vw
      revert hHeld
      revert L1
      revert L0
      revert D
      revert g1
      revert g0
      revert vn
      exact key0_01.out
    · skip
      go_simp
      have hb : Below vw.heap.size vw (vw.alloc (.cells #[.int .i64 1, .int .i64 2, .int .i64 (-1), .int .i64 (-2), .int .i64 0, .int .i64 9, .int .i64 10] 2)) := (Below.refl _ _).alloc (Nat.le_refl _) _
      have L2 : LI (w.heap.size + 1) vw.heap.size [1, 2, -1, -2, 0, 9, 10] (vw.alloc (.cells #[.int .i64 1, .int .i64 2, .int .i64 (-1), .int .i64 (-2), .int .i64 0, .int .i64 9, .int .i64 10] 2)) := ⟨hlo.2.1, new_ints rfl⟩
      replace D := D.below hb
      replace L0 := L0.below hb
      obtain ⟨g2, eg⟩ : ∃ g, g = vw.heap.size := ⟨_, rfl⟩
      rw [← eg] at L2 ⊢
      clear eg hb
      generalize (vw.alloc (.cells #[.int .i64 1, .int .i64 2, .int .i64 (-1), .int .i64 (-2), .int .i64 0, .int .i64 9, .int .i64 10] 2)) = vn at *
      clear hvl hlo
      refine hK.out _ _ ?_ ?_
      · (try dsimp only); exact ⟨D.E.c0, D.E.c1, D.E.c2, D.E.c3⟩
      clear hHeld hK K
      intro hHeld
      try simp only [Act.put, List.setIfInBounds_toArray, List.set_cons_zero, List.set_cons_succ]
      clear vw
      revert hHeld
      revert L2
      revert L0
      revert D
      revert g2
      revert g0
      revert vn
      exact key0_02.out
    · skip
      go_simp
      have hb : Below vw.heap.size vw (vw.alloc (.cells #[.int .i64 0, .int .i64 3, .int .i64 32] 2)) := (Below.refl _ _).alloc (Nat.le_refl _) _
      have L3 : LI (w.heap.size + 1) vw.heap.size [0, 3, 32] (vw.alloc (.cells #[.int .i64 0, .int .i64 3, .int .i64 32] 2)) := ⟨hlo.2.1, new_ints rfl⟩
      replace D := D.below hb
      replace L0 := L0.below hb
      obtain ⟨g3, eg⟩ : ∃ g, g = vw.heap.size := ⟨_, rfl⟩
      rw [← eg] at L3 ⊢
      clear eg hb
      generalize (vw.alloc (.cells #[.int .i64 0, .int .i64 3, .int .i64 32] 2)) = vn at *
      clear hvl hlo
      refine hK.out _ _ ?_ ?_
      · (try dsimp only); exact ⟨D.E.c0, D.E.c1, D.E.c2, D.E.c3⟩
      clear hHeld hK K
      intro hHeld
      try simp only [Act.put, List.setIfInBounds_toArray, List.set_cons_zero, List.set_cons_succ]
      clear vw
      revert hHeld
      revert L3
      revert L0
      revert D
      revert g3
      revert g0
      revert vn
      exact key0_03.out
  · skip
    intro vw g0 y0 D hHeld
    have hvl := D.V.lo
    have hlo := D.lo
    refine wpAnyH_ready (rs := [13, 16, 19]) (by kernel_rfl) (by simp) ?_
    refine (AllReadyH.cons (o := ⟨_, _, _, _, _, _⟩) rfl (fun K hK => ?_) (AllReadyH.cons (o := ⟨_, _, _, _, _, _⟩) rfl (fun K hK => ?_) (AllReadyH.cons (o := ⟨_, _, _, _, _, _⟩) rfl (fun K hK => ?_) AllReadyH.nil)))
    · skip
      go_simp
      have hb : Below vw.heap.size vw (vw.alloc (.cells #[.int .i64 z, .int .i64 z, .int .i64 1, .int .i64 r] 2)) := (Below.refl _ _).alloc (Nat.le_refl _) _
      have L1 : LI (w.heap.size + 1) vw.heap.size [z, z, 1, r] (vw.alloc (.cells #[.int .i64 z, .int .i64 z, .int .i64 1, .int .i64 r] 2)) := ⟨hlo.2.1, new_ints rfl⟩
      replace D := D.below hb
      obtain ⟨g1, eg⟩ : ∃ g, g = vw.heap.size := ⟨_, rfl⟩
      rw [← eg] at L1 ⊢
      clear eg hb
      generalize (vw.alloc (.cells #[.int .i64 z, .int .i64 z, .int .i64 1, .int .i64 r] 2)) = vn at *
      clear hvl hlo
      refine hK.out _ _ ?_ ?_
      · (try dsimp only); exact ⟨D.E.c0, D.E.c1, D.E.c2, D.E.c3⟩
      clear hHeld hK K
      intro hHeld
      try simp only [Act.put, List.setIfInBounds_toArray, List.set_cons_zero, List.set_cons_succ]
      clear vw
      revert hHeld
      revert L1
      revert D
      revert y0
      revert g1
      revert g0
      revert vn
      exact key1_01.out
    · skip
      go_simp
      have hb : Below vw.heap.size vw (vw.alloc (.cells #[.int .i64 1, .int .i64 2, .int .i64 (-1), .int .i64 (-2), .int .i64 0, .int .i64 9, .int .i64 10] 2)) := (Below.refl _ _).alloc (Nat.le_refl _) _
      have L2 : LI (w.heap.size + 1) vw.heap.size [1, 2, -1, -2, 0, 9, 10] (vw.alloc (.cells #[.int .i64 1, .int .i64 2, .int .i64 (-1), .int .i64 (-2), .int .i64 0, .int .i64 9, .int .i64 10] 2)) := ⟨hlo.2.1, new_ints rfl⟩
      replace D := D.below hb
      obtain ⟨g2, eg⟩ : ∃ g, g = vw.heap.size := ⟨_, rfl⟩
      rw [← eg] at L2 ⊢
      clear eg hb
      generalize (vw.alloc (.cells #[.int .i64 1, .int .i64 2, .int .i64 (-1), .int .i64 (-2), .int .i64 0, .int .i64 9, .int .i64 10] 2)) = vn at *
      clear hvl hlo
      refine hK.out _ _ ?_ ?_
      · (try dsimp only); exact ⟨D.E.c0, D.E.c1, D.E.c2, D.E.c3⟩
      clear hHeld hK K
      intro hHeld
      try simp only [Act.put, List.setIfInBounds_toArray, List.set_cons_zero, List.set_cons_succ]
      clear vw
      revert hHeld
      revert L2
      revert D
      revert y0
      revert g2
      revert g0
      revert vn
      exact key1_02.out
    · skip
      go_simp
      have hb : Below vw.heap.size vw (vw.alloc (.cells #[.int .i64 0, .int .i64 3, .int .i64 32] 2)) := (Below.refl _ _).alloc (Nat.le_refl _) _
      have L3 : LI (w.heap.size + 1) vw.heap.size [0, 3, 32] (vw.alloc (.cells #[.int .i64 0, .int .i64 3, .int .i64 32] 2)) := ⟨hlo.2.1, new_ints rfl⟩
      replace D := D.below hb
      obtain ⟨g3, eg⟩ : ∃ g, g = vw.heap.size := ⟨_, rfl⟩
      rw [← eg] at L3 ⊢
      clear eg hb
      generalize (vw.alloc (.cells #[.int .i64 0, .int .i64 3, .int .i64 32] 2)) = vn at *
      clear hvl hlo
      refine hK.out _ _ ?_ ?_
      · (try dsimp only); exact ⟨D.E.c0, D.E.c1, D.E.c2, D.E.c3⟩
      clear hHeld hK K
      intro hHeld
      try simp only [Act.put, List.setIfInBounds_toArray, List.set_cons_zero, List.set_cons_succ]
      clear vw
      revert hHeld
      revert L3
      revert D
      revert y0
      revert g3
      revert g0
      revert vn
      exact key1_03.out
  · skip
    intro vw g2 g3 D L2 L3 hHeld
    have hvl := D.V.lo
    have hlo := D.lo
    refine wpAnyH_ready (rs := [2, 13]) (by kernel_rfl) (by simp) ?_
    refine (AllReadyH.cons (o := ⟨_, _, _, _, _, _⟩) rfl (fun K hK => ?_) (AllReadyH.cons (o := ⟨_, _, _, _, _, _⟩) rfl (fun K hK => ?_) AllReadyH.nil))
    · skip
      go_simp
      have hb : Below vw.heap.size vw (vw.alloc (.cells #[.int .i64 0, .int .i64 0, .int .i64 1, .int .i64 (-1)] 2)) := (Below.refl _ _).alloc (Nat.le_refl _) _
      have L0 : LI (w.heap.size + 1) vw.heap.size [0, 0, 1, -1] (vw.alloc (.cells #[.int .i64 0, .int .i64 0, .int .i64 1, .int .i64 (-1)] 2)) := ⟨hlo.2.1, new_ints rfl⟩
      replace D := D.below hb
      replace L2 := L2.below hb
      replace L3 := L3.below hb
      obtain ⟨g0, eg⟩ : ∃ g, g = vw.heap.size := ⟨_, rfl⟩
      rw [← eg] at L0 ⊢
      clear eg hb
      generalize (vw.alloc (.cells #[.int .i64 0, .int .i64 0, .int .i64 1, .int .i64 (-1)] 2)) = vn at *
      clear hvl hlo
      refine hK.out _ _ ?_ ?_
      · (try dsimp only); exact ⟨D.E.c0, D.E.c1, D.E.c2, D.E.c3⟩
      clear hHeld hK K
      intro hHeld
      try simp only [Act.put, List.setIfInBounds_toArray, List.set_cons_zero, List.set_cons_succ]
      clear vw
      revert hHeld
      revert L3
      revert L2
      revert L0
      revert D
      revert g3
      revert g2
      revert g0
      revert vn
      exact key0_023.out
    · skip
      go_simp
      have hb : Below vw.heap.size vw (vw.alloc (.cells #[.int .i64 z, .int .i64 z, .int .i64 1, .int .i64 r] 2)) := (Below.refl _ _).alloc (Nat.le_refl _) _
      have L1 : LI (w.heap.size + 1) vw.heap.size [z, z, 1, r] (vw.alloc (.cells #[.int .i64 z, .int .i64 z, .int .i64 1, .int .i64 r] 2)) := ⟨hlo.2.1, new_ints rfl⟩
      replace D := D.below hb
      replace L2 := L2.below hb
      replace L3 := L3.below hb
      obtain ⟨g1, eg⟩ : ∃ g, g = vw.heap.size := ⟨_, rfl⟩
      rw [← eg] at L1 ⊢
      clear eg hb
      generalize (vw.alloc (.cells #[.int .i64 z, .int .i64 z, .int .i64 1, .int .i64 r] 2)) = vn at *
      clear hvl hlo
      refine hK.out _ _ ?_ ?_
      · (try dsimp only); exact ⟨D.E.c0, D.E.c1, D.E.c2, D.E.c3⟩
      clear hHeld hK K
      intro hHeld
      try simp only [Act.put, List.setIfInBounds_toArray, List.set_cons_zero, List.set_cons_succ]
      clear vw
      revert hHeld
      revert L3
      revert L2
      revert L1
      revert D
      revert g3
      revert g2
      revert g1
      revert vn
      exact key0_123.out
  · skip
    intro vw g1 g3 D L1 L3 hHeld
    have hvl := D.V.lo
    have hlo := D.lo
    refine wpAnyH_ready (rs := [2, 16]) (by kernel_rfl) (by simp) ?_
    refine (AllReadyH.cons (o := ⟨_, _, _, _, _, _⟩) rfl (fun K hK => ?_) (AllReadyH.cons (o := ⟨_, _, _, _, _, _⟩) rfl (fun K hK => ?_) AllReadyH.nil))
    · skip
      go_simp
      have hb : Below vw.heap.size vw (vw.alloc (.cells #[.int .i64 0, .int .i64 0, .int .i64 1, .int .i64 (-1)] 2)) := (Below.refl _ _).alloc (Nat.le_refl _) _
      have L0 : LI (w.heap.size + 1) vw.heap.size [0, 0, 1, -1] (vw.alloc (.cells #[.int .i64 0, .int .i64 0, .int .i64 1, .int .i64 (-1)] 2)) := ⟨hlo.2.1, new_ints rfl⟩
      replace D := D.below hb
      replace L1 := L1.below hb
      replace L3 := L3.below hb
      obtain ⟨g0, eg⟩ : ∃ g, g = vw.heap.size := ⟨_, rfl⟩
      rw [← eg] at L0 ⊢
      clear eg hb
      generalize (vw.alloc (.cells #[.int .i64 0, .int .i64 0, .int .i64 1, .int .i64 (-1)] 2)) = vn at *
      clear hvl hlo
      refine hK.out _ _ ?_ ?_
      · (try dsimp only); exact ⟨D.E.c0, D.E.c1, D.E.c2, D.E.c3⟩
      clear hHeld hK K
      intro hHeld
      try simp only [Act.put, List.setIfInBounds_toArray, List.set_cons_zero, List.set_cons_succ]
      clear vw
      revert hHeld
      revert L3
      revert L1
      revert L0
      revert D
      revert g3
      revert g1
      revert g0
      revert vn
      exact key0_013.out
    · skip
      go_simp
      have hb : Below vw.heap.size vw (vw.alloc (.cells #[.int .i64 1, .int .i64 2, .int .i64 (-1), .int .i64 (-2), .int .i64 0, .int .i64 9, .int .i64 10] 2)) := (Below.refl _ _).alloc (Nat.le_refl _) _
      have L2 : LI (w.heap.size + 1) vw.heap.size [1, 2, -1, -2, 0, 9, 10] (vw.alloc (.cells #[.int .i64 1, .int .i64 2, .int .i64 (-1), .int .i64 (-2), .int .i64 0, .int .i64 9, .int .i64 10] 2)) := ⟨hlo.2.1, new_ints rfl⟩
      replace D := D.below hb
      replace L1 := L1.below hb
      replace L3 := L3.below hb
      obtain ⟨g2, eg⟩ : ∃ g, g = vw.heap.size := ⟨_, rfl⟩
      rw [← eg] at L2 ⊢
      clear eg hb
      generalize (vw.alloc (.cells #[.int .i64 1, .int .i64 2, .int .i64 (-1), .int .i64 (-2), .int .i64 0, .int .i64 9, .int .i64 10] 2)) = vn at *
      clear hvl hlo
      refine hK.out _ _ ?_ ?_
      · (try dsimp only); exact ⟨D.E.c0, D.E.c1, D.E.c2, D.E.c3⟩
      clear hHeld hK K
      intro hHeld
      try simp only [Act.put, List.setIfInBounds_toArray, List.set_cons_zero, List.set_cons_succ]
      clear vw
      revert hHeld
      revert L3
      revert L2
      revert L1
      revert D
      revert g3
      revert g2
      revert g1
      revert vn
      exact key0_123.out
  · skip
    intro vw g1 g2 D L1 L2 hHeld
    have hvl := D.V.lo
    have hlo := D.lo
    refine wpAnyH_ready (rs := [2, 19]) (by kernel_rfl) (by simp) ?_
    refine (AllReadyH.cons (o := ⟨_, _, _, _, _, _⟩) rfl (fun K hK => ?_) (AllReadyH.cons (o := ⟨_, _, _, _, _, _⟩) rfl (fun K hK => ?_) AllReadyH.nil))
    · skip
      go_simp
      have hb : Below vw.heap.size vw (vw.alloc (.cells #[.int .i64 0, .int .i64 0, .int .i64 1, .int .i64 (-1)] 2)) := (Below.refl _ _).alloc (Nat.le_refl _) _
      have L0 : LI (w.heap.size + 1) vw.heap.size [0, 0, 1, -1] (vw.alloc (.cells #[.int .i64 0, .int .i64 0, .int .i64 1, .int .i64 (-1)] 2)) := ⟨hlo.2.1, new_ints rfl⟩
      replace D := D.below hb
      replace L1 := L1.below hb
      replace L2 := L2.below hb
      obtain ⟨g0, eg⟩ : ∃ g, g = vw.heap.size := ⟨_, rfl⟩
      rw [← eg] at L0 ⊢
      clear eg hb
      generalize (vw.alloc (.cells #[.int .i64 0, .int .i64 0, .int .i64 1, .int .i64 (-1)] 2)) = vn at *
      clear hvl hlo
      refine hK.out _ _ ?_ ?_
      · (try dsimp only); exact ⟨D.E.c0, D.E.c1, D.E.c2, D.E.c3⟩
      clear hHeld hK K
      intro hHeld
      try simp only [Act.put, List.setIfInBounds_toArray, List.set_cons_zero, List.set_cons_succ]
      clear vw
      revert hHeld
      revert L2
      revert L1
      revert L0
      revert D
      revert g2
      revert g1
      revert g0
      revert vn
      exact key0_012.out
    · skip
      go_simp
      have hb : Below vw.heap.size vw (vw.alloc (.cells #[.int .i64 0, .int .i64 3, .int .i64 32] 2)) := (Below.refl _ _).alloc (Nat.le_refl _) _
      have L3 : LI (w.heap.size + 1) vw.heap.size [0, 3, 32] (vw.alloc (.cells #[.int .i64 0, .int .i64 3, .int .i64 32] 2)) := ⟨hlo.2.1, new_ints rfl⟩
      replace D := D.below hb
      replace L1 := L1.below hb
      replace L2 := L2.below hb
      obtain ⟨g3, eg⟩ : ∃ g, g = vw.heap.size := ⟨_, rfl⟩
      rw [← eg] at L3 ⊢
      clear eg hb
      generalize (vw.alloc (.cells #[.int .i64 0, .int .i64 3, .int .i64 32] 2)) = vn at *
      clear hvl hlo
      refine hK.out _ _ ?_ ?_
      · (try dsimp only); exact ⟨D.E.c0, D.E.c1, D.E.c2, D.E.c3⟩
      clear hHeld hK K
      intro hHeld
      try simp only [Act.put, List.setIfInBounds_toArray, List.set_cons_zero, List.set_cons_succ]
      clear vw
      revert hHeld
      revert L3
      revert L2
      revert L1
      revert D
      revert g3
      revert g2
      revert g1
      revert vn
      exact key0_123.out
  · skip
    intro vw g0 g3 D L0 L3 hHeld
    have hvl := D.V.lo
    have hlo := D.lo
    refine wpAnyH_ready (rs := [3, 13, 16]) (by kernel_rfl) (by simp) ?_
    refine (AllReadyH.cons (o := ⟨_, _, _, _, _, _⟩) rfl (fun K hK => ?_) (AllReadyH.cons (o := ⟨_, _, _, _, _, _⟩) rfl (fun K hK => ?_) (AllReadyH.cons (o := ⟨_, _, _, _, _, _⟩) rfl (fun K hK => ?_) AllReadyH.nil)))
    · skip
      go_simp
      go_at_call 64
      refine (l1Pick_calls zs [0, 0, 1, -1] a cap (w.heap.size + 1) g0 4 4 (q) w vw hv HZ.out hlen D.V.src (by omega) (by omega) rfl (by omega) (by omega) (.inr L0.hB) L0.h).mono ?_
      rintro e vn ⟨y0, rfl, -, ss, xx⟩
      replace D := D.within ss xx
      replace L3 := L3.within xx
      clear ss xx L0 hvl hlo
      try go_wp2_with fail
      refine hK.out _ _ ?_ ?_
      · (try dsimp only); exact ⟨D.E.c0, D.E.c1, D.E.c2, D.E.c3⟩
      clear hHeld hK K
      intro hHeld
      try simp only [Act.put, List.setIfInBounds_toArray, List.set_cons_zero, List.set_cons_succ]
      clear vw
      revert hHeld
      revert L3
      revert D
      revert y0
      revert g3
      revert g0
      revert vn
      exact key1_03.out
    · skip
      go_simp
      have hb : Below vw.heap.size vw (vw.alloc (.cells #[.int .i64 z, .int .i64 z, .int .i64 1, .int .i64 r] 2)) := (Below.refl _ _).alloc (Nat.le_refl _) _
      have L1 : LI (w.heap.size + 1) vw.heap.size [z, z, 1, r] (vw.alloc (.cells #[.int .i64 z, .int .i64 z, .int .i64 1, .int .i64 r] 2)) := ⟨hlo.2.1, new_ints rfl⟩
      replace D := D.below hb
      replace L0 := L0.below hb
      replace L3 := L3.below hb
      obtain ⟨g1, eg⟩ : ∃ g, g = vw.heap.size := ⟨_, rfl⟩
      rw [← eg] at L1 ⊢
      clear eg hb
      generalize (vw.alloc (.cells #[.int .i64 z, .int .i64 z, .int .i64 1, .int .i64 r] 2)) = vn at *
      clear hvl hlo
      refine hK.out _ _ ?_ ?_
      · (try dsimp only); exact ⟨D.E.c0, D.E.c1, D.E.c2, D.E.c3⟩
      clear hHeld hK K
      intro hHeld
      try simp only [Act.put, List.setIfInBounds_toArray, List.set_cons_zero, List.set_cons_succ]
      clear vw
      revert hHeld
      revert L3
      revert L1
      revert L0
      revert D
      revert g3
      revert g1
      revert g0
      revert vn
      exact key0_013.out
    · skip
      go_simp
      have hb : Below vw.heap.size vw (vw.alloc (.cells #[.int .i64 1, .int .i64 2, .int .i64 (-1), .int .i64 (-2), .int .i64 0, .int .i64 9, .int .i64 10] 2)) := (Below.refl _ _).alloc (Nat.le_refl _) _
      have L2 : LI (w.heap.size + 1) vw.heap.size [1, 2, -1, -2, 0, 9, 10] (vw.alloc (.cells #[.int .i64 1, .int .i64 2, .int .i64 (-1), .int .i64 (-2), .int .i64 0, .int .i64 9, .int .i64 10] 2)) := ⟨hlo.2.1, new_ints rfl⟩
      replace D := D.below hb
      replace L0 := L0.below hb
      replace L3 := L3.below hb
      obtain ⟨g2, eg⟩ : ∃ g, g = vw.heap.size := ⟨_, rfl⟩
      rw [← eg] at L2 ⊢
      clear eg hb
      generalize (vw.alloc (.cells #[.int .i64 1, .int .i64 2, .int .i64 (-1), .int .i64 (-2), .int .i64 0, .int .i64 9, .int .i64 10] 2)) = vn at *
      clear hvl hlo
      refine hK.out _ _ ?_ ?_
      · (try dsimp only); exact ⟨D.E.c0, D.E.c1, D.E.c2, D.E.c3⟩
      clear hHeld hK K
      intro hHeld
      try simp only [Act.put, List.setIfInBounds_toArray, List.set_cons_zero, List.set_cons_succ]
      clear vw
      revert hHeld
      revert L3
      revert L2
      revert L0
      revert D
      revert g3
      revert g2
      revert g0
      revert vn
      exact key0_023.out
  · skip
    intro vw g0 g2 D L0 L2 hHeld
    have hvl := D.V.lo
    have hlo := D.lo
    refine wpAnyH_ready (rs := [3, 13, 19]) (by kernel_rfl) (by simp) ?_
    refine (AllReadyH.cons (o := ⟨_, _, _, _, _, _⟩) rfl (fun K hK => ?_) (AllReadyH.cons (o := ⟨_, _, _, _, _, _⟩) rfl (fun K hK => ?_) (AllReadyH.cons (o := ⟨_, _, _, _, _, _⟩) rfl (fun K hK => ?_) AllReadyH.nil)))
    · skip
      go_simp
      go_at_call 64
      refine (l1Pick_calls zs [0, 0, 1, -1] a cap (w.heap.size + 1) g0 4 4 (q) w vw hv HZ.out hlen D.V.src (by omega) (by omega) rfl (by omega) (by omega) (.inr L0.hB) L0.h).mono ?_
      rintro e vn ⟨y0, rfl, -, ss, xx⟩
      replace D := D.within ss xx
      replace L2 := L2.within xx
      clear ss xx L0 hvl hlo
      try go_wp2_with fail
      refine hK.out _ _ ?_ ?_
      · (try dsimp only); exact ⟨D.E.c0, D.E.c1, D.E.c2, D.E.c3⟩
      clear hHeld hK K
      intro hHeld
      try simp only [Act.put, List.setIfInBounds_toArray, List.set_cons_zero, List.set_cons_succ]
      clear vw
      revert hHeld
      revert L2
      revert D
      revert y0
      revert g2
      revert g0
      revert vn
      exact key1_02.out
    · skip
      go_simp
      have hb : Below vw.heap.size vw (vw.alloc (.cells #[.int .i64 z, .int .i64 z, .int .i64 1, .int .i64 r] 2)) := (Below.refl _ _).alloc (Nat.le_refl _) _
      have L1 : LI (w.heap.size + 1) vw.heap.size [z, z, 1, r] (vw.alloc (.cells #[.int .i64 z, .int .i64 z, .int .i64 1, .int .i64 r] 2)) := ⟨hlo.2.1, new_ints rfl⟩
      replace D := D.below hb
      replace L0 := L0.below hb
      replace L2 := L2.below hb
      obtain ⟨g1, eg⟩ : ∃ g, g = vw.heap.size := ⟨_, rfl⟩
      rw [← eg] at L1 ⊢
      clear eg hb
      generalize (vw.alloc (.cells #[.int .i64 z, .int .i64 z, .int .i64 1, .int .i64 r] 2)) = vn at *
      clear hvl hlo
      refine hK.out _ _ ?_ ?_
      · (try dsimp only); exact ⟨D.E.c0, D.E.c1, D.E.c2, D.E.c3⟩
      clear hHeld hK K
      intro hHeld
      try simp only [Act.put, List.setIfInBounds_toArray, List.set_cons_zero, List.set_cons_succ]
      clear vw
      revert hHeld
      revert L2
      revert L1
      revert L0
      revert D
      revert g2
      revert g1
      revert g0
      revert vn
      exact key0_012.out
    · skip
      go_simp
      have hb : Below vw.heap.size vw (vw.alloc (.cells #[.int .i64 0, .int .i64 3, .int .i64 32] 2)) := (Below.refl _ _).alloc (Nat.le_refl _) _
      have L3 : LI (w.heap.size + 1) vw.heap.size [0, 3, 32] (vw.alloc (.cells #[.int .i64 0, .int .i64 3, .int .i64 32] 2)) := ⟨hlo.2.1, new_ints rfl⟩
      replace D := D.below hb
      replace L0 := L0.below hb
      replace L2 := L2.below hb
      obtain ⟨g3, eg⟩ : ∃ g, g = vw.heap.size := ⟨_, rfl⟩
      rw [← eg] at L3 ⊢
      clear eg hb
      generalize (vw.alloc (.cells #[.int .i64 0, .int .i64 3, .int .i64 32] 2)) = vn at *
      clear hvl hlo
      refine hK.out _ _ ?_ ?_
      · (try dsimp only); exact ⟨D.E.c0, D.E.c1, D.E.c2, D.E.c3⟩
      clear hHeld hK K
      intro hHeld
      try simp only [Act.put, List.setIfInBounds_toArray, List.set_cons_zero, List.set_cons_succ]
      clear vw
      revert hHeld
      revert L3
      revert L2
      revert L0
      revert D
      revert g3
      revert g2
      revert g0
      revert vn
      exact key0_023.out
  · skip
    intro vw g0 g1 D L0 L1 hHeld
    have hvl := D.V.lo
    have hlo := D.lo
    refine wpAnyH_ready (rs := [3, 16, 19]) (by kernel_rfl) (by simp) ?_
    refine (AllReadyH.cons (o := ⟨_, _, _, _, _, _⟩) rfl (fun K hK => ?_) (AllReadyH.cons (o := ⟨_, _, _, _, _, _⟩) rfl (fun K hK => ?_) (AllReadyH.cons (o := ⟨_, _, _, _, _, _⟩) rfl (fun K hK => ?_) AllReadyH.nil)))
    · skip
      go_simp
      go_at_call 64
      refine (l1Pick_calls zs [0, 0, 1, -1] a cap (w.heap.size + 1) g0 4 4 (q) w vw hv HZ.out hlen D.V.src (by omega) (by omega) rfl (by omega) (by omega) (.inr L0.hB) L0.h).mono ?_
      rintro e vn ⟨y0, rfl, -, ss, xx⟩
      replace D := D.within ss xx
      replace L1 := L1.within xx
      clear ss xx L0 hvl hlo
      try go_wp2_with fail
      refine hK.out _ _ ?_ ?_
      · (try dsimp only); exact ⟨D.E.c0, D.E.c1, D.E.c2, D.E.c3⟩
      clear hHeld hK K
      intro hHeld
      try simp only [Act.put, List.setIfInBounds_toArray, List.set_cons_zero, List.set_cons_succ]
      clear vw
      revert hHeld
      revert L1
      revert D
      revert y0
      revert g1
      revert g0
      revert vn
      exact key1_01.out
    · skip
      go_simp
      have hb : Below vw.heap.size vw (vw.alloc (.cells #[.int .i64 1, .int .i64 2, .int .i64 (-1), .int .i64 (-2), .int .i64 0, .int .i64 9, .int .i64 10] 2)) := (Below.refl _ _).alloc (Nat.le_refl _) _
      have L2 : LI (w.heap.size + 1) vw.heap.size [1, 2, -1, -2, 0, 9, 10] (vw.alloc (.cells #[.int .i64 1, .int .i64 2, .int .i64 (-1), .int .i64 (-2), .int .i64 0, .int .i64 9, .int .i64 10] 2)) := ⟨hlo.2.1, new_ints rfl⟩
      replace D := D.below hb
      replace L0 := L0.below hb
      replace L1 := L1.below hb
      obtain ⟨g2, eg⟩ : ∃ g, g = vw.heap.size := ⟨_, rfl⟩
      rw [← eg] at L2 ⊢
      clear eg hb
      generalize (vw.alloc (.cells #[.int .i64 1, .int .i64 2, .int .i64 (-1), .int .i64 (-2), .int .i64 0, .int .i64 9, .int .i64 10] 2)) = vn at *
      clear hvl hlo
      refine hK.out _ _ ?_ ?_
      · (try dsimp only); exact ⟨D.E.c0, D.E.c1, D.E.c2, D.E.c3⟩
      clear hHeld hK K
      intro hHeld
      try simp only [Act.put, List.setIfInBounds_toArray, List.set_cons_zero, List.set_cons_succ]
      clear vw
      revert hHeld
      revert L2
      revert L1
      revert L0
      revert D
      revert g2
      revert g1
      revert g0
      revert vn
      exact key0_012.out
    · skip
      go_simp
      have hb : Below vw.heap.size vw (vw.alloc (.cells #[.int .i64 0, .int .i64 3, .int .i64 32] 2)) := (Below.refl _ _).alloc (Nat.le_refl _) _
      have L3 : LI (w.heap.size + 1) vw.heap.size [0, 3, 32] (vw.alloc (.cells #[.int .i64 0, .int .i64 3, .int .i64 32] 2)) := ⟨hlo.2.1, new_ints rfl⟩
      replace D := D.below hb
      replace L0 := L0.below hb
      replace L1 := L1.below hb
      obtain ⟨g3, eg⟩ : ∃ g, g = vw.heap.size := ⟨_, rfl⟩
      rw [← eg] at L3 ⊢
      clear eg hb
      generalize (vw.alloc (.cells #[.int .i64 0, .int .i64 3, .int .i64 32] 2)) = vn at *
      clear hvl hlo
      refine hK.out _ _ ?_ ?_
      · (try dsimp only); exact ⟨D.E.c0, D.E.c1, D.E.c2, D.E.c3⟩
      clear hHeld hK K
      intro hHeld
      try simp only [Act.put, List.setIfInBounds_toArray, List.set_cons_zero, List.set_cons_succ]
      clear vw
      revert hHeld
      revert L3
      revert L1
      revert L0
      revert D
      revert g3
      revert g1
      revert g0
      revert vn
      exact key0_013.out
  · skip
    intro vw g0 g3 y0 D L3 hHeld
    have hvl := D.V.lo
    have hlo := D.lo
    refine wpAnyH_ready (rs := [13, 16]) (by kernel_rfl) (by simp) ?_
    refine (AllReadyH.cons (o := ⟨_, _, _, _, _, _⟩) rfl (fun K hK => ?_) (AllReadyH.cons (o := ⟨_, _, _, _, _, _⟩) rfl (fun K hK => ?_) AllReadyH.nil))
    · skip
      go_simp
      have hb : Below vw.heap.size vw (vw.alloc (.cells #[.int .i64 z, .int .i64 z, .int .i64 1, .int .i64 r] 2)) := (Below.refl _ _).alloc (Nat.le_refl _) _
      have L1 : LI (w.heap.size + 1) vw.heap.size [z, z, 1, r] (vw.alloc (.cells #[.int .i64 z, .int .i64 z, .int .i64 1, .int .i64 r] 2)) := ⟨hlo.2.1, new_ints rfl⟩
      replace D := D.below hb
      replace L3 := L3.below hb
      obtain ⟨g1, eg⟩ : ∃ g, g = vw.heap.size := ⟨_, rfl⟩
      rw [← eg] at L1 ⊢
      clear eg hb
      generalize (vw.alloc (.cells #[.int .i64 z, .int .i64 z, .int .i64 1, .int .i64 r] 2)) = vn at *
      clear hvl hlo
      refine hK.out _ _ ?_ ?_
      · (try dsimp only); exact ⟨D.E.c0, D.E.c1, D.E.c2, D.E.c3⟩
      clear hHeld hK K
      intro hHeld
      try simp only [Act.put, List.setIfInBounds_toArray, List.set_cons_zero, List.set_cons_succ]
      clear vw
      revert hHeld
      revert L3
      revert L1
      revert D
      revert y0
      revert g3
      revert g1
      revert g0
      revert vn
      exact key1_013.out
    · skip
      go_simp
      have hb : Below vw.heap.size vw (vw.alloc (.cells #[.int .i64 1, .int .i64 2, .int .i64 (-1), .int .i64 (-2), .int .i64 0, .int .i64 9, .int .i64 10] 2)) := (Below.refl _ _).alloc (Nat.le_refl _) _
      have L2 : LI (w.heap.size + 1) vw.heap.size [1, 2, -1, -2, 0, 9, 10] (vw.alloc (.cells #[.int .i64 1, .int .i64 2, .int .i64 (-1), .int .i64 (-2), .int .i64 0, .int .i64 9, .int .i64 10] 2)) := ⟨hlo.2.1, new_ints rfl⟩
      replace D := D.below hb
      replace L3 := L3.below hb
      obtain ⟨g2, eg⟩ : ∃ g, g = vw.heap.size := ⟨_, rfl⟩
      rw [← eg] at L2 ⊢
      clear eg hb
      generalize (vw.alloc (.cells #[.int .i64 1, .int .i64 2, .int .i64 (-1), .int .i64 (-2), .int .i64 0, .int .i64 9, .int .i64 10] 2)) = vn at *
      clear hvl hlo
      refine hK.out _ _ ?_ ?_
      · (try dsimp only); exact ⟨D.E.c0, D.E.c1, D.E.c2, D.E.c3⟩
      clear hHeld hK K
      intro hHeld
      try simp only [Act.put, List.setIfInBounds_toArray, List.set_cons_zero, List.set_cons_succ]
      clear vw
      revert hHeld
      revert L3
      revert L2
      revert D
      revert y0
      revert g3
      revert g2
      revert g0
      revert vn
      exact key1_023.out
  · skip
    intro vw g0 g2 y0 D L2 hHeld
    have hvl := D.V.lo
    have hlo := D.lo
    refine wpAnyH_ready (rs := [13, 19]) (by kernel_rfl) (by simp) ?_
    refine (AllReadyH.cons (o := ⟨_, _, _, _, _, _⟩) rfl (fun K hK => ?_) (AllReadyH.cons (o := ⟨_, _, _, _, _, _⟩) rfl (fun K hK => ?_) AllReadyH.nil))
    · skip
      go_simp
      have hb : Below vw.heap.size vw (vw.alloc (.cells #[.int .i64 z, .int .i64 z, .int .i64 1, .int .i64 r] 2)) := (Below.refl _ _).alloc (Nat.le_refl _) _
      have L1 : LI (w.heap.size + 1) vw.heap.size [z, z, 1, r] (vw.alloc (.cells #[.int .i64 z, .int .i64 z, .int .i64 1, .int .i64 r] 2)) := ⟨hlo.2.1, new_ints rfl⟩
      replace D := D.below hb
      replace L2 := L2.below hb
      obtain ⟨g1, eg⟩ : ∃ g, g = vw.heap.size := ⟨_, rfl⟩
      rw [← eg] at L1 ⊢
      clear eg hb
      generalize (vw.alloc (.cells #[.int .i64 z, .int .i64 z, .int .i64 1, .int .i64 r] 2)) = vn at *
      clear hvl hlo
      refine hK.out _ _ ?_ ?_
      · (try dsimp only); exact ⟨D.E.c0, D.E.c1, D.E.c2, D.E.c3⟩
      clear hHeld hK K
      intro hHeld
      try simp only [Act.put, List.setIfInBounds_toArray, List.set_cons_zero, List.set_cons_succ]
      clear vw
      revert hHeld
      revert L2
      revert L1
      revert D
      revert y0
      revert g2
      revert g1
      revert g0
      revert vn
      exact key1_012.out
    · skip
      go_simp
      have hb : Below vw.heap.size vw (vw.alloc (.cells #[.int .i64 0, .int .i64 3, .int .i64 32] 2)) := (Below.refl _ _).alloc (Nat.le_refl _) _
      have L3 : LI (w.heap.size + 1) vw.heap.size [0, 3, 32] (vw.alloc (.cells #[.int .i64 0, .int .i64 3, .int .i64 32] 2)) := ⟨hlo.2.1, new_ints rfl⟩
      replace D := D.below hb
      replace L2 := L2.below hb
      obtain ⟨g3, eg⟩ : ∃ g, g = vw.heap.size := ⟨_, rfl⟩
      rw [← eg] at L3 ⊢
      clear eg hb
      generalize (vw.alloc (.cells #[.int .i64 0, .int .i64 3, .int .i64 32] 2)) = vn at *
      clear hvl hlo
      refine hK.out _ _ ?_ ?_
      · (try dsimp only); exact ⟨D.E.c0, D.E.c1, D.E.c2, D.E.c3⟩
      clear hHeld hK K
      intro hHeld
      try simp only [Act.put, List.setIfInBounds_toArray, List.set_cons_zero, List.set_cons_succ]
      clear vw
      revert hHeld
      revert L3
      revert L2
      revert D
      revert y0
      revert g3
      revert g2
      revert g0
      revert vn
      exact key1_023.out
  · skip
    intro vw g0 g1 y0 D L1 hHeld
    have hvl := D.V.lo
    have hlo := D.lo
    refine wpAnyH_ready (rs := [14, 16, 19]) (by kernel_rfl) (by simp) ?_
    refine (AllReadyH.cons (o := ⟨_, _, _, _, _, _⟩) rfl (fun K hK => ?_) (AllReadyH.cons (o := ⟨_, _, _, _, _, _⟩) rfl (fun K hK => ?_) (AllReadyH.cons (o := ⟨_, _, _, _, _, _⟩) rfl (fun K hK => ?_) AllReadyH.nil)))
    · skip
      go_simp
      go_at_call 64
      refine (l1Pick_calls zs [z, z, 1, r] a cap (w.heap.size + 1) g1 4 4 (q + 1) w vw hv HZ.out hlen D.V.src (by omega) (by omega) rfl (by omega) (by omega) (.inr L1.hB) L1.h).mono ?_
      rintro e vn ⟨y1, rfl, -, ss, xx⟩
      replace D := D.within ss xx
      clear ss xx L1 hvl hlo
      try go_wp2_with fail
      refine hK.out _ _ ?_ ?_
      · (try dsimp only); exact ⟨D.E.c0, D.E.c1, D.E.c2, D.E.c3⟩
      clear hHeld hK K
      intro hHeld
      try simp only [Act.put, List.setIfInBounds_toArray, List.set_cons_zero, List.set_cons_succ]
      clear vw
      revert hHeld
      revert D
      revert y1
      revert y0
      revert g1
      revert g0
      revert vn
      exact key2_01.out
    · skip
      go_simp
      have hb : Below vw.heap.size vw (vw.alloc (.cells #[.int .i64 1, .int .i64 2, .int .i64 (-1), .int .i64 (-2), .int .i64 0, .int .i64 9, .int .i64 10] 2)) := (Below.refl _ _).alloc (Nat.le_refl _) _
      have L2 : LI (w.heap.size + 1) vw.heap.size [1, 2, -1, -2, 0, 9, 10] (vw.alloc (.cells #[.int .i64 1, .int .i64 2, .int .i64 (-1), .int .i64 (-2), .int .i64 0, .int .i64 9, .int .i64 10] 2)) := ⟨hlo.2.1, new_ints rfl⟩
      replace D := D.below hb
      replace L1 := L1.below hb
      obtain ⟨g2, eg⟩ : ∃ g, g = vw.heap.size := ⟨_, rfl⟩
      rw [← eg] at L2 ⊢
      clear eg hb
      generalize (vw.alloc (.cells #[.int .i64 1, .int .i64 2, .int .i64 (-1), .int .i64 (-2), .int .i64 0, .int .i64 9, .int .i64 10] 2)) = vn at *
      clear hvl hlo
      refine hK.out _ _ ?_ ?_
      · (try dsimp only); exact ⟨D.E.c0, D.E.c1, D.E.c2, D.E.c3⟩
      clear hHeld hK K
      intro hHeld
      try simp only [Act.put, List.setIfInBounds_toArray, List.set_cons_zero, List.set_cons_succ]
      clear vw
      revert hHeld
      revert L2
      revert L1
      revert D
      revert y0
      revert g2
      revert g1
      revert g0
      revert vn
      exact key1_012.out
    · skip
      go_simp
      have hb : Below vw.heap.size vw (vw.alloc (.cells #[.int .i64 0, .int .i64 3, .int .i64 32] 2)) := (Below.refl _ _).alloc (Nat.le_refl _) _
      have L3 : LI (w.heap.size + 1) vw.heap.size [0, 3, 32] (vw.alloc (.cells #[.int .i64 0, .int .i64 3, .int .i64 32] 2)) := ⟨hlo.2.1, new_ints rfl⟩
      replace D := D.below hb
      replace L1 := L1.below hb
      obtain ⟨g3, eg⟩ : ∃ g, g = vw.heap.size := ⟨_, rfl⟩
      rw [← eg] at L3 ⊢
      clear eg hb
      generalize (vw.alloc (.cells #[.int .i64 0, .int .i64 3, .int .i64 32] 2)) = vn at *
      clear hvl hlo
      refine hK.out _ _ ?_ ?_
      · (try dsimp only); exact ⟨D.E.c0, D.E.c1, D.E.c2, D.E.c3⟩
      clear hHeld hK K
      intro hHeld
      try simp only [Act.put, List.setIfInBounds_toArray, List.set_cons_zero, List.set_cons_succ]
      clear vw
      revert hHeld
      revert L3
      revert L1
      revert D
      revert y0
      revert g3
      revert g1
      revert g0
      revert vn
      exact key1_013.out
  · skip
    intro vw g1 g2 g3 D L1 L2 L3 hHeld
    have hvl := D.V.lo
    have hlo := D.lo
    refine wpAnyH_ready (rs := [2]) (by kernel_rfl) (by simp) ?_
    refine (AllReadyH.cons (o := ⟨_, _, _, _, _, _⟩) rfl (fun K hK => ?_) AllReadyH.nil)
    · skip
      go_simp
      have hb : Below vw.heap.size vw (vw.alloc (.cells #[.int .i64 0, .int .i64 0, .int .i64 1, .int .i64 (-1)] 2)) := (Below.refl _ _).alloc (Nat.le_refl _) _
      have L0 : LI (w.heap.size + 1) vw.heap.size [0, 0, 1, -1] (vw.alloc (.cells #[.int .i64 0, .int .i64 0, .int .i64 1, .int .i64 (-1)] 2)) := ⟨hlo.2.1, new_ints rfl⟩
      replace D := D.below hb
      replace L1 := L1.below hb
      replace L2 := L2.below hb
      replace L3 := L3.below hb
      obtain ⟨g0, eg⟩ : ∃ g, g = vw.heap.size := ⟨_, rfl⟩
      rw [← eg] at L0 ⊢
      clear eg hb
      generalize (vw.alloc (.cells #[.int .i64 0, .int .i64 0, .int .i64 1, .int .i64 (-1)] 2)) = vn at *
      clear hvl hlo
      refine hK.out _ _ ?_ ?_
      · (try dsimp only); exact ⟨D.E.c0, D.E.c1, D.E.c2, D.E.c3⟩
      clear hHeld hK K
      intro hHeld
      try simp only [Act.put, List.setIfInBounds_toArray, List.set_cons_zero, List.set_cons_succ]
      clear vw
      revert hHeld
      revert L3
      revert L2
      revert L1
      revert L0
      revert D
      revert g3
      revert g2
      revert g1
      revert g0
      revert vn
      exact key0_0123.out
  · skip
    intro vw g0 g2 g3 D L0 L2 L3 hHeld
    have hvl := D.V.lo
    have hlo := D.lo
    refine wpAnyH_ready (rs := [3, 13]) (by kernel_rfl) (by simp) ?_
    refine (AllReadyH.cons (o := ⟨_, _, _, _, _, _⟩) rfl (fun K hK => ?_) (AllReadyH.cons (o := ⟨_, _, _, _, _, _⟩) rfl (fun K hK => ?_) AllReadyH.nil))
    · skip
      go_simp
      go_at_call 64
      refine (l1Pick_calls zs [0, 0, 1, -1] a cap (w.heap.size + 1) g0 4 4 (q) w vw hv HZ.out hlen D.V.src (by omega) (by omega) rfl (by omega) (by omega) (.inr L0.hB) L0.h).mono ?_
      rintro e vn ⟨y0, rfl, -, ss, xx⟩
      replace D := D.within ss xx
      replace L2 := L2.within xx
      replace L3 := L3.within xx
      clear ss xx L0 hvl hlo
      try go_wp2_with fail
      refine hK.out _ _ ?_ ?_
      · (try dsimp only); exact ⟨D.E.c0, D.E.c1, D.E.c2, D.E.c3⟩
      clear hHeld hK K
      intro hHeld
      try simp only [Act.put, List.setIfInBounds_toArray, List.set_cons_zero, List.set_cons_succ]
      clear vw
      revert hHeld
      revert L3
      revert L2
      revert D
      revert y0
      revert g3
      revert g2
      revert g0
      revert vn
      exact key1_023.out
    · skip
      go_simp
      have hb : Below vw.heap.size vw (vw.alloc (.cells #[.int .i64 z, .int .i64 z, .int .i64 1, .int .i64 r] 2)) := (Below.refl _ _).alloc (Nat.le_refl _) _
      have L1 : LI (w.heap.size + 1) vw.heap.size [z, z, 1, r] (vw.alloc (.cells #[.int .i64 z, .int .i64 z, .int .i64 1, .int .i64 r] 2)) := ⟨hlo.2.1, new_ints rfl⟩
      replace D := D.below hb
      replace L0 := L0.below hb
      replace L2 := L2.below hb
      replace L3 := L3.below hb
      obtain ⟨g1, eg⟩ : ∃ g, g = vw.heap.size := ⟨_, rfl⟩
      rw [← eg] at L1 ⊢
      clear eg hb
      generalize (vw.alloc (.cells #[.int .i64 z, .int .i64 z, .int .i64 1, .int .i64 r] 2)) = vn at *
      clear hvl hlo
      refine hK.out _ _ ?_ ?_
      · (try dsimp only); exact ⟨D.E.c0, D.E.c1, D.E.c2, D.E.c3⟩
      clear hHeld hK K
      intro hHeld
      try simp only [Act.put, List.setIfInBounds_toArray, List.set_cons_zero, List.set_cons_succ]
      clear vw
      revert hHeld
      revert L3
      revert L2
      revert L1
      revert L0
      revert D
      revert g3
      revert g2
      revert g1
      revert g0
      revert vn
      exact key0_0123.out
  · skip
    intro vw g0 g1 g3 D L0 L1 L3 hHeld
    have hvl := D.V.lo
    have hlo := D.lo
    refine wpAnyH_ready (rs := [3, 16]) (by kernel_rfl) (by simp) ?_
    refine (AllReadyH.cons (o := ⟨_, _, _, _, _, _⟩) rfl (fun K hK => ?_) (AllReadyH.cons (o := ⟨_, _, _, _, _, _⟩) rfl (fun K hK => ?_) AllReadyH.nil))
    · skip
      go_simp
      go_at_call 64
      refine (l1Pick_calls zs [0, 0, 1, -1] a cap (w.heap.size + 1) g0 4 4 (q) w vw hv HZ.out hlen D.V.src (by omega) (by omega) rfl (by omega) (by omega) (.inr L0.hB) L0.h).mono ?_
      rintro e vn ⟨y0, rfl, -, ss, xx⟩
      replace D := D.within ss xx
      replace L1 := L1.within xx
      replace L3 := L3.within xx
      clear ss xx L0 hvl hlo
      try go_wp2_with fail
      refine hK.out _ _ ?_ ?_
      · (try dsimp only); exact ⟨D.E.c0, D.E.c1, D.E.c2, D.E.c3⟩
      clear hHeld hK K
      intro hHeld
      try simp only [Act.put, List.setIfInBounds_toArray, List.set_cons_zero, List.set_cons_succ]
      clear vw
      revert hHeld
      revert L3
      revert L1
      revert D
      revert y0
      revert g3
      revert g1
      revert g0
      revert vn
      exact key1_013.out
    · skip
      go_simp
      have hb : Below vw.heap.size vw (vw.alloc (.cells #[.int .i64 1, .int .i64 2, .int .i64 (-1), .int .i64 (-2), .int .i64 0, .int .i64 9, .int .i64 10] 2)) := (Below.refl _ _).alloc (Nat.le_refl _) _
      have L2 : LI (w.heap.size + 1) vw.heap.size [1, 2, -1, -2, 0, 9, 10] (vw.alloc (.cells #[.int .i64 1, .int .i64 2, .int .i64 (-1), .int .i64 (-2), .int .i64 0, .int .i64 9, .int .i64 10] 2)) := ⟨hlo.2.1, new_ints rfl⟩
      replace D := D.below hb
      replace L0 := L0.below hb
      replace L1 := L1.below hb
      replace L3 := L3.below hb
      obtain ⟨g2, eg⟩ : ∃ g, g = vw.heap.size := ⟨_, rfl⟩
      rw [← eg] at L2 ⊢
      clear eg hb
      generalize (vw.alloc (.cells #[.int .i64 1, .int .i64 2, .int .i64 (-1), .int .i64 (-2), .int .i64 0, .int .i64 9, .int .i64 10] 2)) = vn at *
      clear hvl hlo
      refine hK.out _ _ ?_ ?_
      · (try dsimp only); exact ⟨D.E.c0, D.E.c1, D.E.c2, D.E.c3⟩
      clear hHeld hK K
      intro hHeld
      try simp only [Act.put, List.setIfInBounds_toArray, List.set_cons_zero, List.set_cons_succ]
      clear vw
      revert hHeld
      revert L3
      revert L2
      revert L1
      revert L0
      revert D
      revert g3
      revert g2
      revert g1
      revert g0
      revert vn
      exact key0_0123.out
  · skip
    intro vw g0 g1 g2 D L0 L1 L2 hHeld
    have hvl := D.V.lo
    have hlo := D.lo
    refine wpAnyH_ready (rs := [3, 19]) (by kernel_rfl) (by simp) ?_
    refine (AllReadyH.cons (o := ⟨_, _, _, _, _, _⟩) rfl (fun K hK => ?_) (AllReadyH.cons (o := ⟨_, _, _, _, _, _⟩) rfl (fun K hK => ?_) AllReadyH.nil))
    · skip
      go_simp
      go_at_call 64
      refine (l1Pick_calls zs [0, 0, 1, -1] a cap (w.heap.size + 1) g0 4 4 (q) w vw hv HZ.out hlen D.V.src (by omega) (by omega) rfl (by omega) (by omega) (.inr L0.hB) L0.h).mono ?_
      rintro e vn ⟨y0, rfl, -, ss, xx⟩
      replace D := D.within ss xx
      replace L1 := L1.within xx
      replace L2 := L2.within xx
      clear ss xx L0 hvl hlo
      try go_wp2_with fail
      refine hK.out _ _ ?_ ?_
      · (try dsimp only); exact ⟨D.E.c0, D.E.c1, D.E.c2, D.E.c3⟩
      clear hHeld hK K
      intro hHeld
      try simp only [Act.put, List.setIfInBounds_toArray, List.set_cons_zero, List.set_cons_succ]
      clear vw
      revert hHeld
      revert L2
      revert L1
      revert D
      revert y0
      revert g2
      revert g1
      revert g0
      revert vn
      exact key1_012.out
    · skip
      go_simp
      have hb : Below vw.heap.size vw (vw.alloc (.cells #[.int .i64 0, .int .i64 3, .int .i64 32] 2)) := (Below.refl _ _).alloc (Nat.le_refl _) _
      have L3 : LI (w.heap.size + 1) vw.heap.size [0, 3, 32] (vw.alloc (.cells #[.int .i64 0, .int .i64 3, .int .i64 32] 2)) := ⟨hlo.2.1, new_ints rfl⟩
      replace D := D.below hb
      replace L0 := L0.below hb
      replace L1 := L1.below hb
      replace L2 := L2.below hb
      obtain ⟨g3, eg⟩ : ∃ g, g = vw.heap.size := ⟨_, rfl⟩
      rw [← eg] at L3 ⊢
      clear eg hb
      generalize (vw.alloc (.cells #[.int .i64 0, .int .i64 3, .int .i64 32] 2)) = vn at *
      clear hvl hlo
      refine hK.out _ _ ?_ ?_
      · (try dsimp only); exact ⟨D.E.c0, D.E.c1, D.E.c2, D.E.c3⟩
      clear hHeld hK K
      intro hHeld
      try simp only [Act.put, List.setIfInBounds_toArray, List.set_cons_zero, List.set_cons_succ]
      clear vw
      revert hHeld
      revert L3
      revert L2
      revert L1
      revert L0
      revert D
      revert g3
      revert g2
      revert g1
      revert g0
      revert vn
      exact key0_0123.out
  · skip
    intro vw g0 g1 y0 y1 D hHeld
    have hvl := D.V.lo
    have hlo := D.lo
    refine wpAnyH_ready (rs := [16, 19]) (by kernel_rfl) (by simp) ?_
    refine (AllReadyH.cons (o := ⟨_, _, _, _, _, _⟩) rfl (fun K hK => ?_) (AllReadyH.cons (o := ⟨_, _, _, _, _, _⟩) rfl (fun K hK => ?_) AllReadyH.nil))
    · skip
      go_simp
      have hb : Below vw.heap.size vw (vw.alloc (.cells #[.int .i64 1, .int .i64 2, .int .i64 (-1), .int .i64 (-2), .int .i64 0, .int .i64 9, .int .i64 10] 2)) := (Below.refl _ _).alloc (Nat.le_refl _) _
      have L2 : LI (w.heap.size + 1) vw.heap.size [1, 2, -1, -2, 0, 9, 10] (vw.alloc (.cells #[.int .i64 1, .int .i64 2, .int .i64 (-1), .int .i64 (-2), .int .i64 0, .int .i64 9, .int .i64 10] 2)) := ⟨hlo.2.1, new_ints rfl⟩
      replace D := D.below hb
      obtain ⟨g2, eg⟩ : ∃ g, g = vw.heap.size := ⟨_, rfl⟩
      rw [← eg] at L2 ⊢
      clear eg hb
      generalize (vw.alloc (.cells #[.int .i64 1, .int .i64 2, .int .i64 (-1), .int .i64 (-2), .int .i64 0, .int .i64 9, .int .i64 10] 2)) = vn at *
      clear hvl hlo
      refine hK.out _ _ ?_ ?_
      · (try dsimp only); exact ⟨D.E.c0, D.E.c1, D.E.c2, D.E.c3⟩
      clear hHeld hK K
      intro hHeld
      try simp only [Act.put, List.setIfInBounds_toArray, List.set_cons_zero, List.set_cons_succ]
      clear vw
      revert hHeld
      revert L2
      revert D
      revert y1
      revert y0
      revert g2
      revert g1
      revert g0
      revert vn
      exact key2_012.out
    · skip
      go_simp
      have hb : Below vw.heap.size vw (vw.alloc (.cells #[.int .i64 0, .int .i64 3, .int .i64 32] 2)) := (Below.refl _ _).alloc (Nat.le_refl _) _
      have L3 : LI (w.heap.size + 1) vw.heap.size [0, 3, 32] (vw.alloc (.cells #[.int .i64 0, .int .i64 3, .int .i64 32] 2)) := ⟨hlo.2.1, new_ints rfl⟩
      replace D := D.below hb
      obtain ⟨g3, eg⟩ : ∃ g, g = vw.heap.size := ⟨_, rfl⟩
      rw [← eg] at L3 ⊢
      clear eg hb
      generalize (vw.alloc (.cells #[.int .i64 0, .int .i64 3, .int .i64 32] 2)) = vn at *
      clear hvl hlo
      refine hK.out _ _ ?_ ?_
      · (try dsimp only); exact ⟨D.E.c0, D.E.c1, D.E.c2, D.E.c3⟩
      clear hHeld hK K
      intro hHeld
      try simp only [Act.put, List.setIfInBounds_toArray, List.set_cons_zero, List.set_cons_succ]
      clear vw
      revert hHeld
      revert L3
      revert D
      revert y1
      revert y0
      revert g3
      revert g1
      revert g0
      revert vn
      exact key2_013.out
  · skip
    intro vw g0 g2 g3 y0 D L2 L3 hHeld
    have hvl := D.V.lo
    have hlo := D.lo
    refine wpAnyH_ready (rs := [13]) (by kernel_rfl) (by simp) ?_
    refine (AllReadyH.cons (o := ⟨_, _, _, _, _, _⟩) rfl (fun K hK => ?_) AllReadyH.nil)
    · skip
      go_simp
      have hb : Below vw.heap.size vw (vw.alloc (.cells #[.int .i64 z, .int .i64 z, .int .i64 1, .int .i64 r] 2)) := (Below.refl _ _).alloc (Nat.le_refl _) _
      have L1 : LI (w.heap.size + 1) vw.heap.size [z, z, 1, r] (vw.alloc (.cells #[.int .i64 z, .int .i64 z, .int .i64 1, .int .i64 r] 2)) := ⟨hlo.2.1, new_ints rfl⟩
      replace D := D.below hb
      replace L2 := L2.below hb
      replace L3 := L3.below hb
      obtain ⟨g1, eg⟩ : ∃ g, g = vw.heap.size := ⟨_, rfl⟩
      rw [← eg] at L1 ⊢
      clear eg hb
      generalize (vw.alloc (.cells #[.int .i64 z, .int .i64 z, .int .i64 1, .int .i64 r] 2)) = vn at *
      clear hvl hlo
      refine hK.out _ _ ?_ ?_
      · (try dsimp only); exact ⟨D.E.c0, D.E.c1, D.E.c2, D.E.c3⟩
      clear hHeld hK K
      intro hHeld
      try simp only [Act.put, List.setIfInBounds_toArray, List.set_cons_zero, List.set_cons_succ]
      clear vw
      revert hHeld
      revert L3
      revert L2
      revert L1
      revert D
      revert y0
      revert g3
      revert g2
      revert g1
      revert g0
      revert vn
      exact key1_0123.out
  · skip
    intro vw g0 g1 g3 y0 D L1 L3 hHeld
    have hvl := D.V.lo
    have hlo := D.lo
    refine wpAnyH_ready (rs := [14, 16]) (by kernel_rfl) (by simp) ?_
    refine (AllReadyH.cons (o := ⟨_, _, _, _, _, _⟩) rfl (fun K hK => ?_) (AllReadyH.cons (o := ⟨_, _, _, _, _, _⟩) rfl (fun K hK => ?_) AllReadyH.nil))
    · skip
      go_simp
      go_at_call 64
      refine (l1Pick_calls zs [z, z, 1, r] a cap (w.heap.size + 1) g1 4 4 (q + 1) w vw hv HZ.out hlen D.V.src (by omega) (by omega) rfl (by omega) (by omega) (.inr L1.hB) L1.h).mono ?_
      rintro e vn ⟨y1, rfl, -, ss, xx⟩
      replace D := D.within ss xx
      replace L3 := L3.within xx
      clear ss xx L1 hvl hlo
      try go_wp2_with fail
      refine hK.out _ _ ?_ ?_
      · (try dsimp only); exact ⟨D.E.c0, D.E.c1, D.E.c2, D.E.c3⟩
      clear hHeld hK K
      intro hHeld
      try simp only [Act.put, List.setIfInBounds_toArray, List.set_cons_zero, List.set_cons_succ]
      clear vw
      revert hHeld
      revert L3
      revert D
      revert y1
      revert y0
      revert g3
      revert g1
      revert g0
      revert vn
      exact key2_013.out
    · skip
      go_simp
      have hb : Below vw.heap.size vw (vw.alloc (.cells #[.int .i64 1, .int .i64 2, .int .i64 (-1), .int .i64 (-2), .int .i64 0, .int .i64 9, .int .i64 10] 2)) := (Below.refl _ _).alloc (Nat.le_refl _) _
      have L2 : LI (w.heap.size + 1) vw.heap.size [1, 2, -1, -2, 0, 9, 10] (vw.alloc (.cells #[.int .i64 1, .int .i64 2, .int .i64 (-1), .int .i64 (-2), .int .i64 0, .int .i64 9, .int .i64 10] 2)) := ⟨hlo.2.1, new_ints rfl⟩
      replace D := D.below hb
      replace L1 := L1.below hb
      replace L3 := L3.below hb
      obtain ⟨g2, eg⟩ : ∃ g, g = vw.heap.size := ⟨_, rfl⟩
      rw [← eg] at L2 ⊢
      clear eg hb
      generalize (vw.alloc (.cells #[.int .i64 1, .int .i64 2, .int .i64 (-1), .int .i64 (-2), .int .i64 0, .int .i64 9, .int .i64 10] 2)) = vn at *
      clear hvl hlo
      refine hK.out _ _ ?_ ?_
      · (try dsimp only); exact ⟨D.E.c0, D.E.c1, D.E.c2, D.E.c3⟩
      clear hHeld hK K
      intro hHeld
      try simp only [Act.put, List.setIfInBounds_toArray, List.set_cons_zero, List.set_cons_succ]
      clear vw
      revert hHeld
      revert L3
      revert L2
      revert L1
      revert D
      revert y0
      revert g3
      revert g2
      revert g1
      revert g0
      revert vn
      exact key1_0123.out
  · skip
    intro vw g0 g1 g2 y0 D L1 L2 hHeld
    have hvl := D.V.lo
    have hlo := D.lo
    refine wpAnyH_ready (rs := [14, 19]) (by kernel_rfl) (by simp) ?_
    refine (AllReadyH.cons (o := ⟨_, _, _, _, _, _⟩) rfl (fun K hK => ?_) (AllReadyH.cons (o := ⟨_, _, _, _, _, _⟩) rfl (fun K hK => ?_) AllReadyH.nil))
    · skip
      go_simp
      go_at_call 64
      refine (l1Pick_calls zs [z, z, 1, r] a cap (w.heap.size + 1) g1 4 4 (q + 1) w vw hv HZ.out hlen D.V.src (by omega) (by omega) rfl (by omega) (by omega) (.inr L1.hB) L1.h).mono ?_
      rintro e vn ⟨y1, rfl, -, ss, xx⟩
      replace D := D.within ss xx
      replace L2 := L2.within xx
      clear ss xx L1 hvl hlo
      try go_wp2_with fail
      refine hK.out _ _ ?_ ?_
      · (try dsimp only); exact ⟨D.E.c0, D.E.c1, D.E.c2, D.E.c3⟩
      clear hHeld hK K
      intro hHeld
      try simp only [Act.put, List.setIfInBounds_toArray, List.set_cons_zero, List.set_cons_succ]
      clear vw
      revert hHeld
      revert L2
      revert D
      revert y1
      revert y0
      revert g2
      revert g1
      revert g0
      revert vn
      exact key2_012.out
    · skip
      go_simp
      have hb : Below vw.heap.size vw (vw.alloc (.cells #[.int .i64 0, .int .i64 3, .int .i64 32] 2)) := (Below.refl _ _).alloc (Nat.le_refl _) _
      have L3 : LI (w.heap.size + 1) vw.heap.size [0, 3, 32] (vw.alloc (.cells #[.int .i64 0, .int .i64 3, .int .i64 32] 2)) := ⟨hlo.2.1, new_ints rfl⟩
      replace D := D.below hb
      replace L1 := L1.below hb
      replace L2 := L2.below hb
      obtain ⟨g3, eg⟩ : ∃ g, g = vw.heap.size := ⟨_, rfl⟩
      rw [← eg] at L3 ⊢
      clear eg hb
      generalize (vw.alloc (.cells #[.int .i64 0, .int .i64 3, .int .i64 32] 2)) = vn at *
      clear hvl hlo
      refine hK.out _ _ ?_ ?_
      · (try dsimp only); exact ⟨D.E.c0, D.E.c1, D.E.c2, D.E.c3⟩
      clear hHeld hK K
      intro hHeld
      try simp only [Act.put, List.setIfInBounds_toArray, List.set_cons_zero, List.set_cons_succ]
      clear vw
      revert hHeld
      revert L3
      revert L2
      revert L1
      revert D
      revert y0
      revert g3
      revert g2
      revert g1
      revert g0
      revert vn
      exact key1_0123.out
  · skip
    intro vw g0 g1 g2 g3 D L0 L1 L2 L3 hHeld
    have hvl := D.V.lo
    have hlo := D.lo
    refine wpAnyH_ready (rs := [3]) (by kernel_rfl) (by simp) ?_
    refine (AllReadyH.cons (o := ⟨_, _, _, _, _, _⟩) rfl (fun K hK => ?_) AllReadyH.nil)
    · skip
      go_simp
      go_at_call 64
      refine (l1Pick_calls zs [0, 0, 1, -1] a cap (w.heap.size + 1) g0 4 4 (q) w vw hv HZ.out hlen D.V.src (by omega) (by omega) rfl (by omega) (by omega) (.inr L0.hB) L0.h).mono ?_
      rintro e vn ⟨y0, rfl, -, ss, xx⟩
      replace D := D.within ss xx
      replace L1 := L1.within xx
      replace L2 := L2.within xx
      replace L3 := L3.within xx
      clear ss xx L0 hvl hlo
      try go_wp2_with fail
      refine hK.out _ _ ?_ ?_
      · (try dsimp only); exact ⟨D.E.c0, D.E.c1, D.E.c2, D.E.c3⟩
      clear hHeld hK K
      intro hHeld
      try simp only [Act.put, List.setIfInBounds_toArray, List.set_cons_zero, List.set_cons_succ]
      clear vw
      revert hHeld
      revert L3
      revert L2
      revert L1
      revert D
      revert y0
      revert g3
      revert g2
      revert g1
      revert g0
      revert vn
      exact key1_0123.out
  · skip
    intro vw g0 g1 g3 y0 y1 D L3 hHeld
    have hvl := D.V.lo
    have hlo := D.lo
    refine wpAnyH_ready (rs := [16]) (by kernel_rfl) (by simp) ?_
    refine (AllReadyH.cons (o := ⟨_, _, _, _, _, _⟩) rfl (fun K hK => ?_) AllReadyH.nil)
    · skip
      go_simp
      have hb : Below vw.heap.size vw (vw.alloc (.cells #[.int .i64 1, .int .i64 2, .int .i64 (-1), .int .i64 (-2), .int .i64 0, .int .i64 9, .int .i64 10] 2)) := (Below.refl _ _).alloc (Nat.le_refl _) _
      have L2 : LI (w.heap.size + 1) vw.heap.size [1, 2, -1, -2, 0, 9, 10] (vw.alloc (.cells #[.int .i64 1, .int .i64 2, .int .i64 (-1), .int .i64 (-2), .int .i64 0, .int .i64 9, .int .i64 10] 2)) := ⟨hlo.2.1, new_ints rfl⟩
      replace D := D.below hb
      replace L3 := L3.below hb
      obtain ⟨g2, eg⟩ : ∃ g, g = vw.heap.size := ⟨_, rfl⟩
      rw [← eg] at L2 ⊢
      clear eg hb
      generalize (vw.alloc (.cells #[.int .i64 1, .int .i64 2, .int .i64 (-1), .int .i64 (-2), .int .i64 0, .int .i64 9, .int .i64 10] 2)) = vn at *
      clear hvl hlo
      refine hK.out _ _ ?_ ?_
      · (try dsimp only); exact ⟨D.E.c0, D.E.c1, D.E.c2, D.E.c3⟩
      clear hHeld hK K
      intro hHeld
      try simp only [Act.put, List.setIfInBounds_toArray, List.set_cons_zero, List.set_cons_succ]
      clear vw
      revert hHeld
      revert L3
      revert L2
      revert D
      revert y1
      revert y0
      revert g3
      revert g2
      revert g1
      revert g0
      revert vn
      exact key2_0123.out
  · skip
    intro vw g0 g1 g2 y0 y1 D L2 hHeld
    have hvl := D.V.lo
    have hlo := D.lo
    refine wpAnyH_ready (rs := [17, 19]) (by kernel_rfl) (by simp) ?_
    refine (AllReadyH.cons (o := ⟨_, _, _, _, _, _⟩) rfl (fun K hK => ?_) (AllReadyH.cons (o := ⟨_, _, _, _, _, _⟩) rfl (fun K hK => ?_) AllReadyH.nil))
    · skip
      go_simp
      go_at_call 64
      refine (l1Pick_calls zs [1, 2, -1, -2, 0, 9, 10] a cap (w.heap.size + 1) g2 7 7 (q + 1 + 1) w vw hv HZ.out hlen D.V.src (by omega) (by omega) rfl (by omega) (by omega) (.inr L2.hB) L2.h).mono ?_
      rintro e vn ⟨y2, rfl, -, ss, xx⟩
      replace D := D.within ss xx
      clear ss xx L2 hvl hlo
      try go_wp2_with fail
      refine hK.out _ _ ?_ ?_
      · (try dsimp only); exact ⟨D.E.c0, D.E.c1, D.E.c2, D.E.c3⟩
      clear hHeld hK K
      intro hHeld
      try simp only [Act.put, List.setIfInBounds_toArray, List.set_cons_zero, List.set_cons_succ]
      clear vw
      revert hHeld
      revert D
      revert y2
      revert y1
      revert y0
      revert g2
      revert g1
      revert g0
      revert vn
      exact key3_012.out
    · skip
      go_simp
      have hb : Below vw.heap.size vw (vw.alloc (.cells #[.int .i64 0, .int .i64 3, .int .i64 32] 2)) := (Below.refl _ _).alloc (Nat.le_refl _) _
      have L3 : LI (w.heap.size + 1) vw.heap.size [0, 3, 32] (vw.alloc (.cells #[.int .i64 0, .int .i64 3, .int .i64 32] 2)) := ⟨hlo.2.1, new_ints rfl⟩
      replace D := D.below hb
      replace L2 := L2.below hb
      obtain ⟨g3, eg⟩ : ∃ g, g = vw.heap.size := ⟨_, rfl⟩
      rw [← eg] at L3 ⊢
      clear eg hb
      generalize (vw.alloc (.cells #[.int .i64 0, .int .i64 3, .int .i64 32] 2)) = vn at *
      clear hvl hlo
      refine hK.out _ _ ?_ ?_
      · (try dsimp only); exact ⟨D.E.c0, D.E.c1, D.E.c2, D.E.c3⟩
      clear hHeld hK K
      intro hHeld
      try simp only [Act.put, List.setIfInBounds_toArray, List.set_cons_zero, List.set_cons_succ]
      clear vw
      revert hHeld
      revert L3
      revert L2
      revert D
      revert y1
      revert y0
      revert g3
      revert g2
      revert g1
      revert g0
      revert vn
      exact key2_0123.out
  · skip
    intro vw g0 g1 g2 g3 y0 D L1 L2 L3 hHeld
    have hvl := D.V.lo
    have hlo := D.lo
    refine wpAnyH_ready (rs := [14]) (by kernel_rfl) (by simp) ?_
    refine (AllReadyH.cons (o := ⟨_, _, _, _, _, _⟩) rfl (fun K hK => ?_) AllReadyH.nil)
    · skip
      go_simp
      go_at_call 64
      refine (l1Pick_calls zs [z, z, 1, r] a cap (w.heap.size + 1) g1 4 4 (q + 1) w vw hv HZ.out hlen D.V.src (by omega) (by omega) rfl (by omega) (by omega) (.inr L1.hB) L1.h).mono ?_
      rintro e vn ⟨y1, rfl, -, ss, xx⟩
      replace D := D.within ss xx
      replace L2 := L2.within xx
      replace L3 := L3.within xx
      clear ss xx L1 hvl hlo
      try go_wp2_with fail
      refine hK.out _ _ ?_ ?_
      · (try dsimp only); exact ⟨D.E.c0, D.E.c1, D.E.c2, D.E.c3⟩
      clear hHeld hK K
      intro hHeld
      try simp only [Act.put, List.setIfInBounds_toArray, List.set_cons_zero, List.set_cons_succ]
      clear vw
      revert hHeld
      revert L3
      revert L2
      revert D
      revert y1
      revert y0
      revert g3
      revert g2
      revert g1
      revert g0
      revert vn
      exact key2_0123.out
  · skip
    intro vw g0 g1 g2 y0 y1 y2 D hHeld
    have hvl := D.V.lo
    have hlo := D.lo
    refine wpAnyH_ready (rs := [19]) (by kernel_rfl) (by simp) ?_
    refine (AllReadyH.cons (o := ⟨_, _, _, _, _, _⟩) rfl (fun K hK => ?_) AllReadyH.nil)
    · skip
      go_simp
      have hb : Below vw.heap.size vw (vw.alloc (.cells #[.int .i64 0, .int .i64 3, .int .i64 32] 2)) := (Below.refl _ _).alloc (Nat.le_refl _) _
      have L3 : LI (w.heap.size + 1) vw.heap.size [0, 3, 32] (vw.alloc (.cells #[.int .i64 0, .int .i64 3, .int .i64 32] 2)) := ⟨hlo.2.1, new_ints rfl⟩
      replace D := D.below hb
      obtain ⟨g3, eg⟩ : ∃ g, g = vw.heap.size := ⟨_, rfl⟩
      rw [← eg] at L3 ⊢
      clear eg hb
      generalize (vw.alloc (.cells #[.int .i64 0, .int .i64 3, .int .i64 32] 2)) = vn at *
      clear hvl hlo
      refine hK.out _ _ ?_ ?_
      · (try dsimp only); exact ⟨D.E.c0, D.E.c1, D.E.c2, D.E.c3⟩
      clear hHeld hK K
      intro hHeld
      try simp only [Act.put, List.setIfInBounds_toArray, List.set_cons_zero, List.set_cons_succ]
      clear vw
      revert hHeld
      revert L3
      revert D
      revert y2
      revert y1
      revert y0
      revert g3
      revert g2
      revert g1
      revert g0
      revert vn
      exact key3_0123.out
  · skip
    intro vw g0 g1 g2 g3 y0 y1 D L2 L3 hHeld
    have hvl := D.V.lo
    have hlo := D.lo
    refine wpAnyH_ready (rs := [17]) (by kernel_rfl) (by simp) ?_
    refine (AllReadyH.cons (o := ⟨_, _, _, _, _, _⟩) rfl (fun K hK => ?_) AllReadyH.nil)
    · skip
      go_simp
      go_at_call 64
      refine (l1Pick_calls zs [1, 2, -1, -2, 0, 9, 10] a cap (w.heap.size + 1) g2 7 7 (q + 1 + 1) w vw hv HZ.out hlen D.V.src (by omega) (by omega) rfl (by omega) (by omega) (.inr L2.hB) L2.h).mono ?_
      rintro e vn ⟨y2, rfl, -, ss, xx⟩
      replace D := D.within ss xx
      replace L3 := L3.within xx
      clear ss xx L2 hvl hlo
      try go_wp2_with fail
      refine hK.out _ _ ?_ ?_
      · (try dsimp only); exact ⟨D.E.c0, D.E.c1, D.E.c2, D.E.c3⟩
      clear hHeld hK K
      intro hHeld
      try simp only [Act.put, List.setIfInBounds_toArray, List.set_cons_zero, List.set_cons_succ]
      clear vw
      revert hHeld
      revert L3
      revert D
      revert y2
      revert y1
      revert y0
      revert g3
      revert g2
      revert g1
      revert g0
      revert vn
      exact key3_0123.out
  · skip
    intro vw g0 g1 g2 g3 y0 y1 y2 D L3 hHeld
    have hvl := D.V.lo
    have hlo := D.lo
    refine wpAnyH_ready (rs := [20]) (by kernel_rfl) (by simp) ?_
    refine (AllReadyH.cons (o := ⟨_, _, _, _, _, _⟩) rfl (fun K hK => ?_) AllReadyH.nil)
    · skip
      go_simp
      go_at_call 64
      refine (l1Pick_calls zs [0, 3, 32] a cap (w.heap.size + 1) g3 3 3 (q + 1 + 1 + 1) w vw hv HZ.out hlen D.V.src (by omega) (by omega) rfl (by omega) (by omega) (.inr L3.hB) L3.h).mono ?_
      rintro e vn ⟨y3, rfl, -, ss, xx⟩
      replace D := D.within ss xx
      clear ss xx L3 hvl hlo
      try go_wp2_with fail
      refine hK.out _ _ ?_ ?_
      · (try dsimp only); exact ⟨D.E.c0, D.E.c1, D.E.c2, D.E.c3⟩
      clear hHeld hK K
      intro hHeld
      try simp only [Act.put, List.setIfInBounds_toArray, List.set_cons_zero, List.set_cons_succ]
      clear vw
      revert hHeld
      revert D
      revert y3
      revert y2
      revert y1
      revert y0
      revert g3
      revert g2
      revert g1
      revert g0
      revert vn
      exact key4_0123.out
  · skip
    intro vw g0 g1 g2 g3 y0 y1 y2 y3 D hHeld
    have hvl := D.V.lo
    have hlo := D.lo
    refine wpAnyH_ready (rs := [21]) (by kernel_rfl) (by simp) ?_
    refine (AllReadyH.cons (o := ⟨_, _, _, _, _, _⟩) rfl (fun K hK => ?_) AllReadyH.nil)
    obtain ⟨x0, c0⟩ := D.rb.c0
    obtain ⟨x1, c1⟩ := D.rb.c1
    obtain ⟨x2, c2⟩ := D.rb.c2
    obtain ⟨x3, c3⟩ := D.rb.c3
    have f0 := D.rb.fz 0
    have f1 := D.rb.fz 1
    have f2 := D.rb.fz 2
    have f3 := D.rb.fz 3
    go_simp
    have t4 : Touch w.heap.size 0 4 vw ((((vw.setCell ⟨w.heap.size, 0, none⟩ (.int .i64 r)).setCell ⟨w.heap.size, 1, none⟩ (.int .i64 wd)).setCell ⟨w.heap.size, 2, none⟩ (.slice (some ⟨bx, 0, none⟩) n cx)).setCell ⟨w.heap.size, 3, none⟩ (.slice av bs.length cv)) := (((((Touch.refl _ _ _ _).setCell (by omega) (by omega) _).setCell (by omega) (by omega) _).setCell (by omega) (by omega) _).setCell (by omega) (by omega) _)
    have HR := hide (res4 (w := vw) (r := w.heap.size) (.int .i64 r) (.int .i64 wd) (.slice (some ⟨bx, 0, none⟩) n cx) (.slice av bs.length cv) c0 c1 c2 c3)
    obtain ⟨cs, hcl, hn24, hb40, l1, l2, k1, k2⟩ := D.V.lists2 (W' := ((((vw.setCell ⟨w.heap.size, 0, none⟩ (.int .i64 r)).setCell ⟨w.heap.size, 1, none⟩ (.int .i64 wd)).setCell ⟨w.heap.size, 2, none⟩ (.slice (some ⟨bx, 0, none⟩) n cx)).setCell ⟨w.heap.size, 3, none⟩ (.slice av bs.length cv))) (fun i h1 h2 => t4.block i h2 (by omega))
    have QQ := hide (D.V.src.old.trans (t4.below (B := w.heap.size) (Nat.le_refl _) (by omega)))
    have HL := hide (And.intro l1 l2)
    have HC := hide hcl
    have E0 := t4.cellAt D.E.c0 (by omega)
    have E1 := t4.cellAt D.E.c1 (by omega)
    have E2 := t4.cellAt D.E.c2 (by omega)
    have E3 := t4.cellAt D.E.c3 (by omega)
    generalize ((((vw.setCell ⟨w.heap.size, 0, none⟩ (.int .i64 r)).setCell ⟨w.heap.size, 1, none⟩ (.int .i64 wd)).setCell ⟨w.heap.size, 2, none⟩ (.slice (some ⟨bx, 0, none⟩) n cx)).setCell ⟨w.heap.size, 3, none⟩ (.slice av bs.length cv)) = vz at *
    clear t4 D l1 l2 hcl c0 c1 c2 c3 f0 f1 f2 f3
    refine hK.out _ _ ?_ ?_
    · (try dsimp only); exact ⟨E0, E1, E2, E3⟩
    clear hHeld hK K
    intro hHeld
    try simp only [Act.put, List.setIfInBounds_toArray, List.set_cons_zero, List.set_cons_succ]
    refine wpAnyH_take (i := 22) (oi := ⟨_, _, _, _, _, _⟩) (v := ?_) rfl (by kernel_rfl) (by kernel_rfl) (by kernel_rfl) (fun _ _ _ h => h) (Or.inl ⟨by rfl, ?_⟩) hHeld ?_
    rotate_left
    · (intro w hSw; (try dsimp only at hSw); go_simp; try (with_reducible rfl))
    try simp only [Act.put, List.setIfInBounds_toArray, List.set_cons_zero, List.set_cons_succ]
    refine wpAnyH_take (i := 23) (oi := ⟨_, _, _, _, _, _⟩) (v := ?_) rfl (by kernel_rfl) (by kernel_rfl) (by kernel_rfl) (fun _ _ _ h => h) (Or.inl ⟨by rfl, ?_⟩) hHeld ?_
    rotate_left
    · (intro w hSw; (try dsimp only at hSw); go_simp; try (with_reducible rfl))
    try simp only [Act.put, List.setIfInBounds_toArray, List.set_cons_zero, List.set_cons_succ]
    refine wpAnyH_take (i := 24) (oi := ⟨_, _, _, _, _, _⟩) (v := ?_) rfl (by kernel_rfl) (by kernel_rfl) (by kernel_rfl) (fun _ _ _ h => h) (Or.inl ⟨by rfl, ?_⟩) hHeld ?_
    rotate_left
    · (intro w hSw; (try dsimp only at hSw); go_simp; try (with_reducible rfl))
    try simp only [Act.put, List.setIfInBounds_toArray, List.set_cons_zero, List.set_cons_succ]
    refine wpAnyH_take (i := 25) (oi := ⟨_, _, _, _, _, _⟩) (v := ?_) rfl (by kernel_rfl) (by kernel_rfl) (by kernel_rfl) (fun _ _ _ h => h) (Or.inl ⟨by rfl, ?_⟩) hHeld ?_
    rotate_left
    · (intro w hSw; (try dsimp only at hSw); go_simp; try (with_reducible rfl))
    try simp only [Act.put, List.setIfInBounds_toArray, List.set_cons_zero, List.set_cons_succ]
    refine wpAnyH_done (by kernel_rfl) ?_ _
    clear hHeld
    go_wp2
    have hr := HR.out
    refine bodyPost_ret (v := .tuple #[.agg #[.int .i64 r, .int .i64 wd, .slice (some ⟨bx, 0, none⟩) n cx, .slice av bs.length cv], .int .i64 y0, .int .i64 y1, .int .i64 y2, .int .i64 y3]) (by simp only [results, Try.results49]; simp [go_sem, hr.1, hr.2.1, hr.2.2.1, hr.2.2.2]) rfl ⟨r, wd, _, _, cs, bs, y0, y1, y2, y3, rfl, by have := HC.out; omega, hb40, ?_, HL.out.2, k1, k2, QQ.out⟩
    exact HL.out.1
end Go.Proofs.Ytbndncfkkhjkoaa
