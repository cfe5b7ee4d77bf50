/-
  A draw of the law FnChars: DrawDecodeMany.
-/
import Derived.Test.YtoedmfflokknjaaRows
import Derived.Test.YtoedmfflokknjaaLawDraws3
import Derived.Test.YtoedmfflokknjaaManySpec
import Derived.Deep.RegionHeld3
import Derived.Deep.OwnRows
namespace Go.Proofs.Ytoedmfflokknjaa
open Go.ChangeShapes Go.WideShapes Go.ChangeAt Go.RowKit
set_option linter.unusedVariables false
set_option linter.unusedSimpArgs false

theorem made_ints (w : World) (n : Nat) (k : IntKind) (t : TypeId) : IntsAt k w.heap.size (w.heap.size + 1) (w.alloc (.cells (madeCells #[.int k 0] n) t)) (.slice (some ⟨w.heap.size, 0, none⟩) n n) (List.replicate n 0) := by
  refine ⟨_, _, by rw [List.length_replicate], .inr ⟨w.heap.size, 0, rfl, Nat.le_refl _, Nat.lt_succ_self _, fun i hi => ?_⟩⟩
  rw [List.length_replicate] at hi
  refine ⟨?_, new_frozen rfl⟩
  rw [new_cell rfl]
  simp [madeCells, hi, Nat.mod_one, List.getElem?_replicate]

theorem own_room {w : World} {base n : Nat} {e : TypeId} {v : Value} {xs : List Value} (h : w.ownsRow base e 1 v n xs) : ∃ a cap, v = .slice a n cap ∧ n ≤ cap := by
  rcases h.2 with ⟨hv, h0⟩ | ⟨g, cap, cur, hv, hrest⟩
  · exact ⟨none, 0, by rw [hv, h0], by omega⟩
  · exact ⟨_, cap, hv, by omega⟩

theorem run_made2001 (W : World) : (Instr.makeSlice 22 (.int .i64 2001) (.int .i64 2001)).run Try.prog W = .ok (.slice (some ⟨W.heap.size, 0, none⟩) 2001 2001) (W.alloc (.cells (madeCells #[.int .u8 0] 2001) 5)) :=
  run_make_row' _ _ _ 1 Try.underlying22 info_u8 rfl .i64 .i64 2001 (by omega) (by omega) W

/-- A decoder's box. -/
structure Box3 (w : World) (B : Nat) (l lo v : Int) : Prop where
  c0 : w.cell? ⟨B, 0, none⟩ = some (.int .i64 l)
  c1 : w.cell? ⟨B, 1, none⟩ = some (.int .i64 lo)
  c2 : w.cell? ⟨B, 2, none⟩ = some (.int .i64 v)
  fz : ∀ o, w.frozen? ⟨B, o, none⟩ = false
theorem Box3.within {w w' : World} {B a b : Nat} {l lo v : Int} (h : Box3 w B l lo v) (hw : Within a b w w') (hB : B < a ∨ b ≤ B) : Box3 w' B l lo v :=
  ⟨hw.cellx hB h.c0, hw.cellx hB h.c1, hw.cellx hB h.c2, fun o => (hw.frozenx (lt_of_cell h.c0) hB o).trans (h.fz o)⟩
theorem Box3.below {w w' : World} {B : Nat} {l lo v : Int} (h : Box3 w B l lo v) (hb : Below w.heap.size w w') : Box3 w' B l lo v :=
  ⟨cellb hb h.c0, cellb hb h.c1, cellb hb h.c2, fun o => (hb.frozen (p := ⟨B, o, none⟩) (lt_of_cell h.c0)).trans (h.fz o)⟩
theorem Within.set3 {w : World} {B : Nat} (a b c : Value) : Within B (B + 1) w (((w.setCell ⟨B, 0, none⟩ a).setCell ⟨B, 1, none⟩ b).setCell ⟨B, 2, none⟩ c) :=
  (((Within.refl B (B + 1) w).setCell (p := ⟨B, 0, none⟩) (Nat.le_refl _) (Nat.lt_succ_self _) a).setCell (p := ⟨B, 1, none⟩) (Nat.le_refl _) (Nat.lt_succ_self _) b).setCell (p := ⟨B, 2, none⟩) (Nat.le_refl _) (Nat.lt_succ_self _) c

theorem Box3.stored {w : World} {B : Nat} {l lo v l' lo' v' : Int} (h : Box3 w B l lo v) : Box3 (((w.setCell ⟨B, 0, none⟩ (.int .i64 l')).setCell ⟨B, 1, none⟩ (.int .i64 lo')).setCell ⟨B, 2, none⟩ (.int .i64 v')) B l' lo' v' := by
  have e := three_cells (o := 0) (x := .int .i64 l') (y := .int .i64 lo') (z := .int .i64 v') h.c0 h.c1 h.c2
  refine ⟨e.1, e.2.1, e.2.2, fun o => ?_⟩
  simp only [World.frozen?_setCell]; exact h.fz o

set_option maxHeartbeats 4000000 in
theorem drawMany_calls (zs : List Int) (a : Option Addr) (cap : Nat) (w : World) (hv : ReadAt .u8 w (.slice a zs.length cap) zs) (hz : ∀ z ∈ zs, 0 ≤ z ∧ z ≤ 255) (hlen : zs.length ≤ 1048576) :
    Calls Try.prog 6 #[.slice a zs.length cap] w fun e w' => ∃ l lo v ax cx ys, e = .returned (.tuple #[.agg #[.int .i64 l, .int .i64 lo, .int .i64 v], .slice ax ys.length cx]) ∧ ys.length ≤ cx ∧ ys.length ≤ 2001 ∧ (∀ y ∈ ys, 0 ≤ y ∧ y ≤ 255) ∧ ReadAt .u8 w' (.slice ax ys.length cx) ys ∧ Below w.heap.size w w' := by
  have HZ := hide hz
  clear hz
  go_enter Try.func6, Try.ntmps6
  go_wp2_with fail
  refine (l1Source_calls (.slice a zs.length cap) _ _ _ _).mono ?_
  rintro e w' ⟨rfl, hw⟩
  rw [hw]
  clear hw w'
  go_wp2_with fail
  have q1 : Below w.heap.size w ((w.alloc (.cells #[.int .i64 0, .int .i64 0, .int .i64 0] 25)).alloc (.cells #[.slice a zs.length cap, .int .i64 0] 72)) := (by repeat' (first | with_reducible exact Below.refl _ _ | with_reducible assumption | with_reducible refine Below.drew ?_ | with_reducible refine Below.alloc ?_ ?_ _ | with_reducible refine Below.setCell ?_ ?_ _ | (simp; done) | (simp; omega) | omega))
  have s0 : Src w ((w.alloc (.cells #[.int .i64 0, .int .i64 0, .int .i64 0] 25)).alloc (.cells #[.slice a zs.length cap, .int .i64 0] 72)) (w.heap.size + 1) (.slice a zs.length cap) 0 :=
    ⟨by simp, by simp, fun o => by simp, q1, by omega⟩
  have f0 : Box3 ((w.alloc (.cells #[.int .i64 0, .int .i64 0, .int .i64 0] 25)).alloc (.cells #[.slice a zs.length cap, .int .i64 0] 72)) w.heap.size 0 0 0 := ⟨by simp, by simp, by simp, fun o => by simp⟩
  refine (l1Draw_calls zs a cap (w.heap.size + 1) 0 w _ hv HZ.out hlen s0 (by omega) (by omega)).mono ?_
  rintro e w2 ⟨l, lo, v, p', rfl, hp0, hp1, s2, x2⟩
  replace f0 := f0.within x2 (by omega)
  have zz : w.heap.size + 1 < w2.heap.size := s2.lt
  clear x2 s0 q1
  go_wp2_with fail
  have d2 : Box3 (w2.alloc (.cells #[.int .i64 l, .int .i64 lo, .int .i64 v] 25)) w2.heap.size l lo v := ⟨by simp, by simp, by simp, fun o => by simp⟩
  replace f0 := f0.below ((Below.refl _ _).alloc (Nat.le_refl _) (.cells #[.int .i64 l, .int .i64 lo, .int .i64 v] 25))
  replace s2 := s2.alloc (.cells #[.int .i64 l, .int .i64 lo, .int .i64 v] 25)
  generalize (w2.alloc (.cells #[.int .i64 l, .int .i64 lo, .int .i64 v] 25)) = W2 at *
  refine (l1Chance_calls zs a cap (w.heap.size + 1) p' 40 w _ hv HZ.out hlen s2 (by omega) (by omega) (by omega) (by omega)).mono ?_
  rintro e w3 ⟨r, rfl, s3, x3⟩
  replace f0 := f0.within x3 (by omega)
  replace d2 := d2.within x3 (by omega)
  generalize w2.heap.size = D at *
  clear x3 s2
  have z3 : D < w3.heap.size := lt_of_cell d2.c0
  cases r with
  | true =>
    go_wp2_with fail
    have hmk := run_made2001
    refine wp_region_held_drew (S := (fun w' => w'.cell? ⟨D, 0, none⟩ = some (.int .i64 l) ∧ w'.cell? ⟨D, 1, none⟩ = some (.int .i64 lo) ∧ w'.cell? ⟨D, 2, none⟩ = some (.int .i64 v))) (by kernel_rfl) ?_ (fun hHeld => ?_)
    · (try dsimp only); exact ⟨d2.c0, d2.c1, d2.c2⟩
    replace f0 : Box3 w3.drew w.heap.size 0 0 0 := f0.below (Below.drew (Below.refl _ _))
    replace d2 : Box3 w3.drew D l lo v := d2.below (Below.drew (Below.refl _ _))
    replace s3 : Src w w3.drew (w.heap.size + 1) (.slice a zs.length cap) (p' + 1) := s3.drewN 1
    have q := s3.old
    replace z3 : D < w3.drew.heap.size := lt_of_cell d2.c0
    generalize w3.drew = W at *
    refine wpAnyH_take (i := 0) (oi := ⟨_, _, _, _, _, _⟩) (v := ?_) rfl (by kernel_rfl) (by kernel_rfl) (by kernel_rfl) (fun _ _ _ h => h) (Or.inl ⟨by rfl, ?_⟩) hHeld ?_
    rotate_left
    · (intro w hSw; (try dsimp only at hSw); go_simp; try (with_reducible rfl))
    try simp only [Act.put, List.setIfInBounds_toArray, List.set_cons_zero, List.set_cons_succ]
    refine wpAnyH_ready (rs := [1, 2]) (by kernel_rfl) (by simp) ?_
    refine (AllReadyH.cons (o := ⟨_, _, _, _, _, _⟩) rfl (fun K hK => ?_) (AllReadyH.cons (o := ⟨_, _, _, _, _, _⟩) rfl (fun K hK => ?_) AllReadyH.nil))
    · skip
      go_simp
      have kb : Below W.heap.size W (W.alloc (.cells (madeCells #[.int .u8 0] 2001) 5)) := (Below.refl _ _).alloc (Nat.le_refl _) _
      have hI : IntsAt .u8 W.heap.size (W.heap.size + 1) (W.alloc (.cells (madeCells #[.int .u8 0] 2001) 5)) (.slice (some ⟨W.heap.size, 0, none⟩) 2001 2001) (List.replicate 2001 0) := made_ints W 2001 .u8 5
      have zI : w.heap.size < W.heap.size := lt_of_cell f0.c0
      replace f0 := f0.below kb
      replace d2 := d2.below kb
      replace q := q.trans (kb.mono q.size)
      clear kb hmk
      generalize (W.alloc (.cells (madeCells #[.int .u8 0] 2001) 5)) = Wa at *
      refine hK.out _ _ ?_ ?_
      · (try dsimp only); exact ⟨d2.c0, d2.c1, d2.c2⟩
      clear hHeld hK K
      intro hHeld
      try simp only [Act.put, List.setIfInBounds_toArray, List.set_cons_zero, List.set_cons_succ]
      refine wpAnyH_ready (rs := [2]) (by kernel_rfl) (by simp) ?_
      refine (AllReadyH.cons (o := ⟨_, _, _, _, _, _⟩) rfl (fun K hK => ?_) AllReadyH.nil)
      have k0 := f0.c0
      have k1 := f0.c1
      have k2 := f0.c2
      have kf := f0.fz
      go_simp
      replace f0 : Box3 (((Wa.setCell ⟨w.heap.size, 0, none⟩ (.int .i64 l)).setCell ⟨w.heap.size, 1, none⟩ (.int .i64 lo)).setCell ⟨w.heap.size, 2, none⟩ (.int .i64 v)) w.heap.size l lo v := f0.stored
      replace d2 : Box3 (((Wa.setCell ⟨w.heap.size, 0, none⟩ (.int .i64 l)).setCell ⟨w.heap.size, 1, none⟩ (.int .i64 lo)).setCell ⟨w.heap.size, 2, none⟩ (.int .i64 v)) D l lo v := d2.within (Within.set3 _ _ _) (by omega)
      replace q : Below w.heap.size w (((Wa.setCell ⟨w.heap.size, 0, none⟩ (.int .i64 l)).setCell ⟨w.heap.size, 1, none⟩ (.int .i64 lo)).setCell ⟨w.heap.size, 2, none⟩ (.int .i64 v)) := ((q.setCell (Nat.le_refl _) _).setCell (Nat.le_refl _) _).setCell (Nat.le_refl _) _
      replace hI := ((hI.put (b := w.heap.size) (o := 0) (by omega) (.int .i64 l)).put (b := w.heap.size) (o := 1) (by omega) (.int .i64 lo)).put (b := w.heap.size) (o := 2) (by omega) (.int .i64 v)
      clear k0 k1 k2 kf
      generalize (((Wa.setCell ⟨w.heap.size, 0, none⟩ (.int .i64 l)).setCell ⟨w.heap.size, 1, none⟩ (.int .i64 lo)).setCell ⟨w.heap.size, 2, none⟩ (.int .i64 v)) = Wb at *
      refine hK.out _ _ ?_ ?_
      · (try dsimp only); exact ⟨d2.c0, d2.c1, d2.c2⟩
      clear hHeld hK K
      intro hHeld
      try simp only [Act.put, List.setIfInBounds_toArray, List.set_cons_zero, List.set_cons_succ]
      refine wpAnyH_take (i := 3) (oi := ⟨_, _, _, _, _, _⟩) (v := ?_) rfl (by kernel_rfl) (by kernel_rfl) (by kernel_rfl) (fun _ _ _ h => h) (Or.inl ⟨by rfl, ?_⟩) hHeld ?_
      rotate_left
      · (intro w hSw; (try dsimp only at hSw); go_simp; try (with_reducible rfl))
      try simp only [Act.put, List.setIfInBounds_toArray, List.set_cons_zero, List.set_cons_succ]
      refine wpAnyH_done (by kernel_rfl) ?_ _
      go_wp2
      exact bodyPost_ret (v := .tuple #[.agg #[.int .i64 l, .int .i64 lo, .int .i64 v], .slice (some ⟨W.heap.size, 0, none⟩) 2001 2001]) (by simp [results, Try.results6, go_sem, f0.c0, f0.c1, f0.c2]) rfl ⟨l, lo, v, _, _, List.replicate 2001 0, by rw [List.length_replicate], by rw [List.length_replicate]; exact Nat.le_refl _, by rw [List.length_replicate]; exact Nat.le_refl _, fun y hy => by rw [List.eq_of_mem_replicate hy]; omega, by rw [List.length_replicate]; exact hI.read, q⟩
    · skip
      have k0 := f0.c0
      have k1 := f0.c1
      have k2 := f0.c2
      have kf := f0.fz
      go_simp
      replace f0 : Box3 (((W.setCell ⟨w.heap.size, 0, none⟩ (.int .i64 l)).setCell ⟨w.heap.size, 1, none⟩ (.int .i64 lo)).setCell ⟨w.heap.size, 2, none⟩ (.int .i64 v)) w.heap.size l lo v := f0.stored
      replace d2 : Box3 (((W.setCell ⟨w.heap.size, 0, none⟩ (.int .i64 l)).setCell ⟨w.heap.size, 1, none⟩ (.int .i64 lo)).setCell ⟨w.heap.size, 2, none⟩ (.int .i64 v)) D l lo v := d2.within (Within.set3 _ _ _) (by omega)
      replace q : Below w.heap.size w (((W.setCell ⟨w.heap.size, 0, none⟩ (.int .i64 l)).setCell ⟨w.heap.size, 1, none⟩ (.int .i64 lo)).setCell ⟨w.heap.size, 2, none⟩ (.int .i64 v)) := ((q.setCell (Nat.le_refl _) _).setCell (Nat.le_refl _) _).setCell (Nat.le_refl _) _
      clear k0 k1 k2 kf
      generalize (((W.setCell ⟨w.heap.size, 0, none⟩ (.int .i64 l)).setCell ⟨w.heap.size, 1, none⟩ (.int .i64 lo)).setCell ⟨w.heap.size, 2, none⟩ (.int .i64 v)) = Wa at *
      refine hK.out _ _ ?_ ?_
      · (try dsimp only); exact ⟨d2.c0, d2.c1, d2.c2⟩
      clear hHeld hK K
      intro hHeld
      try simp only [Act.put, List.setIfInBounds_toArray, List.set_cons_zero, List.set_cons_succ]
      refine wpAnyH_ready (rs := [1]) (by kernel_rfl) (by simp) ?_
      refine (AllReadyH.cons (o := ⟨_, _, _, _, _, _⟩) rfl (fun K hK => ?_) AllReadyH.nil)
      go_simp
      have kb : Below Wa.heap.size Wa (Wa.alloc (.cells (madeCells #[.int .u8 0] 2001) 5)) := (Below.refl _ _).alloc (Nat.le_refl _) _
      have hI : IntsAt .u8 Wa.heap.size (Wa.heap.size + 1) (Wa.alloc (.cells (madeCells #[.int .u8 0] 2001) 5)) (.slice (some ⟨Wa.heap.size, 0, none⟩) 2001 2001) (List.replicate 2001 0) := made_ints Wa 2001 .u8 5
      have zI : w.heap.size < Wa.heap.size := lt_of_cell f0.c0
      replace f0 := f0.below kb
      replace d2 := d2.below kb
      replace q := q.trans (kb.mono q.size)
      clear kb hmk
      generalize (Wa.alloc (.cells (madeCells #[.int .u8 0] 2001) 5)) = Wb at *
      refine hK.out _ _ ?_ ?_
      · (try dsimp only); exact ⟨d2.c0, d2.c1, d2.c2⟩
      clear hHeld hK K
      intro hHeld
      try simp only [Act.put, List.setIfInBounds_toArray, List.set_cons_zero, List.set_cons_succ]
      refine wpAnyH_take (i := 3) (oi := ⟨_, _, _, _, _, _⟩) (v := ?_) rfl (by kernel_rfl) (by kernel_rfl) (by kernel_rfl) (fun _ _ _ h => h) (Or.inl ⟨by rfl, ?_⟩) hHeld ?_
      rotate_left
      · (intro w hSw; (try dsimp only at hSw); go_simp; try (with_reducible rfl))
      try simp only [Act.put, List.setIfInBounds_toArray, List.set_cons_zero, List.set_cons_succ]
      refine wpAnyH_done (by kernel_rfl) ?_ _
      go_wp2
      exact bodyPost_ret (v := .tuple #[.agg #[.int .i64 l, .int .i64 lo, .int .i64 v], .slice (some ⟨Wa.heap.size, 0, none⟩) 2001 2001]) (by simp [results, Try.results6, go_sem, f0.c0, f0.c1, f0.c2]) rfl ⟨l, lo, v, _, _, List.replicate 2001 0, by rw [List.length_replicate], by rw [List.length_replicate]; exact Nat.le_refl _, by rw [List.length_replicate]; exact Nat.le_refl _, fun y hy => by rw [List.eq_of_mem_replicate hy]; omega, by rw [List.length_replicate]; exact hI.read, q⟩
  | false =>
    go_wp2_with fail
    refine wp_region_held_drew (S := (fun w' => w'.cell? ⟨D, 0, none⟩ = some (.int .i64 l) ∧ w'.cell? ⟨D, 1, none⟩ = some (.int .i64 lo) ∧ w'.cell? ⟨D, 2, none⟩ = some (.int .i64 v))) (by kernel_rfl) ?_ (fun hHeld => ?_)
    · (try dsimp only); exact ⟨d2.c0, d2.c1, d2.c2⟩
    replace f0 : Box3 w3.drew w.heap.size 0 0 0 := f0.below (Below.drew (Below.refl _ _))
    replace d2 : Box3 w3.drew D l lo v := d2.below (Below.drew (Below.refl _ _))
    replace s3 : Src w w3.drew (w.heap.size + 1) (.slice a zs.length cap) (p' + 1) := s3.drewN 1
    have q := s3.old
    replace z3 : D < w3.drew.heap.size := lt_of_cell d2.c0
    generalize w3.drew = W at *
    refine wpAnyH_take (i := 0) (oi := ⟨_, _, _, _, _, _⟩) (v := ?_) rfl (by kernel_rfl) (by kernel_rfl) (by kernel_rfl) (fun _ _ _ h => h) (Or.inl ⟨by rfl, ?_⟩) hHeld ?_
    rotate_left
    · (intro w hSw; (try dsimp only at hSw); go_simp; try (with_reducible rfl))
    try simp only [Act.put, List.setIfInBounds_toArray, List.set_cons_zero, List.set_cons_succ]
    refine wpAnyH_take (i := 1) (oi := ⟨_, _, _, _, _, _⟩) (v := ?_) rfl (by kernel_rfl) (by kernel_rfl) (by kernel_rfl) (fun _ _ _ h => h) (Or.inl ⟨by rfl, ?_⟩) hHeld ?_
    rotate_left
    · (intro w hSw; (try dsimp only at hSw); go_simp; try (with_reducible rfl))
    try simp only [Act.put, List.setIfInBounds_toArray, List.set_cons_zero, List.set_cons_succ]
    refine wpAnyH_take (i := 2) (oi := ⟨_, _, _, _, _, _⟩) (v := ?_) rfl (by kernel_rfl) (by kernel_rfl) (by kernel_rfl) (fun _ _ _ h => h) (Or.inl ⟨by rfl, ?_⟩) hHeld ?_
    rotate_left
    · (intro w hSw; (try dsimp only at hSw); go_simp; try (with_reducible rfl))
    try simp only [Act.put, List.setIfInBounds_toArray, List.set_cons_zero, List.set_cons_succ]
    refine wpAnyH_ready (rs := [3]) (by kernel_rfl) (by simp) ?_
    refine (AllReadyH.cons (o := ⟨_, _, _, _, _, _⟩) rfl (fun K hK => ?_) AllReadyH.nil)
    go_simp
    go_at_call 28
    refine (l1Next_calls zs a cap (w.heap.size + 1) (p' + 1) 12 w _ hv HZ.out hlen s3 (by omega) (by omega) (by omega) (by omega)).mono ?_
    rintro e w4 ⟨r, rfl, hr0, hr1, s4, x4⟩
    obtain ⟨n, rfl⟩ := Int.eq_ofNat_of_zero_le hr0
    replace f0 := f0.within x4 (by omega)
    replace d2 := d2.within x4 (by omega)
    replace q := s4.old
    clear s3 x4
    try go_wp2_with fail
    refine hK.out _ _ ?_ ?_
    · (try dsimp only); exact ⟨d2.c0, d2.c1, d2.c2⟩
    clear hHeld hK K
    intro hHeld
    try simp only [Act.put, List.setIfInBounds_toArray, List.set_cons_zero, List.set_cons_succ]
    refine wpAnyH_ready (rs := [4]) (by kernel_rfl) (by simp) ?_
    refine (AllReadyH.cons (o := ⟨_, _, _, _, _, _⟩) rfl (fun K hK => ?_) AllReadyH.nil)
    go_simp
    go_at_call 27
    refine (l1Some_owns zs a cap (w.heap.size + 1) _ n w _ hv HZ.out hlen s4 (by omega) (by omega) (by omega)).mono ?_
    rintro e w5 ⟨x5, ys, rfl, hyl, hyb, hO, s5, x5w⟩
    subst hyl
    have hI : IntsAt .u8 w4.heap.size w5.heap.size w5 x5 ys := own_ints hO (Nat.le_refl _)
    have zI : w.heap.size < w4.heap.size := lt_of_cell f0.c0
    replace f0 := f0.within x5w (by omega)
    replace d2 := d2.within x5w (by omega)
    replace q := s5.old
    obtain ⟨ax, cx, rfl, hroom⟩ := own_room hO
    clear hO
    clear s4 x5w s5
    try go_wp2_with fail
    refine hK.out _ _ ?_ ?_
    · (try dsimp only); exact ⟨d2.c0, d2.c1, d2.c2⟩
    clear hHeld hK K
    intro hHeld
    try simp only [Act.put, List.setIfInBounds_toArray, List.set_cons_zero, List.set_cons_succ]
    refine wpAnyH_ready (rs := [5]) (by kernel_rfl) (by simp) ?_
    refine (AllReadyH.cons (o := ⟨_, _, _, _, _, _⟩) rfl (fun K hK => ?_) AllReadyH.nil)
    have k0 := f0.c0
    have k1 := f0.c1
    have k2 := f0.c2
    have kf := f0.fz
    go_simp
    replace f0 : Box3 (((w5.setCell ⟨w.heap.size, 0, none⟩ (.int .i64 l)).setCell ⟨w.heap.size, 1, none⟩ (.int .i64 lo)).setCell ⟨w.heap.size, 2, none⟩ (.int .i64 v)) w.heap.size l lo v := f0.stored
    replace d2 : Box3 (((w5.setCell ⟨w.heap.size, 0, none⟩ (.int .i64 l)).setCell ⟨w.heap.size, 1, none⟩ (.int .i64 lo)).setCell ⟨w.heap.size, 2, none⟩ (.int .i64 v)) D l lo v := d2.within (Within.set3 _ _ _) (by omega)
    replace q : Below w.heap.size w (((w5.setCell ⟨w.heap.size, 0, none⟩ (.int .i64 l)).setCell ⟨w.heap.size, 1, none⟩ (.int .i64 lo)).setCell ⟨w.heap.size, 2, none⟩ (.int .i64 v)) := ((q.setCell (Nat.le_refl _) _).setCell (Nat.le_refl _) _).setCell (Nat.le_refl _) _
    replace hI := ((hI.put (b := w.heap.size) (o := 0) (by omega) (.int .i64 l)).put (b := w.heap.size) (o := 1) (by omega) (.int .i64 lo)).put (b := w.heap.size) (o := 2) (by omega) (.int .i64 v)
    clear k0 k1 k2 kf
    generalize (((w5.setCell ⟨w.heap.size, 0, none⟩ (.int .i64 l)).setCell ⟨w.heap.size, 1, none⟩ (.int .i64 lo)).setCell ⟨w.heap.size, 2, none⟩ (.int .i64 v)) = Wb at *
    refine hK.out _ _ ?_ ?_
    · (try dsimp only); exact ⟨d2.c0, d2.c1, d2.c2⟩
    clear hHeld hK K
    intro hHeld
    try simp only [Act.put, List.setIfInBounds_toArray, List.set_cons_zero, List.set_cons_succ]
    refine wpAnyH_take (i := 6) (oi := ⟨_, _, _, _, _, _⟩) (v := ?_) rfl (by kernel_rfl) (by kernel_rfl) (by kernel_rfl) (fun _ _ _ h => h) (Or.inl ⟨by rfl, ?_⟩) hHeld ?_
    rotate_left
    · (intro w hSw; (try dsimp only at hSw); go_simp; try (with_reducible rfl))
    try simp only [Act.put, List.setIfInBounds_toArray, List.set_cons_zero, List.set_cons_succ]
    refine wpAnyH_done (by kernel_rfl) ?_ _
    go_wp2
    exact bodyPost_ret (v := .tuple #[.agg #[.int .i64 l, .int .i64 lo, .int .i64 v], .slice ax ys.length cx]) (by simp [results, Try.results6, go_sem, f0.c0, f0.c1, f0.c2]) rfl ⟨l, lo, v, _, _, ys, rfl, hroom, by omega, hyb, hI.read, q⟩

end Go.Proofs.Ytoedmfflokknjaa
