/-
  Grids that are drawn: l3Draw, walked.
-/
import Derived.Test.YtbndncfkkhjkoabGridDraws
namespace Go.Proofs.Ytbndncfkkhjkoab
set_option maxRecDepth 20000
open Go.ChangeShapes Go.WideShapes Go.ChangeAt Go.RowKit
set_option linter.unusedVariables false
set_option linter.unusedSimpArgs false
set_option maxRecDepth 20000

/-- The result's box, not yet filled. -/
structure RB (b : Nat) (W : World) : Prop where
  c0 : ∃ u, W.cell? ⟨b, 0, none⟩ = some u
  c1 : ∃ u, W.cell? ⟨b, 1, none⟩ = some u
  c2 : ∃ u, W.cell? ⟨b, 2, none⟩ = some u
  c3 : ∃ u, W.cell? ⟨b, 3, none⟩ = some u
  fz : ∀ o, W.frozen? ⟨b, o, none⟩ = false
theorem RB.block {b : Nat} {W W' : World} (h : RB b W) (e : W'.heap[b]? = W.heap[b]?) : RB b W' := by
  obtain ⟨u0, h0⟩ := h.c0
  obtain ⟨u1, h1⟩ := h.c1
  obtain ⟨u2, h2⟩ := h.c2
  obtain ⟨u3, h3⟩ := h.c3
  exact ⟨⟨u0, (World.cell?_of_block (w := W) (a := ⟨b, 0, none⟩) e).trans h0⟩, ⟨u1, (World.cell?_of_block (w := W) (a := ⟨b, 1, none⟩) e).trans h1⟩, ⟨u2, (World.cell?_of_block (w := W) (a := ⟨b, 2, none⟩) e).trans h2⟩, ⟨u3, (World.cell?_of_block (w := W) (a := ⟨b, 3, none⟩) e).trans h3⟩, fun o => (World.frozen?_of_block (w := W) (a := ⟨b, o, none⟩) e).trans (h.fz o)⟩
theorem RB.lt {b : Nat} {W : World} (h : RB b W) : b < W.heap.size := by obtain ⟨u, h⟩ := h.c0; exact lt_of_cell h
theorem RB.within {b B : Nat} {W W' : World} (h : RB b W) (x : Within B (B + 1) W W') (hb : b ≠ B) : RB b W' := h.block (x.block b h.lt (by omega))
theorem RB.below {b : Nat} {W W' : World} (h : RB b W) (x : Below W.heap.size W W') : RB b W' := h.block (x.block b h.lt)
theorem RB.set {b c o : Nat} {W : World} (h : RB b W) (hb : b ≠ c) (u : Value) : RB b (W.setCell ⟨c, o, none⟩ u) := h.block (Below.heap_setCell _ _ _ _ (by intro e; first | exact hb e | exact hb e.symm))
theorem RB.grow {b : Nat} {W W' : World} {v v' : Value} (h : RB b W) (g : GrowTo W W' v v') (hb : some b ≠ v.ownBlock) : RB b W' := h.block (g.block h.lt hb)
/-- What is answered, behind the store into the result's box. -/
theorem GD.give {w0 w W : World} {B T bx n cx base : Nat} {code : Value} {p r wd : Int} {v : Value} {bs : List (Int × Int)} (h : GD w0 w W B T bx n cx base code p r wd v bs) (rb : RB w.heap.size W) (hb : ∀ k, v.ownBlock = some k → k ≠ w.heap.size) (hx : bx ≠ w.heap.size) (hn : 0 < n ∧ n ≤ 24 ∧ n ≤ cx ∧ bs.length ≤ 40) :
    (((((W.setCell ⟨w.heap.size, 0, none⟩ (.int .i64 r)).setCell ⟨w.heap.size, 1, none⟩ (.int .i64 wd)).setCell ⟨w.heap.size, 2, none⟩ (.slice (some ⟨bx, 0, none⟩) n cx)).setCell ⟨w.heap.size, 3, none⟩ v).cell? ⟨w.heap.size, 0, none⟩ = some (.int .i64 r) ∧ ((((W.setCell ⟨w.heap.size, 0, none⟩ (.int .i64 r)).setCell ⟨w.heap.size, 1, none⟩ (.int .i64 wd)).setCell ⟨w.heap.size, 2, none⟩ (.slice (some ⟨bx, 0, none⟩) n cx)).setCell ⟨w.heap.size, 3, none⟩ v).cell? ⟨w.heap.size, 1, none⟩ = some (.int .i64 wd) ∧
    ((((W.setCell ⟨w.heap.size, 0, none⟩ (.int .i64 r)).setCell ⟨w.heap.size, 1, none⟩ (.int .i64 wd)).setCell ⟨w.heap.size, 2, none⟩ (.slice (some ⟨bx, 0, none⟩) n cx)).setCell ⟨w.heap.size, 3, none⟩ v).cell? ⟨w.heap.size, 2, none⟩ = some (.slice (some ⟨bx, 0, none⟩) n cx) ∧ ((((W.setCell ⟨w.heap.size, 0, none⟩ (.int .i64 r)).setCell ⟨w.heap.size, 1, none⟩ (.int .i64 wd)).setCell ⟨w.heap.size, 2, none⟩ (.slice (some ⟨bx, 0, none⟩) n cx)).setCell ⟨w.heap.size, 3, none⟩ v).cell? ⟨w.heap.size, 3, none⟩ = some v) ∧
    GV w0 w ((((W.setCell ⟨w.heap.size, 0, none⟩ (.int .i64 r)).setCell ⟨w.heap.size, 1, none⟩ (.int .i64 wd)).setCell ⟨w.heap.size, 2, none⟩ (.slice (some ⟨bx, 0, none⟩) n cx)).setCell ⟨w.heap.size, 3, none⟩ v) B bx n cx code p v bs := by
  have l := h.lo
  obtain ⟨u0, h0⟩ := rb.c0
  obtain ⟨u1, h1⟩ := rb.c1
  obtain ⟨u2, h2⟩ := rb.c2
  obtain ⟨u3, h3⟩ := rb.c3
  obtain ⟨f, hf⟩ := h.row
  refine ⟨res4 (w := W) (r := w.heap.size) _ _ _ _ h0 h1 h2 h3, ?_⟩
  have t : Touch w.heap.size 0 4 W ((((W.setCell ⟨w.heap.size, 0, none⟩ (.int .i64 r)).setCell ⟨w.heap.size, 1, none⟩ (.int .i64 wd)).setCell ⟨w.heap.size, 2, none⟩ (.slice (some ⟨bx, 0, none⟩) n cx)).setCell ⟨w.heap.size, 3, none⟩ v) := ((((Touch.refl _ _ _ _).setCell (by omega) (by omega) _).setCell (by omega) (by omega) _).setCell (by omega) (by omega) _).setCell (by omega) (by omega) _
  have sz := t.size
  exact ⟨(((h.src.setg (by omega) (by omega) _).setg (by omega) (by omega) _).setg (by omega) (by omega) _).setg (by omega) (by omega) _, h.wi.later (t.below (Nat.le_refl _) (by omega)), ⟨f, hf.touch t (by omega)⟩, own_base (own_touch h.own t hb) (by omega), fun k hk => ⟨(h.ap k hk).1, (h.ap k hk).2.2⟩, by omega⟩

set_option maxHeartbeats 2000000 in
theorem l3Draw_calls (zs : List Int) (a : Option Addr) (cap B : Nat) (p : Int) (w0 w : World) (hv : ReadAt .u8 w0 (.slice a zs.length cap) zs) (hz : ∀ z ∈ zs, 0 ≤ z ∧ z ≤ 255) (hlen : zs.length ≤ 1048576) (hs : Src w0 w B (.slice a zs.length cap) p) (hp0 : 0 ≤ p) (hp1 : p ≤ 900000) :
    Calls Try.prog 61 #[.pointer (some ⟨B, 0, none⟩)] w fun e w' => ∃ (r wd : Int) (bx n cx : Nat) (v : Value) (bs : List (Int × Int)) (q : Int), e = .returned (.agg #[.int .i64 r, .int .i64 wd, .slice (some ⟨bx, 0, none⟩) n cx, v]) ∧ (1 ≤ r ∧ r ≤ 4 ∧ 2 ≤ wd ∧ wd ≤ 6 ∧ bs.length ≤ 18) ∧ p ≤ q ∧ q ≤ p + 400 ∧ GV w0 w w' B bx n cx (.slice a zs.length cap) q v bs ∧ bx ≠ w.heap.size ∧ (∀ k, v.ownBlock = some k → k ≠ w.heap.size) := by
  have HZ := hide hz
  have hB := hs.lt
  have hBo := hs.hB
  have hw0 := hs.old.size
  clear hz
  obtain ⟨i0, hi, hz0, hz1, hz2⟩ := info_parts info_cell
  go_enter Try.func61, Try.ntmps61
  go_wp2_with fail
  have hb1 : Below w.heap.size w (w.alloc (.cells #[.int .i64 0, .int .i64 0, .slice none 0 0, .slice none 0 0] 26)) := (by repeat' (first | with_reducible exact Below.refl _ _ | with_reducible assumption | with_reducible refine Below.drew ?_ | with_reducible refine Below.alloc ?_ ?_ _ | with_reducible refine Below.setCell ?_ ?_ _ | (simp; done) | (simp; omega) | omega))
  have rb1 : RB w.heap.size (w.alloc (.cells #[.int .i64 0, .int .i64 0, .slice none 0 0, .slice none 0 0] 26)) := ⟨⟨.int .i64 0, by simp [go_sem]⟩, ⟨.int .i64 0, by simp [go_sem]⟩, ⟨.slice none 0 0, by simp [go_sem]⟩, ⟨.slice none 0 0, by simp [go_sem]⟩, fun o => by simp [go_sem]⟩
  have s1 := hs.below hb1
  have x1 : Within B (B + 1) w (w.alloc (.cells #[.int .i64 0, .int .i64 0, .slice none 0 0, .slice none 0 0] 26)) := Within.of_below hb1 (Nat.le_refl _)
  have z1 : (w.alloc (.cells #[.int .i64 0, .int .i64 0, .slice none 0 0, .slice none 0 0] 26)).heap.size = w.heap.size + 1 := by simp
  clear hb1 hs
  generalize (w.alloc (.cells #[.int .i64 0, .int .i64 0, .slice none 0 0, .slice none 0 0] 26)) = w1 at *
  refine (l1Next_calls zs a cap B (p) 4 w0 w1 hv HZ.out hlen s1 (by omega) (by omega) (by omega) (by omega)).mono ?_
  rintro e w2 ⟨k4, rfl, hk0, hk1, s2, x2⟩
  have hs2 := x2.size
  have rb2 := rb1.within x2 (by omega)
  have x2' := x1.trans x2
  have hb3 : Below w2.heap.size w2 (w2.alloc (.cells #[.int .i64 2, .int .i64 3, .int .i64 4, .int .i64 6] 2)) := (Below.refl _ _).alloc (Nat.le_refl _) _
  have s3 := s2.below hb3
  have x3 := x2'.trans (Within.of_below hb3 (Nat.le_refl _))
  have rb3 := rb2.below hb3
  have hn3 := new_ints (w := w2) (C := #[.int .i64 2, .int .i64 3, .int .i64 4, .int .i64 6]) (t := 2) (k := .i64) (xs := [2, 3, 4, 6]) rfl
  have hs3 := hb3.size
  clear hb3 s1 s2 x1 x2 x2' rb1 rb2
  go_wp2_with fail
  generalize (w2.alloc (.cells #[.int .i64 2, .int .i64 3, .int .i64 4, .int .i64 6] 2)) = w3 at *
  refine (l1Pick_calls zs [2, 3, 4, 6] a cap B w2.heap.size 4 4 (p + 1) w0 w3 hv HZ.out hlen s3 (by omega) (by omega) rfl (by omega) (by omega) (by omega) hn3).mono ?_
  rintro e w4 ⟨wd, rfl, hwd, s4, x4⟩
  have hs4 := x4.size
  have rb4 := rb3.within x4 (by omega)
  have x4' := x3.trans x4
  have hw1 : 2 ≤ wd ∧ wd ≤ 6 := by simp at hwd; omega
  clear s3 x3 x4 rb3 hn3 hwd
  obtain ⟨R, hR⟩ : ∃ R : Nat, 1 + k4 = (R : Int) := ⟨(1 + k4).toNat, by omega⟩
  obtain ⟨W, rfl⟩ : ∃ W : Nat, wd = (W : Int) := ⟨wd.toNat, by omega⟩
  obtain ⟨n, hn⟩ : ∃ n, n = R * W := ⟨_, rfl⟩
  have hn24 : n ≤ 24 := by rw [hn]; exact Nat.le_trans (Nat.mul_le_mul (show R ≤ 4 by omega) (show W ≤ 6 by omega)) (Nat.le_refl _)
  have hnp : 0 < n := by rw [hn]; exact Nat.mul_pos (by omega) (by omega)
  have hmul : (1 + k4) * (W : Int) = (n : Int) := by rw [hR, hn, Int.natCast_mul]
  have HMU := hide hmul
  clear hmul hn hR
  go_wp2_with fail
  refine (l3New_calls (1 + k4) (W : Int) n HMU.out hnp (by omega) w4).mono ?_
  rintro e w5 ⟨bx, cx, rfl, hcx, b1, b2, hro, hb5⟩
  have hs5 := hb5.size
  have s5 := s4.below hb5
  have x5 := x4'.trans (Within.of_below hb5 (Nat.le_refl _))
  have rb5 := rb4.below hb5
  clear s4 x4' rb4
  have D : GD w0 w (w5.alloc (.cells #[.int .i64 (1 + k4), .int .i64 (W : Int), .slice (some ⟨bx, 0, none⟩) n cx, .slice none 0 0] 26)) B w5.heap.size bx n cx (w5.heap.size + 1) (.slice a zs.length cap) (p + 1 + 1) (1 + k4) (W : Int) (.slice none 0 0) [] := by
    have hb6 : Below w5.heap.size w5 (w5.alloc (.cells #[.int .i64 (1 + k4), .int .i64 (W : Int), .slice (some ⟨bx, 0, none⟩) n cx, .slice none 0 0] 26)) := (Below.refl _ _).alloc (Nat.le_refl _) _
    exact ⟨s5.below hb6, x5.trans (Within.of_below hb6 (Nat.le_refl _)), by simp [go_sem], by simp [go_sem], by simp [go_sem], by simp [go_sem], fun o => by simp [go_sem], ⟨_, hro.below hb6 b2⟩, World.ownsRow_nil _ _ _ _, fun k hk => (by cases hk), by simp; omega⟩
  have rb6 := rb5.below ((Below.refl _ _).alloc (Nat.le_refl _) (.cells #[.int .i64 (1 + k4), .int .i64 (W : Int), .slice (some ⟨bx, 0, none⟩) n cx, .slice none 0 0] 26))
  have DD := hide D
  have RR := hide rb6
  clear D rb6 rb5 s5 x5 hro hb5
  obtain ⟨r, hr⟩ : ∃ r, r = 1 + k4 := ⟨_, rfl⟩
  have hrb : 1 ≤ r ∧ r ≤ 4 := by omega
  go_wp2
  generalize (w5.alloc (.cells #[.int .i64 (1 + k4), .int .i64 (W : Int), .slice (some ⟨bx, 0, none⟩) n cx, .slice none 0 0] 26)) = w6 at *
  obtain ⟨T, hT⟩ : ∃ T, T = w5.heap.size := ⟨_, rfl⟩
  rw [← hT] at DD ⊢
  have hTs : T ≠ w.heap.size ∧ w.heap.size < T := by omega
  have hbs : bx ≠ w.heap.size := by omega
  obtain ⟨base, hbase⟩ : ∃ base, base = T + 1 := ⟨_, rfl⟩
  rw [← hbase] at DD
  have hbl : w.heap.size < base := by omega
  rw [← hr] at DD
  clear hbase hT hr
  go_loopw [4] (fun i wr => ∃ (k : Nat) (q : Int), k ≤ n ∧ i = .int .i64 k ∧ p ≤ q ∧ q ≤ p + 2 + 3 * k ∧ Hid (GD w0 w wr B T bx n cx base (.slice a zs.length cap) q r (W : Int) (.slice none 0 0) []) ∧ Hid (RB w.heap.size wr)) (fun i _ => n - (intOf i).toNat)
  case atStart => exact ⟨0, p + 1 + 1, Nat.zero_le _, rfl, by omega, by omega, DD, RR⟩
  case round =>
    obtain ⟨k, q, hk, rfl, hq0, hq1, D, rb⟩ := hrel
    clear DD RR
    have g2 := D.out.g2
    have hlo := D.out.lo
    by_cases hlt : k < n
    · have hltI : (k : Int) < (n : Int) := by omega
      go_wp2_with fail
      refine (l1Chance_calls zs a cap B q 2 w0 wr hv HZ.out hlen D.out.src (by omega) (by omega) (by omega) (by omega)).mono ?_
      rintro e w7 ⟨ch, rfl, s7, x7⟩
      have D7 := hide (D.out.within s7 x7)
      have rb7 := hide (rb.out.within x7 (by omega))
      clear D rb s7 x7 g2
      cases ch with
      | true =>
        have g2 := D7.out.g2
        go_wp2_with fail
        refine wp_region_held_drew (S := (fun w' => w'.cell? ⟨T, 2, none⟩ = some (.slice (some ⟨bx, 0, none⟩) n cx))) (by kernel_rfl) ?_ (fun hHeld => ?_)
        · (try dsimp only); exact g2
        refine wpAnyH_take (i := 0) (oi := ⟨_, _, _, _, _, _⟩) (v := ?_) rfl (by kernel_rfl) (by kernel_rfl) (by kernel_rfl) (fun _ _ _ h => h) (Or.inl ⟨by rfl, ?_⟩) hHeld ?_
        rotate_left
        · (intro w hSw; (try dsimp only at hSw); go_simp; try (with_reducible rfl))
        try simp only [Act.put, List.setIfInBounds_toArray, List.set_cons_zero, List.set_cons_succ]
        refine wpAnyH_take (i := 1) (oi := ⟨_, _, _, _, _, _⟩) (v := ?_) rfl (by kernel_rfl) (by kernel_rfl) (by kernel_rfl) (fun _ _ _ h => h) (Or.inl ⟨by rfl, ?_⟩) hHeld ?_
        rotate_left
        · (intro w hSw; (try dsimp only at hSw); go_simp; try (with_reducible rfl))
        try simp only [Act.put, List.setIfInBounds_toArray, List.set_cons_zero, List.set_cons_succ]
        refine wpAnyH_take (i := 2) (oi := ⟨_, _, _, _, _, _⟩) (v := ?_) rfl (by kernel_rfl) (by kernel_rfl) (by kernel_rfl) (fun _ _ _ h => h) (Or.inl ⟨by rfl, ?_⟩) hHeld ?_
        rotate_left
        · (intro w hSw; (try dsimp only at hSw); go_simp; try (with_reducible rfl))
        try simp only [Act.put, List.setIfInBounds_toArray, List.set_cons_zero, List.set_cons_succ]
        refine wpAnyH_take (i := 3) (oi := ⟨_, _, _, _, _, _⟩) (v := ?_) rfl (by kernel_rfl) (by kernel_rfl) (by kernel_rfl) (fun _ _ _ h => h) (Or.inl ⟨by rfl, ?_⟩) hHeld ?_
        rotate_left
        · (intro w hSw; (try dsimp only at hSw); go_simp; try (with_reducible rfl))
        try simp only [Act.put, List.setIfInBounds_toArray, List.set_cons_zero, List.set_cons_succ]
        refine wpAnyH_ready (rs := [4]) (by kernel_rfl) (by simp) ?_
        refine AllReadyH.cons (o := ⟨_, _, _, _, _, _⟩) rfl (fun K hK => ?_) AllReadyH.nil
        go_simp
        go_at_call 63
        refine (l3DrawCell_calls zs a cap B (q + 1) w0 _ hv HZ.out hlen (D7.out.src.drewN 1) (by omega) (by omega)).mono ?_
        rintro e w8 ⟨c, g, rfl, s8, x8⟩
        have D8 := hide (D7.out.within s8 ((Within.draws (Within.refl _ _ _) 1).trans x8))
        have rb8 := hide (rb7.out.within ((Within.draws (Within.refl _ _ _) 1).trans x8) (by omega))
        clear D7 rb7 s8 x8
        replace g2 := D8.out.g2
        obtain ⟨ff, hff⟩ := D8.out.row
        obtain ⟨⟨k1, k2⟩, f1, f2⟩ := hff k hlt
        rw [Nat.zero_add] at k1 k2 f1 f2
        have k3 : (w8.setCell ⟨bx, k * 2, none⟩ (.int .i64 c)).cell? ⟨bx, k * 2 + 1, none⟩ = some (.int .i64 (ff k).2) := by rw [World.cell?_setCell_other _ _ _ _ (addr_ne (by omega))]; exact k2
        try go_wp2_with fail
        refine hK.out _ _ ?_ ?_
        · (try dsimp only); exact g2
        clear hHeld hK K
        intro hHeld
        try simp only [Act.put, List.setIfInBounds_toArray, List.set_cons_zero, List.set_cons_succ]
        refine wpAnyH_take (i := 5) (oi := ⟨_, _, _, _, _, _⟩) (v := ?_) rfl (by kernel_rfl) (by kernel_rfl) (by kernel_rfl) (fun _ _ _ h => h) (Or.inl ⟨by rfl, ?_⟩) hHeld ?_
        rotate_left
        · (intro w hSw; (try dsimp only at hSw); go_simp; try (with_reducible rfl))
        try simp only [Act.put, List.setIfInBounds_toArray, List.set_cons_zero, List.set_cons_succ]
        refine wpAnyH_ready (rs := [6]) (by kernel_rfl) (by simp) ?_
        refine AllReadyH.cons (o := ⟨_, _, _, _, _, _⟩) rfl (fun K hK => ?_) AllReadyH.nil
        go_simp
        have D9 := hide (D8.out.cell hlt c g)
        have rb9 := hide ((rb8.out.set (c := bx) (o := k * 2) (by omega) (.int .i64 c)).set (c := bx) (o := k * 2 + 1) (by omega) (.int .i64 g))
        generalize ((w8.setCell ⟨bx, k * 2, none⟩ (.int .i64 c)).setCell ⟨bx, k * 2 + 1, none⟩ (.int .i64 g)) = w9 at *
        clear D8 rb8 hff k1 k2 k3 f1 f2
        replace g2 := D9.out.g2
        refine hK.out _ _ ?_ ?_
        · (try dsimp only); exact g2
        clear hHeld hK K
        intro hHeld
        try simp only [Act.put, List.setIfInBounds_toArray, List.set_cons_zero, List.set_cons_succ]
        refine wpAnyH_done (by kernel_rfl) ?_ _
        clear hHeld
        go_wp2
        go_roundw
        case rel => exact ⟨k + 1, q + 1 + 1 + 1, by omega, by go_num, by omega, by omega, D9, rb9⟩
        case measure => simp [intOf]; omega
      | false =>
        go_wp2
        go_roundw
        case rel => exact ⟨k + 1, q + 1, by omega, by go_num, by omega, by omega, D7, rb7⟩
        case measure => simp [intOf]; omega
    · obtain rfl : k = n := by omega
      have hge : ¬ ((k : Int) < (k : Int)) := by omega
      have hq2 : q ≤ p + 74 := by omega
      obtain ⟨wo, hwo⟩ : ∃ wo, wo = wr := ⟨_, rfl⟩
      subst hwo
      have g1 := D.out.g1
      go_wp2_with fail
      refine wp_region_held_drew (S := (fun w' => w'.cell? ⟨T, 1, none⟩ = some (.int .i64 (W : Int)))) (by kernel_rfl) ?_ (fun hHeld => ?_)
      · (try dsimp only); exact g1
      refine wpAnyH_take (i := 0) (oi := ⟨_, _, _, _, _, _⟩) (v := ?_) rfl (by kernel_rfl) (by kernel_rfl) (by kernel_rfl) (fun _ _ _ h => h) (Or.inl ⟨by rfl, ?_⟩) hHeld ?_
      rotate_left
      · (intro w hSw; (try dsimp only at hSw); go_simp; try (with_reducible rfl))
      try simp only [Act.put, List.setIfInBounds_toArray, List.set_cons_zero, List.set_cons_succ]
      refine wpAnyH_take (i := 2) (oi := ⟨_, _, _, _, _, _⟩) (v := ?_) rfl (by kernel_rfl) (by kernel_rfl) (by kernel_rfl) (fun _ _ _ h => h) (Or.inl ⟨by rfl, ?_⟩) hHeld ?_
      rotate_left
      · (intro w hSw; (try dsimp only at hSw); go_simp; try (with_reducible rfl))
      try simp only [Act.put, List.setIfInBounds_toArray, List.set_cons_zero, List.set_cons_succ]
      refine wpAnyH_take (i := 3) (oi := ⟨_, _, _, _, _, _⟩) (v := ?_) rfl (by kernel_rfl) (by kernel_rfl) (by kernel_rfl) (fun _ _ _ h => h) (Or.inl ⟨by rfl, ?_⟩) hHeld ?_
      rotate_left
      · (intro w hSw; (try dsimp only at hSw); go_simp; try (with_reducible rfl))
      try simp only [Act.put, List.setIfInBounds_toArray, List.set_cons_zero, List.set_cons_succ]
      refine wpAnyH_ready (rs := [1]) (by kernel_rfl) (by simp) ?_
      refine AllReadyH.cons (o := ⟨_, _, _, _, _, _⟩) rfl (fun K hK => ?_) AllReadyH.nil
      go_simp
      go_at_call 62
      refine (l1Next_calls zs a cap B (q) 4 w0 _ hv HZ.out hlen (D.out.src.drewN 1) (by omega) (by omega) (by omega) (by omega)).mono ?_
      rintro e w7 ⟨x4, rfl, hx0, hx1, s7, x7⟩
      have D7 := hide (D.out.within s7 ((Within.draws (Within.refl _ _ _) 1).trans x7))
      have rb7 := hide (rb.out.within ((Within.draws (Within.refl _ _ _) 1).trans x7) (by omega))
      clear D rb s7 x7
      replace g1 := D7.out.g1
      obtain ⟨X, rfl⟩ : ∃ X : Nat, x4 = (X : Int) := ⟨x4.toNat, by omega⟩
      obtain ⟨m, hm⟩ : ∃ m, m = X * W := ⟨_, rfl⟩
      have hm18 : m ≤ 18 := by rw [hm]; exact Nat.le_trans (Nat.mul_le_mul (show X ≤ 3 by omega) (show W ≤ 6 by omega)) (Nat.le_refl _)
      have hmw : IntKind.i64.wrap ((X : Int) * (W : Int)) = (m : Int) := by rw [← Int.natCast_mul, ← hm]; exact wrap_small (by omega) (by omega)
      clear hm
      try go_wp2_with fail
      refine hK.out _ _ ?_ ?_
      · (try dsimp only); exact g1
      clear hHeld hK K
      intro hHeld
      try simp only [Act.put, List.setIfInBounds_toArray, List.set_cons_zero, List.set_cons_succ]
      refine wpAnyH_take (i := 4) (oi := ⟨_, _, _, _, _, _⟩) (v := ?_) rfl (by kernel_rfl) (by kernel_rfl) (by kernel_rfl) (fun _ _ _ h => h) (Or.inl ⟨by rfl, ?_⟩) hHeld ?_
      rotate_left
      · (intro w hSw; (try dsimp only at hSw); go_simp; try (with_reducible rfl))
      try simp only [Act.put, List.setIfInBounds_toArray, List.set_cons_zero, List.set_cons_succ]
      refine wpAnyH_take (i := 5) (oi := ⟨_, _, _, _, _, _⟩) (v := ?_) rfl (by kernel_rfl) (by kernel_rfl) (by kernel_rfl) (fun _ _ _ h => h) (Or.inl ⟨by rfl, ?_⟩) hHeld ?_
      rotate_left
      · (intro w hSw; (try dsimp only at hSw); go_simp; try (with_reducible rfl))
      try simp only [Act.put, List.setIfInBounds_toArray, List.set_cons_zero, List.set_cons_succ]
      refine wpAnyH_done (by kernel_rfl) ?_ _
      clear hHeld
      go_wp2
      go_loopw [5] (fun i wr => ∃ (j : Nat) (v : Value) (bs : List (Int × Int)) (q : Int), i = .int .i64 j ∧ bs.length + j ≤ 18 ∧ p ≤ q ∧ q ≤ p + 75 + 2 * bs.length ∧ Hid (GD w0 w wr B T bx k cx base (.slice a zs.length cap) q r (W : Int) v bs) ∧ Hid (RB w.heap.size wr)) (fun i _ => (intOf i).toNat)
      case atStart => exact ⟨m, _, [], q + 1, rfl, by simp; omega, by omega, by simp; omega, D7, rb7⟩
      case round =>
        obtain ⟨j, v, bs, q2, rfl, hjb, hq3, hq4, D, rb⟩ := hrel
        clear D7 rb7
        by_cases hj : 0 < j
        · have hjI : (0 : Int) < (j : Int) := by omega
          have hjs : ((j : Int) - 1) = ((j - 1 : Nat) : Int) := by omega
          have HJS := hide hjs
          clear hjs
          obtain ⟨av, cv, rfl, hcv⟩ := own_room2 D.out.own
          have g3 := D.out.g3
          have fz3 := D.out.fz 3
          have hbD := D.out.lo
          go_wp2_with fail
          refine till_region [7] (S := (fun w' => w'.cell? ⟨T, 3, none⟩ = some (.slice av bs.length cv))) (by kernel_rfl) ?_ (fun hHeld => ?_)
          · (try dsimp only); exact g3
          refine till_take (i := 0) (oi := ⟨_, _, _, _, _, _⟩) (v := ?_) rfl (by kernel_rfl) (by kernel_rfl) (by kernel_rfl) (by kernel_rfl) (fun _ _ _ h => h) (Or.inl ⟨by rfl, ?_⟩) hHeld ?_
          rotate_left
          · (intro w hSw; (try dsimp only at hSw); go_simp; try (with_reducible rfl))
          try simp only [Act.put, List.setIfInBounds_toArray, List.set_cons_zero, List.set_cons_succ]
          refine till_take (i := 1) (oi := ⟨_, _, _, _, _, _⟩) (v := ?_) rfl (by kernel_rfl) (by kernel_rfl) (by kernel_rfl) (by kernel_rfl) (fun _ _ _ h => h) (Or.inl ⟨by rfl, ?_⟩) hHeld ?_
          rotate_left
          · (intro w hSw; (try dsimp only at hSw); go_simp; try (with_reducible rfl))
          try simp only [Act.put, List.setIfInBounds_toArray, List.set_cons_zero, List.set_cons_succ]
          refine till_take (i := 2) (oi := ⟨_, _, _, _, _, _⟩) (v := ?_) rfl (by kernel_rfl) (by kernel_rfl) (by kernel_rfl) (by kernel_rfl) (fun _ _ _ h => h) (Or.inl ⟨by rfl, ?_⟩) hHeld ?_
          rotate_left
          · (intro w hSw; (try dsimp only at hSw); go_simp; try (with_reducible rfl))
          try simp only [Act.put, List.setIfInBounds_toArray, List.set_cons_zero, List.set_cons_succ]
          refine till_ready (rs := [3]) (by kernel_rfl) (by simp) ?_
          refine (EachTill.cons (o := ⟨_, _, _, _, _, _⟩) rfl (fun K hK => ?_) EachTill.nil)
          go_simp
          go_at_call 63
          refine (l3DrawCell_calls zs a cap B (q2) w0 _ hv HZ.out hlen (D.out.src.drewN 1) (by omega) (by omega)).mono ?_
          rintro e w8 ⟨c, g, rfl, s8, x8⟩
          have D8 := hide (D.out.within s8 ((Within.draws (Within.refl _ _ _) 1).trans x8))
          have rb8 := hide (rb.out.within ((Within.draws (Within.refl _ _ _) 1).trans x8) (by omega))
          clear D rb s8 x8
          replace g3 := D8.out.g3
          try go_wp2_with fail
          refine hK.out _ _ ?_ ?_
          · (try dsimp only); exact g3
          clear hHeld hK K
          intro hHeld
          try simp only [Act.put, List.setIfInBounds_toArray, List.set_cons_zero, List.set_cons_succ]
          refine till_ready (rs := [4]) (by kernel_rfl) (by simp) ?_
          refine (EachTill.cons (o := ⟨_, _, _, _, _, _⟩) rfl (fun K hK => ?_) EachTill.nil)
          go_simp
          have hb9 : Below w8.heap.size w8 (w8.alloc (.cells #[.int .i64 c, .int .i64 g] 38)) := (Below.refl _ _).alloc (Nat.le_refl _) _
          have hnew : ∀ j u, (pvs [(c, g)])[j]? = some u → (w8.alloc (.cells #[.int .i64 c, .int .i64 g] 38)).cell? ((⟨w8.heap.size, 0, none⟩ : Addr).add j) = some u := new_row_at rfl rfl
          have D8a := hide (D8.out.below hb9)
          have rb8a := hide (rb8.out.below hb9)
          clear D8 rb8 hb9
          generalize (w8.alloc (.cells #[.int .i64 c, .int .i64 g] 38)) = w8a at *
          replace g3 := D8a.out.g3
          have hlo8 := D8a.out.lo
          refine hK.out _ _ ?_ ?_
          · (try dsimp only); exact g3
          clear hHeld hK K
          intro hHeld
          try simp only [Act.put, List.setIfInBounds_toArray, List.set_cons_zero, List.set_cons_succ]
          refine till_ready (rs := [5]) (by kernel_rfl) (by simp) ?_
          refine (EachTill.cons (o := ⟨_, _, _, _, _, _⟩) rfl (fun K hK => ?_) EachTill.nil)
          refine step_append_grow rfl (.tmp 38) (.tmp 41) 24 rfl base 38 i0 (.agg #[.int .i64 0, .int .i64 0]) 2 16 Try.underlying24 hi hz0 hz1 hz2 rfl (by decide) (.slice av bs.length cv) bs.length (pvs bs) rfl D8a.out.own ⟨w8.heap.size, 0, none⟩ 1 1 (pvs [(c, g)]) rfl rfl hnew (pvs_one _) (by unfold maxLen; omega) (by omega) (by omega) ?_
          intro v9 w9 o9 gr9
          rw [← pvs_append] at o9
          obtain ⟨a9, n9, rfl, hc9⟩ := own_room2 o9
          have K3 := gr9.cellAt g3 (fun e => (D8a.out.ap _ e.symm).2.1 rfl)
          have KF := (gr9.frozen (o := 3) (by omega) (fun e => (D8a.out.ap _ e.symm).2.1 rfl)).trans (D8a.out.fz 3)
          have GR := hide gr9
          have O9 := hide o9
          clear gr9 o9 hnew
          replace g3 := K3
          refine hK.out _ _ ?_ ?_
          · (try dsimp only); exact g3
          clear hHeld hK K
          intro hHeld
          try simp only [Act.put, List.setIfInBounds_toArray, List.set_cons_zero, List.set_cons_succ]
          refine till_take (i := 6) (oi := ⟨_, _, _, _, _, _⟩) (v := ?_) rfl (by kernel_rfl) (by kernel_rfl) (by kernel_rfl) (by kernel_rfl) (fun _ _ _ h => h) (Or.inl ⟨by rfl, ?_⟩) hHeld ?_
          rotate_left
          · (intro w hSw; (try dsimp only at hSw); go_simp; try (with_reducible rfl))
          try simp only [Act.put, List.setIfInBounds_toArray, List.set_cons_zero, List.set_cons_succ]
          refine till_ready (rs := [7]) (by kernel_rfl) (by simp) ?_
          refine (EachTill.last (o := ⟨_, _, _, _, _, _⟩) rfl rfl (fun K hK => ?_) EachTill.nil)
          go_simp
          have D9 := hide (D8a.out.keep (bs' := bs ++ [(c, g)]) GR.out (by rw [List.length_append]; exact O9.out))
          have rb9 := hide ((rb8a.out.grow GR.out (fun e => by have := (D8a.out.own.lt _ e.symm).1; omega)).set (c := T) (o := 3) (by omega) (.slice a9 (bs.length + 1) n9))
          generalize (w9.setCell ⟨T, 3, none⟩ (.slice a9 (bs.length + 1) n9)) = w10 at *
          clear D8a rb8a GR O9 K3 KF g3
          refine hK.out _ _ ?_ ?_
          · (try dsimp only); skip
          clear hHeld hK K
          intro hHeld
          try simp only [Act.put, List.setIfInBounds_toArray, List.set_cons_zero, List.set_cons_succ]
          refine till_done (by kernel_rfl) ?_ _
          clear hHeld
          go_wp2
          go_roundw
          case rel => exact ⟨j - 1, _, bs ++ [(c, g)], q2 + 1 + 1, by first | rfl | go_num | (rw [HJS.out]), by simp; omega, by omega, by simp; omega, D9, rb9⟩
          case measure => simp [intOf]; omega
        · obtain rfl : j = 0 := by omega
          have g0 := D.out.g0
          have g1 := D.out.g1
          have g2 := D.out.g2
          have g3 := D.out.g3
          obtain ⟨av, cv, rfl, hcv⟩ := own_room2 D.out.own
          have hbk : ∀ i, (Value.slice av bs.length cv).ownBlock = some i → i ≠ w.heap.size := fun i hi => by have := (D.out.own.lt i hi).1; omega
          obtain ⟨hr4, hgv⟩ := D.out.give rb.out hbk hbs ⟨hnp, hn24, hcx, by omega⟩
          obtain ⟨u0, c0⟩ := rb.out.c0
          obtain ⟨u1, c1⟩ := rb.out.c1
          obtain ⟨u2, c2⟩ := rb.out.c2
          obtain ⟨u3, c3⟩ := rb.out.c3
          have f0 := rb.out.fz 0
          have f1 := rb.out.fz 1
          have f2 := rb.out.fz 2
          have f3 := rb.out.fz 3
          have HGV := hide hgv
          have HR4 := hide hr4
          have HBK := hide hbk
          clear hgv hr4 hbk
          go_wp2
          have hr4 := HR4.out
          refine bodyPost_ret (v := .agg #[.int .i64 r, .int .i64 (W : Int), .slice (some ⟨bx, 0, none⟩) k cx, .slice av bs.length cv]) (by simp only [results, Try.results61]; simp [go_sem, hr4.1, hr4.2.1, hr4.2.2.1, hr4.2.2.2]) rfl ⟨r, (W : Int), bx, k, cx, _, bs, q2, rfl, by omega, by omega, by omega, HGV.out, hbs, HBK.out⟩
end Go.Proofs.Ytbndncfkkhjkoab
