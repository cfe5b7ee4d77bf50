/-
  Grids that are drawn: l3Bent, walked.
-/
import Derived.Test.YtbndncfkkhjkoabGridDraw2
namespace Go.Proofs.Ytbndncfkkhjkoab
set_option maxRecDepth 20000
open Go.ChangeShapes Go.WideShapes Go.ChangeAt Go.RowKit
set_option linter.unusedVariables false
set_option linter.unusedSimpArgs false
set_option maxRecDepth 20000

theorem GD.setr {w0 w W : World} {B T bx n cx base : Nat} {code : Value} {p r wd : Int} {v : Value} {bs : List (Int × Int)} (h : GD w0 w W B T bx n cx base code p r wd v bs) (x : Int) : GD w0 w (W.setCell ⟨T, 0, none⟩ (.int .i64 x)) B T bx n cx base code p x wd v bs := by
  have l := h.lo
  obtain ⟨f, hf⟩ := h.row
  have t : Touch T 0 1 W (W.setCell ⟨T, 0, none⟩ (.int .i64 x)) := (Touch.refl _ _ _ _).setCell (by omega) (by omega) _
  have sz := t.size
  exact ⟨h.src.setg (by omega) (by omega) _, h.wi.later (t.below (by omega) (by omega)), World.cell?_setCell_same _ _ _ h.g0, t.cellAt h.g1 (by omega), t.cellAt h.g2 (by omega), t.cellAt h.g3 (by omega), fun o => t.frozenAt (by omega) (h.fz o), ⟨f, hf.touch t (by omega)⟩, own_touch h.own t (fun k hk => (h.ap k hk).2.1), h.ap, by omega⟩

set_option maxHeartbeats 2000000 in
theorem l3Bent_calls (zs : List Int) (a : Option Addr) (cap B : Nat) (p : Int) (w0 w : World) (hv : ReadAt .u8 w0 (.slice a zs.length cap) zs) (hz : ∀ z ∈ zs, 0 ≤ z ∧ z ≤ 255) (hlen : zs.length ≤ 1048576) (hs : Src w0 w B (.slice a zs.length cap) p) (hp0 : 0 ≤ p) (hp1 : p ≤ 900000) :
    Calls Try.prog 24 #[.pointer (some ⟨B, 0, none⟩)] w fun e w' => ∃ (r wd : Int) (bx n cx : Nat) (v : Value) (bs : List (Int × Int)) (q : Int), e = .returned (.agg #[.int .i64 r, .int .i64 wd, .slice (some ⟨bx, 0, none⟩) n cx, v]) ∧ True ∧ p ≤ q ∧ q ≤ p + 450 ∧ GV w0 w w' B bx n cx (.slice a zs.length cap) q v bs ∧ bx ≠ w.heap.size ∧ (∀ k, v.ownBlock = some k → k ≠ w.heap.size) := by
  have HZ := hide hz
  have hB := hs.lt
  have hBo := hs.hB
  have hw0 := hs.old.size
  clear hz
  obtain ⟨i0, hi, hz0, hz1, hz2⟩ := info_parts info_cell
  go_enter Try.func24, Try.ntmps24
  go_wp2_with fail
  have hb1 : Below w.heap.size w (w.alloc (.cells #[.int .i64 0, .int .i64 0, .slice none 0 0, .slice none 0 0] 26)) := (by repeat' (first | with_reducible exact Below.refl _ _ | with_reducible assumption | with_reducible refine Below.drew ?_ | with_reducible refine Below.alloc ?_ ?_ _ | with_reducible refine Below.setCell ?_ ?_ _ | (simp; done) | (simp; omega) | omega))
  have rb1 : RB w.heap.size (w.alloc (.cells #[.int .i64 0, .int .i64 0, .slice none 0 0, .slice none 0 0] 26)) := ⟨⟨.int .i64 0, by simp [go_sem]⟩, ⟨.int .i64 0, by simp [go_sem]⟩, ⟨.slice none 0 0, by simp [go_sem]⟩, ⟨.slice none 0 0, by simp [go_sem]⟩, fun o => by simp [go_sem]⟩
  have s1 := hs.below hb1
  have x1 : Within B (B + 1) w (w.alloc (.cells #[.int .i64 0, .int .i64 0, .slice none 0 0, .slice none 0 0] 26)) := Within.of_below hb1 (Nat.le_refl _)
  have z1 : (w.alloc (.cells #[.int .i64 0, .int .i64 0, .slice none 0 0, .slice none 0 0] 26)).heap.size = w.heap.size + 1 := by simp
  clear hb1 hs
  generalize (w.alloc (.cells #[.int .i64 0, .int .i64 0, .slice none 0 0, .slice none 0 0] 26)) = w1 at *
  refine (l3Draw_calls zs a cap B p w0 w1 hv HZ.out hlen s1 hp0 hp1).mono ?_
  rintro e w2 ⟨r, wd, bx, n, cx, v, bs, q, rfl, ⟨hr1, hr2, hw1, hw2, hb18⟩, hq0, hq1, V, _, _⟩
  have vl := V.lo
  have rb2 := rb1.within V.wi (by omega)
  have x2 := x1.trans V.wi
  obtain ⟨av, cv, rfl, hcv⟩ := own_room2 V.own
  have hbs : bx ≠ w.heap.size := by omega
  have D : GD w0 w (w2.alloc (.cells #[.int .i64 r, .int .i64 wd, .slice (some ⟨bx, 0, none⟩) n cx, .slice av bs.length cv] 26)) B w2.heap.size bx n cx (w.heap.size + 1) (.slice a zs.length cap) q r wd (.slice av bs.length cv) bs := by
    have hb6 : Below w2.heap.size w2 (w2.alloc (.cells #[.int .i64 r, .int .i64 wd, .slice (some ⟨bx, 0, none⟩) n cx, .slice av bs.length cv] 26)) := (Below.refl _ _).alloc (Nat.le_refl _) _
    have hsz := V.wi.size
    obtain ⟨f, hf⟩ := V.row
    have ho := V.own
    rw [z1] at ho
    exact ⟨V.src.below hb6, x2.trans (Within.of_below hb6 (Nat.le_refl _)), by simp [go_sem], by simp [go_sem], by simp [go_sem], by simp [go_sem], fun o => by simp [go_sem], ⟨f, hf.below hb6 (by omega)⟩, own_below ho hb6, fun k hk => (by have h1 := V.ap k hk; have h2 := ho.lt k hk; omega), by simp; omega⟩
  have rb6 := rb2.below ((Below.refl _ _).alloc (Nat.le_refl _) (.cells #[.int .i64 r, .int .i64 wd, .slice (some ⟨bx, 0, none⟩) n cx, .slice av bs.length cv] 26))
  have hsz := V.wi.size
  have DD := hide D
  have RR := hide rb6
  have hbl : bs.length ≤ 18 ∨ 18 < bs.length := by omega
  clear D rb6 rb2 x2 V rb1 s1 x1 hbl
  go_wp2_with fail
  generalize (w2.alloc (.cells #[.int .i64 r, .int .i64 wd, .slice (some ⟨bx, 0, none⟩) n cx, .slice av bs.length cv] 26)) = w6 at *
  obtain ⟨T, hT⟩ : ∃ T, T = w2.heap.size := ⟨_, rfl⟩
  rw [← hT] at DD ⊢
  have hTs : T ≠ w.heap.size ∧ w.heap.size < T := by omega
  obtain ⟨base, hbase⟩ : ∃ base, base = w.heap.size + 1 := ⟨_, rfl⟩
  rw [← hbase] at DD
  have hblt : w.heap.size < base := by omega
  clear hbase hT
  refine (l1Next_calls zs a cap B (q) 14 w0 w6 hv HZ.out hlen DD.out.src (by omega) (by omega) (by omega) (by omega)).mono ?_
  rintro e w7 ⟨x, rfl, hx0, hx1, s7, x7⟩
  have D := hide (DD.out.within s7 x7)
  have rb := hide (RR.out.within x7 (by omega))
  have hlo := D.out.lo
  clear DD RR s7 x7
  have hxx : x = 0 ∨ x = 1 ∨ x = 2 ∨ x = 3 ∨ 4 ≤ x := by omega
  rcases hxx with rfl | rfl | rfl | rfl | hx4
  · have g0 := D.out.g0
    have fz0 := D.out.fz 0
    have hb8 : Below w7.heap.size w7 (w7.alloc (.cells #[.int .i64 0, .int .i64 7, .int .i64 2] 2)) := (Below.refl _ _).alloc (Nat.le_refl _) _
    have hn8 := new_ints (w := w7) (C := #[.int .i64 0, .int .i64 7, .int .i64 2]) (t := 2) (k := .i64) (xs := [0, 7, 2]) rfl
    have D8 := hide (D.out.below hb8)
    have rb8 := hide (rb.out.below hb8)
    have hs8 := hb8.size
    clear D rb hb8 g0 fz0
    go_wp2_with fail
    generalize (w7.alloc (.cells #[.int .i64 0, .int .i64 7, .int .i64 2] 2)) = w8 at *
    refine (l1Pick_calls zs [0, 7, 2] a cap B w7.heap.size 3 3 (q + 1) w0 w8 hv HZ.out hlen D8.out.src (by omega) (by omega) rfl (by omega) (by omega) (by omega) hn8).mono ?_
    rintro e w9 ⟨y, rfl, _, s9, x9⟩
    have D9 := hide (D8.out.within s9 x9)
    have rb9 := hide (rb8.out.within x9 (by omega))
    have g0 := D9.out.g0
    have fz0 := D9.out.fz 0
    have D := hide (D9.out.setr y)
    have rb := hide (rb9.out.set (c := T) (o := 0) (by omega) (.int .i64 y))
    clear D8 rb8 D9 rb9 s9 x9 hn8
    have h0 := D.out.g0
    have h1 := D.out.g1
    have h2 := D.out.g2
    have h3 := D.out.g3
    have hbk : ∀ i, (Value.slice av (bs).length cv).ownBlock = some i → i ≠ w.heap.size := fun i hi => by have := (D.out.own.lt i hi).1; omega
    obtain ⟨hr4, hgv⟩ := D.out.give rb.out hbk hbs ⟨by omega, by omega, by omega, by omega⟩
    obtain ⟨u0, c0⟩ := rb.out.c0
    obtain ⟨u1, c1⟩ := rb.out.c1
    obtain ⟨u2, c2⟩ := rb.out.c2
    obtain ⟨u3, c3⟩ := rb.out.c3
    have f0 := rb.out.fz 0
    have f1 := rb.out.fz 1
    have f2 := rb.out.fz 2
    have f3 := rb.out.fz 3
    have HGV := hide hgv
    have HR4 := hide hr4
    have HBK := hide hbk
    clear hgv hr4 hbk
    go_wp2
    have hr4 := HR4.out
    refine bodyPost_ret (v := .agg #[.int .i64 y, .int .i64 wd, .slice (some ⟨bx, 0, none⟩) n cx, .slice av (bs).length cv]) (by simp only [results, Try.results24]; simp [go_sem, hr4.1, hr4.2.1, hr4.2.2.1, hr4.2.2.2]) rfl ⟨y, wd, bx, n, cx, _, bs, _, rfl, trivial, ?_, ?_, HGV.out, hbs, HBK.out⟩
    · omega
    · omega
  · have g2 := D.out.g2
    go_wp2_with fail
    refine wp_region_held_drew (S := (fun w' => w'.cell? ⟨T, 2, none⟩ = some (.slice (some ⟨bx, 0, none⟩) n cx))) (by kernel_rfl) ?_ (fun hHeld => ?_)
    · (try dsimp only); exact g2
    replace D := hide (D.out.below (show Below w7.heap.size w7 w7.drew from below_drewN (Below.refl _ _) 1))
    replace rb := hide (rb.out.below (show Below w7.heap.size w7 w7.drew from below_drewN (Below.refl _ _) 1))
    generalize w7.drew = w7 at *
    refine wpAnyH_take (i := 0) (oi := ⟨_, _, _, _, _, _⟩) (v := ?_) rfl (by kernel_rfl) (by kernel_rfl) (by kernel_rfl) (fun _ _ _ h => h) (Or.inl ⟨by rfl, ?_⟩) hHeld ?_
    rotate_left
    · (intro w hSw; (try dsimp only at hSw); go_simp; try (with_reducible rfl))
    try simp only [Act.put, List.setIfInBounds_toArray, List.set_cons_zero, List.set_cons_succ]
    refine wpAnyH_take (i := 1) (oi := ⟨_, _, _, _, _, _⟩) (v := ?_) rfl (by kernel_rfl) (by kernel_rfl) (by kernel_rfl) (fun _ _ _ h => h) (Or.inl ⟨by rfl, ?_⟩) hHeld ?_
    rotate_left
    · (intro w hSw; (try dsimp only at hSw); go_simp; try (with_reducible rfl))
    try simp only [Act.put, List.setIfInBounds_toArray, List.set_cons_zero, List.set_cons_succ]
    refine wpAnyH_take (i := 2) (oi := ⟨_, _, _, _, _, _⟩) (v := ?_) rfl (by kernel_rfl) (by kernel_rfl) (by kernel_rfl) (fun _ _ _ h => h) (Or.inl ⟨by rfl, ?_⟩) hHeld ?_
    rotate_left
    · (intro w hSw; (try dsimp only at hSw); go_simp; try (with_reducible rfl))
    try simp only [Act.put, List.setIfInBounds_toArray, List.set_cons_zero, List.set_cons_succ]
    refine wpAnyH_take (i := 5) (oi := ⟨_, _, _, _, _, _⟩) (v := ?_) rfl (by kernel_rfl) (by kernel_rfl) (by kernel_rfl) (fun _ _ _ h => h) (Or.inl ⟨by rfl, ?_⟩) hHeld ?_
    rotate_left
    · (intro w hSw; (try dsimp only at hSw); go_simp; try (with_reducible rfl))
    try simp only [Act.put, List.setIfInBounds_toArray, List.set_cons_zero, List.set_cons_succ]
    refine wpAnyH_ready (rs := [3, 6]) (by kernel_rfl) (by simp) ?_
    refine (AllReadyH.cons (o := ⟨_, _, _, _, _, _⟩) rfl (fun K hK => ?_) (AllReadyH.cons (o := ⟨_, _, _, _, _, _⟩) rfl (fun K hK => ?_) AllReadyH.nil))
    · skip
      go_simp
      have hba : Below w7.heap.size w7 (w7.alloc (.cells #[.int .i64 31, .int .i64 127, .int .i64 97] 2)) := (Below.refl _ _).alloc (Nat.le_refl _) _
      have ha := new_ints (w := w7) (C := #[.int .i64 31, .int .i64 127, .int .i64 97]) (t := 2) (k := .i64) (xs := [31, 127, 97]) rfl
      have la : B + 1 ≤ w7.heap.size := by have := D.out.src.lt; omega
      replace D := hide (D.out.below hba)
      replace rb := hide (rb.out.below hba)
      have ma := hba.size
      clear hba
      generalize (w7.alloc (.cells #[.int .i64 31, .int .i64 127, .int .i64 97] 2)) = v1 at *
      obtain ⟨gA, ea⟩ : ∃ g, g = w7.heap.size := ⟨_, rfl⟩
      rw [← ea] at ha la ⊢
      clear ea
      replace g2 := D.out.g2
      refine hK.out _ _ ?_ ?_
      · (try dsimp only); exact g2
      clear hHeld hK K
      intro hHeld
      try simp only [Act.put, List.setIfInBounds_toArray, List.set_cons_zero, List.set_cons_succ]
      refine wpAnyH_ready (rs := [4, 6]) (by kernel_rfl) (by simp) ?_
      refine (AllReadyH.cons (o := ⟨_, _, _, _, _, _⟩) rfl (fun K hK => ?_) (AllReadyH.cons (o := ⟨_, _, _, _, _, _⟩) rfl (fun K hK => ?_) AllReadyH.nil))
      · skip
        go_simp
        go_at_call 25
        refine (l1Pick_calls zs [31, 127, 97] a cap B gA 3 3 (q + 1) w0 v1 hv HZ.out hlen D.out.src (by omega) (by omega) rfl (by omega) (by omega) (.inr la) ha).mono ?_
        rintro e v2 ⟨ya, rfl, _, s9, x9⟩
        replace D := hide (D.out.within s9 x9)
        replace rb := hide (rb.out.within x9 (by omega))
        have kya := x9.size
        clear s9 x9
        replace g2 := D.out.g2
        try go_wp2_with fail
        refine hK.out _ _ ?_ ?_
        · (try dsimp only); exact g2
        clear hHeld hK K
        intro hHeld
        try simp only [Act.put, List.setIfInBounds_toArray, List.set_cons_zero, List.set_cons_succ]
        refine wpAnyH_ready (rs := [6]) (by kernel_rfl) (by simp) ?_
        refine (AllReadyH.cons (o := ⟨_, _, _, _, _, _⟩) rfl (fun K hK => ?_) AllReadyH.nil)
        go_simp
        have hbb : Below v2.heap.size v2 (v2.alloc (.cells #[.int .i64 32, .int .i64 (-1), .int .i64 0] 2)) := (Below.refl _ _).alloc (Nat.le_refl _) _
        have hb := new_ints (w := v2) (C := #[.int .i64 32, .int .i64 (-1), .int .i64 0]) (t := 2) (k := .i64) (xs := [32, -1, 0]) rfl
        have lb : B + 1 ≤ v2.heap.size := by have := D.out.src.lt; omega
        replace D := hide (D.out.below hbb)
        replace rb := hide (rb.out.below hbb)
        have mb := hbb.size
        clear hbb
        generalize (v2.alloc (.cells #[.int .i64 32, .int .i64 (-1), .int .i64 0] 2)) = v3 at *
        obtain ⟨gB, eb⟩ : ∃ g, g = v2.heap.size := ⟨_, rfl⟩
        rw [← eb] at hb lb ⊢
        clear eb
        replace g2 := D.out.g2
        refine hK.out _ _ ?_ ?_
        · (try dsimp only); exact g2
        clear hHeld hK K
        intro hHeld
        try simp only [Act.put, List.setIfInBounds_toArray, List.set_cons_zero, List.set_cons_succ]
        refine wpAnyH_ready (rs := [7]) (by kernel_rfl) (by simp) ?_
        refine (AllReadyH.cons (o := ⟨_, _, _, _, _, _⟩) rfl (fun K hK => ?_) AllReadyH.nil)
        go_simp
        go_at_call 25
        refine (l1Pick_calls zs [32, -1, 0] a cap B gB 3 3 (q + 1 + 1) w0 v3 hv HZ.out hlen D.out.src (by omega) (by omega) rfl (by omega) (by omega) (.inr lb) hb).mono ?_
        rintro e v4 ⟨yb, rfl, _, s9, x9⟩
        replace D := hide (D.out.within s9 x9)
        replace rb := hide (rb.out.within x9 (by omega))
        have kyb := x9.size
        clear s9 x9
        replace g2 := D.out.g2
        try go_wp2_with fail
        refine hK.out _ _ ?_ ?_
        · (try dsimp only); exact g2
        clear hHeld hK K
        intro hHeld
        try simp only [Act.put, List.setIfInBounds_toArray, List.set_cons_zero, List.set_cons_succ]
        refine wpAnyH_take (i := 8) (oi := ⟨_, _, _, _, _, _⟩) (v := ?_) rfl (by kernel_rfl) (by kernel_rfl) (by kernel_rfl) (fun _ _ _ h => h) (Or.inl ⟨by rfl, ?_⟩) hHeld ?_
        rotate_left
        · (intro w hSw; (try dsimp only at hSw); go_simp; try (with_reducible rfl))
        try simp only [Act.put, List.setIfInBounds_toArray, List.set_cons_zero, List.set_cons_succ]
        refine wpAnyH_take (i := 9) (oi := ⟨_, _, _, _, _, _⟩) (v := ?_) rfl (by kernel_rfl) (by kernel_rfl) (by kernel_rfl) (fun _ _ _ h => h) (Or.inl ⟨by rfl, ?_⟩) hHeld ?_
        rotate_left
        · (intro w hSw; (try dsimp only at hSw); go_simp; try (with_reducible rfl))
        try simp only [Act.put, List.setIfInBounds_toArray, List.set_cons_zero, List.set_cons_succ]
        refine wpAnyH_ready (rs := [10]) (by kernel_rfl) (by simp) ?_
        refine (AllReadyH.cons (o := ⟨_, _, _, _, _, _⟩) rfl (fun K hK => ?_) AllReadyH.nil)
        obtain ⟨ff, hff⟩ := D.out.row
        obtain ⟨⟨t1, t2⟩, y1, y2⟩ := hff 0 vl.2.2.2.2.1
        rw [Nat.zero_mul, Nat.zero_add] at t1 t2 y1 y2
        have t3 : (v4.setCell ⟨bx, 0, none⟩ (.int .i64 ya)).cell? ⟨bx, 1, none⟩ = some (.int .i64 (ff 0).2) := by rw [World.cell?_setCell_other _ _ _ _ (addr_ne (by omega))]; exact t2
        go_simp
        have D9 := hide (D.out.cell (i := 0) vl.2.2.2.2.1 ya yb)
        have rb9 := hide ((rb.out.set (c := bx) (o := 0) (by omega) (.int .i64 ya)).set (c := bx) (o := 1) (by omega) (.int .i64 yb))
        rw [Nat.zero_mul, Nat.zero_add] at D9
        generalize ((v4.setCell ⟨bx, 0, none⟩ (.int .i64 ya)).setCell ⟨bx, 1, none⟩ (.int .i64 yb)) = wz at *
        replace g2 := D9.out.g2
        clear D rb hff t1 t2 t3 y1 y2
        have D := D9
        have rb := rb9
        clear D9 rb9
        refine hK.out _ _ ?_ ?_
        · (try dsimp only); exact g2
        clear hHeld hK K
        intro hHeld
        try simp only [Act.put, List.setIfInBounds_toArray, List.set_cons_zero, List.set_cons_succ]
        refine wpAnyH_done (by kernel_rfl) ?_ _
        clear hHeld
        have g0 := D.out.g0
        have g1 := D.out.g1
        have g2 := D.out.g2
        have g3 := D.out.g3
        have hbk : ∀ i, (Value.slice av (bs).length cv).ownBlock = some i → i ≠ w.heap.size := fun i hi => by have := (D.out.own.lt i hi).1; omega
        obtain ⟨hr4, hgv⟩ := D.out.give rb.out hbk hbs ⟨by omega, by omega, by omega, by omega⟩
        obtain ⟨u0, c0⟩ := rb.out.c0
        obtain ⟨u1, c1⟩ := rb.out.c1
        obtain ⟨u2, c2⟩ := rb.out.c2
        obtain ⟨u3, c3⟩ := rb.out.c3
        have f0 := rb.out.fz 0
        have f1 := rb.out.fz 1
        have f2 := rb.out.fz 2
        have f3 := rb.out.fz 3
        have HGV := hide hgv
        have HR4 := hide hr4
        have HBK := hide hbk
        clear hgv hr4 hbk
        go_wp2
        have hr4 := HR4.out
        refine bodyPost_ret (v := .agg #[.int .i64 r, .int .i64 wd, .slice (some ⟨bx, 0, none⟩) n cx, .slice av (bs).length cv]) (by simp only [results, Try.results24]; simp [go_sem, hr4.1, hr4.2.1, hr4.2.2.1, hr4.2.2.2]) rfl ⟨r, wd, bx, n, cx, _, bs, _, rfl, trivial, ?_, ?_, HGV.out, hbs, HBK.out⟩
        · omega
        · omega
      · skip
        go_simp
        have hbb : Below v1.heap.size v1 (v1.alloc (.cells #[.int .i64 32, .int .i64 (-1), .int .i64 0] 2)) := (Below.refl _ _).alloc (Nat.le_refl _) _
        have hb := new_ints (w := v1) (C := #[.int .i64 32, .int .i64 (-1), .int .i64 0]) (t := 2) (k := .i64) (xs := [32, -1, 0]) rfl
        have lb : B + 1 ≤ v1.heap.size := by have := D.out.src.lt; omega
        replace D := hide (D.out.below hbb)
        replace rb := hide (rb.out.below hbb)
        replace ha : ∀ i, i < ([31, 127, 97] : List Int).length → _ := fun i hi => cellb hbb (ha i hi)
        have mb := hbb.size
        clear hbb
        generalize (v1.alloc (.cells #[.int .i64 32, .int .i64 (-1), .int .i64 0] 2)) = v2 at *
        obtain ⟨gB, eb⟩ : ∃ g, g = v1.heap.size := ⟨_, rfl⟩
        rw [← eb] at hb lb ⊢
        clear eb
        replace g2 := D.out.g2
        refine hK.out _ _ ?_ ?_
        · (try dsimp only); exact g2
        clear hHeld hK K
        intro hHeld
        try simp only [Act.put, List.setIfInBounds_toArray, List.set_cons_zero, List.set_cons_succ]
        refine wpAnyH_ready (rs := [4]) (by kernel_rfl) (by simp) ?_
        refine (AllReadyH.cons (o := ⟨_, _, _, _, _, _⟩) rfl (fun K hK => ?_) AllReadyH.nil)
        go_simp
        go_at_call 25
        refine (l1Pick_calls zs [31, 127, 97] a cap B gA 3 3 (q + 1) w0 v2 hv HZ.out hlen D.out.src (by omega) (by omega) rfl (by omega) (by omega) (.inr la) ha).mono ?_
        rintro e v3 ⟨ya, rfl, _, s9, x9⟩
        replace D := hide (D.out.within s9 x9)
        replace rb := hide (rb.out.within x9 (by omega))
        replace hb : ∀ i, i < ([32, -1, 0] : List Int).length → _ := fun i hi => x9.cellg (.inr lb) (hb i hi)
        have kya := x9.size
        clear s9 x9
        replace g2 := D.out.g2
        try go_wp2_with fail
        refine hK.out _ _ ?_ ?_
        · (try dsimp only); exact g2
        clear hHeld hK K
        intro hHeld
        try simp only [Act.put, List.setIfInBounds_toArray, List.set_cons_zero, List.set_cons_succ]
        refine wpAnyH_ready (rs := [7]) (by kernel_rfl) (by simp) ?_
        refine (AllReadyH.cons (o := ⟨_, _, _, _, _, _⟩) rfl (fun K hK => ?_) AllReadyH.nil)
        go_simp
        go_at_call 25
        refine (l1Pick_calls zs [32, -1, 0] a cap B gB 3 3 (q + 1 + 1) w0 v3 hv HZ.out hlen D.out.src (by omega) (by omega) rfl (by omega) (by omega) (.inr lb) hb).mono ?_
        rintro e v4 ⟨yb, rfl, _, s9, x9⟩
        replace D := hide (D.out.within s9 x9)
        replace rb := hide (rb.out.within x9 (by omega))
        have kyb := x9.size
        clear s9 x9
        replace g2 := D.out.g2
        try go_wp2_with fail
        refine hK.out _ _ ?_ ?_
        · (try dsimp only); exact g2
        clear hHeld hK K
        intro hHeld
        try simp only [Act.put, List.setIfInBounds_toArray, List.set_cons_zero, List.set_cons_succ]
        refine wpAnyH_take (i := 8) (oi := ⟨_, _, _, _, _, _⟩) (v := ?_) rfl (by kernel_rfl) (by kernel_rfl) (by kernel_rfl) (fun _ _ _ h => h) (Or.inl ⟨by rfl, ?_⟩) hHeld ?_
        rotate_left
        · (intro w hSw; (try dsimp only at hSw); go_simp; try (with_reducible rfl))
        try simp only [Act.put, List.setIfInBounds_toArray, List.set_cons_zero, List.set_cons_succ]
        refine wpAnyH_take (i := 9) (oi := ⟨_, _, _, _, _, _⟩) (v := ?_) rfl (by kernel_rfl) (by kernel_rfl) (by kernel_rfl) (fun _ _ _ h => h) (Or.inl ⟨by rfl, ?_⟩) hHeld ?_
        rotate_left
        · (intro w hSw; (try dsimp only at hSw); go_simp; try (with_reducible rfl))
        try simp only [Act.put, List.setIfInBounds_toArray, List.set_cons_zero, List.set_cons_succ]
        refine wpAnyH_ready (rs := [10]) (by kernel_rfl) (by simp) ?_
        refine (AllReadyH.cons (o := ⟨_, _, _, _, _, _⟩) rfl (fun K hK => ?_) AllReadyH.nil)
        obtain ⟨ff, hff⟩ := D.out.row
        obtain ⟨⟨t1, t2⟩, y1, y2⟩ := hff 0 vl.2.2.2.2.1
        rw [Nat.zero_mul, Nat.zero_add] at t1 t2 y1 y2
        have t3 : (v4.setCell ⟨bx, 0, none⟩ (.int .i64 ya)).cell? ⟨bx, 1, none⟩ = some (.int .i64 (ff 0).2) := by rw [World.cell?_setCell_other _ _ _ _ (addr_ne (by omega))]; exact t2
        go_simp
        have D9 := hide (D.out.cell (i := 0) vl.2.2.2.2.1 ya yb)
        have rb9 := hide ((rb.out.set (c := bx) (o := 0) (by omega) (.int .i64 ya)).set (c := bx) (o := 1) (by omega) (.int .i64 yb))
        rw [Nat.zero_mul, Nat.zero_add] at D9
        generalize ((v4.setCell ⟨bx, 0, none⟩ (.int .i64 ya)).setCell ⟨bx, 1, none⟩ (.int .i64 yb)) = wz at *
        replace g2 := D9.out.g2
        clear D rb hff t1 t2 t3 y1 y2
        have D := D9
        have rb := rb9
        clear D9 rb9
        refine hK.out _ _ ?_ ?_
        · (try dsimp only); exact g2
        clear hHeld hK K
        intro hHeld
        try simp only [Act.put, List.setIfInBounds_toArray, List.set_cons_zero, List.set_cons_succ]
        refine wpAnyH_done (by kernel_rfl) ?_ _
        clear hHeld
        have g0 := D.out.g0
        have g1 := D.out.g1
        have g2 := D.out.g2
        have g3 := D.out.g3
        have hbk : ∀ i, (Value.slice av (bs).length cv).ownBlock = some i → i ≠ w.heap.size := fun i hi => by have := (D.out.own.lt i hi).1; omega
        obtain ⟨hr4, hgv⟩ := D.out.give rb.out hbk hbs ⟨by omega, by omega, by omega, by omega⟩
        obtain ⟨u0, c0⟩ := rb.out.c0
        obtain ⟨u1, c1⟩ := rb.out.c1
        obtain ⟨u2, c2⟩ := rb.out.c2
        obtain ⟨u3, c3⟩ := rb.out.c3
        have f0 := rb.out.fz 0
        have f1 := rb.out.fz 1
        have f2 := rb.out.fz 2
        have f3 := rb.out.fz 3
        have HGV := hide hgv
        have HR4 := hide hr4
        have HBK := hide hbk
        clear hgv hr4 hbk
        go_wp2
        have hr4 := HR4.out
        refine bodyPost_ret (v := .agg #[.int .i64 r, .int .i64 wd, .slice (some ⟨bx, 0, none⟩) n cx, .slice av (bs).length cv]) (by simp only [results, Try.results24]; simp [go_sem, hr4.1, hr4.2.1, hr4.2.2.1, hr4.2.2.2]) rfl ⟨r, wd, bx, n, cx, _, bs, _, rfl, trivial, ?_, ?_, HGV.out, hbs, HBK.out⟩
        · omega
        · omega
    · skip
      go_simp
      have hbb : Below w7.heap.size w7 (w7.alloc (.cells #[.int .i64 32, .int .i64 (-1), .int .i64 0] 2)) := (Below.refl _ _).alloc (Nat.le_refl _) _
      have hb := new_ints (w := w7) (C := #[.int .i64 32, .int .i64 (-1), .int .i64 0]) (t := 2) (k := .i64) (xs := [32, -1, 0]) rfl
      have lb : B + 1 ≤ w7.heap.size := by have := D.out.src.lt; omega
      replace D := hide (D.out.below hbb)
      replace rb := hide (rb.out.below hbb)
      have mb := hbb.size
      clear hbb
      generalize (w7.alloc (.cells #[.int .i64 32, .int .i64 (-1), .int .i64 0] 2)) = v1 at *
      obtain ⟨gB, eb⟩ : ∃ g, g = w7.heap.size := ⟨_, rfl⟩
      rw [← eb] at hb lb ⊢
      clear eb
      replace g2 := D.out.g2
      refine hK.out _ _ ?_ ?_
      · (try dsimp only); exact g2
      clear hHeld hK K
      intro hHeld
      try simp only [Act.put, List.setIfInBounds_toArray, List.set_cons_zero, List.set_cons_succ]
      refine wpAnyH_ready (rs := [3]) (by kernel_rfl) (by simp) ?_
      refine (AllReadyH.cons (o := ⟨_, _, _, _, _, _⟩) rfl (fun K hK => ?_) AllReadyH.nil)
      go_simp
      have hba : Below v1.heap.size v1 (v1.alloc (.cells #[.int .i64 31, .int .i64 127, .int .i64 97] 2)) := (Below.refl _ _).alloc (Nat.le_refl _) _
      have ha := new_ints (w := v1) (C := #[.int .i64 31, .int .i64 127, .int .i64 97]) (t := 2) (k := .i64) (xs := [31, 127, 97]) rfl
      have la : B + 1 ≤ v1.heap.size := by have := D.out.src.lt; omega
      replace D := hide (D.out.below hba)
      replace rb := hide (rb.out.below hba)
      replace hb : ∀ i, i < ([32, -1, 0] : List Int).length → _ := fun i hi => cellb hba (hb i hi)
      have ma := hba.size
      clear hba
      generalize (v1.alloc (.cells #[.int .i64 31, .int .i64 127, .int .i64 97] 2)) = v2 at *
      obtain ⟨gA, ea⟩ : ∃ g, g = v1.heap.size := ⟨_, rfl⟩
      rw [← ea] at ha la ⊢
      clear ea
      replace g2 := D.out.g2
      refine hK.out _ _ ?_ ?_
      · (try dsimp only); exact g2
      clear hHeld hK K
      intro hHeld
      try simp only [Act.put, List.setIfInBounds_toArray, List.set_cons_zero, List.set_cons_succ]
      refine wpAnyH_ready (rs := [4]) (by kernel_rfl) (by simp) ?_
      refine (AllReadyH.cons (o := ⟨_, _, _, _, _, _⟩) rfl (fun K hK => ?_) AllReadyH.nil)
      go_simp
      go_at_call 25
      refine (l1Pick_calls zs [31, 127, 97] a cap B gA 3 3 (q + 1) w0 v2 hv HZ.out hlen D.out.src (by omega) (by omega) rfl (by omega) (by omega) (.inr la) ha).mono ?_
      rintro e v3 ⟨ya, rfl, _, s9, x9⟩
      replace D := hide (D.out.within s9 x9)
      replace rb := hide (rb.out.within x9 (by omega))
      replace hb : ∀ i, i < ([32, -1, 0] : List Int).length → _ := fun i hi => x9.cellg (.inr lb) (hb i hi)
      have kya := x9.size
      clear s9 x9
      replace g2 := D.out.g2
      try go_wp2_with fail
      refine hK.out _ _ ?_ ?_
      · (try dsimp only); exact g2
      clear hHeld hK K
      intro hHeld
      try simp only [Act.put, List.setIfInBounds_toArray, List.set_cons_zero, List.set_cons_succ]
      refine wpAnyH_ready (rs := [7]) (by kernel_rfl) (by simp) ?_
      refine (AllReadyH.cons (o := ⟨_, _, _, _, _, _⟩) rfl (fun K hK => ?_) AllReadyH.nil)
      go_simp
      go_at_call 25
      refine (l1Pick_calls zs [32, -1, 0] a cap B gB 3 3 (q + 1 + 1) w0 v3 hv HZ.out hlen D.out.src (by omega) (by omega) rfl (by omega) (by omega) (.inr lb) hb).mono ?_
      rintro e v4 ⟨yb, rfl, _, s9, x9⟩
      replace D := hide (D.out.within s9 x9)
      replace rb := hide (rb.out.within x9 (by omega))
      have kyb := x9.size
      clear s9 x9
      replace g2 := D.out.g2
      try go_wp2_with fail
      refine hK.out _ _ ?_ ?_
      · (try dsimp only); exact g2
      clear hHeld hK K
      intro hHeld
      try simp only [Act.put, List.setIfInBounds_toArray, List.set_cons_zero, List.set_cons_succ]
      refine wpAnyH_take (i := 8) (oi := ⟨_, _, _, _, _, _⟩) (v := ?_) rfl (by kernel_rfl) (by kernel_rfl) (by kernel_rfl) (fun _ _ _ h => h) (Or.inl ⟨by rfl, ?_⟩) hHeld ?_
      rotate_left
      · (intro w hSw; (try dsimp only at hSw); go_simp; try (with_reducible rfl))
      try simp only [Act.put, List.setIfInBounds_toArray, List.set_cons_zero, List.set_cons_succ]
      refine wpAnyH_take (i := 9) (oi := ⟨_, _, _, _, _, _⟩) (v := ?_) rfl (by kernel_rfl) (by kernel_rfl) (by kernel_rfl) (fun _ _ _ h => h) (Or.inl ⟨by rfl, ?_⟩) hHeld ?_
      rotate_left
      · (intro w hSw; (try dsimp only at hSw); go_simp; try (with_reducible rfl))
      try simp only [Act.put, List.setIfInBounds_toArray, List.set_cons_zero, List.set_cons_succ]
      refine wpAnyH_ready (rs := [10]) (by kernel_rfl) (by simp) ?_
      refine (AllReadyH.cons (o := ⟨_, _, _, _, _, _⟩) rfl (fun K hK => ?_) AllReadyH.nil)
      obtain ⟨ff, hff⟩ := D.out.row
      obtain ⟨⟨t1, t2⟩, y1, y2⟩ := hff 0 vl.2.2.2.2.1
      rw [Nat.zero_mul, Nat.zero_add] at t1 t2 y1 y2
      have t3 : (v4.setCell ⟨bx, 0, none⟩ (.int .i64 ya)).cell? ⟨bx, 1, none⟩ = some (.int .i64 (ff 0).2) := by rw [World.cell?_setCell_other _ _ _ _ (addr_ne (by omega))]; exact t2
      go_simp
      have D9 := hide (D.out.cell (i := 0) vl.2.2.2.2.1 ya yb)
      have rb9 := hide ((rb.out.set (c := bx) (o := 0) (by omega) (.int .i64 ya)).set (c := bx) (o := 1) (by omega) (.int .i64 yb))
      rw [Nat.zero_mul, Nat.zero_add] at D9
      generalize ((v4.setCell ⟨bx, 0, none⟩ (.int .i64 ya)).setCell ⟨bx, 1, none⟩ (.int .i64 yb)) = wz at *
      replace g2 := D9.out.g2
      clear D rb hff t1 t2 t3 y1 y2
      have D := D9
      have rb := rb9
      clear D9 rb9
      refine hK.out _ _ ?_ ?_
      · (try dsimp only); exact g2
      clear hHeld hK K
      intro hHeld
      try simp only [Act.put, List.setIfInBounds_toArray, List.set_cons_zero, List.set_cons_succ]
      refine wpAnyH_done (by kernel_rfl) ?_ _
      clear hHeld
      have g0 := D.out.g0
      have g1 := D.out.g1
      have g2 := D.out.g2
      have g3 := D.out.g3
      have hbk : ∀ i, (Value.slice av (bs).length cv).ownBlock = some i → i ≠ w.heap.size := fun i hi => by have := (D.out.own.lt i hi).1; omega
      obtain ⟨hr4, hgv⟩ := D.out.give rb.out hbk hbs ⟨by omega, by omega, by omega, by omega⟩
      obtain ⟨u0, c0⟩ := rb.out.c0
      obtain ⟨u1, c1⟩ := rb.out.c1
      obtain ⟨u2, c2⟩ := rb.out.c2
      obtain ⟨u3, c3⟩ := rb.out.c3
      have f0 := rb.out.fz 0
      have f1 := rb.out.fz 1
      have f2 := rb.out.fz 2
      have f3 := rb.out.fz 3
      have HGV := hide hgv
      have HR4 := hide hr4
      have HBK := hide hbk
      clear hgv hr4 hbk
      go_wp2
      have hr4 := HR4.out
      refine bodyPost_ret (v := .agg #[.int .i64 r, .int .i64 wd, .slice (some ⟨bx, 0, none⟩) n cx, .slice av (bs).length cv]) (by simp only [results, Try.results24]; simp [go_sem, hr4.1, hr4.2.1, hr4.2.2.1, hr4.2.2.2]) rfl ⟨r, wd, bx, n, cx, _, bs, _, rfl, trivial, ?_, ?_, HGV.out, hbs, HBK.out⟩
      · omega
      · omega
  · have g3 := D.out.g3
    have fz3 := D.out.fz 3
    have hbD := D.out.lo
    go_wp2_with fail
    refine till_region [7] (S := (fun w' => w'.cell? ⟨T, 3, none⟩ = some (.slice av bs.length cv))) (by kernel_rfl) ?_ (fun hHeld => ?_)
    · (try dsimp only); exact g3
    refine till_take (i := 0) (oi := ⟨_, _, _, _, _, _⟩) (v := ?_) rfl (by kernel_rfl) (by kernel_rfl) (by kernel_rfl) (by kernel_rfl) (fun _ _ _ h => h) (Or.inl ⟨by rfl, ?_⟩) hHeld ?_
    rotate_left
    · (intro w hSw; (try dsimp only at hSw); go_simp; try (with_reducible rfl))
    try simp only [Act.put, List.setIfInBounds_toArray, List.set_cons_zero, List.set_cons_succ]
    refine till_take (i := 1) (oi := ⟨_, _, _, _, _, _⟩) (v := ?_) rfl (by kernel_rfl) (by kernel_rfl) (by kernel_rfl) (by kernel_rfl) (fun _ _ _ h => h) (Or.inl ⟨by rfl, ?_⟩) hHeld ?_
    rotate_left
    · (intro w hSw; (try dsimp only at hSw); go_simp; try (with_reducible rfl))
    try simp only [Act.put, List.setIfInBounds_toArray, List.set_cons_zero, List.set_cons_succ]
    refine till_take (i := 2) (oi := ⟨_, _, _, _, _, _⟩) (v := ?_) rfl (by kernel_rfl) (by kernel_rfl) (by kernel_rfl) (by kernel_rfl) (fun _ _ _ h => h) (Or.inl ⟨by rfl, ?_⟩) hHeld ?_
    rotate_left
    · (intro w hSw; (try dsimp only at hSw); go_simp; try (with_reducible rfl))
    try simp only [Act.put, List.setIfInBounds_toArray, List.set_cons_zero, List.set_cons_succ]
    refine till_ready (rs := [3]) (by kernel_rfl) (by simp) ?_
    refine (EachTill.cons (o := ⟨_, _, _, _, _, _⟩) rfl (fun K hK => ?_) EachTill.nil)
    go_simp
    go_at_call 63
    refine (l3DrawCell_calls zs a cap B ((q + 1)) w0 _ hv HZ.out hlen (D.out.src.drewN 1) (by omega) (by omega)).mono ?_
    rintro e w8 ⟨c, g, rfl, s8, x8⟩
    have D8 := hide (D.out.within s8 ((Within.draws (Within.refl _ _ _) 1).trans x8))
    have rb8 := hide (rb.out.within ((Within.draws (Within.refl _ _ _) 1).trans x8) (by omega))
    clear D rb s8 x8
    replace g3 := D8.out.g3
    try go_wp2_with fail
    refine hK.out _ _ ?_ ?_
    · (try dsimp only); exact g3
    clear hHeld hK K
    intro hHeld
    try simp only [Act.put, List.setIfInBounds_toArray, List.set_cons_zero, List.set_cons_succ]
    refine till_ready (rs := [4]) (by kernel_rfl) (by simp) ?_
    refine (EachTill.cons (o := ⟨_, _, _, _, _, _⟩) rfl (fun K hK => ?_) EachTill.nil)
    go_simp
    have hb9 : Below w8.heap.size w8 (w8.alloc (.cells #[.int .i64 c, .int .i64 g] 38)) := (Below.refl _ _).alloc (Nat.le_refl _) _
    have hnew : ∀ j u, (pvs [(c, g)])[j]? = some u → (w8.alloc (.cells #[.int .i64 c, .int .i64 g] 38)).cell? ((⟨w8.heap.size, 0, none⟩ : Addr).add j) = some u := new_row_at rfl rfl
    have D8a := hide (D8.out.below hb9)
    have rb8a := hide (rb8.out.below hb9)
    clear D8 rb8 hb9
    generalize (w8.alloc (.cells #[.int .i64 c, .int .i64 g] 38)) = w8a at *
    replace g3 := D8a.out.g3
    have hlo8 := D8a.out.lo
    refine hK.out _ _ ?_ ?_
    · (try dsimp only); exact g3
    clear hHeld hK K
    intro hHeld
    try simp only [Act.put, List.setIfInBounds_toArray, List.set_cons_zero, List.set_cons_succ]
    refine till_ready (rs := [5]) (by kernel_rfl) (by simp) ?_
    refine (EachTill.cons (o := ⟨_, _, _, _, _, _⟩) rfl (fun K hK => ?_) EachTill.nil)
    refine step_append_grow rfl (.tmp 29) (.tmp 32) 24 rfl base 38 i0 (.agg #[.int .i64 0, .int .i64 0]) 2 16 Try.underlying24 hi hz0 hz1 hz2 rfl (by decide) (.slice av bs.length cv) bs.length (pvs bs) rfl D8a.out.own ⟨w8.heap.size, 0, none⟩ 1 1 (pvs [(c, g)]) rfl rfl hnew (pvs_one _) (by unfold maxLen; omega) (by omega) (by omega) ?_
    intro v9 w9 o9 gr9
    rw [← pvs_append] at o9
    obtain ⟨a9, n9, rfl, hc9⟩ := own_room2 o9
    have K3 := gr9.cellAt g3 (fun e => (D8a.out.ap _ e.symm).2.1 rfl)
    have KF := (gr9.frozen (o := 3) (by omega) (fun e => (D8a.out.ap _ e.symm).2.1 rfl)).trans (D8a.out.fz 3)
    have GR := hide gr9
    have O9 := hide o9
    clear gr9 o9 hnew
    replace g3 := K3
    refine hK.out _ _ ?_ ?_
    · (try dsimp only); exact g3
    clear hHeld hK K
    intro hHeld
    try simp only [Act.put, List.setIfInBounds_toArray, List.set_cons_zero, List.set_cons_succ]
    refine till_take (i := 6) (oi := ⟨_, _, _, _, _, _⟩) (v := ?_) rfl (by kernel_rfl) (by kernel_rfl) (by kernel_rfl) (by kernel_rfl) (fun _ _ _ h => h) (Or.inl ⟨by rfl, ?_⟩) hHeld ?_
    rotate_left
    · (intro w hSw; (try dsimp only at hSw); go_simp; try (with_reducible rfl))
    try simp only [Act.put, List.setIfInBounds_toArray, List.set_cons_zero, List.set_cons_succ]
    refine till_ready (rs := [7]) (by kernel_rfl) (by simp) ?_
    refine (EachTill.last (o := ⟨_, _, _, _, _, _⟩) rfl rfl (fun K hK => ?_) EachTill.nil)
    go_simp
    have D9 := hide (D8a.out.keep (bs' := bs ++ [(c, g)]) GR.out (by rw [List.length_append]; exact O9.out))
    have rb9 := hide ((rb8a.out.grow GR.out (fun e => by have := (D8a.out.own.lt _ e.symm).1; omega)).set (c := T) (o := 3) (by omega) (.slice a9 (bs.length + 1) n9))
    generalize (w9.setCell ⟨T, 3, none⟩ (.slice a9 (bs.length + 1) n9)) = w10 at *
    clear D8a rb8a GR O9 K3 KF g3
    refine hK.out _ _ ?_ ?_
    · (try dsimp only); skip
    clear hHeld hK K
    intro hHeld
    try simp only [Act.put, List.setIfInBounds_toArray, List.set_cons_zero, List.set_cons_succ]
    refine till_done (by kernel_rfl) ?_ _
    clear hHeld
    have D := D9
    have rb := rb9
    clear D9 rb9
    have g0 := D.out.g0
    have g1 := D.out.g1
    have g2 := D.out.g2
    have g3 := D.out.g3
    obtain ⟨av, cv, hav⟩ : ∃ av cv, (Value.slice a9 (bs.length + 1) n9) = .slice av (bs.length + 1) cv := ⟨_, _, rfl⟩
    have hbk : ∀ i, (Value.slice a9 (bs.length + 1) n9).ownBlock = some i → i ≠ w.heap.size := fun i hi => by have := (D.out.own.lt i hi).1; omega
    obtain ⟨hr4, hgv⟩ := D.out.give rb.out hbk hbs ⟨by omega, by omega, by omega, by (simp; omega)⟩
    obtain ⟨u0, c0⟩ := rb.out.c0
    obtain ⟨u1, c1⟩ := rb.out.c1
    obtain ⟨u2, c2⟩ := rb.out.c2
    obtain ⟨u3, c3⟩ := rb.out.c3
    have f0 := rb.out.fz 0
    have f1 := rb.out.fz 1
    have f2 := rb.out.fz 2
    have f3 := rb.out.fz 3
    have HGV := hide hgv
    have HR4 := hide hr4
    have HBK := hide hbk
    clear hgv hr4 hbk
    go_wp2
    have hr4 := HR4.out
    refine bodyPost_ret (v := .agg #[.int .i64 r, .int .i64 wd, .slice (some ⟨bx, 0, none⟩) n cx, .slice a9 (bs.length + 1) n9]) (by simp only [results, Try.results24]; simp [go_sem, hr4.1, hr4.2.1, hr4.2.2.1, hr4.2.2.2]) rfl ⟨r, wd, bx, n, cx, _, bs ++ [(c, g)], _, rfl, trivial, ?_, ?_, HGV.out, hbs, HBK.out⟩
    · omega
    · omega
  · obtain ⟨W, rfl⟩ : ∃ W : Nat, wd = (W : Int) := ⟨wd.toNat, by omega⟩
    have g1 := D.out.g1
    have g3 := D.out.g3
    have fz3 := D.out.fz 3
    have h6 : 6 * (W : Int) = ((6 * W : Nat) : Int) := by omega
    obtain ⟨m, hm⟩ : ∃ m, m = 6 * W := ⟨_, rfl⟩
    rw [← hm] at h6
    have hm36 : 0 < m ∧ m ≤ 36 := by omega
    clear hm
    have z6 : IntKind.i64.wrap (6 * (W : Int)) = (m : Int) := by rw [h6]; exact wrap_small (by omega) (by omega)
    go_wp2_with fail
    try rw [h6]
    refine (l3Blanks_calls m 0 (by omega) w7).mono ?_
    rintro e w8 ⟨v8, rfl, o8, hb8⟩
    obtain ⟨a8, c8, rfl, hc8⟩ := own_room2 o8
    have hlr : (List.replicate m ((32 : Int), (0 : Int))).length = m := by simp
    have D8 := hide (D.out.keep (v' := .slice a8 m c8) (bs' := List.replicate m (32, 0)) ⟨(GrowTo.of_below hb8 (.slice av bs.length cv)).grown, spot_of_new o8 (by omega)⟩ (own_base (by rw [hlr]; exact o8) (by omega)))
    have rb8 := hide ((rb.out.below hb8).set (c := T) (o := 3) (by omega) (.slice a8 m c8))
    have K3 := cellb hb8 g3
    have KF : w8.frozen? ⟨T, 3, none⟩ = false := (hb8.frozen (p := ⟨T, 3, none⟩) (by simp; omega)).trans fz3
    clear D rb hb8 o8 g1 g3 fz3 h6 z6
    have D := D8
    have rb := rb8
    clear D8 rb8
    have g0 := D.out.g0
    have g1 := D.out.g1
    have g2 := D.out.g2
    have h3 := D.out.g3
    have hbk : ∀ i, (Value.slice a8 m c8).ownBlock = some i → i ≠ w.heap.size := fun i hi => by have := (D.out.own.lt i hi).1; omega
    obtain ⟨hr4, hgv⟩ := D.out.give rb.out hbk hbs ⟨by omega, by omega, by omega, by (rw [hlr]; omega)⟩
    obtain ⟨u0, c0⟩ := rb.out.c0
    obtain ⟨u1, c1⟩ := rb.out.c1
    obtain ⟨u2, c2⟩ := rb.out.c2
    obtain ⟨u3, c3⟩ := rb.out.c3
    have f0 := rb.out.fz 0
    have f1 := rb.out.fz 1
    have f2 := rb.out.fz 2
    have f3 := rb.out.fz 3
    have HGV := hide hgv
    have HR4 := hide hr4
    have HBK := hide hbk
    clear hgv hr4 hbk
    go_wp2
    have hr4 := HR4.out
    refine bodyPost_ret (v := .agg #[.int .i64 r, .int .i64 (W : Int), .slice (some ⟨bx, 0, none⟩) n cx, .slice a8 m c8]) (by simp only [results, Try.results24]; simp [go_sem, hr4.1, hr4.2.1, hr4.2.2.1, hr4.2.2.2]) rfl ⟨r, (W : Int), bx, n, cx, _, List.replicate m ((32 : Int), (0 : Int)), _, rfl, trivial, ?_, ?_, HGV.out, hbs, HBK.out⟩
    · omega
    · omega
  · have y0 : (x == 0) = false := by rw [beq_eq_false_iff_ne]; omega
    have y1 : (x == 1) = false := by rw [beq_eq_false_iff_ne]; omega
    have y2 : (x == 2) = false := by rw [beq_eq_false_iff_ne]; omega
    have y3 : (x == 3) = false := by rw [beq_eq_false_iff_ne]; omega
    have g0 := D.out.g0
    have g1 := D.out.g1
    have g2 := D.out.g2
    have g3 := D.out.g3
    have hbk : ∀ i, (Value.slice av (bs).length cv).ownBlock = some i → i ≠ w.heap.size := fun i hi => by have := (D.out.own.lt i hi).1; omega
    obtain ⟨hr4, hgv⟩ := D.out.give rb.out hbk hbs ⟨by omega, by omega, by omega, by omega⟩
    obtain ⟨u0, c0⟩ := rb.out.c0
    obtain ⟨u1, c1⟩ := rb.out.c1
    obtain ⟨u2, c2⟩ := rb.out.c2
    obtain ⟨u3, c3⟩ := rb.out.c3
    have f0 := rb.out.fz 0
    have f1 := rb.out.fz 1
    have f2 := rb.out.fz 2
    have f3 := rb.out.fz 3
    have HGV := hide hgv
    have HR4 := hide hr4
    have HBK := hide hbk
    clear hgv hr4 hbk
    go_wp2
    have hr4 := HR4.out
    refine bodyPost_ret (v := .agg #[.int .i64 r, .int .i64 wd, .slice (some ⟨bx, 0, none⟩) n cx, .slice av (bs).length cv]) (by simp only [results, Try.results24]; simp [go_sem, hr4.1, hr4.2.1, hr4.2.2.1, hr4.2.2.2]) rfl ⟨r, wd, bx, n, cx, _, bs, _, rfl, trivial, ?_, ?_, HGV.out, hbs, HBK.out⟩
    · omega
    · omega
end Go.Proofs.Ytbndncfkkhjkoab
