/-
  Draws of chapter 3's laws: DrawShiftCells, DrawResizeGrid, DrawNewGrid, DrawPutCell, walked.
-/
import Derived.Test.YtbndncfkkhjkoabGridDraw3
import Derived.Test.YtbndncfkkhjkoabCapped
namespace Go.Proofs.Ytbndncfkkhjkoab
set_option maxRecDepth 20000
open Go.ChangeShapes Go.WideShapes Go.ChangeAt Go.RowKit
set_option linter.unusedVariables false
set_option linter.unusedSimpArgs false
set_option maxRecDepth 20000

theorem GV.within {w0 w W W' : World} {B bx n cx : Nat} {code : Value} {p q : Int} {v : Value} {bs : List (Int × Int)} (h : GV w0 w W B bx n cx code p v bs) (hs : Src w0 W' B code q) (hw : Within B (B + 1) W W') : GV w0 w W' B bx n cx code q v bs := by
  have l := h.lo
  have sz := hw.size
  obtain ⟨f, hf⟩ := h.row
  exact ⟨hs, h.wi.trans hw, ⟨f, hf.block (hw.block bx (by omega) (by omega))⟩, own_block h.own (fun k hk => hw.block k (h.own.lt k hk).2 (by have := (h.ap k hk).1; omega)), h.ap, by omega⟩
theorem GV.below {w0 w W W' : World} {B bx n cx : Nat} {code : Value} {p : Int} {v : Value} {bs : List (Int × Int)} (h : GV w0 w W B bx n cx code p v bs) (hb : Below W.heap.size W W') : GV w0 w W' B bx n cx code p v bs := h.within (h.src.below hb) (Within.of_below hb (Nat.le_refl _))
/-- The lists of a grid that was drawn, behind stores into an older block. -/
theorem GV.lists {w0 w W W' : World} {B bx n cx b p' q' : Nat} {code : Value} {p : Int} {v : Value} {bs : List (Int × Int)} (h : GV w0 w W B bx n cx code p v bs) (t : Touch b p' q' W W') (hb : b < w.heap.size) : ∃ cs : List (Int × Int), cs.length = n ∧ n ≤ 24 ∧ bs.length ≤ 40 ∧ PRead W' (.slice (some ⟨bx, 0, none⟩) n cx) cs ∧ PRead W' v bs ∧ Capped (.slice (some ⟨bx, 0, none⟩) n cx) ∧ Capped v := by
  have l := h.lo
  obtain ⟨f, hf⟩ := h.row
  obtain ⟨av, cv, rfl, hcv⟩ := own_room2 h.own
  have p2 : PairsAt w.heap.size W.heap.size W (.slice av bs.length cv) bs := own_pairs h.own (Nat.le_refl _)
  refine ⟨mkL n f, mkL_length _ _, by omega, by omega, pread_of_row (hf.touch t (by omega)).read, ?_, Capped.of (by omega), Capped.of hcv⟩
  exact (p2.of_blocks fun i h1 h2 => t.block i h2 (by omega)).read
theorem Src.fresh (w W : World) (B : Nat) (code : Value) (h0 : W.cell? ⟨B, 0, none⟩ = some code) (h1 : W.cell? ⟨B, 1, none⟩ = some (.int .i64 0)) (hf : ∀ o, W.frozen? ⟨B, o, none⟩ = false) (hb : Below w.heap.size w W) (hB : w.heap.size ≤ B) : Src w W B code 0 := ⟨h0, h1, hf, hb, hB⟩

set_option maxHeartbeats 2000000 in
theorem drawShift_calls (zs : List Int) (a : Option Addr) (cap : Nat) (w : World) (hv : ReadAt .u8 w (.slice a zs.length cap) zs) (hz : ∀ z ∈ zs, 0 ≤ z ∧ z ≤ 255) (hlen : zs.length ≤ 1048576) :
    Calls Try.prog 6 #[.slice a zs.length cap] w fun e w' => ∃ (r wd : Int) (v1 v2 : Value) (cs bs : List (Int × Int)) (y x n at' : Int), e = .returned (.tuple #[.agg #[.int .i64 r, .int .i64 wd, v1, v2], .int .i64 y, .int .i64 x, .int .i64 n, .int .i64 at']) ∧ cs.length ≤ 24 ∧ bs.length ≤ 40 ∧ PRead w' v1 cs ∧ PRead w' v2 bs ∧ Capped v1 ∧ Capped v2 ∧ Below w.heap.size w w' := by
  have HZ := hide hz
  clear hz
  go_enter Try.func6, Try.ntmps6
  go_wp2_with fail
  refine (l1Source_calls (.slice a zs.length cap) _ _ _ _).mono ?_
  rintro e w' ⟨rfl, hw⟩
  rw [hw]
  clear hw w'
  go_wp2_with fail
  have q0 : Below w.heap.size w ((w.alloc (.cells #[.int .i64 0, .int .i64 0, .slice none 0 0, .slice none 0 0] 26)).alloc (.cells #[.slice a zs.length cap, .int .i64 0] 95)) := (by repeat' (first | with_reducible exact Below.refl _ _ | with_reducible assumption | with_reducible refine Below.drew ?_ | with_reducible refine Below.alloc ?_ ?_ _ | with_reducible refine Below.setCell ?_ ?_ _ | (simp; done) | (simp; omega) | omega))
  have sc : Src w ((w.alloc (.cells #[.int .i64 0, .int .i64 0, .slice none 0 0, .slice none 0 0] 26)).alloc (.cells #[.slice a zs.length cap, .int .i64 0] 95)) (w.heap.size + 1) (.slice a zs.length cap) 0 := ⟨by simp [go_sem], by simp [go_sem], fun o => by simp [go_sem], q0, by omega⟩
  have rb : RB w.heap.size ((w.alloc (.cells #[.int .i64 0, .int .i64 0, .slice none 0 0, .slice none 0 0] 26)).alloc (.cells #[.slice a zs.length cap, .int .i64 0] 95)) := ⟨⟨.int .i64 0, by simp [go_sem]⟩, ⟨.int .i64 0, by simp [go_sem]⟩, ⟨.slice none 0 0, by simp [go_sem]⟩, ⟨.slice none 0 0, by simp [go_sem]⟩, fun o => by simp [go_sem]⟩
  have hsz : w.heap.size + 1 + 1 ≤ ((w.alloc (.cells #[.int .i64 0, .int .i64 0, .slice none 0 0, .slice none 0 0] 26)).alloc (.cells #[.slice a zs.length cap, .int .i64 0] 95)).heap.size := by simp; try omega
  have esz : ((w.alloc (.cells #[.int .i64 0, .int .i64 0, .slice none 0 0, .slice none 0 0] 26)).alloc (.cells #[.slice a zs.length cap, .int .i64 0] 95)).heap.size = w.heap.size + 1 + 1 := by simp
  generalize ((w.alloc (.cells #[.int .i64 0, .int .i64 0, .slice none 0 0, .slice none 0 0] 26)).alloc (.cells #[.slice a zs.length cap, .int .i64 0] 95)) = u0 at *
  skip
  clear esz
  clear q0
  try go_wp2_with fail
  refine (l3Bent_calls zs a cap (w.heap.size + 1) 0 w u0 hv HZ.out hlen sc (by omega) (by omega)).mono ?_
  rintro e u1 ⟨r, wd, bx, n, cx, v, bs, q, rfl, _, hq0, hq1, V, _, _⟩
  have xx := V.wi
  have hU : w.heap.size + 1 + 1 ≤ u0.heap.size := hsz
  replace rb := rb.within xx (by omega)
  replace hsz : w.heap.size + 1 + 1 ≤ u1.heap.size := Nat.le_trans hsz xx.size
  obtain ⟨av, cv, rfl, hcv⟩ := own_room2 V.own
  clear xx sc
  try go_wp2_with fail
  have hb : Below u1.heap.size u1 (u1.alloc (.cells #[.int .i64 0, .int .i64 0, .int .i64 1, .int .i64 4] 2)) := (Below.refl _ _).alloc (Nat.le_refl _) _
  have hnew := new_ints (w := u1) (C := #[.int .i64 0, .int .i64 0, .int .i64 1, .int .i64 4]) (t := 2) (k := .i64) (xs := [0, 0, 1, 4]) rfl
  have hold : w.heap.size + 1 + 1 ≤ u1.heap.size := hsz
  replace V := V.below hb
  replace rb := rb.below hb
  replace hsz : w.heap.size + 1 + 1 ≤ (u1.alloc (.cells #[.int .i64 0, .int .i64 0, .int .i64 1, .int .i64 4] 2)).heap.size := Nat.le_trans hsz hb.size
  clear hb
  generalize (u1.alloc (.cells #[.int .i64 0, .int .i64 0, .int .i64 1, .int .i64 4] 2)) = m2 at *
  refine (l1Pick_calls zs [0, 0, 1, 4] a cap (w.heap.size + 1) u1.heap.size 4 4 (q) w m2 hv HZ.out hlen V.src (by omega) (by omega) rfl (by omega) (by omega) (.inr hold) hnew).mono ?_
  rintro e u2 ⟨y1, rfl, _, ss, xx⟩
  clear hnew hold
  replace V := V.within ss xx
  replace rb := rb.within xx (by omega)
  replace hsz : w.heap.size + 1 + 1 ≤ u2.heap.size := Nat.le_trans hsz xx.size
  clear ss xx
  try go_wp2_with fail
  have hb : Below u2.heap.size u2 (u2.alloc (.cells #[.int .i64 0, .int .i64 1, .int .i64 2, .int .i64 6] 2)) := (Below.refl _ _).alloc (Nat.le_refl _) _
  have hnew := new_ints (w := u2) (C := #[.int .i64 0, .int .i64 1, .int .i64 2, .int .i64 6]) (t := 2) (k := .i64) (xs := [0, 1, 2, 6]) rfl
  have hold : w.heap.size + 1 + 1 ≤ u2.heap.size := hsz
  replace V := V.below hb
  replace rb := rb.below hb
  replace hsz : w.heap.size + 1 + 1 ≤ (u2.alloc (.cells #[.int .i64 0, .int .i64 1, .int .i64 2, .int .i64 6] 2)).heap.size := Nat.le_trans hsz hb.size
  clear hb
  generalize (u2.alloc (.cells #[.int .i64 0, .int .i64 1, .int .i64 2, .int .i64 6] 2)) = m3 at *
  refine (l1Pick_calls zs [0, 1, 2, 6] a cap (w.heap.size + 1) u2.heap.size 4 4 (q + 1) w m3 hv HZ.out hlen V.src (by omega) (by omega) rfl (by omega) (by omega) (.inr hold) hnew).mono ?_
  rintro e u3 ⟨y2, rfl, _, ss, xx⟩
  clear hnew hold
  replace V := V.within ss xx
  replace rb := rb.within xx (by omega)
  replace hsz : w.heap.size + 1 + 1 ≤ u3.heap.size := Nat.le_trans hsz xx.size
  clear ss xx
  try go_wp2_with fail
  have hb : Below u3.heap.size u3 (u3.alloc (.cells #[.int .i64 1, .int .i64 2, .int .i64 (-1), .int .i64 (-2), .int .i64 12, .int .i64 (-12), .int .i64 13] 2)) := (Below.refl _ _).alloc (Nat.le_refl _) _
  have hnew := new_ints (w := u3) (C := #[.int .i64 1, .int .i64 2, .int .i64 (-1), .int .i64 (-2), .int .i64 12, .int .i64 (-12), .int .i64 13]) (t := 2) (k := .i64) (xs := [1, 2, -1, -2, 12, -12, 13]) rfl
  have hold : w.heap.size + 1 + 1 ≤ u3.heap.size := hsz
  replace V := V.below hb
  replace rb := rb.below hb
  replace hsz : w.heap.size + 1 + 1 ≤ (u3.alloc (.cells #[.int .i64 1, .int .i64 2, .int .i64 (-1), .int .i64 (-2), .int .i64 12, .int .i64 (-12), .int .i64 13] 2)).heap.size := Nat.le_trans hsz hb.size
  clear hb
  generalize (u3.alloc (.cells #[.int .i64 1, .int .i64 2, .int .i64 (-1), .int .i64 (-2), .int .i64 12, .int .i64 (-12), .int .i64 13] 2)) = m4 at *
  refine (l1Pick_calls zs [1, 2, -1, -2, 12, -12, 13] a cap (w.heap.size + 1) u3.heap.size 7 7 (q + 1 + 1) w m4 hv HZ.out hlen V.src (by omega) (by omega) rfl (by omega) (by omega) (.inr hold) hnew).mono ?_
  rintro e u4 ⟨y3, rfl, _, ss, xx⟩
  clear hnew hold
  replace V := V.within ss xx
  replace rb := rb.within xx (by omega)
  replace hsz : w.heap.size + 1 + 1 ≤ u4.heap.size := Nat.le_trans hsz xx.size
  clear ss xx
  try go_wp2_with fail
  have hb : Below u4.heap.size u4 (u4.alloc (.cells #[.int .i64 0, .int .i64 3, .int .i64 32] 2)) := (Below.refl _ _).alloc (Nat.le_refl _) _
  have hnew := new_ints (w := u4) (C := #[.int .i64 0, .int .i64 3, .int .i64 32]) (t := 2) (k := .i64) (xs := [0, 3, 32]) rfl
  have hold : w.heap.size + 1 + 1 ≤ u4.heap.size := hsz
  replace V := V.below hb
  replace rb := rb.below hb
  replace hsz : w.heap.size + 1 + 1 ≤ (u4.alloc (.cells #[.int .i64 0, .int .i64 3, .int .i64 32] 2)).heap.size := Nat.le_trans hsz hb.size
  clear hb
  generalize (u4.alloc (.cells #[.int .i64 0, .int .i64 3, .int .i64 32] 2)) = m5 at *
  refine (l1Pick_calls zs [0, 3, 32] a cap (w.heap.size + 1) u4.heap.size 3 3 (q + 1 + 1 + 1) w m5 hv HZ.out hlen V.src (by omega) (by omega) rfl (by omega) (by omega) (.inr hold) hnew).mono ?_
  rintro e u5 ⟨y4, rfl, _, ss, xx⟩
  clear hnew hold
  replace V := V.within ss xx
  replace rb := rb.within xx (by omega)
  replace hsz : w.heap.size + 1 + 1 ≤ u5.heap.size := Nat.le_trans hsz xx.size
  clear ss xx
  obtain ⟨x0, c0⟩ := rb.c0
  obtain ⟨x1, c1⟩ := rb.c1
  obtain ⟨x2, c2⟩ := rb.c2
  obtain ⟨x3, c3⟩ := rb.c3
  have f0 := rb.fz 0
  have f1 := rb.fz 1
  have f2 := rb.fz 2
  have f3 := rb.fz 3
  have t4 : Touch w.heap.size 0 4 u5 ((((u5.setCell ⟨w.heap.size, 0, none⟩ (.int .i64 r)).setCell ⟨w.heap.size, 1, none⟩ (.int .i64 wd)).setCell ⟨w.heap.size, 2, none⟩ (.slice (some ⟨bx, 0, none⟩) n cx)).setCell ⟨w.heap.size, 3, none⟩ (.slice av bs.length cv)) := (((((Touch.refl _ _ _ _).setCell (by omega) (by omega) _).setCell (by omega) (by omega) _).setCell (by omega) (by omega) _).setCell (by omega) (by omega) _)
  have HR := hide (res4 (w := u5) (r := w.heap.size) (.int .i64 r) (.int .i64 wd) (.slice (some ⟨bx, 0, none⟩) n cx) (.slice av bs.length cv) c0 c1 c2 c3)
  obtain ⟨cs, hcl, hn24, hb40, l1, l2, k1, k2⟩ := V.lists t4 (by omega)
  have QQ := hide ((V.src.old).trans (t4.below (B := w.heap.size) (Nat.le_refl _) (by omega)))
  have HL := hide (And.intro l1 l2)
  have HT := hide t4
  have HC := hide hcl
  clear t4 rb V l1 l2 hcl hsz
  go_wp2
  have hr := HR.out
  refine bodyPost_ret (v := .tuple #[.agg #[.int .i64 r, .int .i64 wd, .slice (some ⟨bx, 0, none⟩) n cx, .slice av bs.length cv], .int .i64 (y1), .int .i64 (y2), .int .i64 (y3), .int .i64 (y4)]) (by simp only [results, Try.results6]; simp [go_sem, hr.1, hr.2.1, hr.2.2.1, hr.2.2.2]) rfl ⟨r, wd, _, _, cs, bs, y1, y2, y3, y4, rfl, by have := HC.out; omega, hb40, ?_, HL.out.2, k1, k2, QQ.out⟩
  exact HL.out.1
set_option maxHeartbeats 2000000 in
theorem drawResize_calls (zs : List Int) (a : Option Addr) (cap : Nat) (w : World) (hv : ReadAt .u8 w (.slice a zs.length cap) zs) (hz : ∀ z ∈ zs, 0 ≤ z ∧ z ≤ 255) (hlen : zs.length ≤ 1048576) :
    Calls Try.prog 8 #[.slice a zs.length cap] w fun e w' => ∃ (r wd : Int) (v1 v2 : Value) (cs bs : List (Int × Int)) (rows width : Int), e = .returned (.tuple #[.agg #[.int .i64 r, .int .i64 wd, v1, v2], .int .i64 rows, .int .i64 width]) ∧ cs.length ≤ 24 ∧ bs.length ≤ 40 ∧ PRead w' v1 cs ∧ PRead w' v2 bs ∧ Capped v1 ∧ Capped v2 ∧ Below w.heap.size w w' := by
  have HZ := hide hz
  clear hz
  go_enter Try.func8, Try.ntmps8
  go_wp2_with fail
  refine (l1Source_calls (.slice a zs.length cap) _ _ _ _).mono ?_
  rintro e w' ⟨rfl, hw⟩
  rw [hw]
  clear hw w'
  go_wp2_with fail
  have q0 : Below w.heap.size w ((w.alloc (.cells #[.int .i64 0, .int .i64 0, .slice none 0 0, .slice none 0 0] 26)).alloc (.cells #[.slice a zs.length cap, .int .i64 0] 95)) := (by repeat' (first | with_reducible exact Below.refl _ _ | with_reducible assumption | with_reducible refine Below.drew ?_ | with_reducible refine Below.alloc ?_ ?_ _ | with_reducible refine Below.setCell ?_ ?_ _ | (simp; done) | (simp; omega) | omega))
  have sc : Src w ((w.alloc (.cells #[.int .i64 0, .int .i64 0, .slice none 0 0, .slice none 0 0] 26)).alloc (.cells #[.slice a zs.length cap, .int .i64 0] 95)) (w.heap.size + 1) (.slice a zs.length cap) 0 := ⟨by simp [go_sem], by simp [go_sem], fun o => by simp [go_sem], q0, by omega⟩
  have rb : RB w.heap.size ((w.alloc (.cells #[.int .i64 0, .int .i64 0, .slice none 0 0, .slice none 0 0] 26)).alloc (.cells #[.slice a zs.length cap, .int .i64 0] 95)) := ⟨⟨.int .i64 0, by simp [go_sem]⟩, ⟨.int .i64 0, by simp [go_sem]⟩, ⟨.slice none 0 0, by simp [go_sem]⟩, ⟨.slice none 0 0, by simp [go_sem]⟩, fun o => by simp [go_sem]⟩
  have hsz : w.heap.size + 1 + 1 ≤ ((w.alloc (.cells #[.int .i64 0, .int .i64 0, .slice none 0 0, .slice none 0 0] 26)).alloc (.cells #[.slice a zs.length cap, .int .i64 0] 95)).heap.size := by simp; try omega
  have esz : ((w.alloc (.cells #[.int .i64 0, .int .i64 0, .slice none 0 0, .slice none 0 0] 26)).alloc (.cells #[.slice a zs.length cap, .int .i64 0] 95)).heap.size = w.heap.size + 1 + 1 := by simp
  generalize ((w.alloc (.cells #[.int .i64 0, .int .i64 0, .slice none 0 0, .slice none 0 0] 26)).alloc (.cells #[.slice a zs.length cap, .int .i64 0] 95)) = u0 at *
  skip
  clear esz
  clear q0
  try go_wp2_with fail
  refine (l3Bent_calls zs a cap (w.heap.size + 1) 0 w u0 hv HZ.out hlen sc (by omega) (by omega)).mono ?_
  rintro e u1 ⟨r, wd, bx, n, cx, v, bs, q, rfl, _, hq0, hq1, V, _, _⟩
  have xx := V.wi
  have hU : w.heap.size + 1 + 1 ≤ u0.heap.size := hsz
  replace rb := rb.within xx (by omega)
  replace hsz : w.heap.size + 1 + 1 ≤ u1.heap.size := Nat.le_trans hsz xx.size
  obtain ⟨av, cv, rfl, hcv⟩ := own_room2 V.own
  clear xx sc
  try go_wp2_with fail
  have hb : Below u1.heap.size u1 (u1.alloc (.cells #[.int .i64 1, .int .i64 2, .int .i64 4, .int .i64 6, .int .i64 7] 2)) := (Below.refl _ _).alloc (Nat.le_refl _) _
  have hnew := new_ints (w := u1) (C := #[.int .i64 1, .int .i64 2, .int .i64 4, .int .i64 6, .int .i64 7]) (t := 2) (k := .i64) (xs := [1, 2, 4, 6, 7]) rfl
  have hold : w.heap.size + 1 + 1 ≤ u1.heap.size := hsz
  replace V := V.below hb
  replace rb := rb.below hb
  replace hsz : w.heap.size + 1 + 1 ≤ (u1.alloc (.cells #[.int .i64 1, .int .i64 2, .int .i64 4, .int .i64 6, .int .i64 7] 2)).heap.size := Nat.le_trans hsz hb.size
  clear hb
  generalize (u1.alloc (.cells #[.int .i64 1, .int .i64 2, .int .i64 4, .int .i64 6, .int .i64 7] 2)) = m2 at *
  refine (l1Pick_calls zs [1, 2, 4, 6, 7] a cap (w.heap.size + 1) u1.heap.size 5 5 (q) w m2 hv HZ.out hlen V.src (by omega) (by omega) rfl (by omega) (by omega) (.inr hold) hnew).mono ?_
  rintro e u2 ⟨y1, rfl, _, ss, xx⟩
  clear hnew hold
  replace V := V.within ss xx
  replace rb := rb.within xx (by omega)
  replace hsz : w.heap.size + 1 + 1 ≤ u2.heap.size := Nat.le_trans hsz xx.size
  clear ss xx
  try go_wp2_with fail
  have hb : Below u2.heap.size u2 (u2.alloc (.cells #[.int .i64 2, .int .i64 3, .int .i64 5, .int .i64 12, .int .i64 1] 2)) := (Below.refl _ _).alloc (Nat.le_refl _) _
  have hnew := new_ints (w := u2) (C := #[.int .i64 2, .int .i64 3, .int .i64 5, .int .i64 12, .int .i64 1]) (t := 2) (k := .i64) (xs := [2, 3, 5, 12, 1]) rfl
  have hold : w.heap.size + 1 + 1 ≤ u2.heap.size := hsz
  replace V := V.below hb
  replace rb := rb.below hb
  replace hsz : w.heap.size + 1 + 1 ≤ (u2.alloc (.cells #[.int .i64 2, .int .i64 3, .int .i64 5, .int .i64 12, .int .i64 1] 2)).heap.size := Nat.le_trans hsz hb.size
  clear hb
  generalize (u2.alloc (.cells #[.int .i64 2, .int .i64 3, .int .i64 5, .int .i64 12, .int .i64 1] 2)) = m3 at *
  refine (l1Pick_calls zs [2, 3, 5, 12, 1] a cap (w.heap.size + 1) u2.heap.size 5 5 (q + 1) w m3 hv HZ.out hlen V.src (by omega) (by omega) rfl (by omega) (by omega) (.inr hold) hnew).mono ?_
  rintro e u3 ⟨y2, rfl, _, ss, xx⟩
  clear hnew hold
  replace V := V.within ss xx
  replace rb := rb.within xx (by omega)
  replace hsz : w.heap.size + 1 + 1 ≤ u3.heap.size := Nat.le_trans hsz xx.size
  clear ss xx
  obtain ⟨x0, c0⟩ := rb.c0
  obtain ⟨x1, c1⟩ := rb.c1
  obtain ⟨x2, c2⟩ := rb.c2
  obtain ⟨x3, c3⟩ := rb.c3
  have f0 := rb.fz 0
  have f1 := rb.fz 1
  have f2 := rb.fz 2
  have f3 := rb.fz 3
  have t4 : Touch w.heap.size 0 4 u3 ((((u3.setCell ⟨w.heap.size, 0, none⟩ (.int .i64 r)).setCell ⟨w.heap.size, 1, none⟩ (.int .i64 wd)).setCell ⟨w.heap.size, 2, none⟩ (.slice (some ⟨bx, 0, none⟩) n cx)).setCell ⟨w.heap.size, 3, none⟩ (.slice av bs.length cv)) := (((((Touch.refl _ _ _ _).setCell (by omega) (by omega) _).setCell (by omega) (by omega) _).setCell (by omega) (by omega) _).setCell (by omega) (by omega) _)
  have HR := hide (res4 (w := u3) (r := w.heap.size) (.int .i64 r) (.int .i64 wd) (.slice (some ⟨bx, 0, none⟩) n cx) (.slice av bs.length cv) c0 c1 c2 c3)
  obtain ⟨cs, hcl, hn24, hb40, l1, l2, k1, k2⟩ := V.lists t4 (by omega)
  have QQ := hide ((V.src.old).trans (t4.below (B := w.heap.size) (Nat.le_refl _) (by omega)))
  have HL := hide (And.intro l1 l2)
  have HT := hide t4
  have HC := hide hcl
  clear t4 rb V l1 l2 hcl hsz
  go_wp2
  have hr := HR.out
  refine bodyPost_ret (v := .tuple #[.agg #[.int .i64 r, .int .i64 wd, .slice (some ⟨bx, 0, none⟩) n cx, .slice av bs.length cv], .int .i64 (y1), .int .i64 (y2)]) (by simp only [results, Try.results8]; simp [go_sem, hr.1, hr.2.1, hr.2.2.1, hr.2.2.2]) rfl ⟨r, wd, _, _, cs, bs, y1, y2, rfl, by have := HC.out; omega, hb40, ?_, HL.out.2, k1, k2, QQ.out⟩
  exact HL.out.1
set_option maxHeartbeats 2000000 in
theorem drawNew_calls (zs : List Int) (a : Option Addr) (cap : Nat) (w : World) (hv : ReadAt .u8 w (.slice a zs.length cap) zs) (hz : ∀ z ∈ zs, 0 ≤ z ∧ z ≤ 255) (hlen : zs.length ≤ 1048576) :
    Calls Try.prog 15 #[.slice a zs.length cap] w fun e w' => ∃ rows width : Int, e = .returned (.tuple #[.int .i64 rows, .int .i64 width]) ∧ Below w.heap.size w w' := by
  have HZ := hide hz
  clear hz
  go_enter Try.func15, Try.ntmps15
  go_wp2_with fail
  refine (l1Source_calls (.slice a zs.length cap) _ _ _ _).mono ?_
  rintro e w' ⟨rfl, hw⟩
  rw [hw]
  clear hw w'
  go_wp2_with fail
  have q0 : Below w.heap.size w (w.alloc (.cells #[.slice a zs.length cap, .int .i64 0] 95)) := (by repeat' (first | with_reducible exact Below.refl _ _ | with_reducible assumption | with_reducible refine Below.drew ?_ | with_reducible refine Below.alloc ?_ ?_ _ | with_reducible refine Below.setCell ?_ ?_ _ | (simp; done) | (simp; omega) | omega))
  have sc : Src w (w.alloc (.cells #[.slice a zs.length cap, .int .i64 0] 95)) (w.heap.size) (.slice a zs.length cap) 0 := ⟨by simp [go_sem], by simp [go_sem], fun o => by simp [go_sem], q0, by omega⟩
  have hsz : w.heap.size + 1 ≤ (w.alloc (.cells #[.slice a zs.length cap, .int .i64 0] 95)).heap.size := by simp; try omega
  have esz : (w.alloc (.cells #[.slice a zs.length cap, .int .i64 0] 95)).heap.size = w.heap.size + 1 := by simp
  generalize (w.alloc (.cells #[.slice a zs.length cap, .int .i64 0] 95)) = u0 at *
  try rw [← esz]
  clear esz
  clear q0
  try go_wp2_with fail
  have hb : Below u0.heap.size u0 (u0.alloc (.cells #[.int .i64 1, .int .i64 6, .int .i64 7, .int .i64 0] 2)) := (Below.refl _ _).alloc (Nat.le_refl _) _
  have hnew := new_ints (w := u0) (C := #[.int .i64 1, .int .i64 6, .int .i64 7, .int .i64 0]) (t := 2) (k := .i64) (xs := [1, 6, 7, 0]) rfl
  have hold : w.heap.size + 1 ≤ u0.heap.size := hsz
  replace sc := sc.below hb
  replace hsz : w.heap.size + 1 ≤ (u0.alloc (.cells #[.int .i64 1, .int .i64 6, .int .i64 7, .int .i64 0] 2)).heap.size := Nat.le_trans hsz hb.size
  clear hb
  generalize (u0.alloc (.cells #[.int .i64 1, .int .i64 6, .int .i64 7, .int .i64 0] 2)) = m1 at *
  refine (l1Pick_calls zs [1, 6, 7, 0] a cap (w.heap.size) u0.heap.size 4 4 (0) w m1 hv HZ.out hlen sc (by omega) (by omega) rfl (by omega) (by omega) (.inr hold) hnew).mono ?_
  rintro e u1 ⟨y1, rfl, _, ss, xx⟩
  clear hnew hold
  replace sc := ss
  replace hsz : w.heap.size + 1 ≤ u1.heap.size := Nat.le_trans hsz xx.size
  clear ss xx
  try go_wp2_with fail
  have hb : Below u1.heap.size u1 (u1.alloc (.cells #[.int .i64 2, .int .i64 12, .int .i64 13, .int .i64 1] 2)) := (Below.refl _ _).alloc (Nat.le_refl _) _
  have hnew := new_ints (w := u1) (C := #[.int .i64 2, .int .i64 12, .int .i64 13, .int .i64 1]) (t := 2) (k := .i64) (xs := [2, 12, 13, 1]) rfl
  have hold : w.heap.size + 1 ≤ u1.heap.size := hsz
  replace sc := sc.below hb
  replace hsz : w.heap.size + 1 ≤ (u1.alloc (.cells #[.int .i64 2, .int .i64 12, .int .i64 13, .int .i64 1] 2)).heap.size := Nat.le_trans hsz hb.size
  clear hb
  generalize (u1.alloc (.cells #[.int .i64 2, .int .i64 12, .int .i64 13, .int .i64 1] 2)) = m2 at *
  refine (l1Pick_calls zs [2, 12, 13, 1] a cap (w.heap.size) u1.heap.size 4 4 (0 + 1) w m2 hv HZ.out hlen sc (by omega) (by omega) rfl (by omega) (by omega) (.inr hold) hnew).mono ?_
  rintro e u2 ⟨y2, rfl, _, ss, xx⟩
  clear hnew hold
  replace sc := ss
  replace hsz : w.heap.size + 1 ≤ u2.heap.size := Nat.le_trans hsz xx.size
  clear ss xx
  have QQ := hide sc.old
  clear sc
  go_wp2
  exact bodyPost_ret (v := .tuple #[.int .i64 y1, .int .i64 y2]) (by simp only [results, Try.results15]; simp [go_sem]) rfl ⟨y1, y2, rfl, QQ.out⟩
end Go.Proofs.Ytbndncfkkhjkoab
