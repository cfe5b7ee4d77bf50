/-
  Draws of chapter 3's laws: DrawPutCell, DrawEraseCells, walked.
-/
import Derived.Test.YtbndncfkkhjkoaaGridDraw4
namespace Go.Proofs.Ytbndncfkkhjkoaa
set_option maxRecDepth 20000
open Go.ChangeShapes Go.WideShapes Go.ChangeAt Go.RowKit
set_option linter.unusedVariables false
set_option linter.unusedSimpArgs false
set_option maxRecDepth 20000

theorem GV.lists2 {w0 w W W' : World} {B bx n cx : Nat} {code : Value} {p : Int} {v : Value} {bs : List (Int × Int)} (h : GV w0 w W B bx n cx code p v bs) (hk : ∀ i, w.heap.size ≤ i → i < W.heap.size → W'.heap[i]? = W.heap[i]?) : ∃ cs : List (Int × Int), cs.length = n ∧ n ≤ 24 ∧ bs.length ≤ 40 ∧ PRead W' (.slice (some ⟨bx, 0, none⟩) n cx) cs ∧ PRead W' v bs ∧ Capped (.slice (some ⟨bx, 0, none⟩) n cx) ∧ Capped v := by
  have l := h.lo
  obtain ⟨f, hf⟩ := h.row
  obtain ⟨av, cv, rfl, hcv⟩ := own_room2 h.own
  have p2 : PairsAt w.heap.size W.heap.size W (.slice av bs.length cv) bs := own_pairs h.own (Nat.le_refl _)
  exact ⟨mkL n f, mkL_length _ _, by omega, by omega, pread_of_row (hf.block (hk bx (by omega) (by omega))).read, (p2.of_blocks fun i h1 h2 => hk i h1 h2).read, Capped.of (by omega), Capped.of hcv⟩

set_option maxHeartbeats 2000000 in
theorem drawPutC_calls (zs : List Int) (a : Option Addr) (cap : Nat) (w : World) (hv : ReadAt .u8 w (.slice a zs.length cap) zs) (hz : ∀ z ∈ zs, 0 ≤ z ∧ z ≤ 255) (hlen : zs.length ≤ 1048576) :
    Calls Try.prog 41 #[.slice a zs.length cap] w fun e w' => ∃ (r wd : Int) (v1 v2 : Value) (cs bs : List (Int × Int)) (y x c g : Int), e = .returned (.tuple #[.agg #[.int .i64 r, .int .i64 wd, v1, v2], .int .i64 y, .int .i64 x, .agg #[.int .i64 c, .int .i64 g]]) ∧ cs.length ≤ 24 ∧ bs.length ≤ 40 ∧ PRead w' v1 cs ∧ PRead w' v2 bs ∧ Capped v1 ∧ Capped v2 ∧ Below w.heap.size w w' := by
  have HZ := hide hz
  clear hz
  go_enter Try.func41, Try.ntmps41
  go_wp2_with fail
  refine (l1Source_calls (.slice a zs.length cap) _ _ _ _).mono ?_
  rintro e w' ⟨rfl, hw⟩
  rw [hw]
  clear hw w'
  go_wp2_with fail
  have q0 : Below w.heap.size w (((w.alloc (.cells #[.int .i64 0, .int .i64 0, .slice none 0 0, .slice none 0 0] 71)).alloc (.cells #[.int .i64 0, .int .i64 0] 73)).alloc (.cells #[.slice a zs.length cap, .int .i64 0] 156)) := (by repeat' (first | with_reducible exact Below.refl _ _ | with_reducible assumption | with_reducible refine Below.drew ?_ | with_reducible refine Below.alloc ?_ ?_ _ | with_reducible refine Below.setCell ?_ ?_ _ | (simp; done) | (simp; omega) | omega))
  have sc : Src w (((w.alloc (.cells #[.int .i64 0, .int .i64 0, .slice none 0 0, .slice none 0 0] 71)).alloc (.cells #[.int .i64 0, .int .i64 0] 73)).alloc (.cells #[.slice a zs.length cap, .int .i64 0] 156)) (w.heap.size + 2) (.slice a zs.length cap) 0 := ⟨by simp [go_sem], by simp [go_sem], fun o => by simp [go_sem], q0, by omega⟩
  have rb : RB w.heap.size (((w.alloc (.cells #[.int .i64 0, .int .i64 0, .slice none 0 0, .slice none 0 0] 71)).alloc (.cells #[.int .i64 0, .int .i64 0] 73)).alloc (.cells #[.slice a zs.length cap, .int .i64 0] 156)) := ⟨⟨.int .i64 0, by simp [go_sem]⟩, ⟨.int .i64 0, by simp [go_sem]⟩, ⟨.slice none 0 0, by simp [go_sem]⟩, ⟨.slice none 0 0, by simp [go_sem]⟩, fun o => by simp [go_sem]⟩
  have C0 : (((w.alloc (.cells #[.int .i64 0, .int .i64 0, .slice none 0 0, .slice none 0 0] 71)).alloc (.cells #[.int .i64 0, .int .i64 0] 73)).alloc (.cells #[.slice a zs.length cap, .int .i64 0] 156)).cell? ⟨w.heap.size + 1, 0, none⟩ = some (.int .i64 0) := by simp [go_sem]
  have Y0 : (((w.alloc (.cells #[.int .i64 0, .int .i64 0, .slice none 0 0, .slice none 0 0] 71)).alloc (.cells #[.int .i64 0, .int .i64 0] 73)).alloc (.cells #[.slice a zs.length cap, .int .i64 0] 156)).frozen? ⟨w.heap.size + 1, 0, none⟩ = false := by simp [go_sem]
  have C1 : (((w.alloc (.cells #[.int .i64 0, .int .i64 0, .slice none 0 0, .slice none 0 0] 71)).alloc (.cells #[.int .i64 0, .int .i64 0] 73)).alloc (.cells #[.slice a zs.length cap, .int .i64 0] 156)).cell? ⟨w.heap.size + 1, 1, none⟩ = some (.int .i64 0) := by simp [go_sem]
  have Y1 : (((w.alloc (.cells #[.int .i64 0, .int .i64 0, .slice none 0 0, .slice none 0 0] 71)).alloc (.cells #[.int .i64 0, .int .i64 0] 73)).alloc (.cells #[.slice a zs.length cap, .int .i64 0] 156)).frozen? ⟨w.heap.size + 1, 1, none⟩ = false := by simp [go_sem]
  have hsz : w.heap.size + 2 + 1 ≤ (((w.alloc (.cells #[.int .i64 0, .int .i64 0, .slice none 0 0, .slice none 0 0] 71)).alloc (.cells #[.int .i64 0, .int .i64 0] 73)).alloc (.cells #[.slice a zs.length cap, .int .i64 0] 156)).heap.size := by simp; try omega
  have esz : (((w.alloc (.cells #[.int .i64 0, .int .i64 0, .slice none 0 0, .slice none 0 0] 71)).alloc (.cells #[.int .i64 0, .int .i64 0] 73)).alloc (.cells #[.slice a zs.length cap, .int .i64 0] 156)).heap.size = w.heap.size + 2 + 1 := by simp
  generalize (((w.alloc (.cells #[.int .i64 0, .int .i64 0, .slice none 0 0, .slice none 0 0] 71)).alloc (.cells #[.int .i64 0, .int .i64 0] 73)).alloc (.cells #[.slice a zs.length cap, .int .i64 0] 156)) = u0 at *
  skip
  clear esz
  clear q0
  try go_wp2_with fail
  refine (l3Bent_calls zs a cap (w.heap.size + 2) 0 w u0 hv HZ.out hlen sc (by omega) (by omega)).mono ?_
  rintro e u1 ⟨r, wd, bx, n, cx, v, bs, q, rfl, _, hq0, hq1, V, _, _⟩
  have xx := V.wi
  have hU : w.heap.size + 2 + 1 ≤ u0.heap.size := hsz
  replace rb := rb.within xx (by omega)
  replace C0 := xx.cellg (by omega) C0
  replace Y0 := xx.frozeng (by omega) (by omega) Y0
  replace C1 := xx.cellg (by omega) C1
  replace Y1 := xx.frozeng (by omega) (by omega) Y1
  replace hsz : w.heap.size + 2 + 1 ≤ u1.heap.size := Nat.le_trans hsz xx.size
  obtain ⟨av, cv, rfl, hcv⟩ := own_room2 V.own
  clear xx sc
  try go_wp2_with fail
  refine (l1Next_calls zs a cap (w.heap.size + 2) (q) 5 w u1 hv HZ.out hlen V.src (by omega) (by omega) (by omega) (by omega)).mono ?_
  rintro e u2 ⟨y1, rfl, hy10, hy11, ss, xx⟩
  replace V := V.within ss xx
  replace rb := rb.within xx (by omega)
  replace C0 := xx.cellg (by omega) C0
  replace Y0 := xx.frozeng (by omega) (by omega) Y0
  replace C1 := xx.cellg (by omega) C1
  replace Y1 := xx.frozeng (by omega) (by omega) Y1
  replace hsz : w.heap.size + 2 + 1 ≤ u2.heap.size := Nat.le_trans hsz xx.size
  clear ss xx
  try go_wp2_with fail
  refine (l1Next_calls zs a cap (w.heap.size + 2) (q + 1) 6 w u2 hv HZ.out hlen V.src (by omega) (by omega) (by omega) (by omega)).mono ?_
  rintro e u3 ⟨y2, rfl, hy20, hy21, ss, xx⟩
  replace V := V.within ss xx
  replace rb := rb.within xx (by omega)
  replace C0 := xx.cellg (by omega) C0
  replace Y0 := xx.frozeng (by omega) (by omega) Y0
  replace C1 := xx.cellg (by omega) C1
  replace Y1 := xx.frozeng (by omega) (by omega) Y1
  replace hsz : w.heap.size + 2 + 1 ≤ u3.heap.size := Nat.le_trans hsz xx.size
  clear ss xx
  try go_wp2_with fail
  refine (l3DrawCell_calls zs a cap (w.heap.size + 2) (q + 1 + 1) w u3 hv HZ.out hlen V.src (by omega) (by omega)).mono ?_
  rintro e u4 ⟨c, g, rfl, ss, xx⟩
  replace V := V.within ss xx
  replace rb := rb.within xx (by omega)
  replace C0 := xx.cellg (by omega) C0
  replace Y0 := xx.frozeng (by omega) (by omega) Y0
  replace C1 := xx.cellg (by omega) C1
  replace Y1 := xx.frozeng (by omega) (by omega) Y1
  replace hsz : w.heap.size + 2 + 1 ≤ u4.heap.size := Nat.le_trans hsz xx.size
  clear ss xx
  obtain ⟨x0, c0⟩ := rb.c0
  obtain ⟨x1, c1⟩ := rb.c1
  obtain ⟨x2, c2⟩ := rb.c2
  obtain ⟨x3, c3⟩ := rb.c3
  have f0 := rb.fz 0
  have f1 := rb.fz 1
  have f2 := rb.fz 2
  have f3 := rb.fz 3
  have t4 : Touch w.heap.size 0 4 u4 ((((u4.setCell ⟨w.heap.size, 0, none⟩ (.int .i64 r)).setCell ⟨w.heap.size, 1, none⟩ (.int .i64 wd)).setCell ⟨w.heap.size, 2, none⟩ (.slice (some ⟨bx, 0, none⟩) n cx)).setCell ⟨w.heap.size, 3, none⟩ (.slice av bs.length cv)) := (((((Touch.refl _ _ _ _).setCell (by omega) (by omega) _).setCell (by omega) (by omega) _).setCell (by omega) (by omega) _).setCell (by omega) (by omega) _)
  have t2 : Touch (w.heap.size + 1) 0 2 ((((u4.setCell ⟨w.heap.size, 0, none⟩ (.int .i64 r)).setCell ⟨w.heap.size, 1, none⟩ (.int .i64 wd)).setCell ⟨w.heap.size, 2, none⟩ (.slice (some ⟨bx, 0, none⟩) n cx)).setCell ⟨w.heap.size, 3, none⟩ (.slice av bs.length cv)) ((((((u4.setCell ⟨w.heap.size, 0, none⟩ (.int .i64 r)).setCell ⟨w.heap.size, 1, none⟩ (.int .i64 wd)).setCell ⟨w.heap.size, 2, none⟩ (.slice (some ⟨bx, 0, none⟩) n cx)).setCell ⟨w.heap.size, 3, none⟩ (.slice av bs.length cv)).setCell ⟨w.heap.size + 1, 0, none⟩ (.int .i64 c)).setCell ⟨w.heap.size + 1, 1, none⟩ (.int .i64 g)) := (((Touch.refl _ _ _ _).setCell (by omega) (by omega) _).setCell (by omega) (by omega) _)
  have hr := res4 (w := u4) (r := w.heap.size) (.int .i64 r) (.int .i64 wd) (.slice (some ⟨bx, 0, none⟩) n cx) (.slice av bs.length cv) c0 c1 c2 c3
  have D0 := t4.cellAt C0 (by omega)
  have D1 := t4.cellAt C1 (by omega)
  have G0 := t4.frozenAt (by omega) Y0
  have G1 := t4.frozenAt (by omega) Y1
  have hc := res2 (w := ((((u4.setCell ⟨w.heap.size, 0, none⟩ (.int .i64 r)).setCell ⟨w.heap.size, 1, none⟩ (.int .i64 wd)).setCell ⟨w.heap.size, 2, none⟩ (.slice (some ⟨bx, 0, none⟩) n cx)).setCell ⟨w.heap.size, 3, none⟩ (.slice av bs.length cv))) (r := w.heap.size + 1) (.int .i64 c) (.int .i64 g) D0 D1
  have HH := hide (And.intro (t2.cellAt hr.1 (by omega)) (And.intro (t2.cellAt hr.2.1 (by omega)) (And.intro (t2.cellAt hr.2.2.1 (by omega)) (And.intro (t2.cellAt hr.2.2.2 (by omega)) hc))))
  obtain ⟨cs, hcl, hn24, hb40, l1, l2, k1, k2⟩ := V.lists2 (W' := ((((((u4.setCell ⟨w.heap.size, 0, none⟩ (.int .i64 r)).setCell ⟨w.heap.size, 1, none⟩ (.int .i64 wd)).setCell ⟨w.heap.size, 2, none⟩ (.slice (some ⟨bx, 0, none⟩) n cx)).setCell ⟨w.heap.size, 3, none⟩ (.slice av bs.length cv)).setCell ⟨w.heap.size + 1, 0, none⟩ (.int .i64 c)).setCell ⟨w.heap.size + 1, 1, none⟩ (.int .i64 g))) (fun i h1 h2 => (t2.block i (by have := t4.size; omega) (by omega)).trans (t4.block i h2 (by omega)))
  have QQ := hide ((V.src.old.trans (t4.below (B := w.heap.size) (Nat.le_refl _) (by omega))).trans (t2.below (B := w.heap.size) (by omega) (by have := t4.size; omega)))
  have HL := hide (And.intro l1 l2)
  have HC := hide hcl
  clear t4 t2 rb V l1 l2 hcl hsz hr hc
  go_wp2
  have hr := HH.out
  refine bodyPost_ret (v := .tuple #[.agg #[.int .i64 r, .int .i64 wd, .slice (some ⟨bx, 0, none⟩) n cx, .slice av bs.length cv], .int .i64 (y1 - 1), .int .i64 (y2 - 1), .agg #[.int .i64 c, .int .i64 g]]) (by simp only [results, Try.results41]; simp [go_sem, hr.1, hr.2.1, hr.2.2.1, hr.2.2.2.1, hr.2.2.2.2.1, hr.2.2.2.2.2]) rfl ⟨r, wd, _, _, cs, bs, y1 - 1, y2 - 1, c, g, rfl, by have := HC.out; omega, hb40, ?_, HL.out.2, k1, k2, QQ.out⟩
  exact HL.out.1
set_option maxHeartbeats 4000000 in
theorem drawErase_calls (zs : List Int) (a : Option Addr) (cap : Nat) (w : World) (hv : ReadAt .u8 w (.slice a zs.length cap) zs) (hz : ∀ z ∈ zs, 0 ≤ z ∧ z ≤ 255) (hlen : zs.length ≤ 1048576) :
    Calls Try.prog 43 #[.slice a zs.length cap] w fun e w' => ∃ (r wd : Int) (v1 v2 : Value) (cs bs : List (Int × Int)) (f t at' : Int), e = .returned (.tuple #[.agg #[.int .i64 r, .int .i64 wd, v1, v2], .int .i64 f, .int .i64 t, .int .i64 at']) ∧ 0 < cs.length ∧ cs.length ≤ 24 ∧ bs.length ≤ 40 ∧ PRead w' v1 cs ∧ PRead w' v2 bs ∧ Capped v1 ∧ Capped v2 ∧ Below w.heap.size w w' := by
  have HZ := hide hz
  clear hz
  go_enter Try.func43, Try.ntmps43
  go_wp2_with fail
  refine (l1Source_calls (.slice a zs.length cap) _ _ _ _).mono ?_
  rintro e w' ⟨rfl, hw⟩
  rw [hw]
  clear hw w'
  go_wp2_with fail
  have q0 : Below w.heap.size w ((w.alloc (.cells #[.int .i64 0, .int .i64 0, .slice none 0 0, .slice none 0 0] 71)).alloc (.cells #[.slice a zs.length cap, .int .i64 0] 156)) := (by repeat' (first | with_reducible exact Below.refl _ _ | with_reducible assumption | with_reducible refine Below.drew ?_ | with_reducible refine Below.alloc ?_ ?_ _ | with_reducible refine Below.setCell ?_ ?_ _ | (simp; done) | (simp; omega) | omega))
  have sc : Src w ((w.alloc (.cells #[.int .i64 0, .int .i64 0, .slice none 0 0, .slice none 0 0] 71)).alloc (.cells #[.slice a zs.length cap, .int .i64 0] 156)) (w.heap.size + 1) (.slice a zs.length cap) 0 := ⟨by simp [go_sem], by simp [go_sem], fun o => by simp [go_sem], q0, by omega⟩
  have rb : RB w.heap.size ((w.alloc (.cells #[.int .i64 0, .int .i64 0, .slice none 0 0, .slice none 0 0] 71)).alloc (.cells #[.slice a zs.length cap, .int .i64 0] 156)) := ⟨⟨.int .i64 0, by simp [go_sem]⟩, ⟨.int .i64 0, by simp [go_sem]⟩, ⟨.slice none 0 0, by simp [go_sem]⟩, ⟨.slice none 0 0, by simp [go_sem]⟩, fun o => by simp [go_sem]⟩
  have hsz : w.heap.size + 1 + 1 ≤ ((w.alloc (.cells #[.int .i64 0, .int .i64 0, .slice none 0 0, .slice none 0 0] 71)).alloc (.cells #[.slice a zs.length cap, .int .i64 0] 156)).heap.size := by simp; try omega
  have esz : ((w.alloc (.cells #[.int .i64 0, .int .i64 0, .slice none 0 0, .slice none 0 0] 71)).alloc (.cells #[.slice a zs.length cap, .int .i64 0] 156)).heap.size = w.heap.size + 1 + 1 := by simp
  generalize ((w.alloc (.cells #[.int .i64 0, .int .i64 0, .slice none 0 0, .slice none 0 0] 71)).alloc (.cells #[.slice a zs.length cap, .int .i64 0] 156)) = u0 at *
  skip
  clear esz
  clear q0
  try go_wp2_with fail
  refine (l3Bent_calls zs a cap (w.heap.size + 1) 0 w u0 hv HZ.out hlen sc (by omega) (by omega)).mono ?_
  rintro e u1 ⟨r, wd, bx, n, cx, v, bs, q, rfl, _, hq0, hq1, V, _, _⟩
  have xx := V.wi
  have hU : w.heap.size + 1 + 1 ≤ u0.heap.size := hsz
  replace rb := rb.within xx (by omega)
  replace hsz : w.heap.size + 1 + 1 ≤ u1.heap.size := Nat.le_trans hsz xx.size
  obtain ⟨av, cv, rfl, hcv⟩ := own_room2 V.own
  clear xx sc
  have hb : Below u1.heap.size u1 (u1.alloc (.cells #[.int .i64 r, .int .i64 wd, .slice (some ⟨bx, 0, none⟩) n cx, .slice av bs.length cv] 71)) := (Below.refl _ _).alloc (Nat.le_refl _) _
  have E0 : (u1.alloc (.cells #[.int .i64 r, .int .i64 wd, .slice (some ⟨bx, 0, none⟩) n cx, .slice av bs.length cv] 71)).cell? ⟨u1.heap.size, 0, none⟩ = some (.int .i64 r) := by simp [go_sem]
  have E1 : (u1.alloc (.cells #[.int .i64 r, .int .i64 wd, .slice (some ⟨bx, 0, none⟩) n cx, .slice av bs.length cv] 71)).cell? ⟨u1.heap.size, 1, none⟩ = some (.int .i64 wd) := by simp [go_sem]
  have E2 : (u1.alloc (.cells #[.int .i64 r, .int .i64 wd, .slice (some ⟨bx, 0, none⟩) n cx, .slice av bs.length cv] 71)).cell? ⟨u1.heap.size, 2, none⟩ = some (.slice (some ⟨bx, 0, none⟩) n cx) := by simp [go_sem]
  have E3 : (u1.alloc (.cells #[.int .i64 r, .int .i64 wd, .slice (some ⟨bx, 0, none⟩) n cx, .slice av bs.length cv] 71)).cell? ⟨u1.heap.size, 3, none⟩ = some (.slice av bs.length cv) := by simp [go_sem]
  have hold : w.heap.size + 1 + 1 ≤ u1.heap.size := hsz
  replace V := V.below hb
  replace rb := rb.below hb
  replace hsz : w.heap.size + 1 + 1 ≤ (u1.alloc (.cells #[.int .i64 r, .int .i64 wd, .slice (some ⟨bx, 0, none⟩) n cx, .slice av bs.length cv] 71)).heap.size := Nat.le_trans hsz hb.size
  clear hb
  have hvl := V.lo
  go_wp2_with fail
  generalize (u1.alloc (.cells #[.int .i64 r, .int .i64 wd, .slice (some ⟨bx, 0, none⟩) n cx, .slice av bs.length cv] 71)) = v0 at *
  obtain ⟨T, hT⟩ : ∃ T, T = u1.heap.size := ⟨_, rfl⟩
  rw [← hT] at E0 E1 E2 E3 ⊢
  have hTl : w.heap.size + 1 + 1 ≤ T := by omega
  clear hT hold
  have z1 : IntKind.i64.wrap ((n : Int) + 1) = (n : Int) + 1 := wrap_small (by omega) (by omega)
  have z2 : IntKind.i64.wrap ((n : Int) + 2) = (n : Int) + 2 := wrap_small (by omega) (by omega)
  refine wp_region_held_drew (S := (fun w' => w'.cell? ⟨T, 0, none⟩ = some (.int .i64 r) ∧ w'.cell? ⟨T, 1, none⟩ = some (.int .i64 wd) ∧ w'.cell? ⟨T, 2, none⟩ = some (.slice (some ⟨bx, 0, none⟩) n cx) ∧ w'.cell? ⟨T, 3, none⟩ = some (.slice av bs.length cv))) (by kernel_rfl) ?_ (fun hHeld => ?_)
  · (try dsimp only); exact ⟨E0, E1, E2, E3⟩
  replace V := V.below (show Below v0.heap.size v0 v0.drew from below_drewN (Below.refl _ _) 1)
  replace rb := rb.below (show Below v0.heap.size v0 v0.drew from below_drewN (Below.refl _ _) 1)
  replace E0 := cellb (show Below v0.heap.size v0 v0.drew from below_drewN (Below.refl _ _) 1) E0
  replace E1 := cellb (show Below v0.heap.size v0 v0.drew from below_drewN (Below.refl _ _) 1) E1
  replace E2 := cellb (show Below v0.heap.size v0 v0.drew from below_drewN (Below.refl _ _) 1) E2
  replace E3 := cellb (show Below v0.heap.size v0 v0.drew from below_drewN (Below.refl _ _) 1) E3
  replace hsz : w.heap.size + 1 + 1 ≤ v0.drew.heap.size := hsz
  generalize v0.drew = v0 at *
  refine wpAnyH_take (i := 0) (oi := ⟨_, _, _, _, _, _⟩) (v := ?_) rfl (by kernel_rfl) (by kernel_rfl) (by kernel_rfl) (fun _ _ _ h => h) (Or.inl ⟨by rfl, ?_⟩) hHeld ?_
  rotate_left
  · (intro w hSw; (try dsimp only at hSw); go_simp; try (with_reducible rfl))
  try simp only [Act.put, List.setIfInBounds_toArray, List.set_cons_zero, List.set_cons_succ]
  refine wpAnyH_take (i := 1) (oi := ⟨_, _, _, _, _, _⟩) (v := ?_) rfl (by kernel_rfl) (by kernel_rfl) (by kernel_rfl) (fun _ _ _ h => h) (Or.inl ⟨by rfl, ?_⟩) hHeld ?_
  rotate_left
  · (intro w hSw; (try dsimp only at hSw); go_simp; try (with_reducible rfl))
  try simp only [Act.put, List.setIfInBounds_toArray, List.set_cons_zero, List.set_cons_succ]
  refine wpAnyH_take (i := 2) (oi := ⟨_, _, _, _, _, _⟩) (v := ?_) rfl (by kernel_rfl) (by kernel_rfl) (by kernel_rfl) (fun _ _ _ h => h) (Or.inl ⟨by rfl, ?_⟩) hHeld ?_
  rotate_left
  · (intro w hSw; (try dsimp only at hSw); go_simp; try (with_reducible rfl))
  try simp only [Act.put, List.setIfInBounds_toArray, List.set_cons_zero, List.set_cons_succ]
  refine wpAnyH_take (i := 3) (oi := ⟨_, _, _, _, _, _⟩) (v := ?_) rfl (by kernel_rfl) (by kernel_rfl) (by kernel_rfl) (fun _ _ _ h => h) (Or.inl ⟨by rfl, ?_⟩) hHeld ?_
  rotate_left
  · (intro w hSw; (try dsimp only at hSw); go_simp; try (with_reducible rfl))
  try simp only [Act.put, List.setIfInBounds_toArray, List.set_cons_zero, List.set_cons_succ]
  refine wpAnyH_take (i := 5) (oi := ⟨_, _, _, _, _, _⟩) (v := ?_) rfl (by kernel_rfl) (by kernel_rfl) (by kernel_rfl) (fun _ _ _ h => h) (Or.inl ⟨by rfl, ?_⟩) hHeld ?_
  rotate_left
  · (intro w hSw; (try dsimp only at hSw); go_simp; try (with_reducible rfl))
  try simp only [Act.put, List.setIfInBounds_toArray, List.set_cons_zero, List.set_cons_succ]
  refine wpAnyH_take (i := 6) (oi := ⟨_, _, _, _, _, _⟩) (v := ?_) rfl (by kernel_rfl) (by kernel_rfl) (by kernel_rfl) (fun _ _ _ h => h) (Or.inl ⟨by rfl, ?_⟩) hHeld ?_
  rotate_left
  · (intro w hSw; (try dsimp only at hSw); go_simp; try (with_reducible rfl))
  try simp only [Act.put, List.setIfInBounds_toArray, List.set_cons_zero, List.set_cons_succ]
  refine wpAnyH_take (i := 7) (oi := ⟨_, _, _, _, _, _⟩) (v := ?_) rfl (by kernel_rfl) (by kernel_rfl) (by kernel_rfl) (fun _ _ _ h => h) (Or.inl ⟨by rfl, ?_⟩) hHeld ?_
  rotate_left
  · (intro w hSw; (try dsimp only at hSw); go_simp; try (with_reducible rfl))
  try simp only [Act.put, List.setIfInBounds_toArray, List.set_cons_zero, List.set_cons_succ]
  refine wpAnyH_take (i := 8) (oi := ⟨_, _, _, _, _, _⟩) (v := ?_) rfl (by kernel_rfl) (by kernel_rfl) (by kernel_rfl) (fun _ _ _ h => h) (Or.inl ⟨by rfl, ?_⟩) hHeld ?_
  rotate_left
  · (intro w hSw; (try dsimp only at hSw); go_simp; try (with_reducible rfl))
  try simp only [Act.put, List.setIfInBounds_toArray, List.set_cons_zero, List.set_cons_succ]
  refine wpAnyH_take (i := 9) (oi := ⟨_, _, _, _, _, _⟩) (v := ?_) rfl (by kernel_rfl) (by kernel_rfl) (by kernel_rfl) (fun _ _ _ h => h) (Or.inl ⟨by rfl, ?_⟩) hHeld ?_
  rotate_left
  · (intro w hSw; (try dsimp only at hSw); go_simp; try (with_reducible rfl))
  try simp only [Act.put, List.setIfInBounds_toArray, List.set_cons_zero, List.set_cons_succ]
  refine wpAnyH_take (i := 11) (oi := ⟨_, _, _, _, _, _⟩) (v := ?_) rfl (by kernel_rfl) (by kernel_rfl) (by kernel_rfl) (fun _ _ _ h => h) (Or.inl ⟨by rfl, ?_⟩) hHeld ?_
  rotate_left
  · (intro w hSw; (try dsimp only at hSw); go_simp; try (with_reducible rfl))
  try simp only [Act.put, List.setIfInBounds_toArray, List.set_cons_zero, List.set_cons_succ]
  refine wpAnyH_take (i := 12) (oi := ⟨_, _, _, _, _, _⟩) (v := ?_) rfl (by kernel_rfl) (by kernel_rfl) (by kernel_rfl) (fun _ _ _ h => h) (Or.inl ⟨by rfl, ?_⟩) hHeld ?_
  rotate_left
  · (intro w hSw; (try dsimp only at hSw); go_simp; try (with_reducible rfl))
  try simp only [Act.put, List.setIfInBounds_toArray, List.set_cons_zero, List.set_cons_succ]
  refine wpAnyH_take (i := 15) (oi := ⟨_, _, _, _, _, _⟩) (v := ?_) rfl (by kernel_rfl) (by kernel_rfl) (by kernel_rfl) (fun _ _ _ h => h) (Or.inl ⟨by rfl, ?_⟩) hHeld ?_
  rotate_left
  · (intro w hSw; (try dsimp only at hSw); go_simp; try (with_reducible rfl))
  try simp only [Act.put, List.setIfInBounds_toArray, List.set_cons_zero, List.set_cons_succ]
  refine wpAnyH_ready (rs := [4, 16]) (by kernel_rfl) (by simp) ?_
  refine (AllReadyH.cons (o := ⟨_, _, _, _, _, _⟩) rfl (fun K hK => ?_) (AllReadyH.cons (o := ⟨_, _, _, _, _, _⟩) rfl (fun K hK => ?_) AllReadyH.nil))
  · skip
    go_simp
    go_at_call 57
    refine (l1Next_calls zs a cap (w.heap.size + 1) (q) ((n : Int) + 1) w v0 hv HZ.out hlen V.src (by omega) (by omega) (by omega) (by omega)).mono ?_
    rintro e v1 ⟨y1, rfl, hy10, hy11, ss, xx⟩
    replace E0 := xx.cellg (by omega) E0
    replace E1 := xx.cellg (by omega) E1
    replace E2 := xx.cellg (by omega) E2
    replace E3 := xx.cellg (by omega) E3
    replace V := V.within ss xx
    replace rb := rb.within xx (by omega)
    replace hsz : w.heap.size + 1 + 1 ≤ v1.heap.size := Nat.le_trans hsz xx.size
    clear ss xx
    try go_wp2_with fail
    refine hK.out _ _ ?_ ?_
    · (try dsimp only); exact ⟨E0, E1, E2, E3⟩
    clear hHeld hK K
    intro hHeld
    try simp only [Act.put, List.setIfInBounds_toArray, List.set_cons_zero, List.set_cons_succ]
    refine wpAnyH_ready (rs := [10, 16]) (by kernel_rfl) (by simp) ?_
    refine (AllReadyH.cons (o := ⟨_, _, _, _, _, _⟩) rfl (fun K hK => ?_) (AllReadyH.cons (o := ⟨_, _, _, _, _, _⟩) rfl (fun K hK => ?_) AllReadyH.nil))
    · skip
      go_simp
      go_at_call 57
      refine (l1Next_calls zs a cap (w.heap.size + 1) (q + 1) ((n : Int) + 2) w v1 hv HZ.out hlen V.src (by omega) (by omega) (by omega) (by omega)).mono ?_
      rintro e v2 ⟨y2, rfl, hy20, hy21, ss, xx⟩
      replace E0 := xx.cellg (by omega) E0
      replace E1 := xx.cellg (by omega) E1
      replace E2 := xx.cellg (by omega) E2
      replace E3 := xx.cellg (by omega) E3
      replace V := V.within ss xx
      replace rb := rb.within xx (by omega)
      replace hsz : w.heap.size + 1 + 1 ≤ v2.heap.size := Nat.le_trans hsz xx.size
      clear ss xx
      try go_wp2_with fail
      refine hK.out _ _ ?_ ?_
      · (try dsimp only); exact ⟨E0, E1, E2, E3⟩
      clear hHeld hK K
      intro hHeld
      try simp only [Act.put, List.setIfInBounds_toArray, List.set_cons_zero, List.set_cons_succ]
      refine wpAnyH_ready (rs := [13, 16]) (by kernel_rfl) (by simp) ?_
      refine (AllReadyH.cons (o := ⟨_, _, _, _, _, _⟩) rfl (fun K hK => ?_) (AllReadyH.cons (o := ⟨_, _, _, _, _, _⟩) rfl (fun K hK => ?_) AllReadyH.nil))
      · skip
        go_simp
        have hb : Below v2.heap.size v2 (v2.alloc (.cells #[.int .i64 (n : Int), .int .i64 y2, .int .i64 ((n : Int) + 1)] 2)) := (Below.refl _ _).alloc (Nat.le_refl _) _
        have haa := new_ints (w := v2) (C := #[.int .i64 (n : Int), .int .i64 y2, .int .i64 ((n : Int) + 1)]) (t := 2) (k := .i64) (xs := [(n : Int), y2, ((n : Int) + 1)]) rfl
        have laa : w.heap.size + 1 + 1 ≤ v2.heap.size := hsz
        replace E0 := cellb hb E0
        replace E1 := cellb hb E1
        replace E2 := cellb hb E2
        replace E3 := cellb hb E3
        replace V := V.below hb
        replace rb := rb.below hb
        replace hsz : w.heap.size + 1 + 1 ≤ (v2.alloc (.cells #[.int .i64 (n : Int), .int .i64 y2, .int .i64 ((n : Int) + 1)] 2)).heap.size := Nat.le_trans hsz hb.size
        clear hb
        obtain ⟨gA, eaa⟩ : ∃ g, g = v2.heap.size := ⟨_, rfl⟩
        rw [← eaa] at haa laa ⊢
        clear eaa
        generalize (v2.alloc (.cells #[.int .i64 (n : Int), .int .i64 y2, .int .i64 ((n : Int) + 1)] 2)) = v3 at *
        refine hK.out _ _ ?_ ?_
        · (try dsimp only); exact ⟨E0, E1, E2, E3⟩
        clear hHeld hK K
        intro hHeld
        try simp only [Act.put, List.setIfInBounds_toArray, List.set_cons_zero, List.set_cons_succ]
        refine wpAnyH_ready (rs := [14, 16]) (by kernel_rfl) (by simp) ?_
        refine (AllReadyH.cons (o := ⟨_, _, _, _, _, _⟩) rfl (fun K hK => ?_) (AllReadyH.cons (o := ⟨_, _, _, _, _, _⟩) rfl (fun K hK => ?_) AllReadyH.nil))
        · skip
          go_simp
          go_at_call 64
          refine (l1Pick_calls zs [(n : Int), y2, ((n : Int) + 1)] a cap (w.heap.size + 1) gA 3 3 (q + 1 + 1) w v3 hv HZ.out hlen V.src (by omega) (by omega) rfl (by omega) (by omega) (.inr laa) haa).mono ?_
          rintro e v4 ⟨y3, rfl, _, ss, xx⟩
          replace E0 := xx.cellg (by omega) E0
          replace E1 := xx.cellg (by omega) E1
          replace E2 := xx.cellg (by omega) E2
          replace E3 := xx.cellg (by omega) E3
          replace V := V.within ss xx
          replace rb := rb.within xx (by omega)
          replace hsz : w.heap.size + 1 + 1 ≤ v4.heap.size := Nat.le_trans hsz xx.size
          clear ss xx
          try go_wp2_with fail
          refine hK.out _ _ ?_ ?_
          · (try dsimp only); exact ⟨E0, E1, E2, E3⟩
          clear hHeld hK K
          intro hHeld
          try simp only [Act.put, List.setIfInBounds_toArray, List.set_cons_zero, List.set_cons_succ]
          refine wpAnyH_ready (rs := [16]) (by kernel_rfl) (by simp) ?_
          refine (AllReadyH.cons (o := ⟨_, _, _, _, _, _⟩) rfl (fun K hK => ?_) AllReadyH.nil)
          go_simp
          have hb : Below v4.heap.size v4 (v4.alloc (.cells #[.int .i64 0, .int .i64 3, .int .i64 32] 2)) := (Below.refl _ _).alloc (Nat.le_refl _) _
          have hbb := new_ints (w := v4) (C := #[.int .i64 0, .int .i64 3, .int .i64 32]) (t := 2) (k := .i64) (xs := [0, 3, 32]) rfl
          have lbb : w.heap.size + 1 + 1 ≤ v4.heap.size := hsz
          replace E0 := cellb hb E0
          replace E1 := cellb hb E1
          replace E2 := cellb hb E2
          replace E3 := cellb hb E3
          replace V := V.below hb
          replace rb := rb.below hb
          replace hsz : w.heap.size + 1 + 1 ≤ (v4.alloc (.cells #[.int .i64 0, .int .i64 3, .int .i64 32] 2)).heap.size := Nat.le_trans hsz hb.size
          clear hb
          obtain ⟨gB, ebb⟩ : ∃ g, g = v4.heap.size := ⟨_, rfl⟩
          rw [← ebb] at hbb lbb ⊢
          clear ebb
          generalize (v4.alloc (.cells #[.int .i64 0, .int .i64 3, .int .i64 32] 2)) = v5 at *
          refine hK.out _ _ ?_ ?_
          · (try dsimp only); exact ⟨E0, E1, E2, E3⟩
          clear hHeld hK K
          intro hHeld
          try simp only [Act.put, List.setIfInBounds_toArray, List.set_cons_zero, List.set_cons_succ]
          refine wpAnyH_ready (rs := [17]) (by kernel_rfl) (by simp) ?_
          refine (AllReadyH.cons (o := ⟨_, _, _, _, _, _⟩) rfl (fun K hK => ?_) AllReadyH.nil)
          go_simp
          go_at_call 64
          refine (l1Pick_calls zs [0, 3, 32] a cap (w.heap.size + 1) gB 3 3 (q + 1 + 1 + 1) w v5 hv HZ.out hlen V.src (by omega) (by omega) rfl (by omega) (by omega) (.inr lbb) hbb).mono ?_
          rintro e v6 ⟨y4, rfl, _, ss, xx⟩
          replace E0 := xx.cellg (by omega) E0
          replace E1 := xx.cellg (by omega) E1
          replace E2 := xx.cellg (by omega) E2
          replace E3 := xx.cellg (by omega) E3
          replace V := V.within ss xx
          replace rb := rb.within xx (by omega)
          replace hsz : w.heap.size + 1 + 1 ≤ v6.heap.size := Nat.le_trans hsz xx.size
          clear ss xx
          try go_wp2_with fail
          refine hK.out _ _ ?_ ?_
          · (try dsimp only); exact ⟨E0, E1, E2, E3⟩
          clear hHeld hK K
          intro hHeld
          try simp only [Act.put, List.setIfInBounds_toArray, List.set_cons_zero, List.set_cons_succ]
          refine wpAnyH_ready (rs := [18]) (by kernel_rfl) (by simp) ?_
          refine (AllReadyH.cons (o := ⟨_, _, _, _, _, _⟩) rfl (fun K hK => ?_) AllReadyH.nil)
          obtain ⟨x0, c0⟩ := rb.c0
          obtain ⟨x1, c1⟩ := rb.c1
          obtain ⟨x2, c2⟩ := rb.c2
          obtain ⟨x3, c3⟩ := rb.c3
          have f0 := rb.fz 0
          have f1 := rb.fz 1
          have f2 := rb.fz 2
          have f3 := rb.fz 3
          go_simp
          have t4 : Touch w.heap.size 0 4 v6 ((((v6.setCell ⟨w.heap.size, 0, none⟩ (.int .i64 r)).setCell ⟨w.heap.size, 1, none⟩ (.int .i64 wd)).setCell ⟨w.heap.size, 2, none⟩ (.slice (some ⟨bx, 0, none⟩) n cx)).setCell ⟨w.heap.size, 3, none⟩ (.slice av bs.length cv)) := (((((Touch.refl _ _ _ _).setCell (by omega) (by omega) _).setCell (by omega) (by omega) _).setCell (by omega) (by omega) _).setCell (by omega) (by omega) _)
          have HR := hide (res4 (w := v6) (r := w.heap.size) (.int .i64 r) (.int .i64 wd) (.slice (some ⟨bx, 0, none⟩) n cx) (.slice av bs.length cv) c0 c1 c2 c3)
          obtain ⟨cs, hcl, hn24, hb40, l1, l2, k1, k2⟩ := V.lists2 (W' := ((((v6.setCell ⟨w.heap.size, 0, none⟩ (.int .i64 r)).setCell ⟨w.heap.size, 1, none⟩ (.int .i64 wd)).setCell ⟨w.heap.size, 2, none⟩ (.slice (some ⟨bx, 0, none⟩) n cx)).setCell ⟨w.heap.size, 3, none⟩ (.slice av bs.length cv))) (fun i h1 h2 => t4.block i h2 (by omega))
          have QQ := hide (V.src.old.trans (t4.below (B := w.heap.size) (Nat.le_refl _) (by omega)))
          have HL := hide (And.intro l1 l2)
          have HC := hide hcl
          replace E0 := t4.cellAt E0 (by omega)
          replace E1 := t4.cellAt E1 (by omega)
          replace E2 := t4.cellAt E2 (by omega)
          replace E3 := t4.cellAt E3 (by omega)
          generalize ((((v6.setCell ⟨w.heap.size, 0, none⟩ (.int .i64 r)).setCell ⟨w.heap.size, 1, none⟩ (.int .i64 wd)).setCell ⟨w.heap.size, 2, none⟩ (.slice (some ⟨bx, 0, none⟩) n cx)).setCell ⟨w.heap.size, 3, none⟩ (.slice av bs.length cv)) = vz at *
          clear t4 rb V l1 l2 hcl hsz c0 c1 c2 c3 f0 f1 f2 f3
          refine hK.out _ _ ?_ ?_
          · (try dsimp only); exact ⟨E0, E1, E2, E3⟩
          clear hHeld hK K
          intro hHeld
          try simp only [Act.put, List.setIfInBounds_toArray, List.set_cons_zero, List.set_cons_succ]
          refine wpAnyH_take (i := 19) (oi := ⟨_, _, _, _, _, _⟩) (v := ?_) rfl (by kernel_rfl) (by kernel_rfl) (by kernel_rfl) (fun _ _ _ h => h) (Or.inl ⟨by rfl, ?_⟩) hHeld ?_
          rotate_left
          · (intro w hSw; (try dsimp only at hSw); go_simp; try (with_reducible rfl))
          try simp only [Act.put, List.setIfInBounds_toArray, List.set_cons_zero, List.set_cons_succ]
          refine wpAnyH_take (i := 20) (oi := ⟨_, _, _, _, _, _⟩) (v := ?_) rfl (by kernel_rfl) (by kernel_rfl) (by kernel_rfl) (fun _ _ _ h => h) (Or.inl ⟨by rfl, ?_⟩) hHeld ?_
          rotate_left
          · (intro w hSw; (try dsimp only at hSw); go_simp; try (with_reducible rfl))
          try simp only [Act.put, List.setIfInBounds_toArray, List.set_cons_zero, List.set_cons_succ]
          refine wpAnyH_take (i := 21) (oi := ⟨_, _, _, _, _, _⟩) (v := ?_) rfl (by kernel_rfl) (by kernel_rfl) (by kernel_rfl) (fun _ _ _ h => h) (Or.inl ⟨by rfl, ?_⟩) hHeld ?_
          rotate_left
          · (intro w hSw; (try dsimp only at hSw); go_simp; try (with_reducible rfl))
          try simp only [Act.put, List.setIfInBounds_toArray, List.set_cons_zero, List.set_cons_succ]
          refine wpAnyH_done (by kernel_rfl) ?_ _
          clear hHeld
          go_wp2
          have hr := HR.out
          refine bodyPost_ret (v := .tuple #[.agg #[.int .i64 r, .int .i64 wd, .slice (some ⟨bx, 0, none⟩) n cx, .slice av bs.length cv], .int .i64 y1, .int .i64 y3, .int .i64 y4]) (by simp only [results, Try.results43]; simp [go_sem, hr.1, hr.2.1, hr.2.2.1, hr.2.2.2]) rfl ⟨r, wd, _, _, cs, bs, y1, y3, y4, rfl, by have := HC.out; omega, by have := HC.out; omega, hb40, ?_, HL.out.2, k1, k2, QQ.out⟩
          exact HL.out.1
        · skip
          go_simp
          have hb : Below v3.heap.size v3 (v3.alloc (.cells #[.int .i64 0, .int .i64 3, .int .i64 32] 2)) := (Below.refl _ _).alloc (Nat.le_refl _) _
          have hbb := new_ints (w := v3) (C := #[.int .i64 0, .int .i64 3, .int .i64 32]) (t := 2) (k := .i64) (xs := [0, 3, 32]) rfl
          have lbb : w.heap.size + 1 + 1 ≤ v3.heap.size := hsz
          replace E0 := cellb hb E0
          replace E1 := cellb hb E1
          replace E2 := cellb hb E2
          replace E3 := cellb hb E3
          replace V := V.below hb
          replace rb := rb.below hb
          replace hsz : w.heap.size + 1 + 1 ≤ (v3.alloc (.cells #[.int .i64 0, .int .i64 3, .int .i64 32] 2)).heap.size := Nat.le_trans hsz hb.size
          replace haa : ∀ i, i < ([(n : Int), y2, ((n : Int) + 1)] : List Int).length → _ := fun i hi => cellb hb (haa i hi)
          clear hb
          obtain ⟨gB, ebb⟩ : ∃ g, g = v3.heap.size := ⟨_, rfl⟩
          rw [← ebb] at hbb lbb ⊢
          clear ebb
          generalize (v3.alloc (.cells #[.int .i64 0, .int .i64 3, .int .i64 32] 2)) = v7 at *
          refine hK.out _ _ ?_ ?_
          · (try dsimp only); exact ⟨E0, E1, E2, E3⟩
          clear hHeld hK K
          intro hHeld
          try simp only [Act.put, List.setIfInBounds_toArray, List.set_cons_zero, List.set_cons_succ]
          refine wpAnyH_ready (rs := [14]) (by kernel_rfl) (by simp) ?_
          refine (AllReadyH.cons (o := ⟨_, _, _, _, _, _⟩) rfl (fun K hK => ?_) AllReadyH.nil)
          go_simp
          go_at_call 64
          refine (l1Pick_calls zs [(n : Int), y2, ((n : Int) + 1)] a cap (w.heap.size + 1) gA 3 3 (q + 1 + 1) w v7 hv HZ.out hlen V.src (by omega) (by omega) rfl (by omega) (by omega) (.inr laa) haa).mono ?_
          rintro e v8 ⟨y3, rfl, _, ss, xx⟩
          replace E0 := xx.cellg (by omega) E0
          replace E1 := xx.cellg (by omega) E1
          replace E2 := xx.cellg (by omega) E2
          replace E3 := xx.cellg (by omega) E3
          replace V := V.within ss xx
          replace rb := rb.within xx (by omega)
          replace hsz : w.heap.size + 1 + 1 ≤ v8.heap.size := Nat.le_trans hsz xx.size
          replace hbb : ∀ i, i < ([0, 3, 32] : List Int).length → _ := fun i hi => xx.cellg (.inr lbb) (hbb i hi)
          clear ss xx
          try go_wp2_with fail
          refine hK.out _ _ ?_ ?_
          · (try dsimp only); exact ⟨E0, E1, E2, E3⟩
          clear hHeld hK K
          intro hHeld
          try simp only [Act.put, List.setIfInBounds_toArray, List.set_cons_zero, List.set_cons_succ]
          refine wpAnyH_ready (rs := [17]) (by kernel_rfl) (by simp) ?_
          refine (AllReadyH.cons (o := ⟨_, _, _, _, _, _⟩) rfl (fun K hK => ?_) AllReadyH.nil)
          go_simp
          go_at_call 64
          refine (l1Pick_calls zs [0, 3, 32] a cap (w.heap.size + 1) gB 3 3 (q + 1 + 1 + 1) w v8 hv HZ.out hlen V.src (by omega) (by omega) rfl (by omega) (by omega) (.inr lbb) hbb).mono ?_
          rintro e v9 ⟨y4, rfl, _, ss, xx⟩
          replace E0 := xx.cellg (by omega) E0
          replace E1 := xx.cellg (by omega) E1
          replace E2 := xx.cellg (by omega) E2
          replace E3 := xx.cellg (by omega) E3
          replace V := V.within ss xx
          replace rb := rb.within xx (by omega)
          replace hsz : w.heap.size + 1 + 1 ≤ v9.heap.size := Nat.le_trans hsz xx.size
          clear ss xx
          try go_wp2_with fail
          refine hK.out _ _ ?_ ?_
          · (try dsimp only); exact ⟨E0, E1, E2, E3⟩
          clear hHeld hK K
          intro hHeld
          try simp only [Act.put, List.setIfInBounds_toArray, List.set_cons_zero, List.set_cons_succ]
          refine wpAnyH_ready (rs := [18]) (by kernel_rfl) (by simp) ?_
          refine (AllReadyH.cons (o := ⟨_, _, _, _, _, _⟩) rfl (fun K hK => ?_) AllReadyH.nil)
          obtain ⟨x0, c0⟩ := rb.c0
          obtain ⟨x1, c1⟩ := rb.c1
          obtain ⟨x2, c2⟩ := rb.c2
          obtain ⟨x3, c3⟩ := rb.c3
          have f0 := rb.fz 0
          have f1 := rb.fz 1
          have f2 := rb.fz 2
          have f3 := rb.fz 3
          go_simp
          have t4 : Touch w.heap.size 0 4 v9 ((((v9.setCell ⟨w.heap.size, 0, none⟩ (.int .i64 r)).setCell ⟨w.heap.size, 1, none⟩ (.int .i64 wd)).setCell ⟨w.heap.size, 2, none⟩ (.slice (some ⟨bx, 0, none⟩) n cx)).setCell ⟨w.heap.size, 3, none⟩ (.slice av bs.length cv)) := (((((Touch.refl _ _ _ _).setCell (by omega) (by omega) _).setCell (by omega) (by omega) _).setCell (by omega) (by omega) _).setCell (by omega) (by omega) _)
          have HR := hide (res4 (w := v9) (r := w.heap.size) (.int .i64 r) (.int .i64 wd) (.slice (some ⟨bx, 0, none⟩) n cx) (.slice av bs.length cv) c0 c1 c2 c3)
          obtain ⟨cs, hcl, hn24, hb40, l1, l2, k1, k2⟩ := V.lists2 (W' := ((((v9.setCell ⟨w.heap.size, 0, none⟩ (.int .i64 r)).setCell ⟨w.heap.size, 1, none⟩ (.int .i64 wd)).setCell ⟨w.heap.size, 2, none⟩ (.slice (some ⟨bx, 0, none⟩) n cx)).setCell ⟨w.heap.size, 3, none⟩ (.slice av bs.length cv))) (fun i h1 h2 => t4.block i h2 (by omega))
          have QQ := hide (V.src.old.trans (t4.below (B := w.heap.size) (Nat.le_refl _) (by omega)))
          have HL := hide (And.intro l1 l2)
          have HC := hide hcl
          replace E0 := t4.cellAt E0 (by omega)
          replace E1 := t4.cellAt E1 (by omega)
          replace E2 := t4.cellAt E2 (by omega)
          replace E3 := t4.cellAt E3 (by omega)
          generalize ((((v9.setCell ⟨w.heap.size, 0, none⟩ (.int .i64 r)).setCell ⟨w.heap.size, 1, none⟩ (.int .i64 wd)).setCell ⟨w.heap.size, 2, none⟩ (.slice (some ⟨bx, 0, none⟩) n cx)).setCell ⟨w.heap.size, 3, none⟩ (.slice av bs.length cv)) = vz at *
          clear t4 rb V l1 l2 hcl hsz c0 c1 c2 c3 f0 f1 f2 f3
          refine hK.out _ _ ?_ ?_
          · (try dsimp only); exact ⟨E0, E1, E2, E3⟩
          clear hHeld hK K
          intro hHeld
          try simp only [Act.put, List.setIfInBounds_toArray, List.set_cons_zero, List.set_cons_succ]
          refine wpAnyH_take (i := 19) (oi := ⟨_, _, _, _, _, _⟩) (v := ?_) rfl (by kernel_rfl) (by kernel_rfl) (by kernel_rfl) (fun _ _ _ h => h) (Or.inl ⟨by rfl, ?_⟩) hHeld ?_
          rotate_left
          · (intro w hSw; (try dsimp only at hSw); go_simp; try (with_reducible rfl))
          try simp only [Act.put, List.setIfInBounds_toArray, List.set_cons_zero, List.set_cons_succ]
          refine wpAnyH_take (i := 20) (oi := ⟨_, _, _, _, _, _⟩) (v := ?_) rfl (by kernel_rfl) (by kernel_rfl) (by kernel_rfl) (fun _ _ _ h => h) (Or.inl ⟨by rfl, ?_⟩) hHeld ?_
          rotate_left
          · (intro w hSw; (try dsimp only at hSw); go_simp; try (with_reducible rfl))
          try simp only [Act.put, List.setIfInBounds_toArray, List.set_cons_zero, List.set_cons_succ]
          refine wpAnyH_take (i := 21) (oi := ⟨_, _, _, _, _, _⟩) (v := ?_) rfl (by kernel_rfl) (by kernel_rfl) (by kernel_rfl) (fun _ _ _ h => h) (Or.inl ⟨by rfl, ?_⟩) hHeld ?_
          rotate_left
          · (intro w hSw; (try dsimp only at hSw); go_simp; try (with_reducible rfl))
          try simp only [Act.put, List.setIfInBounds_toArray, List.set_cons_zero, List.set_cons_succ]
          refine wpAnyH_done (by kernel_rfl) ?_ _
          clear hHeld
          go_wp2
          have hr := HR.out
          refine bodyPost_ret (v := .tuple #[.agg #[.int .i64 r, .int .i64 wd, .slice (some ⟨bx, 0, none⟩) n cx, .slice av bs.length cv], .int .i64 y1, .int .i64 y3, .int .i64 y4]) (by simp only [results, Try.results43]; simp [go_sem, hr.1, hr.2.1, hr.2.2.1, hr.2.2.2]) rfl ⟨r, wd, _, _, cs, bs, y1, y3, y4, rfl, by have := HC.out; omega, by have := HC.out; omega, hb40, ?_, HL.out.2, k1, k2, QQ.out⟩
          exact HL.out.1
      · skip
        go_simp
        have hb : Below v2.heap.size v2 (v2.alloc (.cells #[.int .i64 0, .int .i64 3, .int .i64 32] 2)) := (Below.refl _ _).alloc (Nat.le_refl _) _
        have hbb := new_ints (w := v2) (C := #[.int .i64 0, .int .i64 3, .int .i64 32]) (t := 2) (k := .i64) (xs := [0, 3, 32]) rfl
        have lbb : w.heap.size + 1 + 1 ≤ v2.heap.size := hsz
        replace E0 := cellb hb E0
        replace E1 := cellb hb E1
        replace E2 := cellb hb E2
        replace E3 := cellb hb E3
        replace V := V.below hb
        replace rb := rb.below hb
        replace hsz : w.heap.size + 1 + 1 ≤ (v2.alloc (.cells #[.int .i64 0, .int .i64 3, .int .i64 32] 2)).heap.size := Nat.le_trans hsz hb.size
        clear hb
        obtain ⟨gB, ebb⟩ : ∃ g, g = v2.heap.size := ⟨_, rfl⟩
        rw [← ebb] at hbb lbb ⊢
        clear ebb
        generalize (v2.alloc (.cells #[.int .i64 0, .int .i64 3, .int .i64 32] 2)) = v10 at *
        refine hK.out _ _ ?_ ?_
        · (try dsimp only); exact ⟨E0, E1, E2, E3⟩
        clear hHeld hK K
        intro hHeld
        try simp only [Act.put, List.setIfInBounds_toArray, List.set_cons_zero, List.set_cons_succ]
        refine wpAnyH_ready (rs := [13]) (by kernel_rfl) (by simp) ?_
        refine (AllReadyH.cons (o := ⟨_, _, _, _, _, _⟩) rfl (fun K hK => ?_) AllReadyH.nil)
        go_simp
        have hb : Below v10.heap.size v10 (v10.alloc (.cells #[.int .i64 (n : Int), .int .i64 y2, .int .i64 ((n : Int) + 1)] 2)) := (Below.refl _ _).alloc (Nat.le_refl _) _
        have haa := new_ints (w := v10) (C := #[.int .i64 (n : Int), .int .i64 y2, .int .i64 ((n : Int) + 1)]) (t := 2) (k := .i64) (xs := [(n : Int), y2, ((n : Int) + 1)]) rfl
        have laa : w.heap.size + 1 + 1 ≤ v10.heap.size := hsz
        replace E0 := cellb hb E0
        replace E1 := cellb hb E1
        replace E2 := cellb hb E2
        replace E3 := cellb hb E3
        replace V := V.below hb
        replace rb := rb.below hb
        replace hsz : w.heap.size + 1 + 1 ≤ (v10.alloc (.cells #[.int .i64 (n : Int), .int .i64 y2, .int .i64 ((n : Int) + 1)] 2)).heap.size := Nat.le_trans hsz hb.size
        replace hbb : ∀ i, i < ([0, 3, 32] : List Int).length → _ := fun i hi => cellb hb (hbb i hi)
        clear hb
        obtain ⟨gA, eaa⟩ : ∃ g, g = v10.heap.size := ⟨_, rfl⟩
        rw [← eaa] at haa laa ⊢
        clear eaa
        generalize (v10.alloc (.cells #[.int .i64 (n : Int), .int .i64 y2, .int .i64 ((n : Int) + 1)] 2)) = v11 at *
        refine hK.out _ _ ?_ ?_
        · (try dsimp only); exact ⟨E0, E1, E2, E3⟩
        clear hHeld hK K
        intro hHeld
        try simp only [Act.put, List.setIfInBounds_toArray, List.set_cons_zero, List.set_cons_succ]
        refine wpAnyH_ready (rs := [14]) (by kernel_rfl) (by simp) ?_
        refine (AllReadyH.cons (o := ⟨_, _, _, _, _, _⟩) rfl (fun K hK => ?_) AllReadyH.nil)
        go_simp
        go_at_call 64
        refine (l1Pick_calls zs [(n : Int), y2, ((n : Int) + 1)] a cap (w.heap.size + 1) gA 3 3 (q + 1 + 1) w v11 hv HZ.out hlen V.src (by omega) (by omega) rfl (by omega) (by omega) (.inr laa) haa).mono ?_
        rintro e v12 ⟨y3, rfl, _, ss, xx⟩
        replace E0 := xx.cellg (by omega) E0
        replace E1 := xx.cellg (by omega) E1
        replace E2 := xx.cellg (by omega) E2
        replace E3 := xx.cellg (by omega) E3
        replace V := V.within ss xx
        replace rb := rb.within xx (by omega)
        replace hsz : w.heap.size + 1 + 1 ≤ v12.heap.size := Nat.le_trans hsz xx.size
        replace hbb : ∀ i, i < ([0, 3, 32] : List Int).length → _ := fun i hi => xx.cellg (.inr lbb) (hbb i hi)
        clear ss xx
        try go_wp2_with fail
        refine hK.out _ _ ?_ ?_
        · (try dsimp only); exact ⟨E0, E1, E2, E3⟩
        clear hHeld hK K
        intro hHeld
        try simp only [Act.put, List.setIfInBounds_toArray, List.set_cons_zero, List.set_cons_succ]
        refine wpAnyH_ready (rs := [17]) (by kernel_rfl) (by simp) ?_
        refine (AllReadyH.cons (o := ⟨_, _, _, _, _, _⟩) rfl (fun K hK => ?_) AllReadyH.nil)
        go_simp
        go_at_call 64
        refine (l1Pick_calls zs [0, 3, 32] a cap (w.heap.size + 1) gB 3 3 (q + 1 + 1 + 1) w v12 hv HZ.out hlen V.src (by omega) (by omega) rfl (by omega) (by omega) (.inr lbb) hbb).mono ?_
        rintro e v13 ⟨y4, rfl, _, ss, xx⟩
        replace E0 := xx.cellg (by omega) E0
        replace E1 := xx.cellg (by omega) E1
        replace E2 := xx.cellg (by omega) E2
        replace E3 := xx.cellg (by omega) E3
        replace V := V.within ss xx
        replace rb := rb.within xx (by omega)
        replace hsz : w.heap.size + 1 + 1 ≤ v13.heap.size := Nat.le_trans hsz xx.size
        clear ss xx
        try go_wp2_with fail
        refine hK.out _ _ ?_ ?_
        · (try dsimp only); exact ⟨E0, E1, E2, E3⟩
        clear hHeld hK K
        intro hHeld
        try simp only [Act.put, List.setIfInBounds_toArray, List.set_cons_zero, List.set_cons_succ]
        refine wpAnyH_ready (rs := [18]) (by kernel_rfl) (by simp) ?_
        refine (AllReadyH.cons (o := ⟨_, _, _, _, _, _⟩) rfl (fun K hK => ?_) AllReadyH.nil)
        obtain ⟨x0, c0⟩ := rb.c0
        obtain ⟨x1, c1⟩ := rb.c1
        obtain ⟨x2, c2⟩ := rb.c2
        obtain ⟨x3, c3⟩ := rb.c3
        have f0 := rb.fz 0
        have f1 := rb.fz 1
        have f2 := rb.fz 2
        have f3 := rb.fz 3
        go_simp
        have t4 : Touch w.heap.size 0 4 v13 ((((v13.setCell ⟨w.heap.size, 0, none⟩ (.int .i64 r)).setCell ⟨w.heap.size, 1, none⟩ (.int .i64 wd)).setCell ⟨w.heap.size, 2, none⟩ (.slice (some ⟨bx, 0, none⟩) n cx)).setCell ⟨w.heap.size, 3, none⟩ (.slice av bs.length cv)) := (((((Touch.refl _ _ _ _).setCell (by omega) (by omega) _).setCell (by omega) (by omega) _).setCell (by omega) (by omega) _).setCell (by omega) (by omega) _)
        have HR := hide (res4 (w := v13) (r := w.heap.size) (.int .i64 r) (.int .i64 wd) (.slice (some ⟨bx, 0, none⟩) n cx) (.slice av bs.length cv) c0 c1 c2 c3)
        obtain ⟨cs, hcl, hn24, hb40, l1, l2, k1, k2⟩ := V.lists2 (W' := ((((v13.setCell ⟨w.heap.size, 0, none⟩ (.int .i64 r)).setCell ⟨w.heap.size, 1, none⟩ (.int .i64 wd)).setCell ⟨w.heap.size, 2, none⟩ (.slice (some ⟨bx, 0, none⟩) n cx)).setCell ⟨w.heap.size, 3, none⟩ (.slice av bs.length cv))) (fun i h1 h2 => t4.block i h2 (by omega))
        have QQ := hide (V.src.old.trans (t4.below (B := w.heap.size) (Nat.le_refl _) (by omega)))
        have HL := hide (And.intro l1 l2)
        have HC := hide hcl
        replace E0 := t4.cellAt E0 (by omega)
        replace E1 := t4.cellAt E1 (by omega)
        replace E2 := t4.cellAt E2 (by omega)
        replace E3 := t4.cellAt E3 (by omega)
        generalize ((((v13.setCell ⟨w.heap.size, 0, none⟩ (.int .i64 r)).setCell ⟨w.heap.size, 1, none⟩ (.int .i64 wd)).setCell ⟨w.heap.size, 2, none⟩ (.slice (some ⟨bx, 0, none⟩) n cx)).setCell ⟨w.heap.size, 3, none⟩ (.slice av bs.length cv)) = vz at *
        clear t4 rb V l1 l2 hcl hsz c0 c1 c2 c3 f0 f1 f2 f3
        refine hK.out _ _ ?_ ?_
        · (try dsimp only); exact ⟨E0, E1, E2, E3⟩
        clear hHeld hK K
        intro hHeld
        try simp only [Act.put, List.setIfInBounds_toArray, List.set_cons_zero, List.set_cons_succ]
        refine wpAnyH_take (i := 19) (oi := ⟨_, _, _, _, _, _⟩) (v := ?_) rfl (by kernel_rfl) (by kernel_rfl) (by kernel_rfl) (fun _ _ _ h => h) (Or.inl ⟨by rfl, ?_⟩) hHeld ?_
        rotate_left
        · (intro w hSw; (try dsimp only at hSw); go_simp; try (with_reducible rfl))
        try simp only [Act.put, List.setIfInBounds_toArray, List.set_cons_zero, List.set_cons_succ]
        refine wpAnyH_take (i := 20) (oi := ⟨_, _, _, _, _, _⟩) (v := ?_) rfl (by kernel_rfl) (by kernel_rfl) (by kernel_rfl) (fun _ _ _ h => h) (Or.inl ⟨by rfl, ?_⟩) hHeld ?_
        rotate_left
        · (intro w hSw; (try dsimp only at hSw); go_simp; try (with_reducible rfl))
        try simp only [Act.put, List.setIfInBounds_toArray, List.set_cons_zero, List.set_cons_succ]
        refine wpAnyH_take (i := 21) (oi := ⟨_, _, _, _, _, _⟩) (v := ?_) rfl (by kernel_rfl) (by kernel_rfl) (by kernel_rfl) (fun _ _ _ h => h) (Or.inl ⟨by rfl, ?_⟩) hHeld ?_
        rotate_left
        · (intro w hSw; (try dsimp only at hSw); go_simp; try (with_reducible rfl))
        try simp only [Act.put, List.setIfInBounds_toArray, List.set_cons_zero, List.set_cons_succ]
        refine wpAnyH_done (by kernel_rfl) ?_ _
        clear hHeld
        go_wp2
        have hr := HR.out
        refine bodyPost_ret (v := .tuple #[.agg #[.int .i64 r, .int .i64 wd, .slice (some ⟨bx, 0, none⟩) n cx, .slice av bs.length cv], .int .i64 y1, .int .i64 y3, .int .i64 y4]) (by simp only [results, Try.results43]; simp [go_sem, hr.1, hr.2.1, hr.2.2.1, hr.2.2.2]) rfl ⟨r, wd, _, _, cs, bs, y1, y3, y4, rfl, by have := HC.out; omega, by have := HC.out; omega, hb40, ?_, HL.out.2, k1, k2, QQ.out⟩
        exact HL.out.1
    · skip
      go_simp
      have hb : Below v1.heap.size v1 (v1.alloc (.cells #[.int .i64 0, .int .i64 3, .int .i64 32] 2)) := (Below.refl _ _).alloc (Nat.le_refl _) _
      have hbb := new_ints (w := v1) (C := #[.int .i64 0, .int .i64 3, .int .i64 32]) (t := 2) (k := .i64) (xs := [0, 3, 32]) rfl
      have lbb : w.heap.size + 1 + 1 ≤ v1.heap.size := hsz
      replace E0 := cellb hb E0
      replace E1 := cellb hb E1
      replace E2 := cellb hb E2
      replace E3 := cellb hb E3
      replace V := V.below hb
      replace rb := rb.below hb
      replace hsz : w.heap.size + 1 + 1 ≤ (v1.alloc (.cells #[.int .i64 0, .int .i64 3, .int .i64 32] 2)).heap.size := Nat.le_trans hsz hb.size
      clear hb
      obtain ⟨gB, ebb⟩ : ∃ g, g = v1.heap.size := ⟨_, rfl⟩
      rw [← ebb] at hbb lbb ⊢
      clear ebb
      generalize (v1.alloc (.cells #[.int .i64 0, .int .i64 3, .int .i64 32] 2)) = v14 at *
      refine hK.out _ _ ?_ ?_
      · (try dsimp only); exact ⟨E0, E1, E2, E3⟩
      clear hHeld hK K
      intro hHeld
      try simp only [Act.put, List.setIfInBounds_toArray, List.set_cons_zero, List.set_cons_succ]
      refine wpAnyH_ready (rs := [10]) (by kernel_rfl) (by simp) ?_
      refine (AllReadyH.cons (o := ⟨_, _, _, _, _, _⟩) rfl (fun K hK => ?_) AllReadyH.nil)
      go_simp
      go_at_call 57
      refine (l1Next_calls zs a cap (w.heap.size + 1) (q + 1) ((n : Int) + 2) w v14 hv HZ.out hlen V.src (by omega) (by omega) (by omega) (by omega)).mono ?_
      rintro e v15 ⟨y2, rfl, hy20, hy21, ss, xx⟩
      replace E0 := xx.cellg (by omega) E0
      replace E1 := xx.cellg (by omega) E1
      replace E2 := xx.cellg (by omega) E2
      replace E3 := xx.cellg (by omega) E3
      replace V := V.within ss xx
      replace rb := rb.within xx (by omega)
      replace hsz : w.heap.size + 1 + 1 ≤ v15.heap.size := Nat.le_trans hsz xx.size
      replace hbb : ∀ i, i < ([0, 3, 32] : List Int).length → _ := fun i hi => xx.cellg (.inr lbb) (hbb i hi)
      clear ss xx
      try go_wp2_with fail
      refine hK.out _ _ ?_ ?_
      · (try dsimp only); exact ⟨E0, E1, E2, E3⟩
      clear hHeld hK K
      intro hHeld
      try simp only [Act.put, List.setIfInBounds_toArray, List.set_cons_zero, List.set_cons_succ]
      refine wpAnyH_ready (rs := [13]) (by kernel_rfl) (by simp) ?_
      refine (AllReadyH.cons (o := ⟨_, _, _, _, _, _⟩) rfl (fun K hK => ?_) AllReadyH.nil)
      go_simp
      have hb : Below v15.heap.size v15 (v15.alloc (.cells #[.int .i64 (n : Int), .int .i64 y2, .int .i64 ((n : Int) + 1)] 2)) := (Below.refl _ _).alloc (Nat.le_refl _) _
      have haa := new_ints (w := v15) (C := #[.int .i64 (n : Int), .int .i64 y2, .int .i64 ((n : Int) + 1)]) (t := 2) (k := .i64) (xs := [(n : Int), y2, ((n : Int) + 1)]) rfl
      have laa : w.heap.size + 1 + 1 ≤ v15.heap.size := hsz
      replace E0 := cellb hb E0
      replace E1 := cellb hb E1
      replace E2 := cellb hb E2
      replace E3 := cellb hb E3
      replace V := V.below hb
      replace rb := rb.below hb
      replace hsz : w.heap.size + 1 + 1 ≤ (v15.alloc (.cells #[.int .i64 (n : Int), .int .i64 y2, .int .i64 ((n : Int) + 1)] 2)).heap.size := Nat.le_trans hsz hb.size
      replace hbb : ∀ i, i < ([0, 3, 32] : List Int).length → _ := fun i hi => cellb hb (hbb i hi)
      clear hb
      obtain ⟨gA, eaa⟩ : ∃ g, g = v15.heap.size := ⟨_, rfl⟩
      rw [← eaa] at haa laa ⊢
      clear eaa
      generalize (v15.alloc (.cells #[.int .i64 (n : Int), .int .i64 y2, .int .i64 ((n : Int) + 1)] 2)) = v16 at *
      refine hK.out _ _ ?_ ?_
      · (try dsimp only); exact ⟨E0, E1, E2, E3⟩
      clear hHeld hK K
      intro hHeld
      try simp only [Act.put, List.setIfInBounds_toArray, List.set_cons_zero, List.set_cons_succ]
      refine wpAnyH_ready (rs := [14]) (by kernel_rfl) (by simp) ?_
      refine (AllReadyH.cons (o := ⟨_, _, _, _, _, _⟩) rfl (fun K hK => ?_) AllReadyH.nil)
      go_simp
      go_at_call 64
      refine (l1Pick_calls zs [(n : Int), y2, ((n : Int) + 1)] a cap (w.heap.size + 1) gA 3 3 (q + 1 + 1) w v16 hv HZ.out hlen V.src (by omega) (by omega) rfl (by omega) (by omega) (.inr laa) haa).mono ?_
      rintro e v17 ⟨y3, rfl, _, ss, xx⟩
      replace E0 := xx.cellg (by omega) E0
      replace E1 := xx.cellg (by omega) E1
      replace E2 := xx.cellg (by omega) E2
      replace E3 := xx.cellg (by omega) E3
      replace V := V.within ss xx
      replace rb := rb.within xx (by omega)
      replace hsz : w.heap.size + 1 + 1 ≤ v17.heap.size := Nat.le_trans hsz xx.size
      replace hbb : ∀ i, i < ([0, 3, 32] : List Int).length → _ := fun i hi => xx.cellg (.inr lbb) (hbb i hi)
      clear ss xx
      try go_wp2_with fail
      refine hK.out _ _ ?_ ?_
      · (try dsimp only); exact ⟨E0, E1, E2, E3⟩
      clear hHeld hK K
      intro hHeld
      try simp only [Act.put, List.setIfInBounds_toArray, List.set_cons_zero, List.set_cons_succ]
      refine wpAnyH_ready (rs := [17]) (by kernel_rfl) (by simp) ?_
      refine (AllReadyH.cons (o := ⟨_, _, _, _, _, _⟩) rfl (fun K hK => ?_) AllReadyH.nil)
      go_simp
      go_at_call 64
      refine (l1Pick_calls zs [0, 3, 32] a cap (w.heap.size + 1) gB 3 3 (q + 1 + 1 + 1) w v17 hv HZ.out hlen V.src (by omega) (by omega) rfl (by omega) (by omega) (.inr lbb) hbb).mono ?_
      rintro e v18 ⟨y4, rfl, _, ss, xx⟩
      replace E0 := xx.cellg (by omega) E0
      replace E1 := xx.cellg (by omega) E1
      replace E2 := xx.cellg (by omega) E2
      replace E3 := xx.cellg (by omega) E3
      replace V := V.within ss xx
      replace rb := rb.within xx (by omega)
      replace hsz : w.heap.size + 1 + 1 ≤ v18.heap.size := Nat.le_trans hsz xx.size
      clear ss xx
      try go_wp2_with fail
      refine hK.out _ _ ?_ ?_
      · (try dsimp only); exact ⟨E0, E1, E2, E3⟩
      clear hHeld hK K
      intro hHeld
      try simp only [Act.put, List.setIfInBounds_toArray, List.set_cons_zero, List.set_cons_succ]
      refine wpAnyH_ready (rs := [18]) (by kernel_rfl) (by simp) ?_
      refine (AllReadyH.cons (o := ⟨_, _, _, _, _, _⟩) rfl (fun K hK => ?_) AllReadyH.nil)
      obtain ⟨x0, c0⟩ := rb.c0
      obtain ⟨x1, c1⟩ := rb.c1
      obtain ⟨x2, c2⟩ := rb.c2
      obtain ⟨x3, c3⟩ := rb.c3
      have f0 := rb.fz 0
      have f1 := rb.fz 1
      have f2 := rb.fz 2
      have f3 := rb.fz 3
      go_simp
      have t4 : Touch w.heap.size 0 4 v18 ((((v18.setCell ⟨w.heap.size, 0, none⟩ (.int .i64 r)).setCell ⟨w.heap.size, 1, none⟩ (.int .i64 wd)).setCell ⟨w.heap.size, 2, none⟩ (.slice (some ⟨bx, 0, none⟩) n cx)).setCell ⟨w.heap.size, 3, none⟩ (.slice av bs.length cv)) := (((((Touch.refl _ _ _ _).setCell (by omega) (by omega) _).setCell (by omega) (by omega) _).setCell (by omega) (by omega) _).setCell (by omega) (by omega) _)
      have HR := hide (res4 (w := v18) (r := w.heap.size) (.int .i64 r) (.int .i64 wd) (.slice (some ⟨bx, 0, none⟩) n cx) (.slice av bs.length cv) c0 c1 c2 c3)
      obtain ⟨cs, hcl, hn24, hb40, l1, l2, k1, k2⟩ := V.lists2 (W' := ((((v18.setCell ⟨w.heap.size, 0, none⟩ (.int .i64 r)).setCell ⟨w.heap.size, 1, none⟩ (.int .i64 wd)).setCell ⟨w.heap.size, 2, none⟩ (.slice (some ⟨bx, 0, none⟩) n cx)).setCell ⟨w.heap.size, 3, none⟩ (.slice av bs.length cv))) (fun i h1 h2 => t4.block i h2 (by omega))
      have QQ := hide (V.src.old.trans (t4.below (B := w.heap.size) (Nat.le_refl _) (by omega)))
      have HL := hide (And.intro l1 l2)
      have HC := hide hcl
      replace E0 := t4.cellAt E0 (by omega)
      replace E1 := t4.cellAt E1 (by omega)
      replace E2 := t4.cellAt E2 (by omega)
      replace E3 := t4.cellAt E3 (by omega)
      generalize ((((v18.setCell ⟨w.heap.size, 0, none⟩ (.int .i64 r)).setCell ⟨w.heap.size, 1, none⟩ (.int .i64 wd)).setCell ⟨w.heap.size, 2, none⟩ (.slice (some ⟨bx, 0, none⟩) n cx)).setCell ⟨w.heap.size, 3, none⟩ (.slice av bs.length cv)) = vz at *
      clear t4 rb V l1 l2 hcl hsz c0 c1 c2 c3 f0 f1 f2 f3
      refine hK.out _ _ ?_ ?_
      · (try dsimp only); exact ⟨E0, E1, E2, E3⟩
      clear hHeld hK K
      intro hHeld
      try simp only [Act.put, List.setIfInBounds_toArray, List.set_cons_zero, List.set_cons_succ]
      refine wpAnyH_take (i := 19) (oi := ⟨_, _, _, _, _, _⟩) (v := ?_) rfl (by kernel_rfl) (by kernel_rfl) (by kernel_rfl) (fun _ _ _ h => h) (Or.inl ⟨by rfl, ?_⟩) hHeld ?_
      rotate_left
      · (intro w hSw; (try dsimp only at hSw); go_simp; try (with_reducible rfl))
      try simp only [Act.put, List.setIfInBounds_toArray, List.set_cons_zero, List.set_cons_succ]
      refine wpAnyH_take (i := 20) (oi := ⟨_, _, _, _, _, _⟩) (v := ?_) rfl (by kernel_rfl) (by kernel_rfl) (by kernel_rfl) (fun _ _ _ h => h) (Or.inl ⟨by rfl, ?_⟩) hHeld ?_
      rotate_left
      · (intro w hSw; (try dsimp only at hSw); go_simp; try (with_reducible rfl))
      try simp only [Act.put, List.setIfInBounds_toArray, List.set_cons_zero, List.set_cons_succ]
      refine wpAnyH_take (i := 21) (oi := ⟨_, _, _, _, _, _⟩) (v := ?_) rfl (by kernel_rfl) (by kernel_rfl) (by kernel_rfl) (fun _ _ _ h => h) (Or.inl ⟨by rfl, ?_⟩) hHeld ?_
      rotate_left
      · (intro w hSw; (try dsimp only at hSw); go_simp; try (with_reducible rfl))
      try simp only [Act.put, List.setIfInBounds_toArray, List.set_cons_zero, List.set_cons_succ]
      refine wpAnyH_done (by kernel_rfl) ?_ _
      clear hHeld
      go_wp2
      have hr := HR.out
      refine bodyPost_ret (v := .tuple #[.agg #[.int .i64 r, .int .i64 wd, .slice (some ⟨bx, 0, none⟩) n cx, .slice av bs.length cv], .int .i64 y1, .int .i64 y3, .int .i64 y4]) (by simp only [results, Try.results43]; simp [go_sem, hr.1, hr.2.1, hr.2.2.1, hr.2.2.2]) rfl ⟨r, wd, _, _, cs, bs, y1, y3, y4, rfl, by have := HC.out; omega, by have := HC.out; omega, hb40, ?_, HL.out.2, k1, k2, QQ.out⟩
      exact HL.out.1
  · skip
    go_simp
    have hb : Below v0.heap.size v0 (v0.alloc (.cells #[.int .i64 0, .int .i64 3, .int .i64 32] 2)) := (Below.refl _ _).alloc (Nat.le_refl _) _
    have hbb := new_ints (w := v0) (C := #[.int .i64 0, .int .i64 3, .int .i64 32]) (t := 2) (k := .i64) (xs := [0, 3, 32]) rfl
    have lbb : w.heap.size + 1 + 1 ≤ v0.heap.size := hsz
    replace E0 := cellb hb E0
    replace E1 := cellb hb E1
    replace E2 := cellb hb E2
    replace E3 := cellb hb E3
    replace V := V.below hb
    replace rb := rb.below hb
    replace hsz : w.heap.size + 1 + 1 ≤ (v0.alloc (.cells #[.int .i64 0, .int .i64 3, .int .i64 32] 2)).heap.size := Nat.le_trans hsz hb.size
    clear hb
    obtain ⟨gB, ebb⟩ : ∃ g, g = v0.heap.size := ⟨_, rfl⟩
    rw [← ebb] at hbb lbb ⊢
    clear ebb
    generalize (v0.alloc (.cells #[.int .i64 0, .int .i64 3, .int .i64 32] 2)) = v19 at *
    refine hK.out _ _ ?_ ?_
    · (try dsimp only); exact ⟨E0, E1, E2, E3⟩
    clear hHeld hK K
    intro hHeld
    try simp only [Act.put, List.setIfInBounds_toArray, List.set_cons_zero, List.set_cons_succ]
    refine wpAnyH_ready (rs := [4]) (by kernel_rfl) (by simp) ?_
    refine (AllReadyH.cons (o := ⟨_, _, _, _, _, _⟩) rfl (fun K hK => ?_) AllReadyH.nil)
    go_simp
    go_at_call 57
    refine (l1Next_calls zs a cap (w.heap.size + 1) (q) ((n : Int) + 1) w v19 hv HZ.out hlen V.src (by omega) (by omega) (by omega) (by omega)).mono ?_
    rintro e v20 ⟨y1, rfl, hy10, hy11, ss, xx⟩
    replace E0 := xx.cellg (by omega) E0
    replace E1 := xx.cellg (by omega) E1
    replace E2 := xx.cellg (by omega) E2
    replace E3 := xx.cellg (by omega) E3
    replace V := V.within ss xx
    replace rb := rb.within xx (by omega)
    replace hsz : w.heap.size + 1 + 1 ≤ v20.heap.size := Nat.le_trans hsz xx.size
    replace hbb : ∀ i, i < ([0, 3, 32] : List Int).length → _ := fun i hi => xx.cellg (.inr lbb) (hbb i hi)
    clear ss xx
    try go_wp2_with fail
    refine hK.out _ _ ?_ ?_
    · (try dsimp only); exact ⟨E0, E1, E2, E3⟩
    clear hHeld hK K
    intro hHeld
    try simp only [Act.put, List.setIfInBounds_toArray, List.set_cons_zero, List.set_cons_succ]
    refine wpAnyH_ready (rs := [10]) (by kernel_rfl) (by simp) ?_
    refine (AllReadyH.cons (o := ⟨_, _, _, _, _, _⟩) rfl (fun K hK => ?_) AllReadyH.nil)
    go_simp
    go_at_call 57
    refine (l1Next_calls zs a cap (w.heap.size + 1) (q + 1) ((n : Int) + 2) w v20 hv HZ.out hlen V.src (by omega) (by omega) (by omega) (by omega)).mono ?_
    rintro e v21 ⟨y2, rfl, hy20, hy21, ss, xx⟩
    replace E0 := xx.cellg (by omega) E0
    replace E1 := xx.cellg (by omega) E1
    replace E2 := xx.cellg (by omega) E2
    replace E3 := xx.cellg (by omega) E3
    replace V := V.within ss xx
    replace rb := rb.within xx (by omega)
    replace hsz : w.heap.size + 1 + 1 ≤ v21.heap.size := Nat.le_trans hsz xx.size
    replace hbb : ∀ i, i < ([0, 3, 32] : List Int).length → _ := fun i hi => xx.cellg (.inr lbb) (hbb i hi)
    clear ss xx
    try go_wp2_with fail
    refine hK.out _ _ ?_ ?_
    · (try dsimp only); exact ⟨E0, E1, E2, E3⟩
    clear hHeld hK K
    intro hHeld
    try simp only [Act.put, List.setIfInBounds_toArray, List.set_cons_zero, List.set_cons_succ]
    refine wpAnyH_ready (rs := [13]) (by kernel_rfl) (by simp) ?_
    refine (AllReadyH.cons (o := ⟨_, _, _, _, _, _⟩) rfl (fun K hK => ?_) AllReadyH.nil)
    go_simp
    have hb : Below v21.heap.size v21 (v21.alloc (.cells #[.int .i64 (n : Int), .int .i64 y2, .int .i64 ((n : Int) + 1)] 2)) := (Below.refl _ _).alloc (Nat.le_refl _) _
    have haa := new_ints (w := v21) (C := #[.int .i64 (n : Int), .int .i64 y2, .int .i64 ((n : Int) + 1)]) (t := 2) (k := .i64) (xs := [(n : Int), y2, ((n : Int) + 1)]) rfl
    have laa : w.heap.size + 1 + 1 ≤ v21.heap.size := hsz
    replace E0 := cellb hb E0
    replace E1 := cellb hb E1
    replace E2 := cellb hb E2
    replace E3 := cellb hb E3
    replace V := V.below hb
    replace rb := rb.below hb
    replace hsz : w.heap.size + 1 + 1 ≤ (v21.alloc (.cells #[.int .i64 (n : Int), .int .i64 y2, .int .i64 ((n : Int) + 1)] 2)).heap.size := Nat.le_trans hsz hb.size
    replace hbb : ∀ i, i < ([0, 3, 32] : List Int).length → _ := fun i hi => cellb hb (hbb i hi)
    clear hb
    obtain ⟨gA, eaa⟩ : ∃ g, g = v21.heap.size := ⟨_, rfl⟩
    rw [← eaa] at haa laa ⊢
    clear eaa
    generalize (v21.alloc (.cells #[.int .i64 (n : Int), .int .i64 y2, .int .i64 ((n : Int) + 1)] 2)) = v22 at *
    refine hK.out _ _ ?_ ?_
    · (try dsimp only); exact ⟨E0, E1, E2, E3⟩
    clear hHeld hK K
    intro hHeld
    try simp only [Act.put, List.setIfInBounds_toArray, List.set_cons_zero, List.set_cons_succ]
    refine wpAnyH_ready (rs := [14]) (by kernel_rfl) (by simp) ?_
    refine (AllReadyH.cons (o := ⟨_, _, _, _, _, _⟩) rfl (fun K hK => ?_) AllReadyH.nil)
    go_simp
    go_at_call 64
    refine (l1Pick_calls zs [(n : Int), y2, ((n : Int) + 1)] a cap (w.heap.size + 1) gA 3 3 (q + 1 + 1) w v22 hv HZ.out hlen V.src (by omega) (by omega) rfl (by omega) (by omega) (.inr laa) haa).mono ?_
    rintro e v23 ⟨y3, rfl, _, ss, xx⟩
    replace E0 := xx.cellg (by omega) E0
    replace E1 := xx.cellg (by omega) E1
    replace E2 := xx.cellg (by omega) E2
    replace E3 := xx.cellg (by omega) E3
    replace V := V.within ss xx
    replace rb := rb.within xx (by omega)
    replace hsz : w.heap.size + 1 + 1 ≤ v23.heap.size := Nat.le_trans hsz xx.size
    replace hbb : ∀ i, i < ([0, 3, 32] : List Int).length → _ := fun i hi => xx.cellg (.inr lbb) (hbb i hi)
    clear ss xx
    try go_wp2_with fail
    refine hK.out _ _ ?_ ?_
    · (try dsimp only); exact ⟨E0, E1, E2, E3⟩
    clear hHeld hK K
    intro hHeld
    try simp only [Act.put, List.setIfInBounds_toArray, List.set_cons_zero, List.set_cons_succ]
    refine wpAnyH_ready (rs := [17]) (by kernel_rfl) (by simp) ?_
    refine (AllReadyH.cons (o := ⟨_, _, _, _, _, _⟩) rfl (fun K hK => ?_) AllReadyH.nil)
    go_simp
    go_at_call 64
    refine (l1Pick_calls zs [0, 3, 32] a cap (w.heap.size + 1) gB 3 3 (q + 1 + 1 + 1) w v23 hv HZ.out hlen V.src (by omega) (by omega) rfl (by omega) (by omega) (.inr lbb) hbb).mono ?_
    rintro e v24 ⟨y4, rfl, _, ss, xx⟩
    replace E0 := xx.cellg (by omega) E0
    replace E1 := xx.cellg (by omega) E1
    replace E2 := xx.cellg (by omega) E2
    replace E3 := xx.cellg (by omega) E3
    replace V := V.within ss xx
    replace rb := rb.within xx (by omega)
    replace hsz : w.heap.size + 1 + 1 ≤ v24.heap.size := Nat.le_trans hsz xx.size
    clear ss xx
    try go_wp2_with fail
    refine hK.out _ _ ?_ ?_
    · (try dsimp only); exact ⟨E0, E1, E2, E3⟩
    clear hHeld hK K
    intro hHeld
    try simp only [Act.put, List.setIfInBounds_toArray, List.set_cons_zero, List.set_cons_succ]
    refine wpAnyH_ready (rs := [18]) (by kernel_rfl) (by simp) ?_
    refine (AllReadyH.cons (o := ⟨_, _, _, _, _, _⟩) rfl (fun K hK => ?_) AllReadyH.nil)
    obtain ⟨x0, c0⟩ := rb.c0
    obtain ⟨x1, c1⟩ := rb.c1
    obtain ⟨x2, c2⟩ := rb.c2
    obtain ⟨x3, c3⟩ := rb.c3
    have f0 := rb.fz 0
    have f1 := rb.fz 1
    have f2 := rb.fz 2
    have f3 := rb.fz 3
    go_simp
    have t4 : Touch w.heap.size 0 4 v24 ((((v24.setCell ⟨w.heap.size, 0, none⟩ (.int .i64 r)).setCell ⟨w.heap.size, 1, none⟩ (.int .i64 wd)).setCell ⟨w.heap.size, 2, none⟩ (.slice (some ⟨bx, 0, none⟩) n cx)).setCell ⟨w.heap.size, 3, none⟩ (.slice av bs.length cv)) := (((((Touch.refl _ _ _ _).setCell (by omega) (by omega) _).setCell (by omega) (by omega) _).setCell (by omega) (by omega) _).setCell (by omega) (by omega) _)
    have HR := hide (res4 (w := v24) (r := w.heap.size) (.int .i64 r) (.int .i64 wd) (.slice (some ⟨bx, 0, none⟩) n cx) (.slice av bs.length cv) c0 c1 c2 c3)
    obtain ⟨cs, hcl, hn24, hb40, l1, l2, k1, k2⟩ := V.lists2 (W' := ((((v24.setCell ⟨w.heap.size, 0, none⟩ (.int .i64 r)).setCell ⟨w.heap.size, 1, none⟩ (.int .i64 wd)).setCell ⟨w.heap.size, 2, none⟩ (.slice (some ⟨bx, 0, none⟩) n cx)).setCell ⟨w.heap.size, 3, none⟩ (.slice av bs.length cv))) (fun i h1 h2 => t4.block i h2 (by omega))
    have QQ := hide (V.src.old.trans (t4.below (B := w.heap.size) (Nat.le_refl _) (by omega)))
    have HL := hide (And.intro l1 l2)
    have HC := hide hcl
    replace E0 := t4.cellAt E0 (by omega)
    replace E1 := t4.cellAt E1 (by omega)
    replace E2 := t4.cellAt E2 (by omega)
    replace E3 := t4.cellAt E3 (by omega)
    generalize ((((v24.setCell ⟨w.heap.size, 0, none⟩ (.int .i64 r)).setCell ⟨w.heap.size, 1, none⟩ (.int .i64 wd)).setCell ⟨w.heap.size, 2, none⟩ (.slice (some ⟨bx, 0, none⟩) n cx)).setCell ⟨w.heap.size, 3, none⟩ (.slice av bs.length cv)) = vz at *
    clear t4 rb V l1 l2 hcl hsz c0 c1 c2 c3 f0 f1 f2 f3
    refine hK.out _ _ ?_ ?_
    · (try dsimp only); exact ⟨E0, E1, E2, E3⟩
    clear hHeld hK K
    intro hHeld
    try simp only [Act.put, List.setIfInBounds_toArray, List.set_cons_zero, List.set_cons_succ]
    refine wpAnyH_take (i := 19) (oi := ⟨_, _, _, _, _, _⟩) (v := ?_) rfl (by kernel_rfl) (by kernel_rfl) (by kernel_rfl) (fun _ _ _ h => h) (Or.inl ⟨by rfl, ?_⟩) hHeld ?_
    rotate_left
    · (intro w hSw; (try dsimp only at hSw); go_simp; try (with_reducible rfl))
    try simp only [Act.put, List.setIfInBounds_toArray, List.set_cons_zero, List.set_cons_succ]
    refine wpAnyH_take (i := 20) (oi := ⟨_, _, _, _, _, _⟩) (v := ?_) rfl (by kernel_rfl) (by kernel_rfl) (by kernel_rfl) (fun _ _ _ h => h) (Or.inl ⟨by rfl, ?_⟩) hHeld ?_
    rotate_left
    · (intro w hSw; (try dsimp only at hSw); go_simp; try (with_reducible rfl))
    try simp only [Act.put, List.setIfInBounds_toArray, List.set_cons_zero, List.set_cons_succ]
    refine wpAnyH_take (i := 21) (oi := ⟨_, _, _, _, _, _⟩) (v := ?_) rfl (by kernel_rfl) (by kernel_rfl) (by kernel_rfl) (fun _ _ _ h => h) (Or.inl ⟨by rfl, ?_⟩) hHeld ?_
    rotate_left
    · (intro w hSw; (try dsimp only at hSw); go_simp; try (with_reducible rfl))
    try simp only [Act.put, List.setIfInBounds_toArray, List.set_cons_zero, List.set_cons_succ]
    refine wpAnyH_done (by kernel_rfl) ?_ _
    clear hHeld
    go_wp2
    have hr := HR.out
    refine bodyPost_ret (v := .tuple #[.agg #[.int .i64 r, .int .i64 wd, .slice (some ⟨bx, 0, none⟩) n cx, .slice av bs.length cv], .int .i64 y1, .int .i64 y3, .int .i64 y4]) (by simp only [results, Try.results43]; simp [go_sem, hr.1, hr.2.1, hr.2.2.1, hr.2.2.2]) rfl ⟨r, wd, _, _, cs, bs, y1, y3, y4, rfl, by have := HC.out; omega, by have := HC.out; omega, hb40, ?_, HL.out.2, k1, k2, QQ.out⟩
    exact HL.out.1
end Go.Proofs.Ytbndncfkkhjkoaa
