/-
  The draws of the laws FnFonts and FnGlyphs: DrawPutPair, DrawCharsOf, DrawTranslateChar, walked.
-/
import Derived.Test.YtlkabmgindbbmaaRows
import Derived.Test.YtlkabmgindbbmaaFontDraw3
namespace Go.Proofs.Ytlkabmgindbbmaa
set_option maxRecDepth 20000
open Go.ChangeShapes Go.WideShapes Go.ChangeAt Go.RowKit
set_option linter.unusedVariables false
set_option linter.unusedSimpArgs false

set_option maxHeartbeats 4000000 in
theorem drawPut_calls (zs : List Int) (a : Option Addr) (cap : Nat) (w : World) (hv : ReadAt .u8 w (.slice a zs.length cap) zs) (hz : ∀ z ∈ zs, 0 ≤ z ∧ z ≤ 255) (hlen : zs.length ≤ 1048576) :
    Calls Try.prog 26 #[.slice a zs.length cap] w fun e w' => ∃ (fb : Int) (x : Value) (ps : List (Int × Int)) (c g : Int), e = .returned (.tuple #[.agg #[.int .i64 fb, x], .agg #[.int .i64 c, .int .i64 g]]) ∧ ps.length ≤ 21 ∧ PRead w' x ps ∧ Below w.heap.size w w' := by
  have HZ := hide hz
  clear hz
  go_enter Try.func26, Try.ntmps26
  go_wp2_with fail
  refine (l1Source_f _ _ _ _).mono ?_
  rintro e w' ⟨rfl, hw⟩
  rw [hw]
  clear hw w'
  go_wp2_with fail
  have q0 : Below w.heap.size w (((w.alloc (.cells #[.int .i64 0, .slice none 0 0] 50)).alloc (.cells #[.int .i64 0, .int .i64 0] 52)).alloc (.cells #[.slice a zs.length cap, .int .i64 0] 109)) := (by repeat' (first | with_reducible exact Below.refl _ _ | with_reducible assumption | with_reducible refine Below.drew ?_ | with_reducible refine Below.alloc ?_ ?_ _ | with_reducible refine Below.setCell ?_ ?_ _ | (simp; done) | (simp; omega) | omega))
  have sc : Src w (((w.alloc (.cells #[.int .i64 0, .slice none 0 0] 50)).alloc (.cells #[.int .i64 0, .int .i64 0] 52)).alloc (.cells #[.slice a zs.length cap, .int .i64 0] 109)) (w.heap.size + 2) (.slice a zs.length cap) 0 := ⟨by simp [go_sem], by simp [go_sem], fun o => by simp [go_sem], q0, by omega⟩
  have R00 : (((w.alloc (.cells #[.int .i64 0, .slice none 0 0] 50)).alloc (.cells #[.int .i64 0, .int .i64 0] 52)).alloc (.cells #[.slice a zs.length cap, .int .i64 0] 109)).cell? ⟨w.heap.size, 0, none⟩ = some (.int .i64 0) := by simp [go_sem]
  have Z00 : (((w.alloc (.cells #[.int .i64 0, .slice none 0 0] 50)).alloc (.cells #[.int .i64 0, .int .i64 0] 52)).alloc (.cells #[.slice a zs.length cap, .int .i64 0] 109)).frozen? ⟨w.heap.size, 0, none⟩ = false := by simp [go_sem]
  have R01 : (((w.alloc (.cells #[.int .i64 0, .slice none 0 0] 50)).alloc (.cells #[.int .i64 0, .int .i64 0] 52)).alloc (.cells #[.slice a zs.length cap, .int .i64 0] 109)).cell? ⟨w.heap.size, 1, none⟩ = some (.slice none 0 0) := by simp [go_sem]
  have Z01 : (((w.alloc (.cells #[.int .i64 0, .slice none 0 0] 50)).alloc (.cells #[.int .i64 0, .int .i64 0] 52)).alloc (.cells #[.slice a zs.length cap, .int .i64 0] 109)).frozen? ⟨w.heap.size, 1, none⟩ = false := by simp [go_sem]
  have R10 : (((w.alloc (.cells #[.int .i64 0, .slice none 0 0] 50)).alloc (.cells #[.int .i64 0, .int .i64 0] 52)).alloc (.cells #[.slice a zs.length cap, .int .i64 0] 109)).cell? ⟨w.heap.size + 1, 0, none⟩ = some (.int .i64 0) := by simp [go_sem]
  have Z10 : (((w.alloc (.cells #[.int .i64 0, .slice none 0 0] 50)).alloc (.cells #[.int .i64 0, .int .i64 0] 52)).alloc (.cells #[.slice a zs.length cap, .int .i64 0] 109)).frozen? ⟨w.heap.size + 1, 0, none⟩ = false := by simp [go_sem]
  have R11 : (((w.alloc (.cells #[.int .i64 0, .slice none 0 0] 50)).alloc (.cells #[.int .i64 0, .int .i64 0] 52)).alloc (.cells #[.slice a zs.length cap, .int .i64 0] 109)).cell? ⟨w.heap.size + 1, 1, none⟩ = some (.int .i64 0) := by simp [go_sem]
  have Z11 : (((w.alloc (.cells #[.int .i64 0, .slice none 0 0] 50)).alloc (.cells #[.int .i64 0, .int .i64 0] 52)).alloc (.cells #[.slice a zs.length cap, .int .i64 0] 109)).frozen? ⟨w.heap.size + 1, 1, none⟩ = false := by simp [go_sem]
  have hsz : w.heap.size + 2 + 1 ≤ (((w.alloc (.cells #[.int .i64 0, .slice none 0 0] 50)).alloc (.cells #[.int .i64 0, .int .i64 0] 52)).alloc (.cells #[.slice a zs.length cap, .int .i64 0] 109)).heap.size := by simp; try omega
  clear q0
  have hsz0 := hsz
  refine (l2Bent_calls zs a cap (w.heap.size + 2) 0 w _ hv HZ.out hlen sc (by omega) (by omega)).mono ?_
  rintro e v1 ⟨fb, x, ps, q, rfl, ⟨hps, hq0, hq1⟩, hx, sn, xn⟩
  replace R00 := xn.cellf (by omega) R00
  replace R01 := xn.cellf (by omega) R01
  replace R10 := xn.cellf (by omega) R10
  replace R11 := xn.cellf (by omega) R11
  replace Z00 := xn.frozenf (by omega) (by omega) Z00
  replace Z01 := xn.frozenf (by omega) (by omega) Z01
  replace Z10 := xn.frozenf (by omega) (by omega) Z10
  replace Z11 := xn.frozenf (by omega) (by omega) Z11
  replace hsz : w.heap.size + 2 + 1 ≤ v1.heap.size := Nat.le_trans hsz xn.size
  have hx := hx.mono (lo' := w.heap.size + 2 + 1) hsz0 (Nat.le_refl _)
  obtain ⟨ax, cx, rfl, hx'⟩ := hx
  have hx : PairsAt (w.heap.size + 2 + 1) v1.heap.size v1 (.slice ax ps.length cx) ps := ⟨ax, cx, rfl, hx'⟩
  clear hx' xn sc
  have hxs : v1.heap.size ≤ v1.heap.size := Nat.le_refl _
  try go_wp2_with fail
  refine (l1Next_calls zs a cap (w.heap.size + 2) (q) 40 w _ hv HZ.out hlen sn (by omega) (by omega) (by omega) (by omega)).mono ?_
  rintro e v2 ⟨r1, rfl, hr10, hr11, sr1, xr1⟩
  replace R00 := xr1.cellf (by omega) R00
  replace R01 := xr1.cellf (by omega) R01
  replace R10 := xr1.cellf (by omega) R10
  replace R11 := xr1.cellf (by omega) R11
  replace Z00 := xr1.frozenf (by omega) (by omega) Z00
  replace Z01 := xr1.frozenf (by omega) (by omega) Z01
  replace Z10 := xr1.frozenf (by omega) (by omega) Z10
  replace Z11 := xr1.frozenf (by omega) (by omega) Z11
  replace hx := hx.within xr1 (by omega) (by omega)
  replace hsz : w.heap.size + 2 + 1 ≤ v2.heap.size := Nat.le_trans hsz xr1.size
  replace hxs : v1.heap.size ≤ v2.heap.size := Nat.le_trans hxs xr1.size
  clear xr1 sn
  try go_wp2_with fail
  refine (l1Next_calls zs a cap (w.heap.size + 2) (q + 1) 40 w _ hv HZ.out hlen sr1 (by omega) (by omega) (by omega) (by omega)).mono ?_
  rintro e v3 ⟨r2, rfl, hr20, hr21, sr2, xr2⟩
  replace R00 := xr2.cellf (by omega) R00
  replace R01 := xr2.cellf (by omega) R01
  replace R10 := xr2.cellf (by omega) R10
  replace R11 := xr2.cellf (by omega) R11
  replace Z00 := xr2.frozenf (by omega) (by omega) Z00
  replace Z01 := xr2.frozenf (by omega) (by omega) Z01
  replace Z10 := xr2.frozenf (by omega) (by omega) Z10
  replace Z11 := xr2.frozenf (by omega) (by omega) Z11
  replace hx := hx.within xr2 (by omega) (by omega)
  replace hsz : w.heap.size + 2 + 1 ≤ v3.heap.size := Nat.le_trans hsz xr2.size
  replace hxs : v1.heap.size ≤ v3.heap.size := Nat.le_trans hxs xr2.size
  clear xr2 sr1
  try go_wp2_with fail
  have hbc : Below v3.heap.size v3 (v3.alloc (.cells #[.int .i64 (60 + r1), .int .i64 (60 + r2), .int .i64 55296] 2)) := (Below.refl _ _).alloc (Nat.le_refl _) _
  replace R00 := cellb hbc R00
  replace R01 := cellb hbc R01
  replace R10 := cellb hbc R10
  replace R11 := cellb hbc R11
  replace Z00 := (hbc.frozen (p := ⟨w.heap.size, 0, none⟩) (by simp; omega)).trans Z00
  replace Z01 := (hbc.frozen (p := ⟨w.heap.size, 1, none⟩) (by simp; omega)).trans Z01
  replace Z10 := (hbc.frozen (p := ⟨w.heap.size + 1, 0, none⟩) (by simp; omega)).trans Z10
  replace Z11 := (hbc.frozen (p := ⟨w.heap.size + 1, 1, none⟩) (by simp; omega)).trans Z11
  replace hx := hx.below hbc (by omega)
  have sac := sr2.below hbc
  have hsa : w.heap.size + 2 + 1 ≤ (v3.alloc (.cells #[.int .i64 (60 + r1), .int .i64 (60 + r2), .int .i64 55296] 2)).heap.size := Nat.le_trans hsz hbc.size
  have hxa : v1.heap.size ≤ (v3.alloc (.cells #[.int .i64 (60 + r1), .int .i64 (60 + r2), .int .i64 55296] 2)).heap.size := Nat.le_trans hxs hbc.size
  refine (l1Pick_f zs [(60 + r1), (60 + r2), 55296] a cap (w.heap.size + 2) v3.heap.size 3 3 (q + 1 + 1) w _ hv HZ.out hlen sac (by omega) (by omega) rfl (by omega) (by omega) (by omega) (new_intsf rfl)).mono ?_
  rintro e v4 ⟨c, rfl, _, sc, xc⟩
  replace R00 := xc.cellf (by omega) R00
  replace R01 := xc.cellf (by omega) R01
  replace R10 := xc.cellf (by omega) R10
  replace R11 := xc.cellf (by omega) R11
  replace Z00 := xc.frozenf (by omega) (by omega) Z00
  replace Z01 := xc.frozenf (by omega) (by omega) Z01
  replace Z10 := xc.frozenf (by omega) (by omega) Z10
  replace Z11 := xc.frozenf (by omega) (by omega) Z11
  replace hx := hx.within xc (by omega) (by omega)
  replace hxs : v1.heap.size ≤ v4.heap.size := Nat.le_trans hxa xc.size
  clear hxa
  replace hsz : w.heap.size + 2 + 1 ≤ v4.heap.size := Nat.le_trans hsa xc.size
  clear xc sac hbc sr2 hsa
  try go_wp2_with fail
  refine (l1Next_calls zs a cap (w.heap.size + 2) (q + 1 + 1 + 1) 5 w _ hv HZ.out hlen sc (by omega) (by omega) (by omega) (by omega)).mono ?_
  rintro e v5 ⟨r3, rfl, hr30, hr31, sr3, xr3⟩
  replace R00 := xr3.cellf (by omega) R00
  replace R01 := xr3.cellf (by omega) R01
  replace R10 := xr3.cellf (by omega) R10
  replace R11 := xr3.cellf (by omega) R11
  replace Z00 := xr3.frozenf (by omega) (by omega) Z00
  replace Z01 := xr3.frozenf (by omega) (by omega) Z01
  replace Z10 := xr3.frozenf (by omega) (by omega) Z10
  replace Z11 := xr3.frozenf (by omega) (by omega) Z11
  replace hx := hx.within xr3 (by omega) (by omega)
  replace hsz : w.heap.size + 2 + 1 ≤ v5.heap.size := Nat.le_trans hsz xr3.size
  replace hxs : v1.heap.size ≤ v5.heap.size := Nat.le_trans hxs xr3.size
  clear xr3 sc
  try go_wp2_with fail
  have hbg : Below v5.heap.size v5 (v5.alloc (.cells #[.int .i64 r3, .int .i64 255, .int .i64 256] 2)) := (Below.refl _ _).alloc (Nat.le_refl _) _
  replace R00 := cellb hbg R00
  replace R01 := cellb hbg R01
  replace R10 := cellb hbg R10
  replace R11 := cellb hbg R11
  replace Z00 := (hbg.frozen (p := ⟨w.heap.size, 0, none⟩) (by simp; omega)).trans Z00
  replace Z01 := (hbg.frozen (p := ⟨w.heap.size, 1, none⟩) (by simp; omega)).trans Z01
  replace Z10 := (hbg.frozen (p := ⟨w.heap.size + 1, 0, none⟩) (by simp; omega)).trans Z10
  replace Z11 := (hbg.frozen (p := ⟨w.heap.size + 1, 1, none⟩) (by simp; omega)).trans Z11
  replace hx := hx.below hbg (by omega)
  have sag := sr3.below hbg
  have hsa : w.heap.size + 2 + 1 ≤ (v5.alloc (.cells #[.int .i64 r3, .int .i64 255, .int .i64 256] 2)).heap.size := Nat.le_trans hsz hbg.size
  have hxa : v1.heap.size ≤ (v5.alloc (.cells #[.int .i64 r3, .int .i64 255, .int .i64 256] 2)).heap.size := Nat.le_trans hxs hbg.size
  refine (l1Pick_f zs [r3, 255, 256] a cap (w.heap.size + 2) v5.heap.size 3 3 (q + 1 + 1 + 1 + 1) w _ hv HZ.out hlen sag (by omega) (by omega) rfl (by omega) (by omega) (by omega) (new_intsf rfl)).mono ?_
  rintro e v6 ⟨g, rfl, _, sg, xg⟩
  replace R00 := xg.cellf (by omega) R00
  replace R01 := xg.cellf (by omega) R01
  replace R10 := xg.cellf (by omega) R10
  replace R11 := xg.cellf (by omega) R11
  replace Z00 := xg.frozenf (by omega) (by omega) Z00
  replace Z01 := xg.frozenf (by omega) (by omega) Z01
  replace Z10 := xg.frozenf (by omega) (by omega) Z10
  replace Z11 := xg.frozenf (by omega) (by omega) Z11
  replace hx := hx.within xg (by omega) (by omega)
  replace hxs : v1.heap.size ≤ v6.heap.size := Nat.le_trans hxa xg.size
  clear hxa
  replace hsz : w.heap.size + 2 + 1 ≤ v6.heap.size := Nat.le_trans hsa xg.size
  clear xg sag hbg sr3 hsa
  have q9 := sg.old
  have hr0 := res2 (w := v6) (r := w.heap.size) (.int .i64 fb) (.slice ax ps.length cx) R00 R01
  have P0 : ((v6.setCell ⟨w.heap.size, 0, none⟩ (.int .i64 fb)).setCell ⟨w.heap.size, 1, none⟩ (.slice ax ps.length cx)).cell? ⟨w.heap.size + 1, 0, none⟩ = some (.int .i64 0) := by rw [World.cell?_setCell_other _ _ _ _ (addr_ne (by omega)), World.cell?_setCell_other _ _ _ _ (addr_ne (by omega))]; exact R10
  have P1 : ((v6.setCell ⟨w.heap.size, 0, none⟩ (.int .i64 fb)).setCell ⟨w.heap.size, 1, none⟩ (.slice ax ps.length cx)).cell? ⟨w.heap.size + 1, 1, none⟩ = some (.int .i64 0) := by rw [World.cell?_setCell_other _ _ _ _ (addr_ne (by omega)), World.cell?_setCell_other _ _ _ _ (addr_ne (by omega))]; exact R11
  have hr1 := res2 (w := ((v6.setCell ⟨w.heap.size, 0, none⟩ (.int .i64 fb)).setCell ⟨w.heap.size, 1, none⟩ (.slice ax ps.length cx))) (r := w.heap.size + 1) (.int .i64 c) (.int .i64 g) P0 P1
  have F0 : ((((v6.setCell ⟨w.heap.size, 0, none⟩ (.int .i64 fb)).setCell ⟨w.heap.size, 1, none⟩ (.slice ax ps.length cx)).setCell ⟨w.heap.size + 1, 0, none⟩ (.int .i64 c)).setCell ⟨w.heap.size + 1, 1, none⟩ (.int .i64 g)).cell? ⟨w.heap.size, 0, none⟩ = some (.int .i64 fb) := by rw [World.cell?_setCell_other _ _ _ _ (addr_ne (by omega)), World.cell?_setCell_other _ _ _ _ (addr_ne (by omega))]; exact hr0.1
  have F1 : ((((v6.setCell ⟨w.heap.size, 0, none⟩ (.int .i64 fb)).setCell ⟨w.heap.size, 1, none⟩ (.slice ax ps.length cx)).setCell ⟨w.heap.size + 1, 0, none⟩ (.int .i64 c)).setCell ⟨w.heap.size + 1, 1, none⟩ (.int .i64 g)).cell? ⟨w.heap.size, 1, none⟩ = some (.slice ax ps.length cx) := by rw [World.cell?_setCell_other _ _ _ _ (addr_ne (by omega)), World.cell?_setCell_other _ _ _ _ (addr_ne (by omega))]; exact hr0.2
  clear sg
  try go_wp2
  refine bodyPost_ret (v := .tuple #[.agg #[.int .i64 fb, .slice ax ps.length cx], .agg #[.int .i64 c, .int .i64 g]]) (by simp only [results, Try.results26]; simp [go_sem, F0, F1, hr1.1, hr1.2]) rfl ?_
  refine ⟨fb, _, ps, c, g, rfl, hps, (hx.of_blocks ?_).read, (by repeat' (first | with_reducible exact Below.refl _ _ | with_reducible assumption | with_reducible refine Below.drew ?_ | with_reducible refine Below.alloc ?_ ?_ _ | with_reducible refine Below.setCell ?_ ?_ _ | (simp; done) | (simp; omega) | omega))⟩
  intro i hi _
  simp only [World.setCell, Array.getElem?_modify]
  repeat rw [if_neg (by omega)]

set_option maxHeartbeats 4000000 in
theorem drawCharsOf_calls (zs : List Int) (a : Option Addr) (cap : Nat) (w : World) (hv : ReadAt .u8 w (.slice a zs.length cap) zs) (hz : ∀ z ∈ zs, 0 ≤ z ∧ z ≤ 255) (hlen : zs.length ≤ 1048576) :
    Calls Try.prog 33 #[.slice a zs.length cap] w fun e w' => ∃ (fb : Int) (x : Value) (ps : List (Int × Int)) (g : Int), e = .returned (.tuple #[.agg #[.int .i64 fb, x], .int .i64 g]) ∧ ps.length ≤ 21 ∧ PRead w' x ps ∧ Below w.heap.size w w' := by
  have HZ := hide hz
  clear hz
  go_enter Try.func33, Try.ntmps33
  go_wp2_with fail
  refine (l1Source_f _ _ _ _).mono ?_
  rintro e w' ⟨rfl, hw⟩
  rw [hw]
  clear hw w'
  go_wp2_with fail
  have q0 : Below w.heap.size w ((w.alloc (.cells #[.int .i64 0, .slice none 0 0] 50)).alloc (.cells #[.slice a zs.length cap, .int .i64 0] 109)) := (by repeat' (first | with_reducible exact Below.refl _ _ | with_reducible assumption | with_reducible refine Below.drew ?_ | with_reducible refine Below.alloc ?_ ?_ _ | with_reducible refine Below.setCell ?_ ?_ _ | (simp; done) | (simp; omega) | omega))
  have sc : Src w ((w.alloc (.cells #[.int .i64 0, .slice none 0 0] 50)).alloc (.cells #[.slice a zs.length cap, .int .i64 0] 109)) (w.heap.size + 1) (.slice a zs.length cap) 0 := ⟨by simp [go_sem], by simp [go_sem], fun o => by simp [go_sem], q0, by omega⟩
  have R00 : ((w.alloc (.cells #[.int .i64 0, .slice none 0 0] 50)).alloc (.cells #[.slice a zs.length cap, .int .i64 0] 109)).cell? ⟨w.heap.size, 0, none⟩ = some (.int .i64 0) := by simp [go_sem]
  have Z00 : ((w.alloc (.cells #[.int .i64 0, .slice none 0 0] 50)).alloc (.cells #[.slice a zs.length cap, .int .i64 0] 109)).frozen? ⟨w.heap.size, 0, none⟩ = false := by simp [go_sem]
  have R01 : ((w.alloc (.cells #[.int .i64 0, .slice none 0 0] 50)).alloc (.cells #[.slice a zs.length cap, .int .i64 0] 109)).cell? ⟨w.heap.size, 1, none⟩ = some (.slice none 0 0) := by simp [go_sem]
  have Z01 : ((w.alloc (.cells #[.int .i64 0, .slice none 0 0] 50)).alloc (.cells #[.slice a zs.length cap, .int .i64 0] 109)).frozen? ⟨w.heap.size, 1, none⟩ = false := by simp [go_sem]
  have hsz : w.heap.size + 1 + 1 ≤ ((w.alloc (.cells #[.int .i64 0, .slice none 0 0] 50)).alloc (.cells #[.slice a zs.length cap, .int .i64 0] 109)).heap.size := by simp; try omega
  clear q0
  have hsz0 := hsz
  refine (l2Bent_calls zs a cap (w.heap.size + 1) 0 w _ hv HZ.out hlen sc (by omega) (by omega)).mono ?_
  rintro e v1 ⟨fb, x, ps, q, rfl, ⟨hps, hq0, hq1⟩, hx, sn, xn⟩
  replace R00 := xn.cellf (by omega) R00
  replace R01 := xn.cellf (by omega) R01
  replace Z00 := xn.frozenf (by omega) (by omega) Z00
  replace Z01 := xn.frozenf (by omega) (by omega) Z01
  replace hsz : w.heap.size + 1 + 1 ≤ v1.heap.size := Nat.le_trans hsz xn.size
  have hx := hx.mono (lo' := w.heap.size + 1 + 1) hsz0 (Nat.le_refl _)
  obtain ⟨ax, cx, rfl, hx'⟩ := hx
  have hx : PairsAt (w.heap.size + 1 + 1) v1.heap.size v1 (.slice ax ps.length cx) ps := ⟨ax, cx, rfl, hx'⟩
  clear hx' xn sc
  have hxs : v1.heap.size ≤ v1.heap.size := Nat.le_refl _
  try go_wp2_with fail
  refine (l1Next_calls zs a cap (w.heap.size + 1) (q) 5 w _ hv HZ.out hlen sn (by omega) (by omega) (by omega) (by omega)).mono ?_
  rintro e v2 ⟨r1, rfl, hr10, hr11, sr1, xr1⟩
  replace R00 := xr1.cellf (by omega) R00
  replace R01 := xr1.cellf (by omega) R01
  replace Z00 := xr1.frozenf (by omega) (by omega) Z00
  replace Z01 := xr1.frozenf (by omega) (by omega) Z01
  replace hx := hx.within xr1 (by omega) (by omega)
  replace hsz : w.heap.size + 1 + 1 ≤ v2.heap.size := Nat.le_trans hsz xr1.size
  replace hxs : v1.heap.size ≤ v2.heap.size := Nat.le_trans hxs xr1.size
  clear xr1 sn
  try go_wp2_with fail
  have hbg : Below v2.heap.size v2 (v2.alloc (.cells #[.int .i64 r1, .int .i64 255, .int .i64 256, .int .i64 (-1)] 2)) := (Below.refl _ _).alloc (Nat.le_refl _) _
  replace R00 := cellb hbg R00
  replace R01 := cellb hbg R01
  replace Z00 := (hbg.frozen (p := ⟨w.heap.size, 0, none⟩) (by simp; omega)).trans Z00
  replace Z01 := (hbg.frozen (p := ⟨w.heap.size, 1, none⟩) (by simp; omega)).trans Z01
  replace hx := hx.below hbg (by omega)
  have sag := sr1.below hbg
  have hsa : w.heap.size + 1 + 1 ≤ (v2.alloc (.cells #[.int .i64 r1, .int .i64 255, .int .i64 256, .int .i64 (-1)] 2)).heap.size := Nat.le_trans hsz hbg.size
  have hxa : v1.heap.size ≤ (v2.alloc (.cells #[.int .i64 r1, .int .i64 255, .int .i64 256, .int .i64 (-1)] 2)).heap.size := Nat.le_trans hxs hbg.size
  refine (l1Pick_f zs [r1, 255, 256, -1] a cap (w.heap.size + 1) v2.heap.size 4 4 (q + 1) w _ hv HZ.out hlen sag (by omega) (by omega) rfl (by omega) (by omega) (by omega) (new_intsf rfl)).mono ?_
  rintro e v3 ⟨g, rfl, _, sg, xg⟩
  replace R00 := xg.cellf (by omega) R00
  replace R01 := xg.cellf (by omega) R01
  replace Z00 := xg.frozenf (by omega) (by omega) Z00
  replace Z01 := xg.frozenf (by omega) (by omega) Z01
  replace hx := hx.within xg (by omega) (by omega)
  replace hxs : v1.heap.size ≤ v3.heap.size := Nat.le_trans hxa xg.size
  clear hxa
  replace hsz : w.heap.size + 1 + 1 ≤ v3.heap.size := Nat.le_trans hsa xg.size
  clear xg sag hbg sr1 hsa
  have q9 := sg.old
  have hr0 := res2 (w := v3) (r := w.heap.size) (.int .i64 fb) (.slice ax ps.length cx) R00 R01
  clear sg
  try go_wp2
  refine bodyPost_ret (v := .tuple #[.agg #[.int .i64 fb, .slice ax ps.length cx], .int .i64 g]) (by simp only [results, Try.results33]; simp [go_sem, hr0.1, hr0.2]) rfl ?_
  refine ⟨fb, _, ps, g, rfl, hps, (hx.of_blocks ?_).read, (by repeat' (first | with_reducible exact Below.refl _ _ | with_reducible assumption | with_reducible refine Below.drew ?_ | with_reducible refine Below.alloc ?_ ?_ _ | with_reducible refine Below.setCell ?_ ?_ _ | (simp; done) | (simp; omega) | omega))⟩
  intro i hi _
  simp only [World.setCell, Array.getElem?_modify]
  repeat rw [if_neg (by omega)]

set_option maxHeartbeats 4000000 in
theorem drawTrans_calls (zs : List Int) (a : Option Addr) (cap : Nat) (w : World) (hv : ReadAt .u8 w (.slice a zs.length cap) zs) (hz : ∀ z ∈ zs, 0 ≤ z ∧ z ≤ 255) (hlen : zs.length ≤ 1048576) :
    Calls Try.prog 35 #[.slice a zs.length cap] w fun e w' => ∃ (t c : Int), e = .returned (.tuple #[.int .i64 t, .int .i64 c]) ∧ Below w.heap.size w w' := by
  have HZ := hide hz
  clear hz
  go_enter Try.func35, Try.ntmps35
  go_wp2_with fail
  refine (l1Source_f _ _ _ _).mono ?_
  rintro e w' ⟨rfl, hw⟩
  rw [hw]
  clear hw w'
  go_wp2_with fail
  have q0 : Below w.heap.size w (w.alloc (.cells #[.slice a zs.length cap, .int .i64 0] 109)) := (by repeat' (first | with_reducible exact Below.refl _ _ | with_reducible assumption | with_reducible refine Below.drew ?_ | with_reducible refine Below.alloc ?_ ?_ _ | with_reducible refine Below.setCell ?_ ?_ _ | (simp; done) | (simp; omega) | omega))
  have sc : Src w (w.alloc (.cells #[.slice a zs.length cap, .int .i64 0] 109)) (w.heap.size) (.slice a zs.length cap) 0 := ⟨by simp [go_sem], by simp [go_sem], fun o => by simp [go_sem], q0, by omega⟩
  have hsz : w.heap.size + 1 ≤ (w.alloc (.cells #[.slice a zs.length cap, .int .i64 0] 109)).heap.size := by simp; try omega
  clear q0
  try go_wp2_with fail
  have hbt : Below (w.alloc (.cells #[.slice a zs.length cap, .int .i64 0] 109)).heap.size (w.alloc (.cells #[.slice a zs.length cap, .int .i64 0] 109)) ((w.alloc (.cells #[.slice a zs.length cap, .int .i64 0] 109)).alloc (.cells #[.int .i64 1, .int .i64 2, .int .i64 3, .int .i64 0, .int .i64 4] 2)) := (Below.refl _ _).alloc (Nat.le_refl _) _
  have sat := sc.below hbt
  have hsa : w.heap.size + 1 ≤ ((w.alloc (.cells #[.slice a zs.length cap, .int .i64 0] 109)).alloc (.cells #[.int .i64 1, .int .i64 2, .int .i64 3, .int .i64 0, .int .i64 4] 2)).heap.size := Nat.le_trans hsz hbt.size
  have hnew0 : ∀ i, i < ([1, 2, 3, 0, 4] : List Int).length → ((w.alloc (.cells #[.slice a zs.length cap, .int .i64 0] 109)).alloc (.cells #[.int .i64 1, .int .i64 2, .int .i64 3, .int .i64 0, .int .i64 4] 2)).cell? ⟨w.heap.size + 1, i, none⟩ = some (.int .i64 (([1, 2, 3, 0, 4] : List Int).getD i 0)) := by
    intro i hi
    have h := new_intsf (w := (w.alloc (.cells #[.slice a zs.length cap, .int .i64 0] 109))) (C := #[.int .i64 1, .int .i64 2, .int .i64 3, .int .i64 0, .int .i64 4]) (t := 2) (k := .i64) (xs := [1, 2, 3, 0, 4]) rfl i hi
    rw [show (w.alloc (.cells #[.slice a zs.length cap, .int .i64 0] 109)).heap.size = w.heap.size + 1 by simp] at h
    exact h
  refine (l1Pick_f zs [1, 2, 3, 0, 4] a cap (w.heap.size) (w.heap.size + 1) 5 5 (0) w _ hv HZ.out hlen sat (by omega) (by omega) rfl (by omega) (by omega) (by omega) hnew0).mono ?_
  rintro e v1 ⟨t, rfl, _, st, xt⟩
  replace hsz : w.heap.size + 1 ≤ v1.heap.size := Nat.le_trans hsa xt.size
  clear xt sat hbt sc hsa
  try go_wp2_with fail
  have hbc : Below v1.heap.size v1 (v1.alloc (.cells #[.int .i64 32, .int .i64 33, .int .i64 96, .int .i64 97, .int .i64 122, .int .i64 123, .int .i64 126, .int .i64 127, .int .i64 228, .int .i64 55296] 2)) := (Below.refl _ _).alloc (Nat.le_refl _) _
  have sac := st.below hbc
  have hsa : w.heap.size + 1 ≤ (v1.alloc (.cells #[.int .i64 32, .int .i64 33, .int .i64 96, .int .i64 97, .int .i64 122, .int .i64 123, .int .i64 126, .int .i64 127, .int .i64 228, .int .i64 55296] 2)).heap.size := Nat.le_trans hsz hbc.size
  refine (l1Pick_f zs [32, 33, 96, 97, 122, 123, 126, 127, 228, 55296] a cap (w.heap.size) v1.heap.size 10 10 (0 + 1) w _ hv HZ.out hlen sac (by omega) (by omega) rfl (by omega) (by omega) (by omega) (new_intsf rfl)).mono ?_
  rintro e v2 ⟨c, rfl, _, sc, xc⟩
  replace hsz : w.heap.size + 1 ≤ v2.heap.size := Nat.le_trans hsa xc.size
  clear xc sac hbc st hsa
  have q9 := sc.old
  try go_wp2
  exact bodyPost_ret (v := .tuple #[.int .i64 t, .int .i64 c]) (by simp [results, Try.results35, go_sem]) rfl ⟨t, c, rfl, q9⟩

end Go.Proofs.Ytlkabmgindbbmaa
