/-
  The laws' functions on fonts and on their results: szFont, toFont, eqFont, markFont, heldFont, eqFontResult, markFontResult, heldFontResult.
-/
import Derived.Test.YtlkabmgindbbmahRows
import Derived.Test.YtlkabmgindbbmahPairFns
namespace Go.Proofs.Ytlkabmgindbbmah
open Go.ChangeShapes Go.WideShapes Go.ChangeAt Go.RowKit
set_option linter.unusedVariables false
set_option linter.unusedSimpArgs false

set_option maxHeartbeats 400000 in
theorem szPairS_calls (n : Nat) (a : Option Addr) (cap : Nat) (w : World) (hn : n ≤ maxLen) :
    Calls Try.prog 30 #[.slice a n cap, .int .i64 1048576] w fun e w' => e = .returned (.int .i64 (if n ≤ 1048576 then (1048576 - n : Int) else -1)) ∧ w' = w := by
  unfold maxLen at hn
  by_cases h : n ≤ 1048576
  · rw [if_pos h]
    have hge : ¬ ((1048576 - (n : Int)) < 0) := by omega
    go_enter Try.func30, Try.ntmps30
    go_wp2
    go_ret
    exact ⟨rfl, rfl⟩
  · rw [if_neg h]
    have hge : ((1048576 - (n : Int)) < 0) := by omega
    go_enter Try.func30, Try.ntmps30
    go_wp2
    go_ret
    exact ⟨rfl, rfl⟩
set_option maxHeartbeats 400000 in
theorem szFont_calls (fb : Int) (n : Nat) (a : Option Addr) (cap : Nat) (w : World) (hn : n ≤ maxLen) :
    Calls Try.prog 8 #[.agg #[.int .i64 fb, .slice a n cap], .int .i64 1048576] w fun e w' => e = .returned (.int .i64 (if n ≤ 1048576 then (1048576 - n : Int) else -1)) ∧ Below w.heap.size w w' := by
  have hn' := hn
  unfold maxLen at hn'
  go_enter Try.func8, Try.ntmps8
  go_wp2_with fail
  refine (szPairS_calls n a cap _ hn).mono ?_
  rintro e w1 ⟨rfl, rfl⟩
  by_cases h : n ≤ 1048576
  · rw [if_pos h]
    have hge : ¬ ((1048576 - (n : Int)) < 0) := by omega
    go_wp2
    go_ret
    exact ⟨rfl, (by repeat' (first | with_reducible exact Below.refl _ _ | with_reducible assumption | with_reducible refine Below.drew ?_ | with_reducible refine Below.alloc ?_ ?_ _ | with_reducible refine Below.setCell ?_ ?_ _ | (simp; done) | (simp; omega) | omega))⟩
  · rw [if_neg h]
    go_wp2
    go_ret
    exact ⟨rfl, (by repeat' (first | with_reducible exact Below.refl _ _ | with_reducible assumption | with_reducible refine Below.drew ?_ | with_reducible refine Below.alloc ?_ ?_ _ | with_reducible refine Below.setCell ?_ ?_ _ | (simp; done) | (simp; omega) | omega))⟩

set_option maxHeartbeats 400000 in
theorem toFont_calls (fb : Int) (zs : List (Int × Int)) (v : Value) (w : World) (hn : zs.length ≤ 1048576) (h1 : PRead w v zs) :
    Calls Try.prog 10 #[.agg #[.int .i64 fb, v]] w fun e w' => ∃ x, e = .returned (.agg #[.int .i64 fb, x]) ∧ PairsAt w.heap.size w'.heap.size w' x zs ∧ Below w.heap.size w w' := by
  have h1' := h1
  obtain ⟨a1, c1, rfl, _⟩ := h1'
  go_enter Try.func10, Try.ntmps10
  go_wp2_with fail
  refine (toPairS_calls zs _ _ hn (h1.below ?hb)).mono ?_
  case hb => exact (by repeat' (first | with_reducible exact Below.refl _ _ | with_reducible assumption | with_reducible refine Below.drew ?_ | with_reducible refine Below.alloc ?_ ?_ _ | with_reducible refine Below.setCell ?_ ?_ _ | (simp; done) | (simp; omega) | omega))
  rintro e w1 ⟨x, rfl, hx, hb1⟩
  have hW : Below w.heap.size w _ := Below.trans (b := _) ?hq (hb1.mono ?hq2)
  case hq => exact (by repeat' (first | with_reducible exact Below.refl _ _ | with_reducible assumption | with_reducible refine Below.drew ?_ | with_reducible refine Below.alloc ?_ ?_ _ | with_reducible refine Below.setCell ?_ ?_ _ | (simp; done) | (simp; omega) | omega))
  case hq2 => simp [World.setCell]; omega
  have hs1 : w.heap.size + 3 ≤ w1.heap.size := by have := hb1.size; simp [World.setCell] at this; omega
  have k0 : w1.cell? ⟨w.heap.size + 1, 0, none⟩ = some (.int .i64 0) := cellb hb1 (by simp [go_sem])
  have k1 : w1.cell? ⟨w.heap.size + 1, 1, none⟩ = some (.slice none 0 0) := cellb hb1 (by simp [go_sem])
  have k2 : w1.cell? ⟨w.heap.size + 2, 0, none⟩ = some (.int .i64 fb) := cellb hb1 (by simp [go_sem])
  have k3 : w1.cell? ⟨w.heap.size + 2, 1, none⟩ = some (.slice none 0 0) := cellb hb1 (by simp [go_sem])
  have z0 : w1.frozen? ⟨w.heap.size + 1, 0, none⟩ = false := by rw [hb1.frozen (p := ⟨w.heap.size + 1, 0, none⟩) (by simp [World.setCell])]; simp [go_sem]
  have z1 : w1.frozen? ⟨w.heap.size + 1, 1, none⟩ = false := by rw [hb1.frozen (p := ⟨w.heap.size + 1, 1, none⟩) (by simp [World.setCell])]; simp [go_sem]
  have z2 : w1.frozen? ⟨w.heap.size + 2, 1, none⟩ = false := by rw [hb1.frozen (p := ⟨w.heap.size + 2, 1, none⟩) (by simp [World.setCell])]; simp [go_sem]
  obtain ⟨a2, c2, rfl, hx'⟩ := hx
  have hx : PairsAt (w.heap.size + 3) w1.heap.size w1 (.slice a2 zs.length c2) zs := PairsAt.mono ⟨a2, c2, rfl, hx'⟩ (by simp [World.setCell]) (Nat.le_refl _)
  clear hx' hb1
  obtain ⟨s1, s2, _⟩ := two_cells (w := w1.setCell ⟨w.heap.size + 1 + 1, 1, none⟩ (.slice a2 zs.length c2)) (b := w.heap.size + 1) (o := 0) (x := .int .i64 fb) (y := .slice a2 zs.length c2)
    (by rw [World.cell?_setCell_other _ _ _ _ (addr_ne (by omega))]; exact k0) (by rw [World.cell?_setCell_other _ _ _ _ (addr_ne (by omega))]; exact k1)
  rw [Nat.zero_add] at s1 s2
  go_wp2
  refine bodyPost_ret (v := .agg #[.int .i64 fb, .slice a2 zs.length c2]) (by simp only [results, Try.results10]; simp [go_sem, s1, s2]) rfl ⟨_, rfl, ?_, ?_⟩
  · refine (hx.of_blocks ?_).mono (by omega) (by simp [World.setCell])
    intro i hi _
    simp only [World.setCell, Array.getElem?_modify]
    repeat rw [if_neg (by omega)]
  · exact (by repeat' (first | with_reducible exact Below.refl _ _ | with_reducible assumption | with_reducible refine Below.drew ?_ | with_reducible refine Below.alloc ?_ ?_ _ | with_reducible refine Below.setCell ?_ ?_ _ | (simp; done) | (simp; omega) | omega))

set_option maxHeartbeats 400000 in
theorem eqFont_calls (fb : Int) (xs : List (Int × Int)) (v1 v2 : Value) (w : World) (hn : xs.length ≤ 1000000000) (h1 : PRead w v1 xs) (h2 : PRead w v2 xs) :
    Calls Try.prog 14 #[.agg #[.int .i64 fb, v1], .agg #[.int .i64 fb, v2]] w fun e w' => e = .returned (.bool true) ∧ Below w.heap.size w w' := by
  have h1' := h1
  obtain ⟨a1, c1, rfl, _⟩ := h1'
  have h2' := h2
  obtain ⟨a2, c2, rfl, _⟩ := h2'
  have hne : (fb != fb) = false := by simp
  go_enter Try.func14, Try.ntmps14
  go_wp2_with fail
  have hb : Below w.heap.size w ((w.alloc (.cells #[.int .i64 fb, .slice a1 xs.length c1] 30)).alloc (.cells #[.int .i64 fb, .slice a2 xs.length c2] 30)) := (by repeat' (first | with_reducible exact Below.refl _ _ | with_reducible assumption | with_reducible refine Below.drew ?_ | with_reducible refine Below.alloc ?_ ?_ _ | with_reducible refine Below.setCell ?_ ?_ _ | (simp; done) | (simp; omega) | omega))
  refine (eqPairS_calls xs _ _ _ hn (h1.below hb) (h2.below hb)).mono ?_
  rintro e w1 ⟨rfl, hb1⟩
  go_wp2
  go_ret
  exact ⟨rfl, hb.trans (hb1.mono hb.size)⟩
set_option maxHeartbeats 400000 in
theorem markFont_calls (fb : Int) (xs : List (Int × Int)) (k0 : Int) (lo hi : Nat) (v : Value) (w : World) (hn : xs.length ≤ 1000000000) (hk : 0 ≤ k0) (hk0 : k0 ≤ 1000000000) (hh : hi ≤ w.heap.size) (h1 : PairsAt lo hi w v xs) :
    Calls Try.prog 15 #[.agg #[.int .i64 fb, v], .int .i64 k0] w fun e w' => e = .returned (.int .i64 (k0 + 2 * xs.length)) ∧ PairsAt lo hi w' v (marksP k0 xs.length) ∧ Within lo hi w w' := by
  have h1' := h1
  obtain ⟨a1, c1, rfl, _⟩ := h1'
  go_enter Try.func15, Try.ntmps15
  go_wp2_with fail
  have hb : Below w.heap.size w (w.alloc (.cells #[.int .i64 fb, .slice a1 xs.length c1] 30)) := (by repeat' (first | with_reducible exact Below.refl _ _ | with_reducible assumption | with_reducible refine Below.drew ?_ | with_reducible refine Below.alloc ?_ ?_ _ | with_reducible refine Below.setCell ?_ ?_ _ | (simp; done) | (simp; omega) | omega))
  refine (markPairS_calls xs k0 lo hi _ _ hn hk hk0 (h1.below hb hh)).mono ?_
  rintro e w1 ⟨rfl, hm, hw⟩
  go_wp2
  go_ret
  exact ⟨rfl, hm, (Within.of_below hb (Nat.le_refl _)).trans hw⟩
set_option maxHeartbeats 400000 in
theorem heldFont_calls (fb : Int) (xs : List (Int × Int)) (k0 : Int) (v : Value) (w : World) (hn : xs.length ≤ 1000000000) (hk : 0 ≤ k0) (hk0 : k0 ≤ 1000000000) (h1 : PRead w v xs) (hm : ∀ i, i < xs.length → xs.getD i (0, 0) = ((k0 + 2 * i : Int), (k0 + 2 * i + 1 : Int))) :
    Calls Try.prog 41 #[.agg #[.int .i64 fb, v], .int .i64 k0] w fun e w' => e = .returned (.int .i64 (k0 + 2 * xs.length)) ∧ Below w.heap.size w w' := by
  have h1' := h1
  obtain ⟨a1, c1, rfl, _⟩ := h1'
  go_enter Try.func41, Try.ntmps41
  go_wp2_with fail
  have hb : Below w.heap.size w (w.alloc (.cells #[.int .i64 fb, .slice a1 xs.length c1] 30)) := (by repeat' (first | with_reducible exact Below.refl _ _ | with_reducible assumption | with_reducible refine Below.drew ?_ | with_reducible refine Below.alloc ?_ ?_ _ | with_reducible refine Below.setCell ?_ ?_ _ | (simp; done) | (simp; omega) | omega))
  refine (heldPairS_calls xs k0 _ _ hn hk hk0 (h1.below hb) hm).mono ?_
  rintro e w1 ⟨rfl, rfl⟩
  have hge : ¬ (k0 + 2 * (xs.length : Int) < 0) := by omega
  go_wp2
  go_ret
  exact ⟨rfl, hb⟩
set_option maxHeartbeats 400000 in
theorem eqFontResult_calls (c fb : Int) (xs : List (Int × Int)) (v1 v2 : Value) (w : World) (hn : xs.length ≤ 1000000000) (h1 : PRead w v1 xs) (h2 : PRead w v2 xs) :
    Calls Try.prog 13 #[.agg #[.int .i64 c, .int .i64 fb, v1], .agg #[.int .i64 c, .int .i64 fb, v2]] w fun e w' => e = .returned (.bool true) ∧ Below w.heap.size w w' := by
  have h1' := h1
  obtain ⟨a1, c1, rfl, _⟩ := h1'
  have h2' := h2
  obtain ⟨a2, c2, rfl, _⟩ := h2'
  have hne : (c != c) = false := by simp
  go_enter Try.func13, Try.ntmps13
  go_wp2_with fail
  have hb : Below w.heap.size w ((w.alloc (.cells #[.int .i64 c, .int .i64 fb, .slice a1 xs.length c1] 32)).alloc (.cells #[.int .i64 c, .int .i64 fb, .slice a2 xs.length c2] 32)) := (by repeat' (first | with_reducible exact Below.refl _ _ | with_reducible assumption | with_reducible refine Below.drew ?_ | with_reducible refine Below.alloc ?_ ?_ _ | with_reducible refine Below.setCell ?_ ?_ _ | (simp; done) | (simp; omega) | omega))
  refine (eqFont_calls fb xs _ _ _ hn (h1.below hb) (h2.below hb)).mono ?_
  rintro e w1 ⟨rfl, hb1⟩
  go_wp2
  go_ret
  exact ⟨rfl, hb.trans (hb1.mono hb.size)⟩
set_option maxHeartbeats 400000 in
theorem markFontResult_calls (c fb : Int) (xs : List (Int × Int)) (k0 : Int) (lo hi : Nat) (v : Value) (w : World) (hn : xs.length ≤ 1000000000) (hk : 0 ≤ k0) (hk0 : k0 ≤ 1000000000) (hh : hi ≤ w.heap.size) (h1 : PairsAt lo hi w v xs) :
    Calls Try.prog 16 #[.agg #[.int .i64 c, .int .i64 fb, v], .int .i64 k0] w fun e w' => e = .returned (.int .i64 (k0 + 2 * xs.length)) ∧ PairsAt lo hi w' v (marksP k0 xs.length) ∧ Within lo hi w w' := by
  have h1' := h1
  obtain ⟨a1, c1, rfl, _⟩ := h1'
  go_enter Try.func16, Try.ntmps16
  go_wp2_with fail
  have hb : Below w.heap.size w (w.alloc (.cells #[.int .i64 c, .int .i64 fb, .slice a1 xs.length c1] 32)) := (by repeat' (first | with_reducible exact Below.refl _ _ | with_reducible assumption | with_reducible refine Below.drew ?_ | with_reducible refine Below.alloc ?_ ?_ _ | with_reducible refine Below.setCell ?_ ?_ _ | (simp; done) | (simp; omega) | omega))
  refine (markFont_calls fb xs k0 lo hi _ _ hn hk hk0 (Nat.le_trans hh hb.size) (h1.below hb hh)).mono ?_
  rintro e w1 ⟨rfl, hm, hw⟩
  go_wp2
  go_ret
  exact ⟨rfl, hm, (Within.of_below hb (Nat.le_refl _)).trans hw⟩
set_option maxHeartbeats 400000 in
theorem heldFontResult_calls (c fb : Int) (xs : List (Int × Int)) (k0 : Int) (v : Value) (w : World) (hn : xs.length ≤ 1000000000) (hk : 0 ≤ k0) (hk0 : k0 ≤ 1000000000) (h1 : PRead w v xs) (hm : ∀ i, i < xs.length → xs.getD i (0, 0) = ((k0 + 2 * i : Int), (k0 + 2 * i + 1 : Int))) :
    Calls Try.prog 17 #[.agg #[.int .i64 c, .int .i64 fb, v], .int .i64 k0] w fun e w' => e = .returned (.int .i64 (k0 + 2 * xs.length)) ∧ Below w.heap.size w w' := by
  have h1' := h1
  obtain ⟨a1, c1, rfl, _⟩ := h1'
  go_enter Try.func17, Try.ntmps17
  go_wp2_with fail
  have hb : Below w.heap.size w (w.alloc (.cells #[.int .i64 c, .int .i64 fb, .slice a1 xs.length c1] 32)) := (by repeat' (first | with_reducible exact Below.refl _ _ | with_reducible assumption | with_reducible refine Below.drew ?_ | with_reducible refine Below.alloc ?_ ?_ _ | with_reducible refine Below.setCell ?_ ?_ _ | (simp; done) | (simp; omega) | omega))
  refine (heldFont_calls fb xs k0 _ _ hn hk hk0 (h1.below hb) hm).mono ?_
  rintro e w1 ⟨rfl, hb1⟩
  have hge : ¬ (k0 + 2 * (xs.length : Int) < 0) := by omega
  go_wp2
  go_ret
  exact ⟨rfl, hb.trans (hb1.mono hb.size)⟩
end Go.Proofs.Ytlkabmgindbbmah
