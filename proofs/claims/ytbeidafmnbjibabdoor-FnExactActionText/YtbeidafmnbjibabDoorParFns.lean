/-
  The laws' functions on parsers and actions and on their results: sz, to, eq, mark, held.
-/
import Derived.Test.YtbeidafmnbjibabDoorRows
import Derived.Test.YtbeidafmnbjibabDoorMem
import Derived.Test.YtbeidafmnbjibabDoorRowFns
import Derived.Test.YtbeidafmnbjibabDoorCopies
import Derived.Test.YtbeidafmnbjibabDoorParMem
namespace Go.Proofs.YtbeidafmnbjibabDoor
open Go.ChangeShapes Go.WideShapes Go.ChangeAt Go.RowKit
set_option linter.unusedVariables false
set_option linter.unusedSimpArgs false

set_option maxHeartbeats 400000 in
theorem szInts_calls (n : Nat) (L : Int) (hL : 0 ≤ L) (hL2 : L ≤ 1048576) (a : Option Addr) (cap : Nat) (w : World) (hn : n ≤ maxLen) :
    Calls Tryd.prog 10 #[.slice a n cap, .int .i64 L] w fun e w' => e = .returned (.int .i64 (if (n : Int) ≤ L then L - n else -1)) ∧ w' = w := by
  unfold maxLen at hn
  by_cases h : (n : Int) ≤ L
  · rw [if_pos h]
    have hge : ¬ ((L - (n : Int)) < 0) := by omega
    go_enter Tryd.func10, Tryd.ntmps10
    go_wp2
    go_ret
    exact ⟨rfl, rfl⟩
  · rw [if_neg h]
    have hge : ((L - (n : Int)) < 0) := by omega
    go_enter Tryd.func10, Tryd.ntmps10
    go_wp2
    go_ret
    exact ⟨rfl, rfl⟩


set_option maxHeartbeats 400000 in
theorem szAction_calls (kd ch st : Int) (pv : Bool) (n : Nat) (a : Option Addr) (c : Nat) (L : Int) (hL : 0 ≤ L) (hL2 : L ≤ 1048576) (w : World) (hn : n ≤ maxLen) :
    Calls Tryd.prog 4 #[.agg #[.int .i64 kd, .int .i64 ch, .int .i64 st, .bool pv, .slice a n c], .int .i64 L] w fun e w' => e = .returned (.int .i64 (if (n : Int) ≤ L then L - n else -1)) ∧ Below w.heap.size w w' := by
  have hn' := hn
  unfold maxLen at hn'
  go_enter Tryd.func4, Tryd.ntmps4
  go_wp2_with fail
  refine (szInts_calls n L hL hL2 a c _ hn).mono ?_
  rintro e w1 ⟨rfl, rfl⟩
  by_cases h : (n : Int) ≤ L
  · rw [if_pos h]
    have hge : ¬ ((L - (n : Int)) < 0) := by omega
    go_wp2
    go_ret
    exact ⟨rfl, (by repeat' (first | with_reducible exact Below.refl _ _ | with_reducible assumption | with_reducible refine Below.drew ?_ | with_reducible refine Below.alloc ?_ ?_ _ | with_reducible refine Below.setCell ?_ ?_ _ | (simp; done) | (simp; omega) | omega))⟩
  · rw [if_neg h]
    go_wp2
    go_ret
    exact ⟨rfl, (by repeat' (first | with_reducible exact Below.refl _ _ | with_reducible assumption | with_reducible refine Below.drew ?_ | with_reducible refine Below.alloc ?_ ?_ _ | with_reducible refine Below.setCell ?_ ?_ _ | (simp; done) | (simp; omega) | omega))⟩
set_option maxHeartbeats 1000000 in
theorem toAction_calls (kd ch st : Int) (pv : Bool) (ns : List Int) (v : Value) (w : World) (hn : ns.length ≤ 1048576) (h1 : ReadAt .i64 w v ns) :
    Calls Tryd.prog 6 #[.agg #[.int .i64 kd, .int .i64 ch, .int .i64 st, .bool pv, v]] w fun e w' => ∃ x, e = .returned (.agg #[.int .i64 kd, .int .i64 ch, .int .i64 st, .bool pv, x]) ∧ IntsAt .i64 w.heap.size w'.heap.size w' x ns ∧ Below w.heap.size w w' := by
  have h1' := h1
  obtain ⟨a1, c1, rfl, _⟩ := h1'
  go_enter Tryd.func6, Tryd.ntmps6
  go_wp2_with fail
  refine (toInts_calls ns _ _ hn (h1.below ?hb)).mono ?_
  case hb => exact (by repeat' (first | with_reducible exact Below.refl _ _ | with_reducible assumption | with_reducible refine Below.drew ?_ | with_reducible refine Below.alloc ?_ ?_ _ | with_reducible refine Below.setCell ?_ ?_ _ | (simp; done) | (simp; omega) | omega))
  rintro e w1 ⟨x, rfl, hx, hb1⟩
  have hW : Below w.heap.size w _ := Below.trans (b := _) ?hq (hb1.mono ?hq2)
  case hq => exact (by repeat' (first | with_reducible exact Below.refl _ _ | with_reducible assumption | with_reducible refine Below.drew ?_ | with_reducible refine Below.alloc ?_ ?_ _ | with_reducible refine Below.setCell ?_ ?_ _ | (simp; done) | (simp; omega) | omega))
  case hq2 => simp [World.setCell]; omega
  have hs1 : w.heap.size + 3 ≤ w1.heap.size := by have := hb1.size; simp [World.setCell] at this; omega
  have k0 : w1.cell? ⟨w.heap.size + 1, 0, none⟩ = some (.int .i64 0) := cellb hb1 (by simp [go_sem])
  have k1 : w1.cell? ⟨w.heap.size + 1, 1, none⟩ = some (.int .i64 0) := cellb hb1 (by simp [go_sem])
  have k2 : w1.cell? ⟨w.heap.size + 1, 2, none⟩ = some (.int .i64 0) := cellb hb1 (by simp [go_sem])
  have k3 : w1.cell? ⟨w.heap.size + 1, 3, none⟩ = some (.bool false) := cellb hb1 (by simp [go_sem])
  have k4 : w1.cell? ⟨w.heap.size + 1, 4, none⟩ = some (.slice none 0 0) := cellb hb1 (by simp [go_sem])
  have j0 : w1.cell? ⟨w.heap.size + 2, 0, none⟩ = some (.int .i64 kd) := cellb hb1 (by simp [go_sem])
  have j1 : w1.cell? ⟨w.heap.size + 2, 1, none⟩ = some (.int .i64 ch) := cellb hb1 (by simp [go_sem])
  have j2 : w1.cell? ⟨w.heap.size + 2, 2, none⟩ = some (.int .i64 st) := cellb hb1 (by simp [go_sem])
  have j3 : w1.cell? ⟨w.heap.size + 2, 3, none⟩ = some (.bool pv) := cellb hb1 (by simp [go_sem])
  have j4 : w1.cell? ⟨w.heap.size + 2, 4, none⟩ = some (.slice none 0 0) := cellb hb1 (by simp [go_sem])
  have fz : ∀ b o, b < w.heap.size + 3 → w.heap.size ≤ b → w1.frozen? ⟨b, o, none⟩ = false := fun b o hb hb' => by
    rw [hb1.frozen (p := ⟨b, o, none⟩) (by simp [World.setCell]; omega)]
    try simp only [World.frozen?_setCell]
    obtain rfl | rfl | rfl : b = w.heap.size ∨ b = w.heap.size + 1 ∨ b = w.heap.size + 2 := by omega
    all_goals simp [go_sem]
  have z0 := fz (w.heap.size + 1) 0 (by omega) (by omega)
  have z1 := fz (w.heap.size + 1) 1 (by omega) (by omega)
  have z2 := fz (w.heap.size + 1) 2 (by omega) (by omega)
  have z3 := fz (w.heap.size + 1) 3 (by omega) (by omega)
  have z4 := fz (w.heap.size + 1) 4 (by omega) (by omega)
  have y4 := fz (w.heap.size + 2) 4 (by omega) (by omega)
  obtain ⟨a3, c3, rfl, hx'⟩ := hx
  have hx : IntsAt .i64 (w.heap.size + 3) w1.heap.size w1 (.slice a3 ns.length c3) ns := IntsAt.mono ⟨a3, c3, rfl, hx'⟩ (by simp [World.setCell]) (Nat.le_refl _)
  have HX := hide hx
  clear hx' hb1 fz hx
  go_wp2
  refine bodyPost_ret (v := .agg #[.int .i64 kd, .int .i64 ch, .int .i64 st, .bool pv, .slice a3 ns.length c3]) (by simp only [results, Tryd.results6]; simp [go_sem, k0, k1, k2, k3, k4, j0, j1, j2, j3, j4]) rfl ⟨_, rfl, ?_, ?_⟩
  · refine (HX.out.of_blocks ?_).mono (by omega) (by simp [World.setCell])
    intro i hi _
    simp only [World.setCell, Array.getElem?_modify]
    repeat rw [if_neg (by omega)]
  · exact (by repeat' (first | with_reducible exact Below.refl _ _ | with_reducible assumption | with_reducible refine Below.drew ?_ | with_reducible refine Below.alloc ?_ ?_ _ | with_reducible refine Below.setCell ?_ ?_ _ | (simp; done) | (simp; omega) | omega))
set_option maxHeartbeats 400000 in
theorem eqAction_calls (kd ch st : Int) (pv : Bool) (ns : List Int) (v1 v2 : Value) (w : World) (hn : ns.length ≤ 1000000000) (h1 : ReadAt .i64 w v1 ns) (h2 : ReadAt .i64 w v2 ns) :
    Calls Tryd.prog 9 #[.agg #[.int .i64 kd, .int .i64 ch, .int .i64 st, .bool pv, v1], .agg #[.int .i64 kd, .int .i64 ch, .int .i64 st, .bool pv, v2]] w fun e w' => e = .returned (.bool true) ∧ Below w.heap.size w w' := by
  have h1' := h1
  obtain ⟨a1, c1, rfl, _⟩ := h1'
  have h2' := h2
  obtain ⟨a2, c2, rfl, _⟩ := h2'
  have hne0 : (kd != kd) = false := by simp
  have hne1 : (ch != ch) = false := by simp
  have hne2 : (st != st) = false := by simp
  have hne3 : (pv != pv) = false := by simp
  go_enter Tryd.func9, Tryd.ntmps9
  go_wp2_with fail
  have hb : Below w.heap.size w ((w.alloc (.cells #[.int .i64 kd, .int .i64 ch, .int .i64 st, .bool pv, .slice a1 ns.length c1] 29)).alloc (.cells #[.int .i64 kd, .int .i64 ch, .int .i64 st, .bool pv, .slice a2 ns.length c2] 29)) := (by repeat' (first | with_reducible exact Below.refl _ _ | with_reducible assumption | with_reducible refine Below.drew ?_ | with_reducible refine Below.alloc ?_ ?_ _ | with_reducible refine Below.setCell ?_ ?_ _ | (simp; done) | (simp; omega) | omega))
  refine (eqInts_below ns _ _ _ hn (h1.below hb) (h2.below hb)).mono ?_
  rintro e w1 ⟨rfl, hb1⟩
  go_wp2
  go_ret
  exact ⟨rfl, hb.trans (hb1.mono hb.size)⟩


end Go.Proofs.YtbeidafmnbjibabDoor
