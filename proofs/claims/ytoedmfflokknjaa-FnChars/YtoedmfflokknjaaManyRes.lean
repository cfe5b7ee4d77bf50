/-
  What DecodeMany answers, of the program and of the model: all cases.
-/
import Derived.Test.YtoedmfflokknjaaRows
import Derived.Test.YtoedmfflokknjaaManySpec
namespace Go.Proofs.Ytoedmfflokknjaa
open Go.ChangeShapes Go.WideShapes Go.ChangeAt Go.RowKit
set_option linter.unusedVariables false
set_option linter.unusedSimpArgs false

set_option maxHeartbeats 2000000 in
theorem implMany_calls (l lo v : Int) (zs : List Int) (y : Value) (w : World) (hz : ∀ z ∈ zs, 0 ≤ z ∧ z ≤ 255) (hn : zs.length ≤ 1048576) (hy : ReadAt .u8 w y zs) :
    Calls Try.prog 7 #[.agg #[.int .i64 l, .int .i64 lo, .int .i64 v], y] w fun e w' => ∃ x, e = .returned (.agg #[.int .i64 (dmCode l lo v zs), x, .int .i64 (dmL l lo v zs), .int .i64 (dmLo l lo v zs), .int .i64 (dmV l lo v zs)]) ∧ IntsAt .i64 w.heap.size w'.heap.size w' x (dmT l lo v zs) ∧ Below w.heap.size w w' := by
  by_cases hc : dmCode l lo v zs = 0
  · have hd : dfault l lo v = 0 := by
      unfold dmCode at hc
      split at hc
      · assumption
      · cases hc
    have hl : zs.length ≤ 2000 := by
      unfold dmCode at hc
      rw [if_pos hd] at hc
      split at hc
      · cases hc
      · omega
    have eT : dmT l lo v zs = rT l lo v zs zs.length := by unfold dmT; rw [if_pos hc]
    have eL : dmL l lo v zs = rL l lo v zs zs.length := by unfold dmL; rw [if_pos hc]
    have eLo : dmLo l lo v zs = rLo l lo v zs zs.length := by unfold dmLo; rw [if_pos hc]
    have eV : dmV l lo v zs = rV l lo v zs zs.length := by unfold dmV; rw [if_pos hc]
    rw [eT, eL, eLo, eV, hc]
    exact implMany_ok l lo v zs y w hd hz hl hy
  · have eT : dmT l lo v zs = [] := by unfold dmT; rw [if_neg hc]
    have eL : dmL l lo v zs = 0 := by unfold dmL; rw [if_neg hc]
    have eLo : dmLo l lo v zs = 0 := by unfold dmLo; rw [if_neg hc]
    have eV : dmV l lo v zs = 0 := by unfold dmV; rw [if_neg hc]
    rw [eT, eL, eLo, eV]
    clear eT eL eLo eV
    obtain ⟨ay, cy, rfl, _⟩ := hy
    rcases dfault_cases l lo v with hf | hf
    · have hlen : (2000 : Int) < (zs.length : Int) := by
        unfold dmCode at hc
        rw [if_pos hf] at hc
        split at hc
        · omega
        · exact absurd rfl hc
      have eC : dmCode l lo v zs = 2 := by unfold dmCode; rw [if_pos hf, if_pos (by omega)]
      rw [eC]
      clear eC hc hz
      go_enter Try.func7, Try.ntmps7
      go_wp2_with fail
      refine (implFault_calls l lo v _).mono ?_
      rintro e w1 ⟨rfl, hb1⟩
      rw [hf]
      have q1 : Below w.heap.size w w1 := ((by repeat' (first | with_reducible exact Below.refl _ _ | with_reducible assumption | with_reducible refine Below.drew ?_ | with_reducible refine Below.alloc ?_ ?_ _ | with_reducible refine Below.setCell ?_ ?_ _ | (simp; done) | (simp; omega) | omega)) : Below w.heap.size w _).trans (hb1.mono (by simp; try omega))
      have f0 : w1.cell? ⟨w.heap.size + 1, 0, none⟩ = some (.int .i64 0) := cellb hb1 (by simp)
      have f1 : w1.cell? ⟨w.heap.size + 1, 1, none⟩ = some (.slice none 0 0) := cellb hb1 (by simp)
      have f2 : w1.cell? ⟨w.heap.size + 1, 2, none⟩ = some (.int .i64 0) := cellb hb1 (by simp)
      have f3 : w1.cell? ⟨w.heap.size + 1, 3, none⟩ = some (.int .i64 0) := cellb hb1 (by simp)
      have f4 : w1.cell? ⟨w.heap.size + 1, 4, none⟩ = some (.int .i64 0) := cellb hb1 (by simp)
      have f5 : ∀ o, w1.frozen? ⟨w.heap.size + 1, o, none⟩ = false := fun o => by rw [hb1.frozen (p := ⟨w.heap.size + 1, o, none⟩) (by simp)]; simp
      clear hb1
      go_wp2
      exact bodyPost_ret (v := .agg #[.int .i64 2, .slice none 0 0, .int .i64 0, .int .i64 0, .int .i64 0]) (by simp [results, Try.results7, go_sem, f0, f1, f2, f3, f4]) rfl ⟨_, rfl, IntsAt.nil _ _ _ _ _ _, (by repeat' (first | with_reducible exact Below.refl _ _ | with_reducible assumption | with_reducible refine Below.drew ?_ | with_reducible refine Below.alloc ?_ ?_ _ | with_reducible refine Below.setCell ?_ ?_ _ | (simp; done) | (simp; omega) | omega))⟩
    · have eC : dmCode l lo v zs = 3 := by unfold dmCode; rw [if_neg (by omega)]
      rw [eC]
      clear eC hc hz
      go_enter Try.func7, Try.ntmps7
      go_wp2_with fail
      refine (implFault_calls l lo v _).mono ?_
      rintro e w1 ⟨rfl, hb1⟩
      rw [hf]
      have q1 : Below w.heap.size w w1 := ((by repeat' (first | with_reducible exact Below.refl _ _ | with_reducible assumption | with_reducible refine Below.drew ?_ | with_reducible refine Below.alloc ?_ ?_ _ | with_reducible refine Below.setCell ?_ ?_ _ | (simp; done) | (simp; omega) | omega)) : Below w.heap.size w _).trans (hb1.mono (by simp; try omega))
      have f0 : w1.cell? ⟨w.heap.size + 1, 0, none⟩ = some (.int .i64 0) := cellb hb1 (by simp)
      have f1 : w1.cell? ⟨w.heap.size + 1, 1, none⟩ = some (.slice none 0 0) := cellb hb1 (by simp)
      have f2 : w1.cell? ⟨w.heap.size + 1, 2, none⟩ = some (.int .i64 0) := cellb hb1 (by simp)
      have f3 : w1.cell? ⟨w.heap.size + 1, 3, none⟩ = some (.int .i64 0) := cellb hb1 (by simp)
      have f4 : w1.cell? ⟨w.heap.size + 1, 4, none⟩ = some (.int .i64 0) := cellb hb1 (by simp)
      have f5 : ∀ o, w1.frozen? ⟨w.heap.size + 1, o, none⟩ = false := fun o => by rw [hb1.frozen (p := ⟨w.heap.size + 1, o, none⟩) (by simp)]; simp
      clear hb1
      go_wp2
      exact bodyPost_ret (v := .agg #[.int .i64 3, .slice none 0 0, .int .i64 0, .int .i64 0, .int .i64 0]) (by simp [results, Try.results7, go_sem, f0, f1, f2, f3, f4]) rfl ⟨_, rfl, IntsAt.nil _ _ _ _ _ _, (by repeat' (first | with_reducible exact Below.refl _ _ | with_reducible assumption | with_reducible refine Below.drew ?_ | with_reducible refine Below.alloc ?_ ?_ _ | with_reducible refine Below.setCell ?_ ?_ _ | (simp; done) | (simp; omega) | omega))⟩

set_option maxHeartbeats 2000000 in
theorem specMany_calls (l lo v : Int) (zs : List Int) (y : Value) (w : World) (hz : ∀ z ∈ zs, 0 ≤ z ∧ z ≤ 255) (hn : zs.length ≤ 1048576) (hy : ReadAt .u8 w y zs) :
    Calls Try.prog 8 #[.agg #[.int .i64 l, .int .i64 lo, .int .i64 v], y] w fun e w' => ∃ x, e = .returned (.agg #[.int .i64 (dmCode l lo v zs), x, .int .i64 (dmL l lo v zs), .int .i64 (dmLo l lo v zs), .int .i64 (dmV l lo v zs)]) ∧ IntsAt .i64 w.heap.size w'.heap.size w' x (dmT l lo v zs) ∧ Below w.heap.size w w' := by
  by_cases hc : dmCode l lo v zs = 0
  · have hd : dfault l lo v = 0 := by
      unfold dmCode at hc
      split at hc
      · assumption
      · cases hc
    have hl : zs.length ≤ 2000 := by
      unfold dmCode at hc
      rw [if_pos hd] at hc
      split at hc
      · cases hc
      · omega
    have eT : dmT l lo v zs = rT l lo v zs zs.length := by unfold dmT; rw [if_pos hc]
    have eL : dmL l lo v zs = rL l lo v zs zs.length := by unfold dmL; rw [if_pos hc]
    have eLo : dmLo l lo v zs = rLo l lo v zs zs.length := by unfold dmLo; rw [if_pos hc]
    have eV : dmV l lo v zs = rV l lo v zs zs.length := by unfold dmV; rw [if_pos hc]
    rw [eT, eL, eLo, eV, hc]
    exact specMany_ok l lo v zs y w hd hz hl hy
  · have eT : dmT l lo v zs = [] := by unfold dmT; rw [if_neg hc]
    have eL : dmL l lo v zs = 0 := by unfold dmL; rw [if_neg hc]
    have eLo : dmLo l lo v zs = 0 := by unfold dmLo; rw [if_neg hc]
    have eV : dmV l lo v zs = 0 := by unfold dmV; rw [if_neg hc]
    rw [eT, eL, eLo, eV]
    clear eT eL eLo eV
    obtain ⟨ay, cy, rfl, _⟩ := hy
    rcases dfault_cases l lo v with hf | hf
    · have hlen : (2000 : Int) < (zs.length : Int) := by
        unfold dmCode at hc
        rw [if_pos hf] at hc
        split at hc
        · omega
        · exact absurd rfl hc
      have eC : dmCode l lo v zs = 2 := by unfold dmCode; rw [if_pos hf, if_pos (by omega)]
      rw [eC]
      clear eC hc hz
      go_enter Try.func8, Try.ntmps8
      go_wp2_with fail
      refine (l1Fault_calls l lo v _ _ _ (by simp) (by simp) (by simp)).mono ?_
      rintro e w' ⟨rfl, hw⟩
      rw [hw, hf]
      clear hw w'
      go_wp2
      exact bodyPost_ret (v := .agg #[.int .i64 2, .slice none 0 0, .int .i64 0, .int .i64 0, .int .i64 0]) (by simp [results, Try.results8, go_sem]) rfl ⟨_, rfl, IntsAt.nil _ _ _ _ _ _, (by repeat' (first | with_reducible exact Below.refl _ _ | with_reducible assumption | with_reducible refine Below.drew ?_ | with_reducible refine Below.alloc ?_ ?_ _ | with_reducible refine Below.setCell ?_ ?_ _ | (simp; done) | (simp; omega) | omega))⟩
    · have eC : dmCode l lo v zs = 3 := by unfold dmCode; rw [if_neg (by omega)]
      rw [eC]
      clear eC hc hz
      go_enter Try.func8, Try.ntmps8
      go_wp2_with fail
      refine (l1Fault_calls l lo v _ _ _ (by simp) (by simp) (by simp)).mono ?_
      rintro e w' ⟨rfl, hw⟩
      rw [hw, hf]
      clear hw w'
      go_wp2
      exact bodyPost_ret (v := .agg #[.int .i64 3, .slice none 0 0, .int .i64 0, .int .i64 0, .int .i64 0]) (by simp [results, Try.results8, go_sem]) rfl ⟨_, rfl, IntsAt.nil _ _ _ _ _ _, (by repeat' (first | with_reducible exact Below.refl _ _ | with_reducible assumption | with_reducible refine Below.drew ?_ | with_reducible refine Below.alloc ?_ ?_ _ | with_reducible refine Below.setCell ?_ ?_ _ | (simp; done) | (simp; omega) | omega))⟩

end Go.Proofs.Ytoedmfflokknjaa
