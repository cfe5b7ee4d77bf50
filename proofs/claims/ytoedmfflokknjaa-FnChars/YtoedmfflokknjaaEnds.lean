/-
  The result 'IntsResult' (a code and a list): compared, marked, held; what EndDecoder answers, of the program and of the model.
-/
import Derived.Test.YtoedmfflokknjaaRows
import Derived.Test.YtoedmfflokknjaaFaults
import Derived.Test.YtoedmfflokknjaaMem
namespace Go.Proofs.Ytoedmfflokknjaa
open Go.ChangeShapes Go.WideShapes Go.ChangeAt Go.RowKit
set_option linter.unusedVariables false
set_option linter.unusedSimpArgs false


/-- What EndDecoder lists. -/
def endList (l lo v : Int) : List Int := if dfault l lo v = 0 ∧ 0 < l then [65533] else []

theorem ints_one {w : World} {lo g hi : Nat} {n : Int} {t : TypeId} (hg : g = w.heap.size) (h : lo ≤ g) (hh : g < hi) : IntsAt .i64 lo hi (w.alloc (.cells #[.int .i64 n] t)) (.slice (some ⟨g, 0, none⟩) 1 1) [n] := by
  subst hg
  refine ⟨_, _, rfl, .inr ⟨w.heap.size, 0, rfl, h, hh, fun i hi => ?_⟩⟩
  obtain rfl : i = 0 := by simp at hi; omega
  exact ⟨by simp, by simp⟩

set_option maxHeartbeats 400000 in
theorem specEnd_calls (l lo v : Int) (w : World) :
    Calls Try.prog 23 #[.agg #[.int .i64 l, .int .i64 lo, .int .i64 v]] w fun e w' => ∃ x, e = .returned (.agg #[.int .i64 (dfault l lo v), x]) ∧ IntsAt .i64 w.heap.size w'.heap.size w' x (endList l lo v) ∧ Below w.heap.size w w' := by
  rcases dfault_cases l lo v with hf | hf
  · have hlo := dfault_pos l lo v hf
    obtain ⟨hl0, _⟩ := hlo
    by_cases hp : 0 < l
    · have hz : (l == 0) = false := by simp; omega
      have hE : endList l lo v = [65533] := by unfold endList; rw [if_pos ⟨hf, hp⟩]
      rw [hf, hE]
      clear hE
      go_enter Try.func23, Try.ntmps23
      go_wp2_with fail
      refine (l1Fault_calls l lo v _ _ _ (by simp) (by simp) (by simp)).mono ?_
      rintro e w1 ⟨rfl, rfl⟩
      rw [hf]
      go_wp2
      refine bodyPost_ret (v := .agg #[.int .i64 0, .slice (some ⟨w.heap.size + 2, 0, none⟩) 1 1]) (by simp [results, Try.results23, go_sem]) rfl ⟨_, rfl, ?_, (by repeat' (first | with_reducible exact Below.refl _ _ | with_reducible assumption | with_reducible refine Below.drew ?_ | with_reducible refine Below.alloc ?_ ?_ _ | with_reducible refine Below.setCell ?_ ?_ _ | (simp; done) | (simp; omega) | omega))⟩
      exact ints_one (by simp) (by simp; try omega) (by simp)
    · have hz : (l == 0) = true := by simp; omega
      have hE : endList l lo v = [] := by unfold endList; rw [if_neg (by omega)]
      rw [hf, hE]
      clear hE
      go_enter Try.func23, Try.ntmps23
      go_wp2_with fail
      refine (l1Fault_calls l lo v _ _ _ (by simp) (by simp) (by simp)).mono ?_
      rintro e w1 ⟨rfl, rfl⟩
      rw [hf]
      go_wp2
      refine bodyPost_ret (v := .agg #[.int .i64 0, .slice none 0 0]) (by simp [results, Try.results23, go_sem]) rfl ⟨_, rfl, ?_, (by repeat' (first | with_reducible exact Below.refl _ _ | with_reducible assumption | with_reducible refine Below.drew ?_ | with_reducible refine Below.alloc ?_ ?_ _ | with_reducible refine Below.setCell ?_ ?_ _ | (simp; done) | (simp; omega) | omega))⟩
      exact IntsAt.nil _ _ _ _ _ _
  · have hE : endList l lo v = [] := by unfold endList; rw [if_neg (by omega)]
    rw [hf, hE]
    clear hE
    go_enter Try.func23, Try.ntmps23
    go_wp2_with fail
    refine (l1Fault_calls l lo v _ _ _ (by simp) (by simp) (by simp)).mono ?_
    rintro e w1 ⟨rfl, rfl⟩
    rw [hf]
    go_wp2
    refine bodyPost_ret (v := .agg #[.int .i64 3, .slice none 0 0]) (by simp [results, Try.results23, go_sem]) rfl ⟨_, rfl, ?_, (by repeat' (first | with_reducible exact Below.refl _ _ | with_reducible assumption | with_reducible refine Below.drew ?_ | with_reducible refine Below.alloc ?_ ?_ _ | with_reducible refine Below.setCell ?_ ?_ _ | (simp; done) | (simp; omega) | omega))⟩
    exact IntsAt.nil _ _ _ _ _ _

set_option maxHeartbeats 400000 in
theorem implEnd_calls (l lo v : Int) (w : World) :
    Calls Try.prog 21 #[.agg #[.int .i64 l, .int .i64 lo, .int .i64 v]] w fun e w' => ∃ x, e = .returned (.agg #[.int .i64 (dfault l lo v), x]) ∧ IntsAt .i64 w.heap.size w'.heap.size w' x (endList l lo v) ∧ Below w.heap.size w w' := by
  rcases dfault_cases l lo v with hf | hf
  · have hlo := dfault_pos l lo v hf
    obtain ⟨hl0, _⟩ := hlo
    by_cases hp : 0 < l
    · have hz : (l == 0) = false := by simp; omega
      have hE : endList l lo v = [65533] := by unfold endList; rw [if_pos ⟨hf, hp⟩]
      rw [hf, hE]
      clear hE
      go_enter Try.func21, Try.ntmps21
      go_wp2_with fail
      refine (implFault_calls l lo v _).mono ?_
      rintro e w1 ⟨rfl, hb⟩
      rw [hf]
      obtain ⟨hc, hfz⟩ := bcell hb
      have hs : w.heap.size + 1 < w1.heap.size := by have := hb.size; simp at this; omega
      have hs0 : w.heap.size < w1.heap.size := by omega
      have hbw : Below w.heap.size w w1 := ((by repeat' (first | with_reducible exact Below.refl _ _ | with_reducible assumption | with_reducible refine Below.drew ?_ | with_reducible refine Below.alloc ?_ ?_ _ | with_reducible refine Below.setCell ?_ ?_ _ | (simp; done) | (simp; omega) | omega)) : Below w.heap.size w _).trans (hb.mono (by simp; omega))
      go_wp2
      refine bodyPost_ret (v := .agg #[.int .i64 0, .slice (some ⟨w1.heap.size, 0, none⟩) 1 1]) (by simp [results, Try.results21, go_sem, hc, hs, hs0]) rfl ⟨_, rfl, ?_, (by repeat' (first | with_reducible exact Below.refl _ _ | with_reducible assumption | with_reducible refine Below.drew ?_ | with_reducible refine Below.alloc ?_ ?_ _ | with_reducible refine Below.setCell ?_ ?_ _ | (simp; done) | (simp; omega) | omega))⟩
      exact ints_one (by simp) (by omega) (by simp)
    · have hz : (l == 0) = true := by simp; omega
      have hE : endList l lo v = [] := by unfold endList; rw [if_neg (by omega)]
      rw [hf, hE]
      clear hE
      go_enter Try.func21, Try.ntmps21
      go_wp2_with fail
      refine (implFault_calls l lo v _).mono ?_
      rintro e w1 ⟨rfl, hb⟩
      rw [hf]
      obtain ⟨hc, hfz⟩ := bcell hb
      have hs : w.heap.size + 1 < w1.heap.size := by have := hb.size; simp at this; omega
      have hs0 : w.heap.size < w1.heap.size := by omega
      have hbw : Below w.heap.size w w1 := ((by repeat' (first | with_reducible exact Below.refl _ _ | with_reducible assumption | with_reducible refine Below.drew ?_ | with_reducible refine Below.alloc ?_ ?_ _ | with_reducible refine Below.setCell ?_ ?_ _ | (simp; done) | (simp; omega) | omega)) : Below w.heap.size w _).trans (hb.mono (by simp; omega))
      go_wp2
      refine bodyPost_ret (v := .agg #[.int .i64 0, .slice none 0 0]) (by simp [results, Try.results21, go_sem, hc, hs, hs0]) rfl ⟨_, rfl, ?_, (by repeat' (first | with_reducible exact Below.refl _ _ | with_reducible assumption | with_reducible refine Below.drew ?_ | with_reducible refine Below.alloc ?_ ?_ _ | with_reducible refine Below.setCell ?_ ?_ _ | (simp; done) | (simp; omega) | omega))⟩
      exact IntsAt.nil _ _ _ _ _ _
  · have hE : endList l lo v = [] := by unfold endList; rw [if_neg (by omega)]
    rw [hf, hE]
    clear hE
    go_enter Try.func21, Try.ntmps21
    go_wp2_with fail
    refine (implFault_calls l lo v _).mono ?_
    rintro e w1 ⟨rfl, hb⟩
    rw [hf]
    obtain ⟨hc, hfz⟩ := bcell hb
    have hs : w.heap.size + 1 < w1.heap.size := by have := hb.size; simp at this; omega
    have hs0 : w.heap.size < w1.heap.size := by omega
    have hbw : Below w.heap.size w w1 := ((by repeat' (first | with_reducible exact Below.refl _ _ | with_reducible assumption | with_reducible refine Below.drew ?_ | with_reducible refine Below.alloc ?_ ?_ _ | with_reducible refine Below.setCell ?_ ?_ _ | (simp; done) | (simp; omega) | omega)) : Below w.heap.size w _).trans (hb.mono (by simp; omega))
    go_wp2
    refine bodyPost_ret (v := .agg #[.int .i64 3, .slice none 0 0]) (by simp [results, Try.results21, go_sem, hc, hs, hs0]) rfl ⟨_, rfl, ?_, (by repeat' (first | with_reducible exact Below.refl _ _ | with_reducible assumption | with_reducible refine Below.drew ?_ | with_reducible refine Below.alloc ?_ ?_ _ | with_reducible refine Below.setCell ?_ ?_ _ | (simp; done) | (simp; omega) | omega))⟩
    exact IntsAt.nil _ _ _ _ _ _

end Go.Proofs.Ytoedmfflokknjaa
