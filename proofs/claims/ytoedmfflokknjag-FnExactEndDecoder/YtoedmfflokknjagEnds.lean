/-
  The result 'IntsResult' (a code and a list): compared, marked, held; what EndDecoder answers, of the program and of the model.
-/
import Derived.Test.YtoedmfflokknjagRows
import Derived.Test.YtoedmfflokknjagFaults
import Derived.Test.YtoedmfflokknjagRowFns
namespace Go.Proofs.Ytoedmfflokknjag
open Go.ChangeShapes Go.WideShapes Go.ChangeAt Go.RowKit
set_option linter.unusedVariables false
set_option linter.unusedSimpArgs false

set_option maxHeartbeats 400000 in
theorem eqIntsResult_calls (c : Int) (xs : List Int) (v1 v2 : Value) (w : World) (hn : xs.length ≤ 1000000000) (h1 : ReadAt .i64 w v1 xs) (h2 : ReadAt .i64 w v2 xs) :
    Calls Try.prog 31 #[.agg #[.int .i64 c, v1], .agg #[.int .i64 c, v2]] w fun e w' => e = .returned (.bool true) ∧ Below w.heap.size w w' := by
  obtain ⟨a1, c1, rfl, h1⟩ := h1
  obtain ⟨a2, c2, rfl, h2⟩ := h2
  have hne : (c != c) = false := by simp
  go_enter Try.func31, Try.ntmps31
  go_wp2_with fail
  have hb : Below w.heap.size w ((w.alloc (.cells #[.int .i64 c, .slice a1 xs.length c1] 51)).alloc (.cells #[.int .i64 c, .slice a2 xs.length c2] 51)) := (by repeat (first | exact Below.refl _ _ | assumption | refine Below.drew ?_ | refine Below.alloc ?_ (by first | (simp; done) | (simp; omega) | omega) _ | refine Below.setCell ?_ (by first | (simp; done) | (simp; omega) | omega) _))
  refine (eqInts_calls xs _ _ _ hn (ReadAt.below ⟨a1, c1, rfl, h1⟩ hb) (ReadAt.below ⟨a2, c2, rfl, h2⟩ hb)).mono ?_
  rintro e w1 ⟨rfl, n, rfl⟩
  go_wp2
  go_ret
  exact ⟨rfl, below_drewN hb n⟩

set_option maxHeartbeats 400000 in
theorem markIntsResult_calls (c : Int) (xs : List Int) (k0 : Int) (lo hi : Nat) (v : Value) (w : World) (hn : xs.length ≤ 1000000000) (hk : 0 ≤ k0) (hk0 : k0 ≤ 1000000000) (hh : hi ≤ w.heap.size) (h1 : IntsAt .i64 lo hi w v xs) :
    Calls Try.prog 32 #[.agg #[.int .i64 c, v], .int .i64 k0] w fun e w' => e = .returned (.int .i64 (k0 + xs.length)) ∧ IntsAt .i64 lo hi w' v (marks k0 xs.length) ∧ Within lo hi w w' := by
  have h1' := h1
  obtain ⟨a1, c1, rfl, _⟩ := h1'
  go_enter Try.func32, Try.ntmps32
  go_wp2_with fail
  refine (markInts_calls xs k0 lo hi _ _ hn hk hk0 (h1.alloc hh _)).mono ?_
  rintro e w1 ⟨rfl, hm, hw⟩
  go_wp2
  go_ret
  exact ⟨rfl, hm, (Within.of_below ((Below.refl _ _).alloc (Nat.le_refl _) _) (Nat.le_refl _)).trans hw⟩

set_option maxHeartbeats 400000 in
theorem heldIntsResult_calls (c : Int) (xs : List Int) (k0 : Int) (v : Value) (w : World) (hn : xs.length ≤ 1000000000) (hk : 0 ≤ k0) (hk0 : k0 ≤ 1000000000) (h1 : ReadAt .i64 w v xs) (hm : ∀ i, i < xs.length → xs.getD i 0 = (k0 + i : Int)) :
    Calls Try.prog 33 #[.agg #[.int .i64 c, v], .int .i64 k0] w fun e w' => e = .returned (.int .i64 (k0 + xs.length)) ∧ Below w.heap.size w w' := by
  have h1' := h1
  obtain ⟨a1, c1, rfl, _⟩ := h1'
  have hb : Below w.heap.size w (w.alloc (.cells #[.int .i64 c, .slice a1 xs.length c1] 51)) := (by repeat (first | exact Below.refl _ _ | assumption | refine Below.drew ?_ | refine Below.alloc ?_ (by first | (simp; done) | (simp; omega) | omega) _ | refine Below.setCell ?_ (by first | (simp; done) | (simp; omega) | omega) _))
  have HM : Hid (∀ i, i < xs.length → xs.getD i 0 = (k0 + i : Int)) := hm
  clear hm
  go_enter Try.func33, Try.ntmps33
  go_wp2_with fail
  refine (heldInts_calls xs k0 _ _ hn hk hk0 (h1.below hb) HM.out).mono ?_
  rintro e w1 ⟨rfl, rfl⟩
  go_wp2
  go_ret
  exact ⟨rfl, hb⟩

/-- What EndDecoder lists. -/
def endList (l lo v : Int) : List Int := if dfault l lo v = 0 ∧ 0 < l then [65533] else []

theorem dfault_cases (l lo v : Int) : dfault l lo v = 0 ∨ dfault l lo v = 3 := by unfold dfault; split <;> simp
theorem dfault_pos (l lo v : Int) (h : dfault l lo v = 0) : 0 ≤ l ∧ l ≤ 2 ∧ 0 ≤ lo ∧ lo ≤ 2048 ∧ 0 ≤ v ∧ v ≤ 1023 := by
  unfold dfault at h; split at h
  · omega
  · cases h

theorem ints_one {w : World} {lo g hi : Nat} {n : Int} {t : TypeId} (hg : g = w.heap.size) (h : lo ≤ g) (hh : g < hi) : IntsAt .i64 lo hi (w.alloc (.cells #[.int .i64 n] t)) (.slice (some ⟨g, 0, none⟩) 1 1) [n] := by
  subst hg
  refine ⟨_, _, rfl, .inr ⟨w.heap.size, 0, rfl, h, hh, fun i hi => ?_⟩⟩
  obtain rfl : i = 0 := by simp at hi; omega
  exact ⟨by simp, by simp⟩

set_option maxHeartbeats 400000 in
theorem specEnd_calls (l lo v : Int) (w : World) :
    Calls Try.prog 29 #[.agg #[.int .i64 l, .int .i64 lo, .int .i64 v]] w fun e w' => ∃ x, e = .returned (.agg #[.int .i64 (dfault l lo v), x]) ∧ IntsAt .i64 w.heap.size w'.heap.size w' x (endList l lo v) ∧ Below w.heap.size w w' := by
  rcases dfault_cases l lo v with hf | hf
  · have hlo := dfault_pos l lo v hf
    obtain ⟨hl0, _⟩ := hlo
    by_cases hp : 0 < l
    · have hz : (l == 0) = false := by simp; omega
      have hE : endList l lo v = [65533] := by unfold endList; rw [if_pos ⟨hf, hp⟩]
      rw [hf, hE]
      clear hE
      go_enter Try.func29, Try.ntmps29
      go_wp2_with fail
      refine (l1Fault_calls l lo v _ _ _ (by simp) (by simp) (by simp)).mono ?_
      rintro e w1 ⟨rfl, rfl⟩
      rw [hf]
      go_wp2
      refine bodyPost_ret (v := .agg #[.int .i64 0, .slice (some ⟨w.heap.size + 2, 0, none⟩) 1 1]) (by simp [results, Try.results29, go_sem]) rfl ⟨_, rfl, ?_, (by repeat (first | exact Below.refl _ _ | assumption | refine Below.drew ?_ | refine Below.alloc ?_ (by first | (simp; done) | (simp; omega) | omega) _ | refine Below.setCell ?_ (by first | (simp; done) | (simp; omega) | omega) _))⟩
      exact ints_one (by simp) (by simp; try omega) (by simp)
    · have hz : (l == 0) = true := by simp; omega
      have hE : endList l lo v = [] := by unfold endList; rw [if_neg (by omega)]
      rw [hf, hE]
      clear hE
      go_enter Try.func29, Try.ntmps29
      go_wp2_with fail
      refine (l1Fault_calls l lo v _ _ _ (by simp) (by simp) (by simp)).mono ?_
      rintro e w1 ⟨rfl, rfl⟩
      rw [hf]
      go_wp2
      refine bodyPost_ret (v := .agg #[.int .i64 0, .slice none 0 0]) (by simp [results, Try.results29, go_sem]) rfl ⟨_, rfl, ?_, (by repeat (first | exact Below.refl _ _ | assumption | refine Below.drew ?_ | refine Below.alloc ?_ (by first | (simp; done) | (simp; omega) | omega) _ | refine Below.setCell ?_ (by first | (simp; done) | (simp; omega) | omega) _))⟩
      exact IntsAt.nil _ _ _ _ _ _
  · have hE : endList l lo v = [] := by unfold endList; rw [if_neg (by omega)]
    rw [hf, hE]
    clear hE
    go_enter Try.func29, Try.ntmps29
    go_wp2_with fail
    refine (l1Fault_calls l lo v _ _ _ (by simp) (by simp) (by simp)).mono ?_
    rintro e w1 ⟨rfl, rfl⟩
    rw [hf]
    go_wp2
    refine bodyPost_ret (v := .agg #[.int .i64 3, .slice none 0 0]) (by simp [results, Try.results29, go_sem]) rfl ⟨_, rfl, ?_, (by repeat (first | exact Below.refl _ _ | assumption | refine Below.drew ?_ | refine Below.alloc ?_ (by first | (simp; done) | (simp; omega) | omega) _ | refine Below.setCell ?_ (by first | (simp; done) | (simp; omega) | omega) _))⟩
    exact IntsAt.nil _ _ _ _ _ _

set_option maxHeartbeats 400000 in
theorem implEnd_calls (l lo v : Int) (w : World) :
    Calls Try.prog 30 #[.agg #[.int .i64 l, .int .i64 lo, .int .i64 v]] w fun e w' => ∃ x, e = .returned (.agg #[.int .i64 (dfault l lo v), x]) ∧ IntsAt .i64 w.heap.size w'.heap.size w' x (endList l lo v) ∧ Below w.heap.size w w' := by
  rcases dfault_cases l lo v with hf | hf
  · have hlo := dfault_pos l lo v hf
    obtain ⟨hl0, _⟩ := hlo
    by_cases hp : 0 < l
    · have hz : (l == 0) = false := by simp; omega
      have hE : endList l lo v = [65533] := by unfold endList; rw [if_pos ⟨hf, hp⟩]
      rw [hf, hE]
      clear hE
      go_enter Try.func30, Try.ntmps30
      go_wp2_with fail
      refine (implFault_calls l lo v _).mono ?_
      rintro e w1 ⟨rfl, hb⟩
      rw [hf]
      obtain ⟨hc, hfz⟩ := bcell hb
      have hs : w.heap.size + 1 < w1.heap.size := by have := hb.size; simp at this; omega
      have hs0 : w.heap.size < w1.heap.size := by omega
      have hbw : Below w.heap.size w w1 := ((by repeat (first | exact Below.refl _ _ | assumption | refine Below.drew ?_ | refine Below.alloc ?_ (by first | (simp; done) | (simp; omega) | omega) _ | refine Below.setCell ?_ (by first | (simp; done) | (simp; omega) | omega) _)) : Below w.heap.size w _).trans (hb.mono (by simp; omega))
      go_wp2
      refine bodyPost_ret (v := .agg #[.int .i64 0, .slice (some ⟨w1.heap.size, 0, none⟩) 1 1]) (by simp [results, Try.results30, go_sem, hc, hs, hs0]) rfl ⟨_, rfl, ?_, (by repeat (first | exact Below.refl _ _ | assumption | refine Below.drew ?_ | refine Below.alloc ?_ (by first | (simp; done) | (simp; omega) | omega) _ | refine Below.setCell ?_ (by first | (simp; done) | (simp; omega) | omega) _))⟩
      exact ints_one (by simp) (by omega) (by simp)
    · have hz : (l == 0) = true := by simp; omega
      have hE : endList l lo v = [] := by unfold endList; rw [if_neg (by omega)]
      rw [hf, hE]
      clear hE
      go_enter Try.func30, Try.ntmps30
      go_wp2_with fail
      refine (implFault_calls l lo v _).mono ?_
      rintro e w1 ⟨rfl, hb⟩
      rw [hf]
      obtain ⟨hc, hfz⟩ := bcell hb
      have hs : w.heap.size + 1 < w1.heap.size := by have := hb.size; simp at this; omega
      have hs0 : w.heap.size < w1.heap.size := by omega
      have hbw : Below w.heap.size w w1 := ((by repeat (first | exact Below.refl _ _ | assumption | refine Below.drew ?_ | refine Below.alloc ?_ (by first | (simp; done) | (simp; omega) | omega) _ | refine Below.setCell ?_ (by first | (simp; done) | (simp; omega) | omega) _)) : Below w.heap.size w _).trans (hb.mono (by simp; omega))
      go_wp2
      refine bodyPost_ret (v := .agg #[.int .i64 0, .slice none 0 0]) (by simp [results, Try.results30, go_sem, hc, hs, hs0]) rfl ⟨_, rfl, ?_, (by repeat (first | exact Below.refl _ _ | assumption | refine Below.drew ?_ | refine Below.alloc ?_ (by first | (simp; done) | (simp; omega) | omega) _ | refine Below.setCell ?_ (by first | (simp; done) | (simp; omega) | omega) _))⟩
      exact IntsAt.nil _ _ _ _ _ _
  · have hE : endList l lo v = [] := by unfold endList; rw [if_neg (by omega)]
    rw [hf, hE]
    clear hE
    go_enter Try.func30, Try.ntmps30
    go_wp2_with fail
    refine (implFault_calls l lo v _).mono ?_
    rintro e w1 ⟨rfl, hb⟩
    rw [hf]
    obtain ⟨hc, hfz⟩ := bcell hb
    have hs : w.heap.size + 1 < w1.heap.size := by have := hb.size; simp at this; omega
    have hs0 : w.heap.size < w1.heap.size := by omega
    have hbw : Below w.heap.size w w1 := ((by repeat (first | exact Below.refl _ _ | assumption | refine Below.drew ?_ | refine Below.alloc ?_ (by first | (simp; done) | (simp; omega) | omega) _ | refine Below.setCell ?_ (by first | (simp; done) | (simp; omega) | omega) _)) : Below w.heap.size w _).trans (hb.mono (by simp; omega))
    go_wp2
    refine bodyPost_ret (v := .agg #[.int .i64 3, .slice none 0 0]) (by simp [results, Try.results30, go_sem, hc, hs, hs0]) rfl ⟨_, rfl, ?_, (by repeat (first | exact Below.refl _ _ | assumption | refine Below.drew ?_ | refine Below.alloc ?_ (by first | (simp; done) | (simp; omega) | omega) _ | refine Below.setCell ?_ (by first | (simp; done) | (simp; omega) | omega) _))⟩
    exact IntsAt.nil _ _ _ _ _ _

end Go.Proofs.Ytoedmfflokknjag
