/-
  What a byte does to a decoder: the program's stateOf, decoder, whole, hearFirst, hear, walked.
-/
import Derived.Test.YtoedmfflokknjaaRows
import Derived.Test.YtoedmfflokknjaaStepSpec
import Derived.Test.YtoedmfflokknjaaGrow
namespace Go.Proofs.Ytoedmfflokknjaa
open Go.ChangeShapes Go.WideShapes Go.ChangeAt Go.RowKit
set_option linter.unusedVariables false
set_option linter.unusedSimpArgs false

def intVs (xs : List Int) : List Value := xs.map (Value.int .i64)
theorem intVs_append (a b : List Int) : intVs (a ++ b) = intVs a ++ intVs b := by simp [intVs]

set_option maxHeartbeats 400000 in
theorem stateOf_calls (l lo v : Int) (w : World) (h0 : 0 ≤ l) (h1 : l ≤ 100000) (h2 : 0 ≤ lo) (h3 : lo ≤ 100000) (h4 : 0 ≤ v) (h5 : v ≤ 100000) :
    Calls Try.prog 29 #[.agg #[.int .i64 l, .int .i64 lo, .int .i64 v]] w fun e w' => e = .returned (.agg #[.int .u32 l, .int .u32 lo, .int .u32 v]) ∧ Below w.heap.size w w' := by
  go_enter Try.func29, Try.ntmps29
  go_wp2
  exact bodyPost_ret (v := .agg #[.int .u32 l, .int .u32 lo, .int .u32 v]) (by simp [results, Try.results29, go_sem]) rfl ⟨rfl, (by repeat' (first | with_reducible exact Below.refl _ _ | with_reducible assumption | with_reducible refine Below.drew ?_ | with_reducible refine Below.alloc ?_ ?_ _ | with_reducible refine Below.setCell ?_ ?_ _ | (simp; done) | (simp; omega) | omega))⟩

set_option maxHeartbeats 400000 in
theorem decoder_calls (l lo v : Int) (w : World) (h0 : 0 ≤ l) (h1 : l ≤ 100000) (h2 : 0 ≤ lo) (h3 : lo ≤ 100000) (h4 : 0 ≤ v) (h5 : v ≤ 100000) :
    Calls Try.prog 31 #[.agg #[.int .u32 l, .int .u32 lo, .int .u32 v]] w fun e w' => e = .returned (.agg #[.int .i64 l, .int .i64 lo, .int .i64 v]) ∧ Below w.heap.size w w' := by
  go_enter Try.func31, Try.ntmps31
  go_wp2
  exact bodyPost_ret (v := .agg #[.int .i64 l, .int .i64 lo, .int .i64 v]) (by simp [results, Try.results31, go_sem]) rfl ⟨rfl, (by repeat' (first | with_reducible exact Below.refl _ _ | with_reducible assumption | with_reducible refine Below.drew ?_ | with_reducible refine Below.alloc ?_ ?_ _ | with_reducible refine Below.setCell ?_ ?_ _ | (simp; done) | (simp; omega) | omega))⟩

/-- What a state with nothing left tells. -/
def wholeC (lo v : Int) : Int := if chB v = true ∧ lo ≤ v then v else 65533

set_option maxHeartbeats 400000 in
theorem whole_calls (l lo v : Int) (w : World) (h0 : 0 ≤ l) (h1 : l ≤ 100000) (h2 : 0 ≤ lo) (h3 : lo ≤ 100000) (h4 : 0 ≤ v) (h5 : v ≤ 100000) :
    Calls Try.prog 42 #[.agg #[.int .u32 l, .int .u32 lo, .int .u32 v]] w fun e w' => e = .returned (.int .i64 (wholeC lo v)) ∧ Below w.heap.size w w' := by
  cases hz : chB v with
  | true =>
    by_cases hlow : lo ≤ v
    · have e1 : wholeC lo v = v := by unfold wholeC; rw [if_pos ⟨hz, hlow⟩]
      rw [e1]
      clear e1
      go_enter Try.func42, Try.ntmps42
      go_wp2_with (go_at_call 36; refine (isChar_calls v _).mono ?_; rintro e w' ⟨rfl, hw⟩; rw [hw, hz]; clear hw w')
      go_ret
      exact ⟨rfl, (by repeat' (first | with_reducible exact Below.refl _ _ | with_reducible assumption | with_reducible refine Below.drew ?_ | with_reducible refine Below.alloc ?_ ?_ _ | with_reducible refine Below.setCell ?_ ?_ _ | (simp; done) | (simp; omega) | omega))⟩
    · have e1 : wholeC lo v = 65533 := by unfold wholeC; rw [if_neg (fun h => hlow h.2)]
      rw [e1]
      clear e1
      go_enter Try.func42, Try.ntmps42
      go_wp2_with (go_at_call 36; refine (isChar_calls v _).mono ?_; rintro e w' ⟨rfl, hw⟩; rw [hw, hz]; clear hw w')
      go_ret
      exact ⟨rfl, (by repeat' (first | with_reducible exact Below.refl _ _ | with_reducible assumption | with_reducible refine Below.drew ?_ | with_reducible refine Below.alloc ?_ ?_ _ | with_reducible refine Below.setCell ?_ ?_ _ | (simp; done) | (simp; omega) | omega))⟩
  | false =>
    have e1 : wholeC lo v = 65533 := by unfold wholeC; rw [if_neg (fun h => by rw [hz] at h; exact absurd h.1 (by simp))]
    rw [e1]
    clear e1
    by_cases hlow : lo ≤ v
    · go_enter Try.func42, Try.ntmps42
      go_wp2_with (go_at_call 36; refine (isChar_calls v _).mono ?_; rintro e w' ⟨rfl, hw⟩; rw [hw, hz]; clear hw w')
      go_ret
      exact ⟨rfl, (by repeat' (first | with_reducible exact Below.refl _ _ | with_reducible assumption | with_reducible refine Below.drew ?_ | with_reducible refine Below.alloc ?_ ?_ _ | with_reducible refine Below.setCell ?_ ?_ _ | (simp; done) | (simp; omega) | omega))⟩
    · go_enter Try.func42, Try.ntmps42
      go_wp2_with (go_at_call 36; refine (isChar_calls v _).mono ?_; rintro e w' ⟨rfl, hw⟩; rw [hw, hz]; clear hw w')
      go_ret
      exact ⟨rfl, (by repeat' (first | with_reducible exact Below.refl _ _ | with_reducible assumption | with_reducible refine Below.drew ?_ | with_reducible refine Below.alloc ?_ ?_ _ | with_reducible refine Below.setCell ?_ ?_ _ | (simp; done) | (simp; omega) | omega))⟩

set_option maxHeartbeats 1000000 in
theorem hearFirst_low (b : Int) (base n : Nat) (v : Value) (xs : List Value) (w : World) (h0 : 0 ≤ b) (h1 : b ≤ 255) (hn : n ≤ 1000000) (hbase : base ≤ w.heap.size) (hown : w.ownsRow base 2 1 v n xs) (hc : b < 128) :
    Calls Try.prog 41 #[.int .u8 b, v] w fun e w' => ∃ v', e = .returned (.tuple #[.agg #[.int .u32 (freshL b), .int .u32 (freshLo b), .int .u32 (freshV b)], v']) ∧ w'.ownsRow base 2 1 v' (n + (freshT b).length) (xs ++ intVs (freshT b)) ∧ GrowTo w w' v v' := by
  obtain ⟨i0, hi, hz0, hz1, hz2⟩ := info_parts info_i64
  have eT : freshT b = [b] := by unfold freshT; repeat (first | rw [if_pos (by omega)] | rw [if_neg (by omega)])
  have eL : freshL b = 0 := by unfold freshL; repeat (first | rw [if_pos (by omega)] | rw [if_neg (by omega)])
  have eLo : freshLo b = 0 := by unfold freshLo; repeat (first | rw [if_pos (by omega)] | rw [if_neg (by omega)])
  have eV : freshV b = 0 := by unfold freshV; repeat (first | rw [if_pos (by omega)] | rw [if_neg (by omega)])
  rw [eT, eL, eLo, eV]
  clear eT eL eLo eV
  go_enter Try.func41, Try.ntmps41
  go_wp2_with (at_builtin; refine wpList_append_grow _ rfl (.tmp 10) (.tmp 13) 28 rfl base 2 i0 (.int .i64 0) 1 8 Try.underlying28 hi hz0 hz1 hz2 rfl (by decide) v n xs rfl ((hown.alloc _).alloc _) ⟨w.heap.size + 1, 0, none⟩ 1 1 (intVs [b]) rfl rfl (new_row_at (by simp) rfl) (ints_one_cell _ _) (by unfold maxLen; omega) (by omega) (by simp; omega) ?_)
  intro v' w1 hown' hgrow
  have hg2 : GrowTo w w1 v v' := ((GrowTo.alloc w v _).trans (GrowTo.alloc _ v _)).trans hgrow
  have hne : some w.heap.size ≠ v.ownBlock := fun h => by have := (hown.lt _ h.symm).2; omega
  have c0 : w1.cell? ⟨w.heap.size, 0, none⟩ = some (.int .u32 0) := by rw [hgrow.cell (by simp; omega) hne]; simp
  have c1 : w1.cell? ⟨w.heap.size, 1, none⟩ = some (.int .u32 0) := by rw [hgrow.cell (by simp; omega) hne]; simp
  have c2 : w1.cell? ⟨w.heap.size, 2, none⟩ = some (.int .u32 0) := by rw [hgrow.cell (by simp; omega) hne]; simp
  have c3 : ∀ o, w1.frozen? ⟨w.heap.size, o, none⟩ = false := fun o => by rw [hgrow.frozen (by simp; omega) hne]; simp
  have HB' := hide (hgrow.apart (b := w.heap.size) (by simp; omega) hne)
  clear hgrow hne
  go_wp2
  refine bodyPost_ret (v := .tuple #[.agg #[.int .u32 0, .int .u32 0, .int .u32 0], v']) (by simp [results, Try.results41, go_sem, c0, c1, c2]) rfl ⟨_, rfl, ?_, ?_⟩
  · exact own_setCell (own_setCell (own_setCell hown' HB'.out) HB'.out) HB'.out
  · exact ((hg2.setCell (by simp) _).setCell (by simp) _).setCell (by simp) _

set_option maxHeartbeats 1000000 in
theorem hearFirst_bad1 (b : Int) (base n : Nat) (v : Value) (xs : List Value) (w : World) (h0 : 0 ≤ b) (h1 : b ≤ 255) (hn : n ≤ 1000000) (hbase : base ≤ w.heap.size) (hown : w.ownsRow base 2 1 v n xs) (hc1 : 128 ≤ b) (hc2 : b < 194) :
    Calls Try.prog 41 #[.int .u8 b, v] w fun e w' => ∃ v', e = .returned (.tuple #[.agg #[.int .u32 (freshL b), .int .u32 (freshLo b), .int .u32 (freshV b)], v']) ∧ w'.ownsRow base 2 1 v' (n + (freshT b).length) (xs ++ intVs (freshT b)) ∧ GrowTo w w' v v' := by
  obtain ⟨i0, hi, hz0, hz1, hz2⟩ := info_parts info_i64
  have eT : freshT b = [65533] := by unfold freshT; repeat (first | rw [if_pos (by omega)] | rw [if_neg (by omega)])
  have eL : freshL b = 0 := by unfold freshL; repeat (first | rw [if_pos (by omega)] | rw [if_neg (by omega)])
  have eLo : freshLo b = 0 := by unfold freshLo; repeat (first | rw [if_pos (by omega)] | rw [if_neg (by omega)])
  have eV : freshV b = 0 := by unfold freshV; repeat (first | rw [if_pos (by omega)] | rw [if_neg (by omega)])
  rw [eT, eL, eLo, eV]
  clear eT eL eLo eV
  go_enter Try.func41, Try.ntmps41
  go_wp2_with (at_builtin; refine wpList_append_grow _ rfl (.tmp 40) (.tmp 41) 28 rfl base 2 i0 (.int .i64 0) 1 8 Try.underlying28 hi hz0 hz1 hz2 rfl (by decide) v n xs rfl ((hown.alloc _).alloc _) ⟨w.heap.size + 1, 0, none⟩ 1 1 (intVs [65533]) rfl rfl (new_row_at (by simp) rfl) (ints_one_cell _ _) (by unfold maxLen; omega) (by omega) (by simp; omega) ?_)
  intro v' w1 hown' hgrow
  have hg2 : GrowTo w w1 v v' := ((GrowTo.alloc w v _).trans (GrowTo.alloc _ v _)).trans hgrow
  have hne : some w.heap.size ≠ v.ownBlock := fun h => by have := (hown.lt _ h.symm).2; omega
  have c0 : w1.cell? ⟨w.heap.size, 0, none⟩ = some (.int .u32 0) := by rw [hgrow.cell (by simp; omega) hne]; simp
  have c1 : w1.cell? ⟨w.heap.size, 1, none⟩ = some (.int .u32 0) := by rw [hgrow.cell (by simp; omega) hne]; simp
  have c2 : w1.cell? ⟨w.heap.size, 2, none⟩ = some (.int .u32 0) := by rw [hgrow.cell (by simp; omega) hne]; simp
  have c3 : ∀ o, w1.frozen? ⟨w.heap.size, o, none⟩ = false := fun o => by rw [hgrow.frozen (by simp; omega) hne]; simp
  have HB' := hide (hgrow.apart (b := w.heap.size) (by simp; omega) hne)
  clear hgrow hne
  go_wp2
  refine bodyPost_ret (v := .tuple #[.agg #[.int .u32 0, .int .u32 0, .int .u32 0], v']) (by simp [results, Try.results41, go_sem, c0, c1, c2]) rfl ⟨_, rfl, ?_, ?_⟩
  · exact own_setCell (own_setCell (own_setCell hown' HB'.out) HB'.out) HB'.out
  · exact ((hg2.setCell (by simp) _).setCell (by simp) _).setCell (by simp) _

set_option maxHeartbeats 1000000 in
theorem hearFirst_bad2 (b : Int) (base n : Nat) (v : Value) (xs : List Value) (w : World) (h0 : 0 ≤ b) (h1 : b ≤ 255) (hn : n ≤ 1000000) (hbase : base ≤ w.heap.size) (hown : w.ownsRow base 2 1 v n xs) (hc1 : 240 ≤ b) :
    Calls Try.prog 41 #[.int .u8 b, v] w fun e w' => ∃ v', e = .returned (.tuple #[.agg #[.int .u32 (freshL b), .int .u32 (freshLo b), .int .u32 (freshV b)], v']) ∧ w'.ownsRow base 2 1 v' (n + (freshT b).length) (xs ++ intVs (freshT b)) ∧ GrowTo w w' v v' := by
  obtain ⟨i0, hi, hz0, hz1, hz2⟩ := info_parts info_i64
  have eT : freshT b = [65533] := by unfold freshT; repeat (first | rw [if_pos (by omega)] | rw [if_neg (by omega)])
  have eL : freshL b = 0 := by unfold freshL; repeat (first | rw [if_pos (by omega)] | rw [if_neg (by omega)])
  have eLo : freshLo b = 0 := by unfold freshLo; repeat (first | rw [if_pos (by omega)] | rw [if_neg (by omega)])
  have eV : freshV b = 0 := by unfold freshV; repeat (first | rw [if_pos (by omega)] | rw [if_neg (by omega)])
  rw [eT, eL, eLo, eV]
  clear eT eL eLo eV
  go_enter Try.func41, Try.ntmps41
  go_wp2_with (at_builtin; refine wpList_append_grow _ rfl (.tmp 40) (.tmp 41) 28 rfl base 2 i0 (.int .i64 0) 1 8 Try.underlying28 hi hz0 hz1 hz2 rfl (by decide) v n xs rfl ((hown.alloc _).alloc _) ⟨w.heap.size + 1, 0, none⟩ 1 1 (intVs [65533]) rfl rfl (new_row_at (by simp) rfl) (ints_one_cell _ _) (by unfold maxLen; omega) (by omega) (by simp; omega) ?_)
  intro v' w1 hown' hgrow
  have hg2 : GrowTo w w1 v v' := ((GrowTo.alloc w v _).trans (GrowTo.alloc _ v _)).trans hgrow
  have hne : some w.heap.size ≠ v.ownBlock := fun h => by have := (hown.lt _ h.symm).2; omega
  have c0 : w1.cell? ⟨w.heap.size, 0, none⟩ = some (.int .u32 0) := by rw [hgrow.cell (by simp; omega) hne]; simp
  have c1 : w1.cell? ⟨w.heap.size, 1, none⟩ = some (.int .u32 0) := by rw [hgrow.cell (by simp; omega) hne]; simp
  have c2 : w1.cell? ⟨w.heap.size, 2, none⟩ = some (.int .u32 0) := by rw [hgrow.cell (by simp; omega) hne]; simp
  have c3 : ∀ o, w1.frozen? ⟨w.heap.size, o, none⟩ = false := fun o => by rw [hgrow.frozen (by simp; omega) hne]; simp
  have HB' := hide (hgrow.apart (b := w.heap.size) (by simp; omega) hne)
  clear hgrow hne
  go_wp2
  refine bodyPost_ret (v := .tuple #[.agg #[.int .u32 0, .int .u32 0, .int .u32 0], v']) (by simp [results, Try.results41, go_sem, c0, c1, c2]) rfl ⟨_, rfl, ?_, ?_⟩
  · exact own_setCell (own_setCell (own_setCell hown' HB'.out) HB'.out) HB'.out
  · exact ((hg2.setCell (by simp) _).setCell (by simp) _).setCell (by simp) _

set_option maxHeartbeats 1000000 in
theorem hearFirst_two (b : Int) (base n : Nat) (v : Value) (xs : List Value) (w : World) (h0 : 0 ≤ b) (h1 : b ≤ 255) (hn : n ≤ 1000000) (hbase : base ≤ w.heap.size) (hown : w.ownsRow base 2 1 v n xs) (hc1 : 194 ≤ b) (hc2 : b < 224) :
    Calls Try.prog 41 #[.int .u8 b, v] w fun e w' => ∃ v', e = .returned (.tuple #[.agg #[.int .u32 (freshL b), .int .u32 (freshLo b), .int .u32 (freshV b)], v']) ∧ w'.ownsRow base 2 1 v' (n + (freshT b).length) (xs ++ intVs (freshT b)) ∧ GrowTo w w' v v' := by
  have eT : freshT b = [] := by unfold freshT; repeat (first | rw [if_pos (by omega)] | rw [if_neg (by omega)])
  have eL : freshL b = 1 := by unfold freshL; repeat (first | rw [if_pos (by omega)] | rw [if_neg (by omega)])
  have eLo : freshLo b = 128 := by unfold freshLo; repeat (first | rw [if_pos (by omega)] | rw [if_neg (by omega)])
  have eV : freshV b = b - 192 := by unfold freshV; repeat (first | rw [if_pos (by omega)] | rw [if_neg (by omega)])
  rw [eT, eL, eLo, eV]
  clear eT eL eLo eV
  go_enter Try.func41, Try.ntmps41
  go_wp2
  refine bodyPost_ret (v := .tuple #[.agg #[.int .u32 1, .int .u32 128, .int .u32 (b - 192)], v]) (by simp [results, Try.results41, go_sem]) rfl ⟨_, rfl, ?_, GrowTo.alloc _ _ _⟩
  simpa [intVs] using hown.alloc _

set_option maxHeartbeats 1000000 in
theorem hearFirst_three (b : Int) (base n : Nat) (v : Value) (xs : List Value) (w : World) (h0 : 0 ≤ b) (h1 : b ≤ 255) (hn : n ≤ 1000000) (hbase : base ≤ w.heap.size) (hown : w.ownsRow base 2 1 v n xs) (hc1 : 224 ≤ b) (hc2 : b < 240) :
    Calls Try.prog 41 #[.int .u8 b, v] w fun e w' => ∃ v', e = .returned (.tuple #[.agg #[.int .u32 (freshL b), .int .u32 (freshLo b), .int .u32 (freshV b)], v']) ∧ w'.ownsRow base 2 1 v' (n + (freshT b).length) (xs ++ intVs (freshT b)) ∧ GrowTo w w' v v' := by
  have eT : freshT b = [] := by unfold freshT; repeat (first | rw [if_pos (by omega)] | rw [if_neg (by omega)])
  have eL : freshL b = 2 := by unfold freshL; repeat (first | rw [if_pos (by omega)] | rw [if_neg (by omega)])
  have eLo : freshLo b = 2048 := by unfold freshLo; repeat (first | rw [if_pos (by omega)] | rw [if_neg (by omega)])
  have eV : freshV b = b - 224 := by unfold freshV; repeat (first | rw [if_pos (by omega)] | rw [if_neg (by omega)])
  rw [eT, eL, eLo, eV]
  clear eT eL eLo eV
  go_enter Try.func41, Try.ntmps41
  go_wp2
  refine bodyPost_ret (v := .tuple #[.agg #[.int .u32 2, .int .u32 2048, .int .u32 (b - 224)], v]) (by simp [results, Try.results41, go_sem]) rfl ⟨_, rfl, ?_, GrowTo.alloc _ _ _⟩
  simpa [intVs] using hown.alloc _

theorem hearFirst_calls (b : Int) (base n : Nat) (v : Value) (xs : List Value) (w : World) (h0 : 0 ≤ b) (h1 : b ≤ 255) (hn : n ≤ 1000000) (hbase : base ≤ w.heap.size) (hown : w.ownsRow base 2 1 v n xs) :
    Calls Try.prog 41 #[.int .u8 b, v] w fun e w' => ∃ v', e = .returned (.tuple #[.agg #[.int .u32 (freshL b), .int .u32 (freshLo b), .int .u32 (freshV b)], v']) ∧ w'.ownsRow base 2 1 v' (n + (freshT b).length) (xs ++ intVs (freshT b)) ∧ GrowTo w w' v v' := by
  by_cases c1 : b < 128
  · exact hearFirst_low b base n v xs w h0 h1 hn hbase hown c1
  by_cases c2 : 194 ≤ b ∧ b < 224
  · exact hearFirst_two b base n v xs w h0 h1 hn hbase hown c2.1 c2.2
  by_cases c3 : 224 ≤ b ∧ b < 240
  · exact hearFirst_three b base n v xs w h0 h1 hn hbase hown c3.1 c3.2
  by_cases c4 : b < 194
  · exact hearFirst_bad1 b base n v xs w h0 h1 hn hbase hown (by omega) c4
  · exact hearFirst_bad2 b base n v xs w h0 h1 hn hbase hown (by omega)

set_option maxHeartbeats 1000000 in
theorem hear_none (l lo v b : Int) (base n : Nat) (t : Value) (xs : List Value) (w : World) (hd : dfault l lo v = 0) (h0 : 0 ≤ b) (h1 : b ≤ 255) (hn : n ≤ 900000) (hbase : base ≤ w.heap.size) (hown : w.ownsRow base 2 1 t n xs) (hl : l = 0) :
    Calls Try.prog 30 #[.agg #[.int .u32 l, .int .u32 lo, .int .u32 v], .int .u8 b, t] w fun e w' => ∃ t', e = .returned (.tuple #[.agg #[.int .u32 (stepL l lo v b), .int .u32 (stepLo l lo v b), .int .u32 (stepV l lo v b)], t']) ∧ w'.ownsRow base 2 1 t' (n + (stepT l lo v b).length) (xs ++ intVs (stepT l lo v b)) ∧ GrowTo w w' t t' := by
  have eT : stepT l lo v b = freshT b := by unfold stepT; repeat (first | rw [if_pos (by omega)] | rw [if_neg (by omega)])
  have eL : stepL l lo v b = freshL b := by unfold stepL; repeat (first | rw [if_pos (by omega)] | rw [if_neg (by omega)])
  have eLo : stepLo l lo v b = freshLo b := by unfold stepLo; repeat (first | rw [if_pos (by omega)] | rw [if_neg (by omega)])
  have eV : stepV l lo v b = freshV b := by unfold stepV; repeat (first | rw [if_pos (by omega)] | rw [if_neg (by omega)])
  rw [eT, eL, eLo, eV]
  clear eT eL eLo eV
  subst hl
  clear hd
  go_enter Try.func30, Try.ntmps30
  go_wp2_with fail
  refine (hearFirst_calls b base n t xs _ h0 h1 (by omega) (by simp; omega) ((hown.alloc _).alloc _)).mono ?_
  rintro e w1 ⟨t', rfl, hown', hgrow⟩
  have hg2 : GrowTo w w1 t t' := ((GrowTo.alloc w t _).trans (GrowTo.alloc _ t _)).trans hgrow
  have hne : some (w.heap.size + 1) ≠ t.ownBlock := fun h => by have := (hown.lt _ h.symm).2; omega
  have c0 : w1.cell? ⟨w.heap.size + 1, 0, none⟩ = some (.int .u32 0) := by rw [hgrow.cell (by simp; try omega) hne]; simp
  have c1 : w1.cell? ⟨w.heap.size + 1, 1, none⟩ = some (.int .u32 0) := by rw [hgrow.cell (by simp; try omega) hne]; simp
  have c2 : w1.cell? ⟨w.heap.size + 1, 2, none⟩ = some (.int .u32 0) := by rw [hgrow.cell (by simp; try omega) hne]; simp
  have c3 : ∀ o, w1.frozen? ⟨w.heap.size + 1, o, none⟩ = false := fun o => by rw [hgrow.frozen (by simp; try omega) hne]; simp
  have HB' := hide (hgrow.apart (b := w.heap.size + 1) (by simp) hne)
  clear hgrow hne
  go_wp2
  refine bodyPost_ret (v := .tuple #[.agg #[.int .u32 (freshL b), .int .u32 (freshLo b), .int .u32 (freshV b)], t']) (by simp [results, Try.results30, go_sem, c0, c1, c2]) rfl ⟨_, rfl, ?_, ?_⟩
  · exact own_setCell (own_setCell (own_setCell hown' HB'.out) HB'.out) HB'.out
  · exact ((hg2.setCell (by simp) _).setCell (by simp) _).setCell (by simp) _

set_option maxHeartbeats 1000000 in
theorem hear_brk1 (l lo v b : Int) (base n : Nat) (t : Value) (xs : List Value) (w : World) (hd : dfault l lo v = 0) (h0 : 0 ≤ b) (h1 : b ≤ 255) (hn : n ≤ 900000) (hbase : base ≤ w.heap.size) (hown : w.ownsRow base 2 1 t n xs) (hl : (l == 0) = false) (hb1 : b < 128) :
    Calls Try.prog 30 #[.agg #[.int .u32 l, .int .u32 lo, .int .u32 v], .int .u8 b, t] w fun e w' => ∃ t', e = .returned (.tuple #[.agg #[.int .u32 (stepL l lo v b), .int .u32 (stepLo l lo v b), .int .u32 (stepV l lo v b)], t']) ∧ w'.ownsRow base 2 1 t' (n + (stepT l lo v b).length) (xs ++ intVs (stepT l lo v b)) ∧ GrowTo w w' t t' := by
  have hl' : l ≠ 0 := by simpa using hl
  obtain ⟨i0, hi, hz0, hz1, hz2⟩ := info_parts info_i64
  have eT : stepT l lo v b = 65533 :: freshT b := by unfold stepT; repeat (first | rw [if_pos (by omega)] | rw [if_neg (by omega)])
  have eL : stepL l lo v b = freshL b := by unfold stepL; repeat (first | rw [if_pos (by omega)] | rw [if_neg (by omega)])
  have eLo : stepLo l lo v b = freshLo b := by unfold stepLo; repeat (first | rw [if_pos (by omega)] | rw [if_neg (by omega)])
  have eV : stepV l lo v b = freshV b := by unfold stepV; repeat (first | rw [if_pos (by omega)] | rw [if_neg (by omega)])
  rw [eT, eL, eLo, eV]
  clear eT eL eLo eV
  clear hd hl'
  go_enter Try.func30, Try.ntmps30
  go_wp2_with (at_builtin; refine wpList_append_grow _ rfl (.tmp 23) (.tmp 24) 28 rfl base 2 i0 (.int .i64 0) 1 8 Try.underlying28 hi hz0 hz1 hz2 rfl (by decide) t n xs rfl (((hown.alloc _).alloc _).alloc _) ⟨w.heap.size + 2, 0, none⟩ 1 1 (intVs [65533]) rfl rfl (new_row_at (by simp) rfl) (ints_one_cell _ _) (by unfold maxLen; omega) (by omega) (by simp; omega) ?_)
  intro t1 w0 hown0 hgrow0
  have hs0 : w.heap.size + 2 < w0.heap.size := by have := hgrow0.grown.size; simp at this; omega
  go_wp2_with fail
  refine (hearFirst_calls b base (n + 1) t1 _ _ h0 h1 (by omega) (by omega) hown0).mono ?_
  rintro e w1 ⟨t', rfl, hown1, hgrow1⟩
  have hgrow := (GrowTo.alloc _ t _).trans (hgrow0.trans hgrow1)
  have hown' : w1.ownsRow base 2 1 t' (n + (65533 :: freshT b).length) (xs ++ intVs (65533 :: freshT b)) := by have h := hown1; simpa [intVs, Nat.add_assoc, Nat.add_comm] using h
  clear hown0 hgrow0 hown1 hgrow1 hs0
  have hg2 : GrowTo w w1 t t' := ((GrowTo.alloc w t _).trans (GrowTo.alloc _ t _)).trans hgrow
  have hne : some (w.heap.size + 1) ≠ t.ownBlock := fun h => by have := (hown.lt _ h.symm).2; omega
  have c0 : w1.cell? ⟨w.heap.size + 1, 0, none⟩ = some (.int .u32 0) := by rw [hgrow.cell (by simp; try omega) hne]; simp
  have c1 : w1.cell? ⟨w.heap.size + 1, 1, none⟩ = some (.int .u32 0) := by rw [hgrow.cell (by simp; try omega) hne]; simp
  have c2 : w1.cell? ⟨w.heap.size + 1, 2, none⟩ = some (.int .u32 0) := by rw [hgrow.cell (by simp; try omega) hne]; simp
  have c3 : ∀ o, w1.frozen? ⟨w.heap.size + 1, o, none⟩ = false := fun o => by rw [hgrow.frozen (by simp; try omega) hne]; simp
  have HB' := hide (hgrow.apart (b := w.heap.size + 1) (by simp; try omega) hne)
  clear hgrow hne
  go_wp2
  refine bodyPost_ret (v := .tuple #[.agg #[.int .u32 (freshL b), .int .u32 (freshLo b), .int .u32 (freshV b)], t']) (by simp [results, Try.results30, go_sem, c0, c1, c2]) rfl ⟨_, rfl, ?_, ?_⟩
  · exact own_setCell (own_setCell (own_setCell hown' HB'.out) HB'.out) HB'.out
  · exact ((hg2.setCell (by simp) _).setCell (by simp) _).setCell (by simp) _

set_option maxHeartbeats 1000000 in
theorem hear_brk2 (l lo v b : Int) (base n : Nat) (t : Value) (xs : List Value) (w : World) (hd : dfault l lo v = 0) (h0 : 0 ≤ b) (h1 : b ≤ 255) (hn : n ≤ 900000) (hbase : base ≤ w.heap.size) (hown : w.ownsRow base 2 1 t n xs) (hl : (l == 0) = false) (hb1 : 191 < b) :
    Calls Try.prog 30 #[.agg #[.int .u32 l, .int .u32 lo, .int .u32 v], .int .u8 b, t] w fun e w' => ∃ t', e = .returned (.tuple #[.agg #[.int .u32 (stepL l lo v b), .int .u32 (stepLo l lo v b), .int .u32 (stepV l lo v b)], t']) ∧ w'.ownsRow base 2 1 t' (n + (stepT l lo v b).length) (xs ++ intVs (stepT l lo v b)) ∧ GrowTo w w' t t' := by
  have hl' : l ≠ 0 := by simpa using hl
  obtain ⟨i0, hi, hz0, hz1, hz2⟩ := info_parts info_i64
  have eT : stepT l lo v b = 65533 :: freshT b := by unfold stepT; repeat (first | rw [if_pos (by omega)] | rw [if_neg (by omega)])
  have eL : stepL l lo v b = freshL b := by unfold stepL; repeat (first | rw [if_pos (by omega)] | rw [if_neg (by omega)])
  have eLo : stepLo l lo v b = freshLo b := by unfold stepLo; repeat (first | rw [if_pos (by omega)] | rw [if_neg (by omega)])
  have eV : stepV l lo v b = freshV b := by unfold stepV; repeat (first | rw [if_pos (by omega)] | rw [if_neg (by omega)])
  rw [eT, eL, eLo, eV]
  clear eT eL eLo eV
  clear hd hl'
  go_enter Try.func30, Try.ntmps30
  go_wp2_with (at_builtin; refine wpList_append_grow _ rfl (.tmp 23) (.tmp 24) 28 rfl base 2 i0 (.int .i64 0) 1 8 Try.underlying28 hi hz0 hz1 hz2 rfl (by decide) t n xs rfl (((hown.alloc _).alloc _).alloc _) ⟨w.heap.size + 2, 0, none⟩ 1 1 (intVs [65533]) rfl rfl (new_row_at (by simp) rfl) (ints_one_cell _ _) (by unfold maxLen; omega) (by omega) (by simp; omega) ?_)
  intro t1 w0 hown0 hgrow0
  have hs0 : w.heap.size + 2 < w0.heap.size := by have := hgrow0.grown.size; simp at this; omega
  go_wp2_with fail
  refine (hearFirst_calls b base (n + 1) t1 _ _ h0 h1 (by omega) (by omega) hown0).mono ?_
  rintro e w1 ⟨t', rfl, hown1, hgrow1⟩
  have hgrow := (GrowTo.alloc _ t _).trans (hgrow0.trans hgrow1)
  have hown' : w1.ownsRow base 2 1 t' (n + (65533 :: freshT b).length) (xs ++ intVs (65533 :: freshT b)) := by have h := hown1; simpa [intVs, Nat.add_assoc, Nat.add_comm] using h
  clear hown0 hgrow0 hown1 hgrow1 hs0
  have hg2 : GrowTo w w1 t t' := ((GrowTo.alloc w t _).trans (GrowTo.alloc _ t _)).trans hgrow
  have hne : some (w.heap.size + 1) ≠ t.ownBlock := fun h => by have := (hown.lt _ h.symm).2; omega
  have c0 : w1.cell? ⟨w.heap.size + 1, 0, none⟩ = some (.int .u32 0) := by rw [hgrow.cell (by simp; try omega) hne]; simp
  have c1 : w1.cell? ⟨w.heap.size + 1, 1, none⟩ = some (.int .u32 0) := by rw [hgrow.cell (by simp; try omega) hne]; simp
  have c2 : w1.cell? ⟨w.heap.size + 1, 2, none⟩ = some (.int .u32 0) := by rw [hgrow.cell (by simp; try omega) hne]; simp
  have c3 : ∀ o, w1.frozen? ⟨w.heap.size + 1, o, none⟩ = false := fun o => by rw [hgrow.frozen (by simp; try omega) hne]; simp
  have HB' := hide (hgrow.apart (b := w.heap.size + 1) (by simp; try omega) hne)
  clear hgrow hne
  go_wp2
  refine bodyPost_ret (v := .tuple #[.agg #[.int .u32 (freshL b), .int .u32 (freshLo b), .int .u32 (freshV b)], t']) (by simp [results, Try.results30, go_sem, c0, c1, c2]) rfl ⟨_, rfl, ?_, ?_⟩
  · exact own_setCell (own_setCell (own_setCell hown' HB'.out) HB'.out) HB'.out
  · exact ((hg2.setCell (by simp) _).setCell (by simp) _).setCell (by simp) _

theorem u32_or64 (v y : Int) (h0 : 0 ≤ v) (h1 : v ≤ 100000) (h2 : 0 ≤ y) (h3 : y < 64) : bits .or .u32 (v * 64) y = 64 * v + y := by
  rw [u32_or _ _ (by omega) (by omega) (by omega) (by omega)]
  have := or_add 6 v.toNat y.toNat (by omega)
  have e : (v * 64).toNat = 2 ^ 6 * v.toNat := by omega
  rw [e, this]
  omega

set_option maxHeartbeats 1000000 in
theorem hear_more (l lo v b : Int) (base n : Nat) (t : Value) (xs : List Value) (w : World) (hd : dfault l lo v = 0) (h0 : 0 ≤ b) (h1 : b ≤ 255) (hn : n ≤ 900000) (hbase : base ≤ w.heap.size) (hown : w.ownsRow base 2 1 t n xs) (hl : l = 2) (hb1 : 128 ≤ b) (hb2 : b ≤ 191) :
    Calls Try.prog 30 #[.agg #[.int .u32 l, .int .u32 lo, .int .u32 v], .int .u8 b, t] w fun e w' => ∃ t', e = .returned (.tuple #[.agg #[.int .u32 (stepL l lo v b), .int .u32 (stepLo l lo v b), .int .u32 (stepV l lo v b)], t']) ∧ w'.ownsRow base 2 1 t' (n + (stepT l lo v b).length) (xs ++ intVs (stepT l lo v b)) ∧ GrowTo w w' t t' := by
  have hp := dfault_pos l lo v hd
  have eT : stepT l lo v b = [] := by unfold stepT; repeat (first | rw [if_pos (by omega)] | rw [if_neg (by omega)])
  have eL : stepL l lo v b = 1 := by unfold stepL; repeat (first | rw [if_pos (by omega)] | rw [if_neg (by omega)])
  have eLo : stepLo l lo v b = lo := by unfold stepLo; repeat (first | rw [if_pos (by omega)] | rw [if_neg (by omega)])
  have eV : stepV l lo v b = 64 * v + b - 128 := by unfold stepV; repeat (first | rw [if_pos (by omega)] | rw [if_neg (by omega)])
  rw [eT, eL, eLo, eV]
  clear eT eL eLo eV
  subst hl
  obtain ⟨_, _, hlo0, hlo1, hv0, hv1⟩ := hp
  clear hd
  have hor : bits .or .u32 (v * 64) (b - 128) = 64 * v + b - 128 := by rw [u32_or64 v (b - 128) hv0 (by omega) (by omega) (by omega)]; omega
  go_enter Try.func30, Try.ntmps30
  go_wp2
  refine bodyPost_ret (v := .tuple #[.agg #[.int .u32 1, .int .u32 lo, .int .u32 (64 * v + b - 128)], t]) (by simp [results, Try.results30, go_sem]) rfl ⟨_, rfl, ?_, (GrowTo.alloc _ _ _).trans (GrowTo.alloc _ _ _)⟩
  simpa [intVs] using (hown.alloc _).alloc _

set_option maxHeartbeats 1000000 in
theorem hear_last (l lo v b : Int) (base n : Nat) (t : Value) (xs : List Value) (w : World) (hd : dfault l lo v = 0) (h0 : 0 ≤ b) (h1 : b ≤ 255) (hn : n ≤ 900000) (hbase : base ≤ w.heap.size) (hown : w.ownsRow base 2 1 t n xs) (hl : l = 1) (hb1 : 128 ≤ b) (hb2 : b ≤ 191) :
    Calls Try.prog 30 #[.agg #[.int .u32 l, .int .u32 lo, .int .u32 v], .int .u8 b, t] w fun e w' => ∃ t', e = .returned (.tuple #[.agg #[.int .u32 (stepL l lo v b), .int .u32 (stepLo l lo v b), .int .u32 (stepV l lo v b)], t']) ∧ w'.ownsRow base 2 1 t' (n + (stepT l lo v b).length) (xs ++ intVs (stepT l lo v b)) ∧ GrowTo w w' t t' := by
  have hp := dfault_pos l lo v hd
  obtain ⟨i0, hi, hz0, hz1, hz2⟩ := info_parts info_i64
  have eT : stepT l lo v b = [wholeC lo (64 * v + b - 128)] := by unfold stepT wholeC; rw [if_neg (by omega), if_neg (by omega), if_neg (by omega)]; split <;> rfl
  have eL : stepL l lo v b = 0 := by unfold stepL; repeat (first | rw [if_pos (by omega)] | rw [if_neg (by omega)])
  have eLo : stepLo l lo v b = 0 := by unfold stepLo; repeat (first | rw [if_pos (by omega)] | rw [if_neg (by omega)])
  have eV : stepV l lo v b = 0 := by unfold stepV; repeat (first | rw [if_pos (by omega)] | rw [if_neg (by omega)])
  rw [eT, eL, eLo, eV]
  clear eT eL eLo eV
  subst hl
  obtain ⟨_, _, hlo0, hlo1, hv0, hv1⟩ := hp
  clear hd
  have hor : bits .or .u32 (v * 64) (b - 128) = 64 * v + b - 128 := by rw [u32_or64 v (b - 128) hv0 (by omega) (by omega) (by omega)]; omega
  go_enter Try.func30, Try.ntmps30
  go_wp2_with fail
  refine (whole_calls 0 lo (64 * v + b - 128) _ (by omega) (by omega) hlo0 (by omega) (by omega) (by omega)).mono ?_
  rintro e w0 ⟨rfl, hb0⟩
  have hs0 : w.heap.size + 1 < w0.heap.size := by have := hb0.size; simp at this; omega
  have hown0 := own_below ((hown.alloc _).alloc _) hb0
  have hgrow0 := GrowTo.of_below hb0 t
  clear hor
  go_wp2_with (at_builtin; refine wpList_append_grow _ rfl (.tmp 47) (.tmp 50) 28 rfl base 2 i0 (.int .i64 0) 1 8 Try.underlying28 hi hz0 hz1 hz2 rfl (by decide) t n xs rfl (hown0.alloc _) ⟨w0.heap.size, 0, none⟩ 1 1 (intVs [wholeC lo (64 * v + b - 128)]) rfl rfl (new_row_at (by simp) rfl) (ints_one_cell _ _) (by unfold maxLen; omega) (by omega) (by simp; omega) ?_)
  intro t' w1 hown' hgrow1
  have hgrow := (hgrow0.trans (GrowTo.alloc _ t _)).trans hgrow1
  clear hown0 hgrow0 hb0 hgrow1 hs0
  have hg2 : GrowTo w w1 t t' := ((GrowTo.alloc w t _).trans (GrowTo.alloc _ t _)).trans hgrow
  have hne : some (w.heap.size + 1) ≠ t.ownBlock := fun h => by have := (hown.lt _ h.symm).2; omega
  have c0 : w1.cell? ⟨w.heap.size + 1, 0, none⟩ = some (.int .u32 0) := by rw [hgrow.cell (by simp; try omega) hne]; simp
  have c1 : w1.cell? ⟨w.heap.size + 1, 1, none⟩ = some (.int .u32 0) := by rw [hgrow.cell (by simp; try omega) hne]; simp
  have c2 : w1.cell? ⟨w.heap.size + 1, 2, none⟩ = some (.int .u32 0) := by rw [hgrow.cell (by simp; try omega) hne]; simp
  have c3 : ∀ o, w1.frozen? ⟨w.heap.size + 1, o, none⟩ = false := fun o => by rw [hgrow.frozen (by simp; try omega) hne]; simp
  have HB' := hide (hgrow.apart (b := w.heap.size + 1) (by simp; try omega) hne)
  clear hgrow hne
  go_wp2
  refine bodyPost_ret (v := .tuple #[.agg #[.int .u32 (0), .int .u32 (0), .int .u32 (0)], t']) (by simp [results, Try.results30, go_sem, c0, c1, c2]) rfl ⟨_, rfl, ?_, ?_⟩
  · exact own_setCell (own_setCell (own_setCell hown' HB'.out) HB'.out) HB'.out
  · exact ((hg2.setCell (by simp) _).setCell (by simp) _).setCell (by simp) _

theorem hear_calls (l lo v b : Int) (base n : Nat) (t : Value) (xs : List Value) (w : World) (hd : dfault l lo v = 0) (h0 : 0 ≤ b) (h1 : b ≤ 255) (hn : n ≤ 900000) (hbase : base ≤ w.heap.size) (hown : w.ownsRow base 2 1 t n xs) :
    Calls Try.prog 30 #[.agg #[.int .u32 l, .int .u32 lo, .int .u32 v], .int .u8 b, t] w fun e w' => ∃ t', e = .returned (.tuple #[.agg #[.int .u32 (stepL l lo v b), .int .u32 (stepLo l lo v b), .int .u32 (stepV l lo v b)], t']) ∧ w'.ownsRow base 2 1 t' (n + (stepT l lo v b).length) (xs ++ intVs (stepT l lo v b)) ∧ GrowTo w w' t t' := by
  have hp := dfault_pos l lo v hd
  by_cases hl : l = 0
  · exact hear_none l lo v b base n t xs w hd h0 h1 hn hbase hown hl
  have hl' : (l == 0) = false := by simp [hl]
  by_cases hb1 : b < 128
  · exact hear_brk1 l lo v b base n t xs w hd h0 h1 hn hbase hown hl' hb1
  by_cases hb2 : 191 < b
  · exact hear_brk2 l lo v b base n t xs w hd h0 h1 hn hbase hown hl' hb2
  by_cases hl2 : l = 2
  · exact hear_more l lo v b base n t xs w hd h0 h1 hn hbase hown hl2 (by omega) (by omega)
  · exact hear_last l lo v b base n t xs w hd h0 h1 hn hbase hown (by omega) (by omega) (by omega)

/-- A step leaves a decoder without a fault. -/
theorem step_fault (l lo v b : Int) (hd : dfault l lo v = 0) (h0 : 0 ≤ b) (h1 : b ≤ 255) : dfault (stepL l lo v b) (stepLo l lo v b) (stepV l lo v b) = 0 := by
  have hp : (l = 0 ∧ lo = 0 ∧ v = 0) ∨ (l = 1 ∧ lo = 128 ∧ 2 ≤ v ∧ v ≤ 31) ∨ (l = 2 ∧ lo = 2048 ∧ 0 ≤ v ∧ v ≤ 15) ∨ (l = 1 ∧ lo = 2048 ∧ 0 ≤ v ∧ v ≤ 1023) := by
    unfold dfault at hd; split at hd
    · assumption
    · cases hd
  unfold dfault
  rw [if_pos]
  unfold stepL stepLo stepV freshL freshLo freshV
  by_cases c : l = 0 ∨ b < 128 ∨ 191 < b
  · simp only [if_pos c]
    by_cases c1 : 194 ≤ b ∧ b ≤ 223
    · simp [if_pos c1] <;> omega
    · simp only [if_neg c1]
      by_cases c2 : 224 ≤ b ∧ b ≤ 239
      · simp [if_pos c2] <;> omega
      · simp [if_neg c2] <;> omega
  · simp only [if_neg c]
    by_cases c2 : l = 2
    · simp [if_pos c2] <;> omega
    · simp [if_neg c2] <;> omega

end Go.Proofs.Ytoedmfflokknjaa
