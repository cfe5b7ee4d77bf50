/-
  Which numbers are characters, and their bytes: impl.isChar, spec.l1Char, impl.sixBits, impl.appendChar, spec.l1Encode, walked.
-/
import Derived.Test.YtcfechnkgefhcaaDoorRows
import Derived.Test.YtcfechnkgefhcaaDoorMem
import Derived.WalkKit
import Derived.ProofKit
import Derived.OpenShut
import Derived.Below
import Derived.OwnWalk
import Derived.WalkSpells
import Derived.Laws.BitsAllLaws
namespace Go.Proofs.YtcfechnkgefhcaaDoor
set_option maxRecDepth 20000
open Go.ChangeShapes Go.WideShapes Go.ChangeAt Go.RowKit
set_option linter.unusedVariables false
set_option linter.unusedSimpArgs false

/-- A character: 0 to 65535, but for 55296 to 57343. -/
def chB (c : Int) : Bool := decide ((0 ≤ c ∧ c ≤ 55295) ∨ (57344 ≤ c ∧ c ≤ 65535))
/-- Its bytes. -/
def encL (c : Int) : List Int := if c < 128 then [c] else if c < 2048 then [192 + c / 64, 128 + c % 64] else [224 + c / 4096, 128 + c / 64 % 64, 128 + c % 64]

theorem ret_bool {a b : Bool} (h : a = b) : Ending.returned (.bool a) = .returned (.bool b) := by rw [h]

set_option maxHeartbeats 400000 in
theorem isChar_calls (c : Int) (w : World) :
    Calls Tryd.prog 58 #[.int .i64 c] w fun e w' => e = .returned (.bool (chB c)) ∧ w' = w := by
  go_enter Tryd.func58, Tryd.ntmps58
  go_wp2
  all_goals go_ret
  all_goals refine ⟨ret_bool ?_, rfl⟩
  all_goals (rw [Bool.eq_iff_iff]; unfold chB; simp; try omega)

set_option maxHeartbeats 400000 in
theorem l1Char_calls (c : Int) (w : World) :
    Calls Tryd.prog 60 #[.int .i64 c] w fun e w' => e = .returned (.bool (chB c)) ∧ w' = w := by
  go_enter Tryd.func60, Tryd.ntmps60
  go_wp2
  all_goals go_ret
  all_goals refine ⟨ret_bool ?_, rfl⟩
  all_goals (rw [Bool.eq_iff_iff]; unfold chB; simp; try omega)
theorem or_add (i a b : Nat) (h : b < 2 ^ i) : 2 ^ i * a ||| b = 2 ^ i * a + b := (Nat.two_pow_add_eq_or_of_lt h a).symm
theorem u8_or128 (x : Int) (h0 : 0 ≤ x) (h1 : x < 64) : bits .or .u8 128 x = 128 + x := by
  rw [u8_or _ _ (by omega) (by omega) (by omega) (by omega)]
  have := or_add 6 2 x.toNat (by omega)
  simp only [show (128 : Int).toNat = 128 from rfl]
  simp at this
  omega
theorem u8_or192 (x : Int) (h0 : 0 ≤ x) (h1 : x < 64) : bits .or .u8 192 x = 192 + x := by
  rw [u8_or _ _ (by omega) (by omega) (by omega) (by omega)]
  have := or_add 6 3 x.toNat (by omega)
  simp only [show (192 : Int).toNat = 192 from rfl]
  simp at this
  omega
theorem u8_or224 (x : Int) (h0 : 0 ≤ x) (h1 : x < 16) : bits .or .u8 224 x = 224 + x := by
  rw [u8_or _ _ (by omega) (by omega) (by omega) (by omega)]
  have := or_add 4 14 x.toNat (by omega)
  simp only [show (224 : Int).toNat = 224 from rfl]
  simp at this
  omega
theorem u32_and63 (x : Int) (h0 : 0 ≤ x) (h1 : x ≤ 65535) : bits .and .u32 x 63 = x % 64 := by
  rw [u32_and _ _ (by omega) (by omega) (by omega) (by omega)]
  have := Nat.and_two_pow_sub_one_eq_mod x.toNat 6
  simp at this
  simp only [show (63 : Int).toNat = 63 from rfl]
  omega

set_option maxHeartbeats 400000 in
theorem sixBits_calls (c : Int) (w : World) (h0 : 0 ≤ c) (h1 : c ≤ 65535) :
    Calls Tryd.prog 73 #[.int .u32 c] w fun e w' => e = .returned (.int .u8 (128 + c % 64)) ∧ w' = w := by
  have e1 := u32_and63 c h0 h1
  have e2 := u8_or128 (c % 64) (by omega) (by omega)
  have e3 : bits .or .u8 128 (bits .and .u32 c 63 % 256) = 128 + c % 64 := by rw [e1, show c % 64 % 256 = c % 64 by omega, e2]
  clear e1 e2
  go_enter Tryd.func73, Tryd.ntmps73
  go_wp2
  go_ret
  exact ⟨rfl, rfl⟩

theorem info_u8 : (Tryd.prog.info? 5).map (fun i => (i.zero, i.size, i.bytes)) = some (some (.int .u8 0), 1, 1) := by kernel_rfl

/-- bytes as values -/
def byteVs (xs : List Int) : List Value := xs.map (Value.int .u8)

set_option maxHeartbeats 400000 in
theorem appendChar1 (c : Int) (base n : Nat) (v : Value) (xs : List Value) (w : World) (h0 : 0 ≤ c) (h1 : c < 128) (hn : n ≤ 1000000) (hbase : base ≤ w.heap.size) (hown : w.ownsRow base 5 1 v n xs) :
    Calls Tryd.prog 62 #[v, .int .u32 c] w fun e w' => ∃ v', e = .returned v' ∧ w'.ownsRow base 5 1 v' (n + 1) (xs ++ byteVs [c]) ∧ Below base w w' := by
  obtain ⟨i0, hi, hz0, hz1, hz2⟩ := info_parts info_u8
  go_enter Tryd.func62, Tryd.ntmps62
  go_wp2_with (first
    | (at_builtin; refine wpList_append_own _ rfl (.tmp 8) (.tmp 11) 22 rfl base 5 i0 (.int .u8 0) 1 1 Tryd.underlying22 hi hz0 hz1 hz2 rfl (by decide) v n xs rfl (hown.alloc _) ⟨w.heap.size, 0, none⟩ 1 1 (byteVs [c]) rfl rfl ?c1 ?c2 ?c3 ?c4 ?c5 ?_)
    | go_in)
  case c1 => exact new_row_cells _ _ _ _ rfl
  case c2 => exact ints_one_cell _ _
  case c3 => unfold maxLen; omega
  case c4 => omega
  case c5 => simp; omega
  · intro v' w1 hown' hgrow _
    go_wp2
    go_ret
    exact ⟨_, rfl, hown', below_appended hbase hgrow hown.lt⟩

set_option maxHeartbeats 400000 in
theorem appendChar2 (c : Int) (base n : Nat) (v : Value) (xs : List Value) (w : World) (h0 : 128 ≤ c) (h1 : c < 2048) (hn : n ≤ 1000000) (hbase : base ≤ w.heap.size) (hown : w.ownsRow base 5 1 v n xs) :
    Calls Tryd.prog 62 #[v, .int .u32 c] w fun e w' => ∃ v', e = .returned v' ∧ w'.ownsRow base 5 1 v' (n + 2) (xs ++ byteVs [192 + c / 64, 128 + c % 64]) ∧ Below base w w' := by
  obtain ⟨i0, hi, hz0, hz1, hz2⟩ := info_parts info_u8
  go_enter Tryd.func62, Tryd.ntmps62
  go_wp2_with (first
    | (go_at_call 73; refine (sixBits_calls _ _ (by omega) (by omega)).mono ?_; rintro e w' ⟨rfl, hw⟩; rw [hw]; clear hw w')
    | (at_builtin; refine wpList_append_own _ rfl (.tmp 16) (.tmp 23) 22 rfl base 5 i0 (.int .u8 0) 1 1 Tryd.underlying22 hi hz0 hz1 hz2 rfl (by decide) v n xs rfl (hown.alloc _) ⟨w.heap.size, 0, none⟩ 2 2 (byteVs [192 + c / 64, 128 + c % 64]) rfl rfl ?c1 ?c2 ?c3 ?c4 ?c5 ?_))
  case c1 => exact new_row_cells _ _ _ _ rfl
  case c2 => exact ints_one_cell _ _
  case c3 => unfold maxLen; omega
  case c4 => omega
  case c5 => simp; omega
  · intro v' w1 hown' hgrow _
    go_wp2
    go_ret
    exact ⟨_, rfl, hown', below_appended hbase hgrow hown.lt⟩

set_option maxHeartbeats 400000 in
theorem appendChar3 (c : Int) (base n : Nat) (v : Value) (xs : List Value) (w : World) (h0 : 2048 ≤ c) (h1 : c ≤ 65535) (hn : n ≤ 1000000) (hbase : base ≤ w.heap.size) (hown : w.ownsRow base 5 1 v n xs) :
    Calls Tryd.prog 62 #[v, .int .u32 c] w fun e w' => ∃ v', e = .returned v' ∧ w'.ownsRow base 5 1 v' (n + 3) (xs ++ byteVs [224 + c / 4096, 128 + c / 64 % 64, 128 + c % 64]) ∧ Below base w w' := by
  obtain ⟨i0, hi, hz0, hz1, hz2⟩ := info_parts info_u8
  go_enter Tryd.func62, Tryd.ntmps62
  go_wp2_with (first
    | (go_at_call 73; refine (sixBits_calls _ _ (by omega) (by omega)).mono ?_; rintro e w' ⟨rfl, hw⟩; rw [hw]; clear hw w')
    | (at_builtin; refine wpList_append_own _ rfl (.tmp 25) (.tmp 35) 22 rfl base 5 i0 (.int .u8 0) 1 1 Tryd.underlying22 hi hz0 hz1 hz2 rfl (by decide) v n xs rfl (hown.alloc _) ⟨w.heap.size, 0, none⟩ 3 3 (byteVs [224 + c / 4096, 128 + c / 64 % 64, 128 + c % 64]) rfl rfl ?c1 ?c2 ?c3 ?c4 ?c5 ?_))
  case c1 => exact new_row_cells _ _ _ _ rfl
  case c2 => exact ints_one_cell _ _
  case c3 => unfold maxLen; omega
  case c4 => omega
  case c5 => simp; omega
  · intro v' w1 hown' hgrow _
    go_wp2
    go_ret
    exact ⟨_, rfl, hown', below_appended hbase hgrow hown.lt⟩

theorem appendChar_calls (c : Int) (base n : Nat) (v : Value) (xs : List Value) (w : World) (h0 : 0 ≤ c) (h1 : c ≤ 65535) (hn : n ≤ 1000000) (hbase : base ≤ w.heap.size) (hown : w.ownsRow base 5 1 v n xs) :
    Calls Tryd.prog 62 #[v, .int .u32 c] w fun e w' => ∃ v', e = .returned v' ∧ w'.ownsRow base 5 1 v' (n + (encL c).length) (xs ++ byteVs (encL c)) ∧ Below base w w' := by
  by_cases h128 : c < 128
  · have hE : encL c = [c] := by unfold encL; rw [if_pos h128]
    rw [hE]
    exact appendChar1 c base n v xs w h0 h128 hn hbase hown
  · by_cases h2048 : c < 2048
    · have hE : encL c = [192 + c / 64, 128 + c % 64] := by unfold encL; rw [if_neg h128, if_pos h2048]
      rw [hE]
      exact appendChar2 c base n v xs w (by omega) h2048 hn hbase hown
    · have hE : encL c = [224 + c / 4096, 128 + c / 64 % 64, 128 + c % 64] := by unfold encL; rw [if_neg h128, if_neg h2048]
      rw [hE]
      exact appendChar3 c base n v xs w (by omega) h1 hn hbase hown

/-- A new row of bytes, read. -/
theorem bytes_new {w : World} {lo g hi n : Nat} (C : Array Value) {t : TypeId} (xs : List Int) (hC : C.toList = byteVs xs) (hn : n = xs.length) (hg : g = w.heap.size) (h : lo ≤ g) (hh : g < hi) : IntsAt .u8 lo hi (w.alloc (.cells C t)) (.slice (some ⟨g, 0, none⟩) n n) xs := by
  subst hg hn
  refine ⟨_, _, rfl, .inr ⟨w.heap.size, 0, rfl, h, hh, fun i hi => ⟨?_, ?_⟩⟩⟩
  · rw [World.cell?_alloc_mark, ← Array.getElem?_toList, hC]
    simp [byteVs, hi]
  · simp

end Go.Proofs.YtcfechnkgefhcaaDoor
