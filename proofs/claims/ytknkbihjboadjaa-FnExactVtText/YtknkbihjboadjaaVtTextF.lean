/-
  VtText of the program and of the model: the rows of a terminal's screen, each with a line feed behind it.
-/
import Derived.Test.YtknkbihjboadjaaBuildFns
import Derived.Test.YtknkbihjboadjaaRowText2
import Derived.Test.YtknkbihjboadjaaVtFaults
namespace Go.Proofs.Ytknkbihjboadjaa
set_option maxRecDepth 20000
open Go.ChangeShapes Go.WideShapes Go.ChangeAt Go.RowKit
set_option linter.unusedVariables false
set_option linter.unusedSimpArgs false
set_option maxRecDepth 20000

/-- The bytes of the first k rows, each with a line feed; VtText's text. -/
def rowsL (s : Scr) (k : Nat) : List Int := (List.range k).flatMap (fun (y : Nat) => (rowChars s (y : Int)).flatMap encL ++ [10])
theorem rowsL_succ (s : Scr) (k : Nat) : rowsL s (k + 1) = rowsL s k ++ ((rowChars s (k : Int)).flatMap encL ++ [10]) := by simp [rowsL, List.range_succ]
theorem str_append (xs ys : List Int) : strOfNums xs ++ strOfNums ys = strOfNums (xs ++ ys) := by
  apply ByteArray.ext
  simp [strOfNums]
theorem str_rows (s : Scr) (k : Nat) : strOfNums (rowsL s k) ++ strOfNums ((rowChars s (k : Int)).flatMap encL) ++ ⟨#[10]⟩ = strOfNums (rowsL s (k + 1)) := by
  rw [rowsL_succ, ← str_append, ← str_append, ByteArray.append_assoc]
  rfl
theorem flat_len (cl : List Int) : (cl.flatMap encL).length ≤ 3 * cl.length := by
  induction cl with
  | nil => simp
  | cons c r ih =>
    have := encL_length c
    rw [List.flatMap_cons, List.length_append, List.length_cons]
    omega
theorem rows_len (s : Scr) (k : Nat) : (rowsL s k).length ≤ k * (3 * s.wd.toNat + 1) := by
  induction k with
  | zero => simp [rowsL]
  | succ k ih =>
    rw [rowsL_succ]
    have := flat_len (rowChars s (k : Int))
    rw [rowChars_length] at this
    rw [Nat.add_mul, Nat.one_mul, List.length_append, List.length_append, List.length_singleton]
    omega
def vtText (t : VtS) : ByteArray := if vtCode t = 0 then strOfNums (rowsL t.s t.s.r.toNat) else ⟨#[]⟩
theorem vt_scr {t : VtS} (h : vtCode t = 0) : scrCode t.s = 0 := by
  by_cases h1 : dfault t.l t.lo t.v = 0
  · by_cases h2 : parCode t.md t.st t.pv t.ns = 0
    · rw [vtCode_scr h1 h2] at h; exact h
    · rw [vtCode_par h1 h2] at h; exact absurd h h2
  · rw [vtCode_dec h1] at h; exact absurd h h1
set_option maxHeartbeats 4000000 in
theorem l6Text_o (t : VtS) (u v1 v2 v3 v4 : Value) (b ob : Nat) (w : World) (hc : scrCode t.s = 0) (hB : Seg w b ob (vtA t u v1 v2 v3 v4)) (hcap : Capped v1) (h1 : PRead w v1 t.s.cs) :
    Calls Try.prog 58 #[.pointer (some ⟨b, ob, none⟩)] w fun e w' => e = .returned (.string (strOfNums (rowsL t.s t.s.r.toNat))) ∧ Below w.heap.size w w' := by
  have hF := gfine_of_code (grid_of_scr hc)
  obtain ⟨R, m, eR, eW, n1, n2, n3, n4, n5, n6, n7, n8, n9, n10⟩ := hF.nats
  have hR : t.s.r.toNat = R := by omega
  rw [hR]
  clear hR n5 n6 n7 n8 n9 n10 hF
  go_enter Try.func58, Try.ntmps58
  go_wp2
  go_loopw [3, 4] (fun v i wr => ∃ k : Nat, k ≤ R ∧ i = .int .i64 k ∧ v = .string (strOfNums (rowsL t.s k)) ∧ Below w.heap.size w wr) (fun _ i _ => R - (intOf i).toNat)
  case atStart => exact ⟨0, Nat.zero_le _, rfl, rfl, Below.refl _ _⟩
  case round =>
    obtain ⟨k, hk, rfl, rfl, hb⟩ := hrel
    have hBr := hB.belowb hb
    have hP := h1.below hb
    have c7 := hBr.at 7 (vtA_7 t u v1 v2 v3 v4)
    rw [eR] at c7
    have hsz := hb.size
    by_cases hlt : k < R
    · have hltI : (k : Int) < (R : Int) := by omega
      have hlen := rows_len t.s k
      have hl2 := flat_len (rowChars t.s (k : Int))
      rw [rowChars_length] at hl2
      have hq : k * (3 * t.s.wd.toNat + 1) ≤ 6 * 37 := Nat.mul_le_mul (by omega) (by omega)
      obtain ⟨x, hx⟩ : ∃ x, strOfNums (rowsL t.s k) = x := ⟨_, rfl⟩
      obtain ⟨y, hy⟩ : ∃ y, strOfNums ((rowChars t.s (k : Int)).flatMap encL) = y := ⟨_, rfl⟩
      have hxs : x.size ≤ 1000 := by rw [← hx, strOfNums_size]; omega
      have hys : y.size ≤ 1000 := by rw [← hy, strOfNums_size]; omega
      have hz : x ++ y ++ ⟨#[10]⟩ = strOfNums (rowsL t.s (k + 1)) := by rw [← hx, ← hy]; exact str_rows t.s k
      rw [hx]
      have HX := hide hx
      have HZ := hide hz
      have HL := hide eR
      have HW := hide eW
      clear hx hz hlen hl2 hq eW
      have HC := fun (w2 : World) (b2 : Below wr.heap.size wr w2) => l5Text_o t.s v1 v2 v3 v4 (k : Int) b (ob + 7) w2 hc (by unfold rowOk; have := HL.out; simp; omega) ((hBr.belowb b2).part 7 rfl (vtA_scr t u v1 v2 v3 v4)) hcap (hP.below b2)
      rw [hy] at HC
      clear hy eR
      go_wp2_with (first | fail)
      go_at_call 51
      refine (HC _ (by first | exact Below.refl _ _ | exact (by repeat' (first | with_reducible exact Below.refl _ _ | with_reducible assumption | with_reducible refine Below.drew ?_ | with_reducible refine Below.alloc ?_ ?_ _ | with_reducible refine Below.setCell ?_ ?_ _ | (simp; done) | (simp; omega) | omega)))).mono ?_
      clear HC
      rintro e w3 ⟨rfl, hb3⟩
      have hb4 := hb.trans (hb3.mono hsz)
      clear hb3
      go_wp2
      go_roundw
      case rel => exact ⟨k + 1, by omega, by go_num, by rw [← HZ.out], hb4⟩
      case measure => simp [intOf]; omega
    · obtain rfl : k = R := by omega
      go_wp2
      go_ret
      exact ⟨rfl, hb⟩
end Go.Proofs.Ytknkbihjboadjaa
