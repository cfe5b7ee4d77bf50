/-
  The draws of the law FnChars: l1Chars, DrawEncodeAll, DrawDecodeMany; lwAt.
-/
import Derived.Test.YtoedmfflokknjaaRows
import Derived.Test.YtoedmfflokknjaaLawDraws
import Derived.Deep.RegionHeld3
import Derived.Deep.QuietTactic
import Derived.BigQuiet
namespace Go.Proofs.Ytoedmfflokknjaa
open Go.ChangeShapes Go.WideShapes Go.ChangeAt Go.RowKit
set_option linter.unusedVariables false
set_option linter.unusedSimpArgs false

set_option maxHeartbeats 2000000 in
theorem l1Chars_calls (zs : List Int) (a : Option Addr) (cap B : Nat) (p : Int) (w0 w : World) (hv : ReadAt .u8 w0 (.slice a zs.length cap) zs) (hz : ∀ z ∈ zs, 0 ≤ z ∧ z ≤ 255) (hlen : zs.length ≤ 1048576) (hs : Src w0 w B (.slice a zs.length cap) p) (hp0 : 0 ≤ p) (hp1 : p ≤ 900000) :
    Calls Try.prog 34 #[.pointer (some ⟨B, 0, none⟩)] w fun e w' => ∃ v ys p', e = .returned v ∧ ys.length ≤ 5 ∧ w'.ownsRow w.heap.size 2 1 v ys.length (intVs ys) ∧ p ≤ p' ∧ p' ≤ p + 10 ∧ Src w0 w' B (.slice a zs.length cap) p' ∧ Within B (B + 1) w w' := by
  have HZ := hide hz
  clear hz
  obtain ⟨i0, hi, hz0, hz1, hz2⟩ := info_parts info_i64
  have hBlt := hs.lt
  have hBw0 := hs.hB
  go_enter Try.func34, Try.ntmps34
  go_wp2_with fail
  have own0 : (w.alloc (.cells #[] 2)).ownsRow w.heap.size 2 1 (.slice (some ⟨w.heap.size, 0, none⟩) 0 0) 0 (intVs []) := World.ownsRow_lit (base := w.heap.size) (e := 2) (size := 1) w #[] 0 (Nat.le_refl _) (by simp) rfl
  refine (l1Next_calls zs a cap B p 6 w0 _ hv HZ.out hlen (hs.alloc _) (by omega) (by omega) (by omega) (by omega)).mono ?_
  rintro e w1 ⟨r, rfl, hr0, hr1, hs1, hw1⟩
  obtain ⟨n, rfl⟩ := Int.eq_ofNat_of_zero_le hr0
  have own1 := own_within own0 hw1 (by omega)
  have x1 := ((Within.refl B (B + 1) w).alloc (.cells #[] 2)).trans hw1
  clear own0 hw1 hs
  go_wp2_with fail
  go_loopw [4, 3] (fun t o wr => ∃ (k : Nat) (ys : List Int), k ≤ n ∧ t = .int .i64 k ∧ ys.length = n - k ∧ wr.ownsRow w.heap.size 2 1 o (n - k) (intVs ys) ∧ Src w0 wr B (.slice a zs.length cap) (p + 1 + (n - k)) ∧ Within B (B + 1) w wr) (fun t _ _ => (intOf t).toNat)
  case atStart =>
    refine ⟨n, [], Nat.le_refl _, rfl, by simp, ?_, ?_, x1⟩
    · simpa using own1
    · simpa using hs1
  case round =>
    obtain ⟨k, ys, hkn, rfl, hyl, hown, hsr, hwr⟩ := hrel
    clear own1 hs1 x1
    by_cases hk : 0 < k
    · obtain ⟨j, rfl⟩ : ∃ j, k = j + 1 := ⟨k - 1, by omega⟩
      have hkI : (0 : Int) < ((j + 1 : Nat) : Int) := by omega
      go_wp2_with fail
      refine (l1Pick_calls zs [97, 228, 8364, 127, 128, 2047, 2048, 65535, 10] a cap B wr.heap.size 9 9 _ w0 _ hv HZ.out hlen (hsr.alloc _) (by omega) (by omega) rfl (by omega) (by omega) (.inr hsr.lt) (new_ints rfl)).mono ?_
      rintro e w2 ⟨x, rfl, hx, hs2, hw2⟩
      have own2 := own_within (hown.alloc _) hw2 (by omega)
      have x2 := (hwr.alloc _).trans hw2
      have hsz : w.heap.size ≤ w2.heap.size := x2.size
      clear hsr hown hwr hw2 hx
      go_wp2_with (at_builtin; refine wpList_append_grow _ rfl (.tmp 12) (.tmp 16) 28 rfl w.heap.size 2 i0 (.int .i64 0) 1 8 Try.underlying28 hi hz0 hz1 hz2 rfl (by decide) _ _ _ rfl (own2.alloc _) ⟨w2.heap.size, 0, none⟩ 1 1 (intVs [x]) rfl rfl (new_row_at rfl rfl) (ints_one_cell _ _) (by unfold maxLen; omega) (by omega) (by simp; omega) ?_)
      intro o' w4 hown4 hgrow
      have hs4 := (hs2.alloc _).grow hgrow (fun h => by have := (own2.lt _ h.symm).1; omega) (fun q hq => by have := (own2.lt q hq).1; omega)
      have x4 := (x2.alloc _).grow hgrow (fun q hq => (own2.lt q hq).1)
      clear hs2 own2 x2 hgrow
      go_wp2
      go_roundw
      case rel =>
        refine ⟨j, ys ++ [x], by omega, by go_num, ?_, ?_, ?_, x4⟩
        · rw [List.length_append, hyl]; simp; omega
        · rw [intVs_append, show n - j = n - (j + 1) + 1 from by omega]; exact hown4
        · rw [show p + 1 + ((n : Int) - (j : Int)) = p + 1 + ((n : Int) - ((j + 1 : Nat) : Int)) + 1 from by omega]; exact hs4
      case measure => simp [intOf]
    · have hk0 : k = 0 := by omega
      subst hk0
      go_wp2
      go_ret
      refine ⟨_, ys, _, rfl, by omega, ?_, ?_, ?_, hsr, hwr⟩
      · rw [hyl]; exact hown
      · omega
      · omega

set_option maxHeartbeats 2000000 in
theorem lwAt_calls (zs : List Int) (a : Option Addr) (cap : Nat) (n : Nat) (i : Int) (w : World) (hi0 : 0 ≤ i) (hi1 : i ≤ 10) (hv : ReadAt .u8 w (.slice a zs.length cap) zs) (hz : ∀ z ∈ zs, 0 ≤ z ∧ z ≤ 255) (hlen : zs.length ≤ 1048576) (hn0 : 1 ≤ n) (hn : n ≤ 100000) :
    Calls Try.prog 9 #[.slice a zs.length cap, .int .i64 i, .int .i64 n] w fun e w' => ∃ r : Nat, e = .returned (.int .i64 r) ∧ r < n ∧ ∃ q, w' = w.drewN q := by
  by_cases h1 : n = 1
  · subst h1
    go_enter Try.func9, Try.ntmps9
    go_wp2
    go_ret
    exact ⟨0, rfl, by omega, 0, rfl⟩
  have hnI : (1 : Int) < (n : Int) := by omega
  by_cases hk : zs.length = 0
  · have hk0 : ((zs.length : Int) == 0) = true := by rw [beq_iff_eq]; omega
    go_enter Try.func9, Try.ntmps9
    go_wp2
    go_ret
    have e0 : 0 ≤ (i * 7) % (n : Int) := Int.emod_nonneg _ (by omega)
    have e1 : (i * 7) % (n : Int) < (n : Int) := Int.emod_lt_of_pos _ (by omega)
    exact ⟨((i * 7) % (n : Int)).toNat, ret_int (by omega), by omega, 0, rfl⟩
  · have hk0 : ((zs.length : Int) == 0) = false := beq_eq_false_iff_ne.2 (by omega)
    have hkp : (0 : Int) < (zs.length : Int) := by omega
    have i0 : 0 ≤ i % (zs.length : Int) := Int.emod_nonneg _ (by omega)
    have i1 : i % (zs.length : Int) < (zs.length : Int) := Int.emod_lt_of_pos _ hkp
    have j0 : 0 ≤ (i + 1) % (zs.length : Int) := Int.emod_nonneg _ (by omega)
    have j1 : (i + 1) % (zs.length : Int) < (zs.length : Int) := Int.emod_lt_of_pos _ hkp
    have q0 : 0 ≤ i / (zs.length : Int) := Int.ediv_nonneg (by omega) (by omega)
    have q1 : i / (zs.length : Int) ≤ i := Int.ediv_le_self _ (by omega)
    obtain ⟨b1, o1, rfl, g0⟩ := hv.spot (i % (zs.length : Int)).toNat (by omega)
    obtain ⟨b2, o2, e2, g1⟩ := hv.spot ((i + 1) % (zs.length : Int)).toNat (by omega)
    injection e2 with e2
    injection e2 with e3 e4
    subst e3 e4
    have bz := hz (zs.getD (i % (zs.length : Int)).toNat 0) (getD_mem (by omega))
    have bz2 := hz (zs.getD ((i + 1) % (zs.length : Int)).toNat 0) (getD_mem (by omega))
    generalize zs.getD (i % (zs.length : Int)).toNat 0 = z1 at *
    generalize zs.getD ((i + 1) % (zs.length : Int)).toNat 0 = z2 at *
    obtain ⟨bz0, bz1⟩ := bz
    obtain ⟨by0, by1⟩ := bz2
    clear hz hv
    by_cases hn2 : 200 < n
    · have hn2I : (200 : Int) < (n : Int) := by omega
      go_enter Try.func9, Try.ntmps9
      go_wp2_with fail
      go_quiet (fail)
      go_wp2
      go_ret
      refine ⟨Int.toNat _, ret_int (Int.toNat_of_nonneg ?_).symm, ?_, _, rfl⟩
      · exact Int.emod_nonneg _ (by omega)
      · have := Int.emod_lt_of_pos ((z1 + i / (zs.length : Int) * 3) * 251 + z2) (show (0 : Int) < (n : Int) by omega)
        have h0 := Int.emod_nonneg ((z1 + i / (zs.length : Int) * 3) * 251 + z2) (show (n : Int) ≠ 0 by omega)
        omega
    · have hn2I : ¬ ((200 : Int) < (n : Int)) := by omega
      go_enter Try.func9, Try.ntmps9
      go_wp2_with fail
      go_quiet (fail)
      go_wp2
      go_ret
      refine ⟨Int.toNat _, ret_int (Int.toNat_of_nonneg ?_).symm, ?_, _, rfl⟩
      · exact Int.emod_nonneg _ (by omega)
      · have := Int.emod_lt_of_pos (z1 + i / (zs.length : Int) * 3) (show (0 : Int) < (n : Int) by omega)
        have h0 := Int.emod_nonneg (z1 + i / (zs.length : Int) * 3) (show (n : Int) ≠ 0 by omega)
        omega

end Go.Proofs.Ytoedmfflokknjaa
