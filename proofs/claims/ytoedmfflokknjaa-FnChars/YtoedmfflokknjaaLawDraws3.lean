/-
  The draws of the law FnChars: DrawEncodeAll, DrawDecodeMany.
-/
import Derived.Test.YtoedmfflokknjaaRows
import Derived.Test.YtoedmfflokknjaaLawDraws2
import Derived.Deep.RegionWith
namespace Go.Proofs.Ytoedmfflokknjaa
open Go.ChangeShapes Go.WideShapes Go.ChangeAt Go.RowKit
set_option linter.unusedVariables false
set_option linter.unusedSimpArgs false

theorem made_read {w : World} {base n : Nat} {e : TypeId} {k : IntKind} {v : Value} (h : w.ownsRow base e 1 v n (madeCells (Value.int k 0).cells (n * 1)).toList) : ReadAt k w v (List.replicate n 0) := by
  have e1 : (madeCells (Value.int k 0).cells (n * 1)).toList = (List.replicate n (0 : Int)).map (Value.int k) := by
    apply List.ext_getElem?
    intro i
    simp [madeCells, Value.cells]
    by_cases hi : i < n
    · simp [hi, Nat.mod_one]
    · simp [hi]
  rw [e1] at h
  exact (own_ints h (Nat.le_refl _)).read

set_option maxHeartbeats 2000000 in
theorem drawAll_calls (zs : List Int) (a : Option Addr) (cap : Nat) (w : World) (hv : ReadAt .u8 w (.slice a zs.length cap) zs) (hz : ∀ z ∈ zs, 0 ≤ z ∧ z ≤ 255) (hlen : zs.length ≤ 1048576) :
    Calls Try.prog 10 #[.slice a zs.length cap] w fun e w' => ∃ v ys, e = .returned v ∧ ys.length ≤ 401 ∧ ReadAt .i64 w' v ys ∧ Below w.heap.size w w' := by
  have HZ := hide hz
  clear hz
  obtain ⟨i0, hi, hz0, hz1, hz2⟩ := info_parts info_i64
  go_enter Try.func10, Try.ntmps10
  go_wp2_with fail
  refine (l1Source_calls (.slice a zs.length cap) _ _ _ _).mono ?_
  rintro e w' ⟨rfl, hw⟩
  rw [hw]
  clear hw w'
  go_wp2_with fail
  refine (l1Chars_calls zs a cap w.heap.size 0 w _ hv HZ.out hlen src_new (by omega) (by omega)).mono ?_
  rintro e w1 ⟨o, ys, p', rfl, hyl, hown, hp0, hp1, hs1, hw1⟩
  have hz1' : w.heap.size + 1 ≤ w1.heap.size := by have := hw1.size; simp at this; omega
  rw [show (w.alloc (.cells #[.slice a zs.length cap, .int .i64 0] 72)).heap.size = w.heap.size + 1 from by simp] at hown
  clear hw1
  go_wp2_with fail
  refine (l1Next_calls zs a cap w.heap.size p' 12 w _ hv HZ.out hlen hs1 (by omega) (by omega) (by omega) (by omega)).mono ?_
  rintro e w2 ⟨r, rfl, hr0, hr1, hs2, hw2⟩
  have own2 := own_within hown hw2 (Nat.le_refl _)
  have z2 : w.heap.size + 1 ≤ w2.heap.size := Nat.le_trans hz1' hw2.size
  clear hown hw2 hs1
  by_cases c0 : r = 0
  · subst c0
    go_wp2_with fail
    refine (l1Pick_calls zs [-1, 55296] a cap w.heap.size w2.heap.size 2 2 _ w _ hv HZ.out hlen (hs2.alloc _) (by omega) (by omega) rfl (by omega) (by omega) (.inr hs2.lt) (new_ints rfl)).mono ?_
    rintro e w3 ⟨x, rfl, hx, hs3, hw3⟩
    have own3 := own_within (own2.alloc _) hw3 (Nat.le_refl _)
    have z3 : w.heap.size + 1 ≤ w3.heap.size := by have := hw3.size; simp at this; omega
    clear own2 hw3 hx hs2
    go_wp2_with (at_builtin; refine wpList_append_grow _ rfl (.tmp 13) (.tmp 17) 28 rfl (w.heap.size + 1) 2 i0 (.int .i64 0) 1 8 Try.underlying28 hi hz0 hz1 hz2 rfl (by decide) _ _ _ rfl (own3.alloc _) ⟨w3.heap.size, 0, none⟩ 1 1 (intVs [x]) rfl rfl (new_row_at rfl rfl) (ints_one_cell _ _) (by unfold maxLen; omega) (by omega) (by simp; omega) ?_)
    intro o' w4 hown4 hgrow
    have q4 : Below w.heap.size w w4 := ((hs3.alloc _).grow hgrow (fun h => by have := (own3.lt _ h.symm).1; omega) (fun q hq => by have := (own3.lt q hq).1; omega)).old
    have hx4 : ReadAt .i64 w4 o' (ys ++ [x]) := (own_ints (by rw [← intVs_append] at hown4; exact hown4) (Nat.le_refl _)).read
    clear hgrow hown4 own3 hs3
    go_wp2
    go_ret
    exact ⟨o', ys ++ [x], rfl, by simp; omega, hx4, q4⟩
  by_cases c1 : r = 1
  · subst c1
    go_wp2_with (at_make; refine wpList_make_full _ rfl _ _ 28 rfl w2.heap.size 2 i0 (.int .i64 0) 1 Try.underlying28 hi hz0 hz1 .i64 .i64 _ _ 401 rfl rfl rfl rfl ?c1 ?c2 ?c3 ?_)
    case c1 => rw [hz2]; omega
    case c2 => unfold maxLen; omega
    case c3 => exact Nat.le_refl _
    intro w3 hown3 hgrow
    have q3 : Below w.heap.size w w3 := hs2.old.trans (((Below.refl w2.heap.size w2).grown hgrow (Nat.le_refl _) (fun k hk => by cases hk)).mono (by omega))
    have hx3 := made_read hown3
    clear hown3 hgrow
    go_wp2
    go_ret
    exact ⟨_, _, rfl, by rw [List.length_replicate]; omega, hx3, q3⟩
  · have c0' : (r == 0) = false := by simp [c0]
    have c1' : (r == 1) = false := by simp [c1]
    have q2 := hs2.old
    have hx2 : ReadAt .i64 w2 o ys := (own_ints own2 (Nat.le_refl _)).read
    clear c0 c1
    go_wp2
    go_ret
    exact ⟨o, ys, rfl, by omega, hx2, q2⟩

end Go.Proofs.Ytoedmfflokknjaa
