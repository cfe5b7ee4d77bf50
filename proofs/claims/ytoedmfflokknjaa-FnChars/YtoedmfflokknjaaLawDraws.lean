/-
  The draws of the laws FnBytes and FnChars: DrawStepDecoder, DrawEncodeChar, DrawEndDecoder; lwBig, lwNums.
-/
import Derived.Test.YtoedmfflokknjaaRows
import Derived.Test.YtoedmfflokknjaaDraws3
import Derived.Test.YtoedmfflokknjaaEnds
import Derived.Test.YtoedmfflokknjaaStepRes2
namespace Go.Proofs.Ytoedmfflokknjaa
open Go.ChangeShapes Go.WideShapes Go.ChangeAt Go.RowKit
set_option linter.unusedVariables false
set_option linter.unusedSimpArgs false

set_option maxHeartbeats 400000 in
theorem lwNums_calls (xs : List Int) (v1 v2 : Value) (w : World) (hn : xs.length ≤ 1000000000) (h1 : ReadAt .i64 w v1 xs) (h2 : ReadAt .i64 w v2 xs) :
    Calls Try.prog 13 #[v1, v2] w fun e w' => e = .returned (.bool true) ∧ ∃ n, w' = w.drewN n := by
  obtain ⟨a1, c1, rfl, h1⟩ := h1
  obtain ⟨a2, c2, rfl, h2⟩ := h2
  have hne : ((xs.length : Int) != (xs.length : Int)) = false := by simp
  go_enter Try.func13, Try.ntmps13
  go_wp2
  go_loopw [5] (fun i wr => ∃ k : Nat, k ≤ xs.length ∧ i = .int .i64 k ∧ ∃ n, wr = w.drewN n) (fun i _ => xs.length - (intOf i).toNat)
  case atStart => exact ⟨0, Nat.zero_le _, rfl, 0, rfl⟩
  case round =>
    obtain ⟨k, hk, rfl, n, rfl⟩ := hrel
    by_cases hlt : k < xs.length
    · have hpos : xs ≠ [] := by intro h; rw [h] at hlt; simp at hlt
      rcases h1 with h1 | ⟨b1, o1, rfl, h1⟩
      · exact absurd h1 hpos
      rcases h2 with h2 | ⟨b2, o2, rfl, h2⟩
      · exact absurd h2 hpos
      have g1 := h1 k hlt
      have g2 := h2 k hlt
      clear h1 h2 hpos
      have hltI : (k : Int) < (xs.length : Int) := by omega
      go_wp2_with fail
      go_quiet (fail)
      have hne2 : ((xs.getD k 0 : Int) != xs.getD k 0) = false := by simp
      go_wp2
      go_roundw
      case rel => exact ⟨k + 1, by omega, by go_num, _, rfl⟩
      case measure => simp [intOf]; omega
    · go_wp2
      go_ret
      exact ⟨rfl, _, rfl⟩

theorem lwNums_below (xs : List Int) (v1 v2 : Value) (w : World) (hn : xs.length ≤ 1000000000) (h1 : ReadAt .i64 w v1 xs) (h2 : ReadAt .i64 w v2 xs) :
    Calls Try.prog 13 #[v1, v2] w fun e w' => e = .returned (.bool true) ∧ Below w.heap.size w w' :=
  (lwNums_calls xs v1 v2 w hn h1 h2).mono fun e w' ⟨he, n, hw⟩ => ⟨he, by rw [hw]; exact below_drewN (Below.refl _ _) n⟩

theorem src_new {w : World} {v : Value} {t : TypeId} : Src w (w.alloc (.cells #[v, .int .i64 0] t)) w.heap.size v 0 :=
  ⟨by simp, by simp, fun o => by simp, (Below.refl _ _).alloc (Nat.le_refl _) _, Nat.le_refl _⟩
/-- A source that lies behind what was there: of that nothing has turned. -/
theorem below_of_src {w0 w : World} {B : Nat} {code : Value} {p : Int} (h : Src w0 w B code p) : Below w0.heap.size w0 w := h.old

set_option maxHeartbeats 1000000 in
theorem drawEnd_calls (zs : List Int) (a : Option Addr) (cap : Nat) (w : World) (hv : ReadAt .u8 w (.slice a zs.length cap) zs) (hz : ∀ z ∈ zs, 0 ≤ z ∧ z ≤ 255) (hlen : zs.length ≤ 1048576) :
    Calls Try.prog 20 #[.slice a zs.length cap] w fun e w' => ∃ l lo v, e = .returned (.agg #[.int .i64 l, .int .i64 lo, .int .i64 v]) ∧ Below w.heap.size w w' := by
  have HZ := hide hz
  clear hz
  go_enter Try.func20, Try.ntmps20
  go_wp2_with fail
  have q0 : Below w.heap.size w (w.alloc (.cells #[.int .i64 0, .int .i64 0, .int .i64 0] 25)) := (by repeat' (first | with_reducible exact Below.refl _ _ | with_reducible assumption | with_reducible refine Below.drew ?_ | with_reducible refine Below.alloc ?_ ?_ _ | with_reducible refine Below.setCell ?_ ?_ _ | (simp; done) | (simp; omega) | omega))
  refine (l1Source_calls (.slice a zs.length cap) _ _ _ _).mono ?_
  rintro e w' ⟨rfl, hw⟩
  rw [hw]
  clear hw w'
  go_wp2_with fail
  have q1 : Below w.heap.size w ((w.alloc (.cells #[.int .i64 0, .int .i64 0, .int .i64 0] 25)).alloc (.cells #[.slice a zs.length cap, .int .i64 0] 72)) := (by repeat' (first | with_reducible exact Below.refl _ _ | with_reducible assumption | with_reducible refine Below.drew ?_ | with_reducible refine Below.alloc ?_ ?_ _ | with_reducible refine Below.setCell ?_ ?_ _ | (simp; done) | (simp; omega) | omega))
  have s0 : Src w ((w.alloc (.cells #[.int .i64 0, .int .i64 0, .int .i64 0] 25)).alloc (.cells #[.slice a zs.length cap, .int .i64 0] 72)) (w.heap.size + 1) (.slice a zs.length cap) 0 :=
    ⟨by simp, by simp, fun o => by simp, q1, by omega⟩
  refine (l1Draw_calls zs a cap (w.heap.size + 1) 0 w _ hv HZ.out hlen s0 (by omega) (by omega)).mono ?_
  rintro e w2 ⟨l, lo, v, p', rfl, hp0, hp1, s2, x2⟩
  have f0 : w2.cell? ⟨w.heap.size, 0, none⟩ = some (.int .i64 0) := x2.cellx (by omega) (by simp)
  have f1 : w2.cell? ⟨w.heap.size, 1, none⟩ = some (.int .i64 0) := x2.cellx (by omega) (by simp)
  have f2 : w2.cell? ⟨w.heap.size, 2, none⟩ = some (.int .i64 0) := x2.cellx (by omega) (by simp)
  have f3 : ∀ o, w2.frozen? ⟨w.heap.size, o, none⟩ = false := fun o => (x2.frozenx (by simp; omega) (by omega) o).trans (by simp)
  have q2 := s2.old
  clear s2 x2 s0 q0 q1
  go_wp2
  exact bodyPost_ret (v := .agg #[.int .i64 l, .int .i64 lo, .int .i64 v]) (by simp [results, Try.results20, go_sem, f0, f1, f2]) rfl ⟨l, lo, v, rfl, (by repeat' (first | with_reducible exact Below.refl _ _ | with_reducible assumption | with_reducible refine Below.drew ?_ | with_reducible refine Below.alloc ?_ ?_ _ | with_reducible refine Below.setCell ?_ ?_ _ | (simp; done) | (simp; omega) | omega))⟩

set_option maxHeartbeats 1000000 in
theorem drawChar_calls (zs : List Int) (a : Option Addr) (cap : Nat) (w : World) (hv : ReadAt .u8 w (.slice a zs.length cap) zs) (hz : ∀ z ∈ zs, 0 ≤ z ∧ z ≤ 255) (hlen : zs.length ≤ 1048576) :
    Calls Try.prog 19 #[.slice a zs.length cap] w fun e w' => ∃ c, e = .returned (.int .i64 c) ∧ Below w.heap.size w w' := by
  have HZ := hide hz
  clear hz
  go_enter Try.func19, Try.ntmps19
  go_wp2_with fail
  refine (l1Source_calls (.slice a zs.length cap) _ _ _ _).mono ?_
  rintro e w' ⟨rfl, hw⟩
  rw [hw]
  clear hw w'
  go_wp2_with fail
  refine (l1Next_calls zs a cap w.heap.size 0 300 w _ hv HZ.out hlen src_new (by omega) (by omega) (by omega) (by omega)).mono ?_
  rintro e w1 ⟨r, rfl, hr0, hr1, hs1, hw1⟩
  clear hw1
  go_wp2_with fail
  refine (l1Pick_calls zs [r, 127, 128, 2047, 2048, 55295, 55296, 57343, 57344, 65535, 65536, -1] a cap w.heap.size w1.heap.size 12 12 _ w _ hv HZ.out hlen (hs1.alloc _) (by omega) (by omega) rfl (by omega) (by omega) (.inr hs1.lt) (new_ints rfl)).mono ?_
  rintro e w2 ⟨x, rfl, hx, hs2, hw2⟩
  have q2 := hs2.old
  clear hs2 hw2 hs1 hx
  go_wp2
  go_ret
  exact ⟨x, rfl, q2⟩

set_option maxHeartbeats 1000000 in
theorem drawStep_calls (zs : List Int) (a : Option Addr) (cap : Nat) (w : World) (hv : ReadAt .u8 w (.slice a zs.length cap) zs) (hz : ∀ z ∈ zs, 0 ≤ z ∧ z ≤ 255) (hlen : zs.length ≤ 1048576) :
    Calls Try.prog 15 #[.slice a zs.length cap] w fun e w' => ∃ l lo v b, e = .returned (.tuple #[.agg #[.int .i64 l, .int .i64 lo, .int .i64 v], .int .u8 b]) ∧ 0 ≤ b ∧ b ≤ 255 ∧ Below w.heap.size w w' := by
  have HZ := hide hz
  clear hz
  go_enter Try.func15, Try.ntmps15
  go_wp2_with fail
  refine (l1Source_calls (.slice a zs.length cap) _ _ _ _).mono ?_
  rintro e w' ⟨rfl, hw⟩
  rw [hw]
  clear hw w'
  go_wp2_with fail
  have q1 : Below w.heap.size w ((w.alloc (.cells #[.int .i64 0, .int .i64 0, .int .i64 0] 25)).alloc (.cells #[.slice a zs.length cap, .int .i64 0] 72)) := (by repeat' (first | with_reducible exact Below.refl _ _ | with_reducible assumption | with_reducible refine Below.drew ?_ | with_reducible refine Below.alloc ?_ ?_ _ | with_reducible refine Below.setCell ?_ ?_ _ | (simp; done) | (simp; omega) | omega))
  have s0 : Src w ((w.alloc (.cells #[.int .i64 0, .int .i64 0, .int .i64 0] 25)).alloc (.cells #[.slice a zs.length cap, .int .i64 0] 72)) (w.heap.size + 1) (.slice a zs.length cap) 0 :=
    ⟨by simp, by simp, fun o => by simp, q1, by omega⟩
  refine (l1Draw_calls zs a cap (w.heap.size + 1) 0 w _ hv HZ.out hlen s0 (by omega) (by omega)).mono ?_
  rintro e w2 ⟨l, lo, v, p', rfl, hp0, hp1, s2, x2⟩
  have f0 : w2.cell? ⟨w.heap.size, 0, none⟩ = some (.int .i64 0) := x2.cellx (by omega) (by simp)
  have f1 : w2.cell? ⟨w.heap.size, 1, none⟩ = some (.int .i64 0) := x2.cellx (by omega) (by simp)
  have f2 : w2.cell? ⟨w.heap.size, 2, none⟩ = some (.int .i64 0) := x2.cellx (by omega) (by simp)
  have f3 : ∀ o, w2.frozen? ⟨w.heap.size, o, none⟩ = false := fun o => (x2.frozenx (by simp; omega) (by omega) o).trans (by simp)
  have z2 : w.heap.size < w2.heap.size := lt_of_cell f0
  clear x2 s0 q1
  go_wp2_with fail
  refine (l1Next_calls zs a cap (w.heap.size + 1) p' 256 w _ hv HZ.out hlen s2 (by omega) (by omega) (by omega) (by omega)).mono ?_
  rintro e w3 ⟨r, rfl, hr0, hr1, s3, x3⟩
  replace f0 := x3.cellx (by omega) f0
  replace f1 := x3.cellx (by omega) f1
  replace f2 := x3.cellx (by omega) f2
  replace f3 : ∀ o, w3.frozen? ⟨w.heap.size, o, none⟩ = false := fun o => (x3.frozenx z2 (by omega) o).trans (f3 o)
  clear s2 x3 z2
  have z3 : w.heap.size < w3.heap.size := lt_of_cell f0
  go_wp2_with fail
  refine (l1Pick_calls zs [r, 128, 191, 192, 193, 223, 224, 239, 240] a cap (w.heap.size + 1) w3.heap.size 9 9 _ w _ hv HZ.out hlen (s3.alloc _) (by omega) (by omega) rfl (by omega) (by omega) (.inr s3.lt) (new_ints rfl)).mono ?_
  rintro e w4 ⟨x, rfl, hx, s4, x4⟩
  have e0 : w4.cell? ⟨w.heap.size, 0, none⟩ = some (.int .i64 0) := x4.cellx (by omega) (cellb ((Below.refl _ _).alloc (Nat.le_refl _) _) f0)
  have e1 : w4.cell? ⟨w.heap.size, 1, none⟩ = some (.int .i64 0) := x4.cellx (by omega) (cellb ((Below.refl _ _).alloc (Nat.le_refl _) _) f1)
  have e2 : w4.cell? ⟨w.heap.size, 2, none⟩ = some (.int .i64 0) := x4.cellx (by omega) (cellb ((Below.refl _ _).alloc (Nat.le_refl _) _) f2)
  have e3 : ∀ o, w4.frozen? ⟨w.heap.size, o, none⟩ = false := fun o => (x4.frozenx (by simp; omega) (by omega) o).trans ((((Below.refl w3.heap.size w3).alloc (Nat.le_refl _) _).frozen (p := ⟨w.heap.size, o, none⟩) z3).trans (f3 o))
  have q4 := s4.old
  have hx256 : 0 ≤ x % 256 ∧ x % 256 ≤ 255 := by omega
  clear x4 s4 s3 f0 f1 f2 f3 hx
  go_wp2
  exact bodyPost_ret (v := .tuple #[.agg #[.int .i64 l, .int .i64 lo, .int .i64 v], .int .u8 (x % 256)]) (by simp [results, Try.results15, go_sem, e0, e1, e2]) rfl ⟨l, lo, v, _, rfl, hx256.1, hx256.2, (by repeat' (first | with_reducible exact Below.refl _ _ | with_reducible assumption | with_reducible refine Below.drew ?_ | with_reducible refine Below.alloc ?_ ?_ _ | with_reducible refine Below.setCell ?_ ?_ _ | (simp; done) | (simp; omega) | omega))⟩

end Go.Proofs.Ytoedmfflokknjaa
