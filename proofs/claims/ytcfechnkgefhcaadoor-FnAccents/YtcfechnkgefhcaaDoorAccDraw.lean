/-
  The draws of accents: DrawComposeChar, DrawAccentChar.
-/
import Derived.Test.YtcfechnkgefhcaaDoorDrawsG
namespace Go.Proofs.YtcfechnkgefhcaaDoor
set_option maxRecDepth 20000
open Go.ChangeShapes Go.WideShapes Go.ChangeAt Go.RowKit
set_option linter.unusedVariables false
set_option linter.unusedSimpArgs false
set_option maxRecDepth 20000

set_option maxHeartbeats 4000000 in
theorem drawComp_calls (zs : List Int) (a : Option Addr) (cap : Nat) (w : World) (hv : ReadAt .u8 w (.slice a zs.length cap) zs) (hz : ∀ z ∈ zs, 0 ≤ z ∧ z ≤ 255) (hlen : zs.length ≤ 1048576) :
    Calls Tryd.prog 21 #[.slice a zs.length cap] w fun e w' => ∃ (t c : Int), e = .returned (.tuple #[.int .i64 t, .int .i64 c]) ∧ Below w.heap.size w w' := by
  have HZ := hide hz
  clear hz
  go_enter Tryd.func21, Tryd.ntmps21
  go_wp2_with fail
  refine (l1Source_calls (.bool true) _ _ _ _).mono ?_
  rintro e w' ⟨rfl, hw⟩
  rw [hw]
  clear hw w'
  go_wp2_with fail
  have q0 : Below w.heap.size w (w.alloc (.cells #[.slice a zs.length cap, .int .i64 0] 101)) := (by repeat' (first | with_reducible exact Below.refl _ _ | with_reducible assumption | with_reducible refine Below.drew ?_ | with_reducible refine Below.alloc ?_ ?_ _ | with_reducible refine Below.setCell ?_ ?_ _ | (simp; done) | (simp; omega) | omega))
  have sc : Src w (w.alloc (.cells #[.slice a zs.length cap, .int .i64 0] 101)) (w.heap.size) (.slice a zs.length cap) 0 := ⟨by simp [go_sem], by simp [go_sem], fun o => by simp [go_sem], q0, by omega⟩
  have hsz : w.heap.size + 1 ≤ (w.alloc (.cells #[.slice a zs.length cap, .int .i64 0] 101)).heap.size := by simp; try omega
  clear q0
  try go_wp2_with fail
  have hbt : Below (w.alloc (.cells #[.slice a zs.length cap, .int .i64 0] 101)).heap.size (w.alloc (.cells #[.slice a zs.length cap, .int .i64 0] 101)) ((w.alloc (.cells #[.slice a zs.length cap, .int .i64 0] 101)).alloc (.cells #[.int .i64 1, .int .i64 2, .int .i64 3, .int .i64 0, .int .i64 4] 2)) := (Below.refl _ _).alloc (Nat.le_refl _) _
  have sat := sc.below hbt
  have hsa : w.heap.size + 1 ≤ ((w.alloc (.cells #[.slice a zs.length cap, .int .i64 0] 101)).alloc (.cells #[.int .i64 1, .int .i64 2, .int .i64 3, .int .i64 0, .int .i64 4] 2)).heap.size := Nat.le_trans hsz hbt.size
  have hnew0 : ∀ i, i < ([1, 2, 3, 0, 4] : List Int).length → ((w.alloc (.cells #[.slice a zs.length cap, .int .i64 0] 101)).alloc (.cells #[.int .i64 1, .int .i64 2, .int .i64 3, .int .i64 0, .int .i64 4] 2)).cell? ⟨w.heap.size + 1, i, none⟩ = some (.int .i64 (([1, 2, 3, 0, 4] : List Int).getD i 0)) := by
    intro i hi
    have h := new_ints (w := (w.alloc (.cells #[.slice a zs.length cap, .int .i64 0] 101))) (C := #[.int .i64 1, .int .i64 2, .int .i64 3, .int .i64 0, .int .i64 4]) (t := 2) (k := .i64) (xs := [1, 2, 3, 0, 4]) rfl i hi
    rw [show (w.alloc (.cells #[.slice a zs.length cap, .int .i64 0] 101)).heap.size = w.heap.size + 1 by simp] at h
    exact h
  refine (l1Pick_calls zs [1, 2, 3, 0, 4] a cap (w.heap.size) (w.heap.size + 1) 5 5 (0) w _ hv HZ.out hlen sat (by omega) (by omega) rfl (by omega) (by omega) (by omega) hnew0).mono ?_
  rintro e v1 ⟨t, rfl, _, st, xt⟩
  replace hsz : w.heap.size + 1 ≤ v1.heap.size := Nat.le_trans hsa xt.size
  clear xt sat hbt sc hsa
  try go_wp2_with fail
  have hbc : Below v1.heap.size v1 (v1.alloc (.cells #[.int .i64 97, .int .i64 101, .int .i64 111, .int .i64 117, .int .i64 65, .int .i64 85, .int .i64 120, .int .i64 55296] 2)) := (Below.refl _ _).alloc (Nat.le_refl _) _
  have sac := st.below hbc
  have hsa : w.heap.size + 1 ≤ (v1.alloc (.cells #[.int .i64 97, .int .i64 101, .int .i64 111, .int .i64 117, .int .i64 65, .int .i64 85, .int .i64 120, .int .i64 55296] 2)).heap.size := Nat.le_trans hsz hbc.size
  refine (l1Pick_calls zs [97, 101, 111, 117, 65, 85, 120, 55296] a cap (w.heap.size) v1.heap.size 8 8 (0 + 1) w _ hv HZ.out hlen sac (by omega) (by omega) rfl (by omega) (by omega) (by omega) (new_ints rfl)).mono ?_
  rintro e v2 ⟨c, rfl, _, sc, xc⟩
  replace hsz : w.heap.size + 1 ≤ v2.heap.size := Nat.le_trans hsa xc.size
  clear xc sac hbc st hsa
  have q9 := sc.old
  try go_wp2
  exact bodyPost_ret (v := .tuple #[.int .i64 t, .int .i64 c]) (by simp [results, Tryd.results21, go_sem]) rfl ⟨t, c, rfl, q9⟩

set_option maxHeartbeats 4000000 in
theorem drawAcc_calls (zs : List Int) (a : Option Addr) (cap : Nat) (w : World) (hv : ReadAt .u8 w (.slice a zs.length cap) zs) (hz : ∀ z ∈ zs, 0 ≤ z ∧ z ≤ 255) (hlen : zs.length ≤ 1048576) :
    Calls Tryd.prog 23 #[.slice a zs.length cap] w fun e w' => ∃ (k : Int), e = .returned (.int .i64 k) ∧ Below w.heap.size w w' := by
  have HZ := hide hz
  clear hz
  go_enter Tryd.func23, Tryd.ntmps23
  go_wp2_with fail
  refine (l1Source_calls (.bool true) _ _ _ _).mono ?_
  rintro e w' ⟨rfl, hw⟩
  rw [hw]
  clear hw w'
  go_wp2_with fail
  have q0 : Below w.heap.size w (w.alloc (.cells #[.slice a zs.length cap, .int .i64 0] 101)) := (by repeat' (first | with_reducible exact Below.refl _ _ | with_reducible assumption | with_reducible refine Below.drew ?_ | with_reducible refine Below.alloc ?_ ?_ _ | with_reducible refine Below.setCell ?_ ?_ _ | (simp; done) | (simp; omega) | omega))
  have sc : Src w (w.alloc (.cells #[.slice a zs.length cap, .int .i64 0] 101)) (w.heap.size) (.slice a zs.length cap) 0 := ⟨by simp [go_sem], by simp [go_sem], fun o => by simp [go_sem], q0, by omega⟩
  have hsz : w.heap.size + 1 ≤ (w.alloc (.cells #[.slice a zs.length cap, .int .i64 0] 101)).heap.size := by simp; try omega
  clear q0
  try go_wp2_with fail
  refine (l1Next_calls zs a cap (w.heap.size) (0) 5 w _ hv HZ.out hlen sc (by omega) (by omega) (by omega) (by omega)).mono ?_
  rintro e v1 ⟨k, rfl, hk0, hk1, sk, xk⟩
  replace hsz : w.heap.size + 1 ≤ v1.heap.size := Nat.le_trans hsz xk.size
  clear xk sc
  have q9 := sk.old
  try go_wp2
  go_ret
  exact ⟨k, rfl, q9⟩

end Go.Proofs.YtcfechnkgefhcaaDoor
