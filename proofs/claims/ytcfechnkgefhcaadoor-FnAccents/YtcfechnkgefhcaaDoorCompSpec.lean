/-
  Letters with accents, of the model: spec.l8Compose, ComposeChar.
-/
import Derived.Test.YtcfechnkgefhcaaDoorCompFns
namespace Go.Proofs.YtcfechnkgefhcaaDoor
set_option maxRecDepth 20000
open Go.ChangeShapes Go.WideShapes Go.ChangeAt Go.RowKit
set_option linter.unusedVariables false
set_option linter.unusedSimpArgs false
set_option maxRecDepth 20000

theorem aeo_at0 (w : World) : (Instr.index 9 (.string ⟨#[97, 101, 111]⟩) (.int .i64 0)).run Tryd.prog w = .ok (.int .u8 97) w := by kernel_rfl
theorem aeo_at1 (w : World) : (Instr.index 9 (.string ⟨#[97, 101, 111]⟩) (.int .i64 1)).run Tryd.prog w = .ok (.int .u8 101) w := by kernel_rfl
theorem aeo_at2 (w : World) : (Instr.index 9 (.string ⟨#[97, 101, 111]⟩) (.int .i64 2)).run Tryd.prog w = .ok (.int .u8 111) w := by kernel_rfl
theorem aou_at0 (w : World) : (Instr.index 9 (.string ⟨#[97, 111, 117]⟩) (.int .i64 0)).run Tryd.prog w = .ok (.int .u8 97) w := by kernel_rfl
theorem aou_at1 (w : World) : (Instr.index 9 (.string ⟨#[97, 111, 117]⟩) (.int .i64 1)).run Tryd.prog w = .ok (.int .u8 111) w := by kernel_rfl
theorem aou_at2 (w : World) : (Instr.index 9 (.string ⟨#[97, 111, 117]⟩) (.int .i64 2)).run Tryd.prog w = .ok (.int .u8 117) w := by kernel_rfl
set_option maxHeartbeats 4000000 in
theorem l8Low_calls (a c : Int) (w : World) (ha : accB a = true) (hc : ¬ (65 ≤ c ∧ c ≤ 90)) :
    Calls Tryd.prog 61 #[.int .i64 a, .int .i64 c] w fun e w' => e = .returned (.int .i64 (lowF c (lowT a))) ∧ Below w.heap.size w w' := by
  have hd : decide (65 ≤ c ∧ c ≤ 90) = false := decide_eq_false hc
  clear hc
  rcases acc_cases ha with rfl | rfl | rfl
  · generalize hres : lowF c (lowT 1) = res
    have H0 : Hid (lowF c [(97, 224), (101, 232), (111, 242)] = res) := hide (by rw [← hres]; rfl)
    clear hres
    go_enter Tryd.func61, Tryd.ntmps61
    go_wp2_with (go_at_call 59; refine (l1In_calls c 65 90 _).mono ?_; rintro e w' ⟨rfl, hw⟩; rw [hw, hd]; clear hw w')
    go_loop [8] (fun i => (i = .int .i64 0 ∧ Hid (lowF c [(97, 224), (101, 232), (111, 242)] = res)) ∨ (i = .int .i64 1 ∧ Hid (lowF c [(101, 232), (111, 242)] = res)) ∨ (i = .int .i64 2 ∧ Hid (lowF c [(111, 242)] = res)) ∨ (i = .int .i64 3 ∧ Hid ((0 : Int) = res))) (fun i => 3 - (intOf i).toNat)
    case atStart => exact .inl ⟨rfl, H0⟩
    case round =>
      clear H0
      rcases hrel with ⟨rfl, hr⟩ | ⟨rfl, hr⟩ | ⟨rfl, hr⟩ | ⟨rfl, hr⟩
      · have hix := aeo_at0
        by_cases h : 97 = c
        · have he : ((97 : Int) == c) = true := by simp [h]
          obtain rfl : res = 224 := by rw [← hr.out]; simp [lowF, h]
          clear hr h
          go_wp2
          go_ret
          exact ⟨rfl, (by repeat' (first | with_reducible exact Below.refl _ _ | with_reducible assumption | with_reducible refine Below.drew ?_ | with_reducible refine Below.alloc ?_ ?_ _ | with_reducible refine Below.setCell ?_ ?_ _ | (simp; done) | (simp; omega) | omega))⟩
        · have he : ((97 : Int) == c) = false := by simp [h]
          have E1 : Hid (lowF c [(101, 232), (111, 242)] = res) := by show _ = _; rw [← hr.out]; simp [lowF, h]
          clear hr h
          go_wp2
          go_round
          case rel => exact .inr (.inl ⟨rfl, E1⟩)
          case measure => simp [intOf]
      · have hix := aeo_at1
        by_cases h : 101 = c
        · have he : ((101 : Int) == c) = true := by simp [h]
          obtain rfl : res = 232 := by rw [← hr.out]; simp [lowF, h]
          clear hr h
          go_wp2
          go_ret
          exact ⟨rfl, (by repeat' (first | with_reducible exact Below.refl _ _ | with_reducible assumption | with_reducible refine Below.drew ?_ | with_reducible refine Below.alloc ?_ ?_ _ | with_reducible refine Below.setCell ?_ ?_ _ | (simp; done) | (simp; omega) | omega))⟩
        · have he : ((101 : Int) == c) = false := by simp [h]
          have E1 : Hid (lowF c [(111, 242)] = res) := by show _ = _; rw [← hr.out]; simp [lowF, h]
          clear hr h
          go_wp2
          go_round
          case rel => exact .inr (.inr (.inl ⟨rfl, E1⟩))
          case measure => simp [intOf]
      · have hix := aeo_at2
        by_cases h : 111 = c
        · have he : ((111 : Int) == c) = true := by simp [h]
          obtain rfl : res = 242 := by rw [← hr.out]; simp [lowF, h]
          clear hr h
          go_wp2
          go_ret
          exact ⟨rfl, (by repeat' (first | with_reducible exact Below.refl _ _ | with_reducible assumption | with_reducible refine Below.drew ?_ | with_reducible refine Below.alloc ?_ ?_ _ | with_reducible refine Below.setCell ?_ ?_ _ | (simp; done) | (simp; omega) | omega))⟩
        · have he : ((111 : Int) == c) = false := by simp [h]
          have E1 : Hid ((0 : Int) = res) := by show _ = _; rw [← hr.out]; simp [lowF, h]
          clear hr h
          go_wp2
          go_round
          case rel => exact .inr (.inr (.inr ⟨rfl, E1⟩))
          case measure => simp [intOf]
      · obtain rfl : res = 0 := hr.out.symm
        clear hr
        go_wp2
        go_ret
        exact ⟨rfl, (by repeat' (first | with_reducible exact Below.refl _ _ | with_reducible assumption | with_reducible refine Below.drew ?_ | with_reducible refine Below.alloc ?_ ?_ _ | with_reducible refine Below.setCell ?_ ?_ _ | (simp; done) | (simp; omega) | omega))⟩
  · generalize hres : lowF c (lowT 2) = res
    have H0 : Hid (lowF c [(97, 225), (101, 233), (111, 243)] = res) := hide (by rw [← hres]; rfl)
    clear hres
    go_enter Tryd.func61, Tryd.ntmps61
    go_wp2_with (go_at_call 59; refine (l1In_calls c 65 90 _).mono ?_; rintro e w' ⟨rfl, hw⟩; rw [hw, hd]; clear hw w')
    go_loop [8] (fun i => (i = .int .i64 0 ∧ Hid (lowF c [(97, 225), (101, 233), (111, 243)] = res)) ∨ (i = .int .i64 1 ∧ Hid (lowF c [(101, 233), (111, 243)] = res)) ∨ (i = .int .i64 2 ∧ Hid (lowF c [(111, 243)] = res)) ∨ (i = .int .i64 3 ∧ Hid ((0 : Int) = res))) (fun i => 3 - (intOf i).toNat)
    case atStart => exact .inl ⟨rfl, H0⟩
    case round =>
      clear H0
      rcases hrel with ⟨rfl, hr⟩ | ⟨rfl, hr⟩ | ⟨rfl, hr⟩ | ⟨rfl, hr⟩
      · have hix := aeo_at0
        by_cases h : 97 = c
        · have he : ((97 : Int) == c) = true := by simp [h]
          obtain rfl : res = 225 := by rw [← hr.out]; simp [lowF, h]
          clear hr h
          go_wp2
          go_ret
          exact ⟨rfl, (by repeat' (first | with_reducible exact Below.refl _ _ | with_reducible assumption | with_reducible refine Below.drew ?_ | with_reducible refine Below.alloc ?_ ?_ _ | with_reducible refine Below.setCell ?_ ?_ _ | (simp; done) | (simp; omega) | omega))⟩
        · have he : ((97 : Int) == c) = false := by simp [h]
          have E1 : Hid (lowF c [(101, 233), (111, 243)] = res) := by show _ = _; rw [← hr.out]; simp [lowF, h]
          clear hr h
          go_wp2
          go_round
          case rel => exact .inr (.inl ⟨rfl, E1⟩)
          case measure => simp [intOf]
      · have hix := aeo_at1
        by_cases h : 101 = c
        · have he : ((101 : Int) == c) = true := by simp [h]
          obtain rfl : res = 233 := by rw [← hr.out]; simp [lowF, h]
          clear hr h
          go_wp2
          go_ret
          exact ⟨rfl, (by repeat' (first | with_reducible exact Below.refl _ _ | with_reducible assumption | with_reducible refine Below.drew ?_ | with_reducible refine Below.alloc ?_ ?_ _ | with_reducible refine Below.setCell ?_ ?_ _ | (simp; done) | (simp; omega) | omega))⟩
        · have he : ((101 : Int) == c) = false := by simp [h]
          have E1 : Hid (lowF c [(111, 243)] = res) := by show _ = _; rw [← hr.out]; simp [lowF, h]
          clear hr h
          go_wp2
          go_round
          case rel => exact .inr (.inr (.inl ⟨rfl, E1⟩))
          case measure => simp [intOf]
      · have hix := aeo_at2
        by_cases h : 111 = c
        · have he : ((111 : Int) == c) = true := by simp [h]
          obtain rfl : res = 243 := by rw [← hr.out]; simp [lowF, h]
          clear hr h
          go_wp2
          go_ret
          exact ⟨rfl, (by repeat' (first | with_reducible exact Below.refl _ _ | with_reducible assumption | with_reducible refine Below.drew ?_ | with_reducible refine Below.alloc ?_ ?_ _ | with_reducible refine Below.setCell ?_ ?_ _ | (simp; done) | (simp; omega) | omega))⟩
        · have he : ((111 : Int) == c) = false := by simp [h]
          have E1 : Hid ((0 : Int) = res) := by show _ = _; rw [← hr.out]; simp [lowF, h]
          clear hr h
          go_wp2
          go_round
          case rel => exact .inr (.inr (.inr ⟨rfl, E1⟩))
          case measure => simp [intOf]
      · obtain rfl : res = 0 := hr.out.symm
        clear hr
        go_wp2
        go_ret
        exact ⟨rfl, (by repeat' (first | with_reducible exact Below.refl _ _ | with_reducible assumption | with_reducible refine Below.drew ?_ | with_reducible refine Below.alloc ?_ ?_ _ | with_reducible refine Below.setCell ?_ ?_ _ | (simp; done) | (simp; omega) | omega))⟩
  · generalize hres : lowF c (lowT 3) = res
    have H0 : Hid (lowF c [(97, 228), (111, 246), (117, 252)] = res) := hide (by rw [← hres]; rfl)
    clear hres
    go_enter Tryd.func61, Tryd.ntmps61
    go_wp2_with (go_at_call 59; refine (l1In_calls c 65 90 _).mono ?_; rintro e w' ⟨rfl, hw⟩; rw [hw, hd]; clear hw w')
    go_loop [8] (fun i => (i = .int .i64 0 ∧ Hid (lowF c [(97, 228), (111, 246), (117, 252)] = res)) ∨ (i = .int .i64 1 ∧ Hid (lowF c [(111, 246), (117, 252)] = res)) ∨ (i = .int .i64 2 ∧ Hid (lowF c [(117, 252)] = res)) ∨ (i = .int .i64 3 ∧ Hid ((0 : Int) = res))) (fun i => 3 - (intOf i).toNat)
    case atStart => exact .inl ⟨rfl, H0⟩
    case round =>
      clear H0
      rcases hrel with ⟨rfl, hr⟩ | ⟨rfl, hr⟩ | ⟨rfl, hr⟩ | ⟨rfl, hr⟩
      · have hix := aou_at0
        by_cases h : 97 = c
        · have he : ((97 : Int) == c) = true := by simp [h]
          obtain rfl : res = 228 := by rw [← hr.out]; simp [lowF, h]
          clear hr h
          go_wp2
          go_ret
          exact ⟨rfl, (by repeat' (first | with_reducible exact Below.refl _ _ | with_reducible assumption | with_reducible refine Below.drew ?_ | with_reducible refine Below.alloc ?_ ?_ _ | with_reducible refine Below.setCell ?_ ?_ _ | (simp; done) | (simp; omega) | omega))⟩
        · have he : ((97 : Int) == c) = false := by simp [h]
          have E1 : Hid (lowF c [(111, 246), (117, 252)] = res) := by show _ = _; rw [← hr.out]; simp [lowF, h]
          clear hr h
          go_wp2
          go_round
          case rel => exact .inr (.inl ⟨rfl, E1⟩)
          case measure => simp [intOf]
      · have hix := aou_at1
        by_cases h : 111 = c
        · have he : ((111 : Int) == c) = true := by simp [h]
          obtain rfl : res = 246 := by rw [← hr.out]; simp [lowF, h]
          clear hr h
          go_wp2
          go_ret
          exact ⟨rfl, (by repeat' (first | with_reducible exact Below.refl _ _ | with_reducible assumption | with_reducible refine Below.drew ?_ | with_reducible refine Below.alloc ?_ ?_ _ | with_reducible refine Below.setCell ?_ ?_ _ | (simp; done) | (simp; omega) | omega))⟩
        · have he : ((111 : Int) == c) = false := by simp [h]
          have E1 : Hid (lowF c [(117, 252)] = res) := by show _ = _; rw [← hr.out]; simp [lowF, h]
          clear hr h
          go_wp2
          go_round
          case rel => exact .inr (.inr (.inl ⟨rfl, E1⟩))
          case measure => simp [intOf]
      · have hix := aou_at2
        by_cases h : 117 = c
        · have he : ((117 : Int) == c) = true := by simp [h]
          obtain rfl : res = 252 := by rw [← hr.out]; simp [lowF, h]
          clear hr h
          go_wp2
          go_ret
          exact ⟨rfl, (by repeat' (first | with_reducible exact Below.refl _ _ | with_reducible assumption | with_reducible refine Below.drew ?_ | with_reducible refine Below.alloc ?_ ?_ _ | with_reducible refine Below.setCell ?_ ?_ _ | (simp; done) | (simp; omega) | omega))⟩
        · have he : ((117 : Int) == c) = false := by simp [h]
          have E1 : Hid ((0 : Int) = res) := by show _ = _; rw [← hr.out]; simp [lowF, h]
          clear hr h
          go_wp2
          go_round
          case rel => exact .inr (.inr (.inr ⟨rfl, E1⟩))
          case measure => simp [intOf]
      · obtain rfl : res = 0 := hr.out.symm
        clear hr
        go_wp2
        go_ret
        exact ⟨rfl, (by repeat' (first | with_reducible exact Below.refl _ _ | with_reducible assumption | with_reducible refine Below.drew ?_ | with_reducible refine Below.alloc ?_ ?_ _ | with_reducible refine Below.setCell ?_ ?_ _ | (simp; done) | (simp; omega) | omega))⟩
theorem lowF_range (a c : Int) : 0 ≤ lowF c (lowT a) ∧ lowF c (lowT a) ≤ 300 := by
  have lows : ∀ (c p1 w1 p2 w2 p3 w3 : Int), lowF c [(p1, w1), (p2, w2), (p3, w3)] = if p1 = c then w1 else if p2 = c then w2 else if p3 = c then w3 else 0 := fun _ _ _ _ _ _ _ => rfl
  unfold lowT
  split
  · rw [lows]; (repeat' split) <;> omega
  · split
    · rw [lows]; (repeat' split) <;> omega
    · rw [lows]; (repeat' split) <;> omega
set_option maxHeartbeats 2000000 in
theorem l8Compose_calls (a c : Int) (w : World) (ha : accB a = true) (hcb : 0 ≤ c ∧ c ≤ 65535) :
    Calls Tryd.prog 61 #[.int .i64 a, .int .i64 c] w fun e w' => e = .returned (.int .i64 (compV a c)) ∧ Below w.heap.size w w' := by
  by_cases h : 65 ≤ c ∧ c ≤ 90
  · generalize hres : compV a c = res
    have hw32 : IntKind.i64.wrap (c + 32) = c + 32 := wrap_small (by omega) (by omega)
    have hd : decide (65 ≤ c ∧ c ≤ 90) = true := decide_eq_true h
    have hR := lowF_range a (c + 32)
    have HR : Hid (res = if lowF (c + 32) (lowT a) = 0 then 0 else lowF (c + 32) (lowT a) - 32) := hide (by rw [← hres]; unfold compV; rw [if_pos h])
    have HA := hide ha
    have HC : Hid (¬ (65 ≤ c + 32 ∧ c + 32 ≤ 90)) := hide (by omega)
    clear hres h ha
    go_enter Tryd.func61, Tryd.ntmps61
    go_wp2_with fail
    refine (l1In_calls c 65 90 _).mono ?_
    rintro e w' ⟨rfl, hw⟩
    rw [hw, hd]
    clear hw w'
    go_wp2_with fail
    refine (l8Low_calls a (c + 32) _ HA.out HC.out).mono ?_
    rintro e w2 ⟨rfl, q⟩
    generalize lowF (c + 32) (lowT a) = x at *
    by_cases hx : x = 0
    · have hne : (x != 0) = false := by simp [hx]
      obtain rfl : res = 0 := by rw [HR.out, if_pos hx]
      clear HR hx
      go_wp2
      go_ret
      exact ⟨rfl, q⟩
    · have hne : (x != 0) = true := by simp [hx]
      have hwx : IntKind.i64.wrap (x - 32) = x - 32 := wrap_small (by omega) (by omega)
      obtain rfl : res = x - 32 := by rw [HR.out, if_neg hx]
      clear HR hx
      go_wp2
      go_ret
      exact ⟨rfl, q⟩
  · have e : compV a c = lowF c (lowT a) := by unfold compV; rw [if_neg h]
    rw [e]
    exact l8Low_calls a c w ha h
set_option maxHeartbeats 2000000 in
theorem specCompose_calls (a c : Int) (w : World) :
    Calls Tryd.prog 26 #[.int .i64 a, .int .i64 c] w fun e w' => e = .returned (.agg #[.int .i64 (compCd a c), .int .i64 (compRs a c)]) ∧ Below w.heap.size w w' := by
  generalize hcd : compCd a c = cd
  generalize hrs : compRs a c = rs
  have HCD := hide hcd
  have HRS := hide hrs
  clear hcd hrs
  have hb0 : Below w.heap.size w (w.alloc (.cells #[.int .i64 0, .int .i64 0] 45)) := (by repeat' (first | with_reducible exact Below.refl _ _ | with_reducible assumption | with_reducible refine Below.drew ?_ | with_reducible refine Below.alloc ?_ ?_ _ | with_reducible refine Below.setCell ?_ ?_ _ | (simp; done) | (simp; omega) | omega))
  have B : Blk (w.alloc (.cells #[.int .i64 0, .int .i64 0] 45)) w.heap.size #[.int .i64 0, .int .i64 0] := Blk.new_at (by simp) _ _
  cases ha : accB a with
  | false =>
    obtain rfl : cd = 3 := by rw [← HCD.out]; unfold compCd; rw [ha, if_neg (by simp)]
    obtain rfl : rs = 0 := by rw [← HRS.out]; unfold compRs; rw [ha, if_neg (by simp)]
    clear hb0 B
    go_enter Tryd.func26, Tryd.ntmps26
    go_wp2_with (go_at_call 59; refine (l1In_calls a 1 3 _).mono ?_; rintro e w' ⟨rfl, hw⟩; rw [hw, in13_calls', ha]; clear hw w')
    refine bodyPost_ret (v := .agg #[.int .i64 3, .int .i64 0]) (by simp [results, Tryd.results26, go_sem]) rfl ⟨rfl, ?_⟩
    exact (by repeat' (first | with_reducible exact Below.refl _ _ | with_reducible assumption | with_reducible refine Below.drew ?_ | with_reducible refine Below.alloc ?_ ?_ _ | with_reducible refine Below.setCell ?_ ?_ _ | (simp; done) | (simp; omega) | omega))
  | true =>
    cases hc : chB c with
    | false =>
      obtain rfl : cd = 3 := by rw [← HCD.out]; unfold compCd; rw [hc, if_neg (by simp)]
      obtain rfl : rs = 0 := by rw [← HRS.out]; unfold compRs; rw [hc, if_neg (by simp)]
      clear hb0 B
      go_enter Tryd.func26, Tryd.ntmps26
      go_wp2_with (first | (go_at_call 59; refine (l1In_calls a 1 3 _).mono ?_; rintro e w' ⟨rfl, hw⟩; rw [hw, in13_calls', ha]; clear hw w') | (go_at_call 60; refine (l1Char_calls c _).mono ?_; rintro e w' ⟨rfl, hw⟩; rw [hw, hc]; clear hw w'))
      refine bodyPost_ret (v := .agg #[.int .i64 3, .int .i64 0]) (by simp [results, Tryd.results26, go_sem]) rfl ⟨rfl, ?_⟩
      exact (by repeat' (first | with_reducible exact Below.refl _ _ | with_reducible assumption | with_reducible refine Below.drew ?_ | with_reducible refine Below.alloc ?_ ?_ _ | with_reducible refine Below.setCell ?_ ?_ _ | (simp; done) | (simp; omega) | omega))
    | true =>
      have HR : Hid (compV a c = rs) := hide (by rw [← HRS.out]; unfold compRs; rw [if_pos ⟨ha, hc⟩])
      have HZ : Hid (cd = if rs = 0 then 4 else 0) := hide (by rw [← HCD.out, ← HR.out]; unfold compCd; rw [if_pos ⟨ha, hc⟩])
      have hcb : 0 ≤ c ∧ c ≤ 65535 := by unfold chB at hc; simp at hc; omega
      clear HCD HRS
      go_enter Tryd.func26, Tryd.ntmps26
      go_wp2_with fail
      refine (l1In_calls a 1 3 _).mono ?_
      rintro e w' ⟨rfl, hw⟩
      rw [hw, in13_calls', ha]
      clear hw w'
      go_wp2_with fail
      refine (l1Char_calls c _).mono ?_
      rintro e w' ⟨rfl, hw⟩
      rw [hw, hc]
      clear hw w'
      generalize (w.alloc (.cells #[.int .i64 0, .int .i64 0] 45)) = W at *
      have HAA := hide ha
      go_wp2_with fail
      refine (l8Compose_calls a c _ HAA.out hcb).mono ?_
      rintro e w2 ⟨rfl, q⟩
      rw [HR.out]
      have hb2 := hb0.trans (q.mono hb0.size)
      replace B := B.belowb q
      clear q hb0
      have d0 : w2.cell? ⟨w.heap.size, 0, none⟩ = some (.int .i64 0) := B.at 0 rfl
      have d1 : w2.cell? ⟨w.heap.size, 1, none⟩ = some (.int .i64 0) := B.at 1 rfl
      have z := B.froz
      clear B HR
      by_cases hz : rs = 0
      · have he : (rs == 0) = true := by simp [hz]
        obtain rfl : cd = 4 := by rw [HZ.out, if_pos hz]
        subst hz
        clear HZ
        go_wp2
        refine bodyPost_ret (v := .agg #[.int .i64 4, .int .i64 0]) (by simp [results, Tryd.results26, go_sem, d0, d1]) rfl ⟨rfl, ?_⟩
        exact (by repeat' (first | with_reducible exact Below.refl _ _ | with_reducible assumption | with_reducible refine Below.drew ?_ | with_reducible refine Below.alloc ?_ ?_ _ | with_reducible refine Below.setCell ?_ ?_ _ | (simp; done) | (simp; omega) | omega))
      · have he : (rs == 0) = false := by simp [hz]
        obtain rfl : cd = 0 := by rw [HZ.out, if_neg hz]
        clear HZ hz
        go_wp2
        refine bodyPost_ret (v := .agg #[.int .i64 0, .int .i64 rs]) (by simp [results, Tryd.results26, go_sem, d0, d1]) rfl ⟨rfl, ?_⟩
        exact (by repeat' (first | with_reducible exact Below.refl _ _ | with_reducible assumption | with_reducible refine Below.drew ?_ | with_reducible refine Below.alloc ?_ ?_ _ | with_reducible refine Below.setCell ?_ ?_ _ | (simp; done) | (simp; omega) | omega))
end Go.Proofs.YtcfechnkgefhcaaDoor
