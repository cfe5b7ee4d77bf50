/-
  The order of binds (impl.byKeyThenMods with cmp.Or and cmp.Compare; spec.l8Ahead) and the fault of a list of binds (impl.BindsFault, spec.l8Fault, BindsFault).
-/
import Derived.Test.YtcfechnkgefhcaaDoorSymFns
namespace Go.Proofs.YtcfechnkgefhcaaDoor
set_option maxRecDepth 20000
open Go.ChangeShapes Go.WideShapes Go.ChangeAt Go.RowKit
set_option linter.unusedVariables false
set_option linter.unusedSimpArgs false
set_option maxRecDepth 20000

def cmp3 (x y : Int) : Int := if x < y then -1 else if y < x then 1 else 0
def or2 (u v : Int) : Int := if u = 0 then v else u
def cmpK (p q : Bd) : Int := or2 (cmp3 p.1 q.1) (cmp3 p.2.1 q.2.1)
def aheadB (p q : Bd) : Bool := decide (p.1 < q.1 ∨ (p.1 = q.1 ∧ p.2.1 < q.2.1))
theorem cmpK_neg (p q : Bd) : cmpK p q < 0 ↔ aheadB p q = true := by
  unfold cmpK or2 cmp3 aheadB
  simp
  repeat' split
  all_goals omega
theorem cmpK_zero (p q : Bd) : cmpK p q = 0 ↔ (p.1 = q.1 ∧ p.2.1 = q.2.1) := by
  unfold cmpK or2 cmp3
  repeat' split
  all_goals omega
/-- The fault of the binds from place k on. -/
def bfault (bs : List Bd) (k : Nat) : Int :=
  if h : k < bs.length then
    if bindCode (bs.getD k b0) ≠ 0 then bindCode (bs.getD k b0)
    else if 0 < k ∧ aheadB (bs.getD (k - 1) b0) (bs.getD k b0) = false then 1
    else bfault bs (k + 1)
  else 0
termination_by bs.length - k
def bindsCode (bs : List Bd) : Int := if 24 < bs.length then 2 else bfault bs 0
theorem bfault_end {bs : List Bd} {k : Nat} (h : ¬ k < bs.length) : bfault bs k = 0 := by rw [bfault]; simp [h]
theorem bfault_bad {bs : List Bd} {k : Nat} (h : k < bs.length) (h1 : bindCode (bs.getD k b0) ≠ 0) : bfault bs k = bindCode (bs.getD k b0) := by rw [bfault, dif_pos h, if_pos h1]
theorem bfault_form {bs : List Bd} {k : Nat} (h : k < bs.length) (h1 : bindCode (bs.getD k b0) = 0) (h2 : 0 < k ∧ aheadB (bs.getD (k - 1) b0) (bs.getD k b0) = false) : bfault bs k = 1 := by rw [bfault, dif_pos h, if_neg (by simpa using h1), if_pos h2]
theorem bfault_next {bs : List Bd} {k : Nat} (h : k < bs.length) (h1 : bindCode (bs.getD k b0) = 0) (h2 : ¬ (0 < k ∧ aheadB (bs.getD (k - 1) b0) (bs.getD k b0) = false)) : bfault bs k = bfault bs (k + 1) := by rw [bfault, dif_pos h, if_neg (by simpa using h1), if_neg h2]

set_option maxHeartbeats 400000 in
theorem isNaN_calls (x : Int) (w : World) : Calls Tryd.prog 74 #[.int .i64 x] w fun e w' => e = .returned (.bool false) ∧ w' = w := by
  go_enter Tryd.func74, Tryd.ntmps74
  go_wp2
  go_ret
  exact ⟨ret_bool (by simp), rfl⟩
set_option maxHeartbeats 1000000 in
theorem compare_calls (x y : Int) (w : World) : Calls Tryd.prog 68 #[.int .i64 x, .int .i64 y] w fun e w' => e = .returned (.int .i64 (cmp3 x y)) ∧ w' = w := by
  by_cases h1 : x < y
  · have e : cmp3 x y = -1 := by unfold cmp3; rw [if_pos h1]
    rw [e]
    clear e
    go_enter Tryd.func68, Tryd.ntmps68
    go_wp2_with (first | (go_at_call 74; refine (isNaN_calls _ _).mono ?_; rintro e w' ⟨rfl, hw⟩; rw [hw]; clear hw w'))
    go_ret
    exact ⟨rfl, rfl⟩
  · by_cases h2 : y < x
    · have e : cmp3 x y = 1 := by unfold cmp3; rw [if_neg h1, if_pos h2]
      rw [e]
      clear e
      go_enter Tryd.func68, Tryd.ntmps68
      go_wp2_with (first | (go_at_call 74; refine (isNaN_calls _ _).mono ?_; rintro e w' ⟨rfl, hw⟩; rw [hw]; clear hw w'))
      go_ret
      exact ⟨rfl, rfl⟩
    · have e : cmp3 x y = 0 := by unfold cmp3; rw [if_neg h1, if_neg h2]
      rw [e]
      clear e
      go_enter Tryd.func68, Tryd.ntmps68
      go_wp2_with (first | (go_at_call 74; refine (isNaN_calls _ _).mono ?_; rintro e w' ⟨rfl, hw⟩; rw [hw]; clear hw w'))
      go_ret
      exact ⟨rfl, rfl⟩
set_option maxHeartbeats 1000000 in
theorem or2_calls (u v : Int) (b c : Nat) (w : World) (c0 : w.cell? ⟨b, 0, none⟩ = some (.int .i64 u)) (c1 : w.cell? ⟨b, 1, none⟩ = some (.int .i64 v)) :
    Calls Tryd.prog 67 #[.slice (some ⟨b, 0, none⟩) 2 c] w fun e w' => e = .returned (.int .i64 (or2 u v)) ∧ w' = w := by
  generalize hres : or2 u v = res
  have HR : Hid ((if u = 0 then v else u) = res) := hide hres
  clear hres
  go_enter Tryd.func67, Tryd.ntmps67
  go_wp2
  go_loop [8] (fun i => ∃ k : Nat, k ≤ 2 ∧ i = .int .i64 k ∧ Hid (0 < k → u = 0) ∧ Hid (1 < k → v = 0)) (fun i => 2 - (intOf i).toNat)
  case atStart => exact ⟨0, by omega, rfl, hide (fun h => by omega), hide (fun h => by omega)⟩
  case round =>
    obtain ⟨k, hk, rfl, h0, h1⟩ := hrel
    have hk3 : k = 0 ∨ k = 1 ∨ k = 2 := by omega
    clear hk
    rcases hk3 with rfl | rfl | rfl
    · by_cases hu : u = 0
      · have hne : (u != 0) = false := by simpa using hu
        have HU := hide hu
        clear hu
        go_wp2
        go_round
        case rel => exact ⟨1, by omega, rfl, hide (fun _ => HU.out), hide (fun h => by omega)⟩
        case measure => simp [intOf]
      · have hne : (u != 0) = true := by simpa using hu
        have e1 : res = u := by rw [← HR.out, if_neg hu]
        subst e1
        clear hu
        go_wp2
        go_ret
        exact ⟨rfl, rfl⟩
    · have e1 : res = v := by rw [← HR.out, if_pos (h0.out (by omega))]
      subst e1
      by_cases hu : res = 0
      · have hne : (res != 0) = false := by simpa using hu
        have HU := hide hu
        clear hu
        go_wp2
        go_round
        case rel => exact ⟨2, by omega, rfl, hide (fun _ => h0.out (by omega)), hide (fun _ => HU.out)⟩
        case measure => simp [intOf]
      · have hne : (res != 0) = true := by simpa using hu
        clear hu
        go_wp2
        go_ret
        exact ⟨rfl, rfl⟩
    · have e1 : res = 0 := by rw [← HR.out, if_pos (h0.out (by omega)), h1.out (by omega)]
      subst e1
      go_wp2
      go_ret
      exact ⟨rfl, rfl⟩
theorem keepK {W w1 w2 : World} {b : Nat} {u0 u1 u2 u3 : Value} (h : Below W.heap.size W w1 ∧ w1.cell? ⟨b, 0, none⟩ = some u0 ∧ w1.cell? ⟨b, 1, none⟩ = some u1 ∧ w1.cell? ⟨b + 1, 0, none⟩ = some u2 ∧ w1.cell? ⟨b + 1, 1, none⟩ = some u3) (hb : Below w1.heap.size w1 w2) :
    Below W.heap.size W w2 ∧ w2.cell? ⟨b, 0, none⟩ = some u0 ∧ w2.cell? ⟨b, 1, none⟩ = some u1 ∧ w2.cell? ⟨b + 1, 0, none⟩ = some u2 ∧ w2.cell? ⟨b + 1, 1, none⟩ = some u3 := by
  obtain ⟨h0, h1, h2, h3, h4⟩ := h
  exact ⟨h0.trans (hb.mono h0.size), cellb hb h1, cellb hb h2, cellb hb h3, cellb hb h4⟩
theorem keepW {W w2 : World} {b : Nat} {u0 u1 u2 u3 : Value} (h1 : W.cell? ⟨b, 0, none⟩ = some u0) (h2 : W.cell? ⟨b, 1, none⟩ = some u1) (h3 : W.cell? ⟨b + 1, 0, none⟩ = some u2) (h4 : W.cell? ⟨b + 1, 1, none⟩ = some u3) (hb : Below W.heap.size W w2) :
    Below W.heap.size W w2 ∧ w2.cell? ⟨b, 0, none⟩ = some u0 ∧ w2.cell? ⟨b, 1, none⟩ = some u1 ∧ w2.cell? ⟨b + 1, 0, none⟩ = some u2 ∧ w2.cell? ⟨b + 1, 1, none⟩ = some u3 :=
  ⟨hb, cellb hb h1, cellb hb h2, cellb hb h3, cellb hb h4⟩
set_option maxHeartbeats 1000000 in
theorem byKey_calls (p q : Bd) (w : World) :
    Calls Tryd.prog 46 #[.agg #[.int .i64 p.1, .int .i64 p.2.1, .int .i64 p.2.2.1, .int .i64 p.2.2.2], .agg #[.int .i64 q.1, .int .i64 q.2.1, .int .i64 q.2.2.1, .int .i64 q.2.2.2]] w fun e w' => e = .returned (.int .i64 (cmpK p q)) ∧ Below w.heap.size w w' := by
  obtain ⟨p0, p1, p2, p3⟩ := p
  obtain ⟨q0, q1, q2, q3⟩ := q
  show Calls _ _ #[.agg #[.int .i64 p0, .int .i64 p1, .int .i64 p2, .int .i64 p3], .agg #[.int .i64 q0, .int .i64 q1, .int .i64 q2, .int .i64 q3]] _ _
  have hb0 : Below w.heap.size w ((w.alloc (.cells #[.int .i64 p0, .int .i64 p1, .int .i64 p2, .int .i64 p3] 28)).alloc (.cells #[.int .i64 q0, .int .i64 q1, .int .i64 q2, .int .i64 q3] 28)) := (by repeat' (first | with_reducible exact Below.refl _ _ | with_reducible assumption | with_reducible refine Below.drew ?_ | with_reducible refine Below.alloc ?_ ?_ _ | with_reducible refine Below.setCell ?_ ?_ _ | (simp; done) | (simp; omega) | omega))
  have A0 : ((w.alloc (.cells #[.int .i64 p0, .int .i64 p1, .int .i64 p2, .int .i64 p3] 28)).alloc (.cells #[.int .i64 q0, .int .i64 q1, .int .i64 q2, .int .i64 q3] 28)).cell? ⟨w.heap.size, 0, none⟩ = some (.int .i64 p0) := by simp
  have A1 : ((w.alloc (.cells #[.int .i64 p0, .int .i64 p1, .int .i64 p2, .int .i64 p3] 28)).alloc (.cells #[.int .i64 q0, .int .i64 q1, .int .i64 q2, .int .i64 q3] 28)).cell? ⟨w.heap.size, 1, none⟩ = some (.int .i64 p1) := by simp
  have B0 : ((w.alloc (.cells #[.int .i64 p0, .int .i64 p1, .int .i64 p2, .int .i64 p3] 28)).alloc (.cells #[.int .i64 q0, .int .i64 q1, .int .i64 q2, .int .i64 q3] 28)).cell? ⟨w.heap.size + 1, 0, none⟩ = some (.int .i64 q0) := by simp
  have B1 : ((w.alloc (.cells #[.int .i64 p0, .int .i64 p1, .int .i64 p2, .int .i64 p3] 28)).alloc (.cells #[.int .i64 q0, .int .i64 q1, .int .i64 q2, .int .i64 q3] 28)).cell? ⟨w.heap.size + 1, 1, none⟩ = some (.int .i64 q1) := by simp
  go_enter Tryd.func46, Tryd.ntmps46
  go_wp2_with fail
  generalize ((w.alloc (.cells #[.int .i64 p0, .int .i64 p1, .int .i64 p2, .int .i64 p3] 28)).alloc (.cells #[.int .i64 q0, .int .i64 q1, .int .i64 q2, .int .i64 q3] 28)) = W at *
  refine wp_region_held_drew (S := (fun w' => Below W.heap.size W w' ∧ w'.cell? ⟨w.heap.size, 0, none⟩ = some (.int .i64 p0) ∧ w'.cell? ⟨w.heap.size, 1, none⟩ = some (.int .i64 p1) ∧ w'.cell? ⟨w.heap.size + 1, 0, none⟩ = some (.int .i64 q0) ∧ w'.cell? ⟨w.heap.size + 1, 1, none⟩ = some (.int .i64 q1))) (by kernel_rfl) ?_ (fun hHeld => ?_)
  · (try dsimp only); exact ⟨Below.drew (Below.refl _ W), A0, A1, B0, B1⟩
  refine wpAnyH_take (i := 0) (oi := ⟨_, _, _, _, _, _⟩) (v := ?_) rfl (by kernel_rfl) (by kernel_rfl) (by kernel_rfl) (fun _ _ _ h => h) (Or.inl ⟨by rfl, ?_⟩) hHeld ?_
  rotate_left
  · (intro w hSw; (try dsimp only at hSw); go_simp; try (with_reducible rfl))
  try simp only [Act.put, List.setIfInBounds_toArray, List.set_cons_zero, List.set_cons_succ]
  refine wpAnyH_take (i := 1) (oi := ⟨_, _, _, _, _, _⟩) (v := ?_) rfl (by kernel_rfl) (by kernel_rfl) (by kernel_rfl) (fun _ _ _ h => h) (Or.inl ⟨by rfl, ?_⟩) hHeld ?_
  rotate_left
  · (intro w hSw; (try dsimp only at hSw); go_simp; try (with_reducible rfl))
  try simp only [Act.put, List.setIfInBounds_toArray, List.set_cons_zero, List.set_cons_succ]
  refine wpAnyH_take (i := 2) (oi := ⟨_, _, _, _, _, _⟩) (v := ?_) rfl (by kernel_rfl) (by kernel_rfl) (by kernel_rfl) (fun _ _ _ h => h) (Or.inl ⟨by rfl, ?_⟩) hHeld ?_
  rotate_left
  · (intro w hSw; (try dsimp only at hSw); go_simp; try (with_reducible rfl))
  try simp only [Act.put, List.setIfInBounds_toArray, List.set_cons_zero, List.set_cons_succ]
  refine wpAnyH_take (i := 3) (oi := ⟨_, _, _, _, _, _⟩) (v := ?_) rfl (by kernel_rfl) (by kernel_rfl) (by kernel_rfl) (fun _ _ _ h => h) (Or.inl ⟨by rfl, ?_⟩) hHeld ?_
  rotate_left
  · (intro w hSw; (try dsimp only at hSw); go_simp; try (with_reducible rfl))
  try simp only [Act.put, List.setIfInBounds_toArray, List.set_cons_zero, List.set_cons_succ]
  refine wpAnyH_take (i := 5) (oi := ⟨_, _, _, _, _, _⟩) (v := ?_) rfl (by kernel_rfl) (by kernel_rfl) (by kernel_rfl) (fun _ _ _ h => h) (Or.inl ⟨by rfl, ?_⟩) hHeld ?_
  rotate_left
  · (intro w hSw; (try dsimp only at hSw); go_simp; try (with_reducible rfl))
  try simp only [Act.put, List.setIfInBounds_toArray, List.set_cons_zero, List.set_cons_succ]
  refine wpAnyH_take (i := 6) (oi := ⟨_, _, _, _, _, _⟩) (v := ?_) rfl (by kernel_rfl) (by kernel_rfl) (by kernel_rfl) (fun _ _ _ h => h) (Or.inl ⟨by rfl, ?_⟩) hHeld ?_
  rotate_left
  · (intro w hSw; (try dsimp only at hSw); go_simp; try (with_reducible rfl))
  try simp only [Act.put, List.setIfInBounds_toArray, List.set_cons_zero, List.set_cons_succ]
  refine wpAnyH_take (i := 7) (oi := ⟨_, _, _, _, _, _⟩) (v := ?_) rfl (by kernel_rfl) (by kernel_rfl) (by kernel_rfl) (fun _ _ _ h => h) (Or.inl ⟨by rfl, ?_⟩) hHeld ?_
  rotate_left
  · (intro w hSw; (try dsimp only at hSw); go_simp; try (with_reducible rfl))
  try simp only [Act.put, List.setIfInBounds_toArray, List.set_cons_zero, List.set_cons_succ]
  refine wpAnyH_take (i := 8) (oi := ⟨_, _, _, _, _, _⟩) (v := ?_) rfl (by kernel_rfl) (by kernel_rfl) (by kernel_rfl) (fun _ _ _ h => h) (Or.inl ⟨by rfl, ?_⟩) hHeld ?_
  rotate_left
  · (intro w hSw; (try dsimp only at hSw); go_simp; try (with_reducible rfl))
  try simp only [Act.put, List.setIfInBounds_toArray, List.set_cons_zero, List.set_cons_succ]
  refine wpAnyH_ready (rs := [4]) (by kernel_rfl) (by simp) ?_
  refine AllReadyH.cons (o := ⟨_, _, _, _, _, _⟩) rfl (fun K hK => ?_) AllReadyH.nil
  go_simp
  go_at_call 68
  refine (compare_calls p0 q0 _).mono ?_
  rintro e w9 ⟨rfl, hw⟩
  rw [hw]
  clear hw w9
  try go_wp2_with fail
  refine hK.out _ _ ?_ ?_
  · (try dsimp only); exact hHeld
  clear hHeld hK K
  intro hHeld
  try simp only [Act.put, List.setIfInBounds_toArray, List.set_cons_zero, List.set_cons_succ]
  refine wpAnyH_ready (rs := [9]) (by kernel_rfl) (by simp) ?_
  refine AllReadyH.cons (o := ⟨_, _, _, _, _, _⟩) rfl (fun K hK => ?_) AllReadyH.nil
  go_simp
  go_at_call 68
  refine (compare_calls p1 q1 _).mono ?_
  rintro e w9 ⟨rfl, hw⟩
  rw [hw]
  clear hw w9
  try go_wp2_with fail
  refine hK.out _ _ ?_ ?_
  · (try dsimp only); exact hHeld
  clear hHeld hK K
  intro hHeld
  try simp only [Act.put, List.setIfInBounds_toArray, List.set_cons_zero, List.set_cons_succ]
  refine wpAnyH_ready (rs := [10]) (by kernel_rfl) (by simp) ?_
  refine AllReadyH.cons (o := ⟨_, _, _, _, _, _⟩) rfl (fun K hK => ?_) AllReadyH.nil
  go_simp
  refine hK.out _ _ ?_ ?_
  · (try dsimp only); exact keepW A0 A1 B0 B1 (by repeat' (first | with_reducible exact Below.refl _ _ | with_reducible assumption | with_reducible refine Below.drew ?_ | with_reducible refine Below.alloc ?_ ?_ _ | with_reducible refine Below.setCell ?_ ?_ _ | (simp; done) | (simp; omega) | omega))
  clear hHeld hK K
  intro hHeld
  try simp only [Act.put, List.setIfInBounds_toArray, List.set_cons_zero, List.set_cons_succ]
  refine wpAnyH_ready (rs := [11]) (by kernel_rfl) (by simp) ?_
  refine AllReadyH.cons (o := ⟨_, _, _, _, _, _⟩) rfl (fun K hK => ?_) AllReadyH.nil
  go_simp
  go_at_call 67
  refine (or2_calls (cmp3 p0 q0) (cmp3 p1 q1) _ _ _ (by simp) (by simp)).mono ?_
  rintro e w9 ⟨rfl, hw⟩
  rw [hw]
  clear hw w9
  try go_wp2_with fail
  refine hK.out _ _ ?_ ?_
  · (try dsimp only); exact hHeld
  clear hHeld hK K
  intro hHeld
  try simp only [Act.put, List.setIfInBounds_toArray, List.set_cons_zero, List.set_cons_succ]
  refine wpAnyH_take (i := 12) (oi := ⟨_, _, _, _, _, _⟩) (v := ?_) rfl (by kernel_rfl) (by kernel_rfl) (by kernel_rfl) (fun _ _ _ h => h) (Or.inl ⟨by rfl, ?_⟩) hHeld ?_
  rotate_left
  · (intro w hSw; (try dsimp only at hSw); go_simp; try (with_reducible rfl))
  try simp only [Act.put, List.setIfInBounds_toArray, List.set_cons_zero, List.set_cons_succ]
  refine wpAnyH_done (by kernel_rfl) ?_ _
  go_wp2
  go_ret
  exact ⟨rfl, hb0.trans (hHeld.1.mono hb0.size)⟩
end Go.Proofs.YtcfechnkgefhcaaDoor
