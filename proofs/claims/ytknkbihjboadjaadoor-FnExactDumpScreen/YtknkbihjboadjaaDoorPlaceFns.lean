/-
  isPlace of the program, l3Place of the model.
-/
import Derived.Test.YtknkbihjboadjaaDoorGridFaults
namespace Go.Proofs.YtknkbihjboadjaaDoor
set_option maxRecDepth 20000
open Go.ChangeShapes Go.WideShapes Go.ChangeAt Go.RowKit
set_option linter.unusedVariables false
set_option linter.unusedSimpArgs false

def placeB (r wd y x : Int) : Bool := decide (0 ≤ y ∧ y ≤ r - 1) && decide (0 ≤ x ∧ x ≤ wd - 1)
set_option maxHeartbeats 400000 in
theorem isPlace_calls (r wd y x : Int) (a1 a2 : Option Addr) (n m c1 c2 : Nat) (h1 : 1 ≤ r) (h2 : r ≤ 6) (h3 : 2 ≤ wd) (h4 : wd ≤ 12) (w : World) :
    Calls Tryd.prog 60 #[.agg #[.int .i64 r, .int .i64 wd, .slice a1 n c1, .slice a2 m c2], .int .i64 y, .int .i64 x] w fun e w' => e = .returned (.bool (placeB r wd y x)) ∧ Below w.heap.size w w' := by
  have hb : Below w.heap.size w (w.alloc (.cells #[.int .i64 r, .int .i64 wd, .slice a1 n c1, .slice a2 m c2] 36)) := (by repeat' (first | with_reducible exact Below.refl _ _ | with_reducible assumption | with_reducible refine Below.drew ?_ | with_reducible refine Below.alloc ?_ ?_ _ | with_reducible refine Below.setCell ?_ ?_ _ | (simp; done) | (simp; omega) | omega))
  unfold placeB
  cases k0 : decide (0 ≤ y ∧ y ≤ r - 1) with
  | false =>
    go_enter Tryd.func60, Tryd.ntmps60
    go_wp2_with (go_at_call 50; refine (isFromTo_calls _ _ _ _).mono ?_; rintro e w' ⟨rfl, hw⟩; rw [hw]; clear hw w'; rw [k0])
    go_ret
    exact ⟨rfl, hb⟩
  | true =>
    cases k1 : decide (0 ≤ x ∧ x ≤ wd - 1) with
    | false =>
      go_enter Tryd.func60, Tryd.ntmps60
      go_wp2_with (go_at_call 50; refine (isFromTo_calls _ _ _ _).mono ?_; rintro e w' ⟨rfl, hw⟩; rw [hw]; clear hw w'; first | rw [k0] | rw [k1])
      go_ret
      exact ⟨rfl, hb⟩
    | true =>
      go_enter Tryd.func60, Tryd.ntmps60
      go_wp2_with (go_at_call 50; refine (isFromTo_calls _ _ _ _).mono ?_; rintro e w' ⟨rfl, hw⟩; rw [hw]; clear hw w'; first | rw [k0] | rw [k1])
      go_ret
      exact ⟨rfl, hb⟩
set_option maxHeartbeats 400000 in
theorem l3Place_calls (r wd y x : Int) (b : Nat) (h1 : 1 ≤ r) (h2 : r ≤ 6) (h3 : 2 ≤ wd) (h4 : wd ≤ 12) (w : World) (c0 : w.cell? ⟨b, 0, none⟩ = some (.int .i64 r)) (c1 : w.cell? ⟨b, 1, none⟩ = some (.int .i64 wd)) :
    Calls Tryd.prog 79 #[.pointer (some ⟨b, 0, none⟩), .int .i64 y, .int .i64 x] w fun e w' => e = .returned (.bool (placeB r wd y x)) ∧ w' = w := by
  unfold placeB
  cases k0 : decide (0 ≤ y ∧ y ≤ r - 1) with
  | false =>
    go_enter Tryd.func79, Tryd.ntmps79
    go_wp2_with (go_at_call 48; refine (l1In_calls _ _ _ _).mono ?_; rintro e w' ⟨rfl, hw⟩; rw [hw]; clear hw w'; rw [k0])
    go_ret
    exact ⟨rfl, rfl⟩
  | true =>
    cases k1 : decide (0 ≤ x ∧ x ≤ wd - 1) with
    | false =>
      go_enter Tryd.func79, Tryd.ntmps79
      go_wp2_with (go_at_call 48; refine (l1In_calls _ _ _ _).mono ?_; rintro e w' ⟨rfl, hw⟩; rw [hw]; clear hw w'; first | rw [k0] | rw [k1])
      go_ret
      exact ⟨rfl, rfl⟩
    | true =>
      go_enter Tryd.func79, Tryd.ntmps79
      go_wp2_with (go_at_call 48; refine (l1In_calls _ _ _ _).mono ?_; rintro e w' ⟨rfl, hw⟩; rw [hw]; clear hw w'; first | rw [k0] | rw [k1])
      go_ret
      exact ⟨rfl, rfl⟩
end Go.Proofs.YtknkbihjboadjaaDoor
