/-
  What SameGrids answers, of the program and of the model.
-/
import Derived.Test.YtceoehiaeanfkaaSameFns
namespace Go.Proofs.Ytceoehiaeanfkaa
set_option maxRecDepth 20000
open Go.ChangeShapes Go.WideShapes Go.ChangeAt Go.RowKit
set_option linter.unusedVariables false
set_option linter.unusedSimpArgs false
set_option maxRecDepth 20000

def sameG (r1 w1 : Int) (cs1 bs1 : List (Int × Int)) (r2 w2 : Int) (cs2 bs2 : List (Int × Int)) : Bool := (r1 == r2) && ((w1 == w2) && (sameL cs1 cs2 0 && sameL bs1 bs2 0))

set_option maxHeartbeats 2000000 in
theorem implSameGrids_calls (r1 w1 : Int) (cs1 bs1 : List (Int × Int)) (r2 w2 : Int) (cs2 bs2 : List (Int × Int)) (v1 v2 v3 v4 : Value) (w : World) (n1 : cs1.length ≤ 1048576) (n2 : bs1.length ≤ 1048576) (n3 : cs2.length ≤ 1048576) (n4 : bs2.length ≤ 1048576) (h1 : PRead w v1 cs1) (h2 : PRead w v2 bs1) (h3 : PRead w v3 cs2) (h4 : PRead w v4 bs2) :
    Calls Try.prog 42 #[.agg #[.int .i64 r1, .int .i64 w1, v1, v2], .agg #[.int .i64 r2, .int .i64 w2, v3, v4]] w fun e w' => e = .returned (.bool (sameG r1 w1 cs1 bs1 r2 w2 cs2 bs2)) ∧ Below w.heap.size w w' := by
  have h1' := h1
  obtain ⟨a1, c1, rfl, hz1⟩ := h1'
  clear hz1
  have h2' := h2
  obtain ⟨a2, c2, rfl, hz2⟩ := h2'
  clear hz2
  have h3' := h3
  obtain ⟨a3, c3, rfl, hz3⟩ := h3'
  clear hz3
  have h4' := h4
  obtain ⟨a4, c4, rfl, hz4⟩ := h4'
  clear hz4
  have hb0 : Below w.heap.size w ((w.alloc (.cells #[.int .i64 r1, .int .i64 w1, .slice a1 cs1.length c1, .slice a2 bs1.length c2] 33)).alloc (.cells #[.int .i64 r2, .int .i64 w2, .slice a3 cs2.length c3, .slice a4 bs2.length c4] 33)) := (by repeat' (first | with_reducible exact Below.refl _ _ | with_reducible assumption | with_reducible refine Below.drew ?_ | with_reducible refine Below.alloc ?_ ?_ _ | with_reducible refine Below.setCell ?_ ?_ _ | (simp; done) | (simp; omega) | omega))
  cases e1 : (r1 == r2) with
  | false =>
    unfold sameG
    rw [e1]
    go_enter Try.func42, Try.ntmps42
    go_wp2
    go_ret
    exact ⟨rfl, hb0⟩
  | true =>
    cases e2 : (w1 == w2) with
    | false =>
      unfold sameG
      rw [e1, e2]
      go_enter Try.func42, Try.ntmps42
      go_wp2
      go_ret
      exact ⟨rfl, hb0⟩
    | true =>
      cases e3 : sameL cs1 cs2 0 with
      | false =>
        unfold sameG
        rw [e1, e2, e3]
        go_enter Try.func42, Try.ntmps42
        go_wp2_with fail
        refine (equalCells_calls cs1 cs2 _ _ _ n1 n3 (h1.below hb0) (h3.below hb0)).mono ?_
        rintro e w1' ⟨rfl, hb1⟩
        rw [e3]
        have A3 : w1'.cell? ⟨w.heap.size, 3, none⟩ = some (.slice a2 bs1.length c2) := cellb hb1 (by simp [go_sem])
        have B3 : w1'.cell? ⟨w.heap.size + 1, 3, none⟩ = some (.slice a4 bs2.length c4) := cellb hb1 (by simp [go_sem])
        have b1 := hb0.trans (hb1.mono hb0.size)
        clear hb1
        go_wp2
        go_ret
        exact ⟨rfl, b1⟩
      | true =>
        cases e4 : sameL bs1 bs2 0 with
        | false =>
          unfold sameG
          rw [e1, e2, e3, e4]
          go_enter Try.func42, Try.ntmps42
          go_wp2_with fail
          refine (equalCells_calls cs1 cs2 _ _ _ n1 n3 (h1.below hb0) (h3.below hb0)).mono ?_
          rintro e w1' ⟨rfl, hb1⟩
          rw [e3]
          have A3 : w1'.cell? ⟨w.heap.size, 3, none⟩ = some (.slice a2 bs1.length c2) := cellb hb1 (by simp [go_sem])
          have B3 : w1'.cell? ⟨w.heap.size + 1, 3, none⟩ = some (.slice a4 bs2.length c4) := cellb hb1 (by simp [go_sem])
          have b1 := hb0.trans (hb1.mono hb0.size)
          clear hb1
          go_wp2_with fail
          refine (equalCells_calls bs1 bs2 _ _ _ n2 n4 (h2.below b1) (h4.below b1)).mono ?_
          rintro e w2' ⟨rfl, hb2⟩
          rw [e4]
          have b2 := b1.trans (hb2.mono b1.size)
          clear hb2
          go_wp2
          go_ret
          exact ⟨rfl, b2⟩
        | true =>
          unfold sameG
          rw [e1, e2, e3, e4]
          go_enter Try.func42, Try.ntmps42
          go_wp2_with fail
          refine (equalCells_calls cs1 cs2 _ _ _ n1 n3 (h1.below hb0) (h3.below hb0)).mono ?_
          rintro e w1' ⟨rfl, hb1⟩
          rw [e3]
          have A3 : w1'.cell? ⟨w.heap.size, 3, none⟩ = some (.slice a2 bs1.length c2) := cellb hb1 (by simp [go_sem])
          have B3 : w1'.cell? ⟨w.heap.size + 1, 3, none⟩ = some (.slice a4 bs2.length c4) := cellb hb1 (by simp [go_sem])
          have b1 := hb0.trans (hb1.mono hb0.size)
          clear hb1
          go_wp2_with fail
          refine (equalCells_calls bs1 bs2 _ _ _ n2 n4 (h2.below b1) (h4.below b1)).mono ?_
          rintro e w2' ⟨rfl, hb2⟩
          rw [e4]
          have b2 := b1.trans (hb2.mono b1.size)
          clear hb2
          go_wp2
          go_ret
          exact ⟨rfl, b2⟩


end Go.Proofs.Ytceoehiaeanfkaa
