/-
  The model's readers of a grid that is a part of a block: l3Place, l3Fault.
-/
import Derived.Test.YtknkbihjboadjaaDoorPlaceFns
import Derived.Test.YtknkbihjboadjaaDoorScrFault4
import Derived.Test.YtknkbihjboadjaaDoorSegMem
import Derived.Deep.QuietTactic
import Derived.BigQuiet
namespace Go.Proofs.YtknkbihjboadjaaDoor
set_option maxRecDepth 20000
open Go.ChangeShapes Go.WideShapes Go.ChangeAt Go.RowKit
set_option linter.unusedVariables false
set_option linter.unusedSimpArgs false
set_option maxRecDepth 20000

set_option maxHeartbeats 400000 in
theorem l3Place_o (r wd y x : Int) (b ob : Nat) (h1 : 1 ≤ r) (h2 : r ≤ 6) (h3 : 2 ≤ wd) (h4 : wd ≤ 12) (w : World) (c0 : w.cell? ⟨b, ob, none⟩ = some (.int .i64 r)) (c1 : w.cell? ⟨b, ob + 1, none⟩ = some (.int .i64 wd)) :
    Calls Tryd.prog 79 #[.pointer (some ⟨b, ob, none⟩), .int .i64 y, .int .i64 x] w fun e w' => e = .returned (.bool (placeB r wd y x)) ∧ w' = w := by
  unfold placeB
  cases k0 : decide (0 ≤ y ∧ y ≤ r - 1) with
  | false =>
    go_enter Tryd.func79, Tryd.ntmps79
    go_wp2_with (go_at_call 48; refine (l1In_calls _ _ _ _).mono ?_; rintro e w' ⟨rfl, hw⟩; rw [hw]; clear hw w'; rw [k0])
    go_ret
    exact ⟨rfl, rfl⟩
  | true =>
    cases k1 : decide (0 ≤ x ∧ x ≤ wd - 1) with
    | false =>
      go_enter Tryd.func79, Tryd.ntmps79
      go_wp2_with (go_at_call 48; refine (l1In_calls _ _ _ _).mono ?_; rintro e w' ⟨rfl, hw⟩; rw [hw]; clear hw w'; first | rw [k0] | rw [k1])
      go_ret
      exact ⟨rfl, rfl⟩
    | true =>
      go_enter Tryd.func79, Tryd.ntmps79
      go_wp2_with (go_at_call 48; refine (l1In_calls _ _ _ _).mono ?_; rintro e w' ⟨rfl, hw⟩; rw [hw]; clear hw w'; first | rw [k0] | rw [k1])
      go_ret
      exact ⟨rfl, rfl⟩

theorem keep4_o {W w1 w2 : World} {b ob : Nat} {u0 u1 u2 u3 : Value} (h : Below W.heap.size W w1 ∧ w1.cell? ⟨b, ob, none⟩ = some u0 ∧ w1.cell? ⟨b, ob + 1, none⟩ = some u1 ∧ w1.cell? ⟨b, ob + 2, none⟩ = some u2 ∧ w1.cell? ⟨b, ob + 3, none⟩ = some u3) (hb : Below w1.heap.size w1 w2) :
    Below W.heap.size W w2 ∧ w2.cell? ⟨b, ob, none⟩ = some u0 ∧ w2.cell? ⟨b, ob + 1, none⟩ = some u1 ∧ w2.cell? ⟨b, ob + 2, none⟩ = some u2 ∧ w2.cell? ⟨b, ob + 3, none⟩ = some u3 := by
  obtain ⟨h0, h1, h2, h3, h4⟩ := h
  exact ⟨h0.trans (hb.mono h0.size), cellb hb h1, cellb hb h2, cellb hb h3, cellb hb h4⟩

set_option maxHeartbeats 1000000 in
theorem l3Fault_o (r wd : Int) (cs bs : List (Int × Int)) (v1 v2 : Value) (b ob : Nat) (w : World) (hn1 : cs.length ≤ 1048576) (hn2 : bs.length ≤ 1048576) (h1 : PRead w v1 cs) (h2 : PRead w v2 bs)
    (k0 : w.cell? ⟨b, ob, none⟩ = some (.int .i64 r)) (k1 : w.cell? ⟨b, ob + 1, none⟩ = some (.int .i64 wd)) (k2 : w.cell? ⟨b, ob + 2, none⟩ = some v1) (k3 : w.cell? ⟨b, ob + 3, none⟩ = some v2) :
    Calls Tryd.prog 52 #[.pointer (some ⟨b, ob, none⟩)] w fun e w' => e = .returned (.int .i64 (gridCode r wd cs bs)) ∧ Below w.heap.size w w' := by
  have h1' := h1
  obtain ⟨a1, c1, rfl, _⟩ := h1'
  have h2' := h2
  obtain ⟨a2, c2, rfl, _⟩ := h2'
  cases hsz : sizeB r wd with
  | false =>
    rw [code_size hsz]
    go_enter Tryd.func52, Tryd.ntmps52
    go_wp2_with fail
    go_region_held3 (fun w' => Below w.heap.size w w' ∧ w'.cell? ⟨b, ob, none⟩ = some (.int .i64 r) ∧ w'.cell? ⟨b, ob + 1, none⟩ = some (.int .i64 wd) ∧ w'.cell? ⟨b, ob + 2, none⟩ = some (.slice a1 cs.length c1) ∧ w'.cell? ⟨b, ob + 3, none⟩ = some (.slice a2 bs.length c2))
      (first
        | exact ⟨Below.drew (Below.refl _ w), k0, k1, k2, k3⟩
        | exact keep4_o (by assumption) (Below.refl _ _))
      (first | (go_at_call 77; refine (l3Size_calls r wd _).mono ?_; rintro e w9 ⟨rfl, hw⟩; rw [hw, hsz]; clear hw w9))
    go_wp2
    go_ret
    exact ⟨rfl, ‹Below w.heap.size w _ ∧ _›.1⟩
  | true =>
    obtain ⟨s1, s2, s3, s4, s5, s6⟩ := size_mul hsz
    have hwr : IntKind.i64.wrap (r * wd) = r * wd := wrap_small (by omega) (by omega)
    have hw5 : IntKind.i64.wrap (5 * wd) = 5 * wd := wrap_small (by omega) (by omega)
    have hz0 : ¬ wd = 0 := by omega
    have htm : (bs.length : Int).tmod wd = (bs.length : Int) % wd := tmod_pos (by omega)
    have hwm : IntKind.i64.wrap ((bs.length : Int) % wd) = (bs.length : Int) % wd := wrap_small (by have := Int.emod_nonneg (bs.length : Int) hz0; omega) (by have := Int.emod_lt_of_pos (bs.length : Int) (show 0 < wd by omega); omega)
    go_enter Tryd.func52, Tryd.ntmps52
    go_wp2_with fail
    go_region_held3 (fun w' => Below w.heap.size w w' ∧ w'.cell? ⟨b, ob, none⟩ = some (.int .i64 r) ∧ w'.cell? ⟨b, ob + 1, none⟩ = some (.int .i64 wd) ∧ w'.cell? ⟨b, ob + 2, none⟩ = some (.slice a1 cs.length c1) ∧ w'.cell? ⟨b, ob + 3, none⟩ = some (.slice a2 bs.length c2))
      (first
        | exact ⟨Below.drew (Below.refl _ w), k0, k1, k2, k3⟩
        | exact keep4_o (by assumption) (Below.refl _ _))
      (first | (go_at_call 77; refine (l3Size_calls r wd _).mono ?_; rintro e w9 ⟨rfl, hw⟩; rw [hw, hsz]; clear hw w9))
    have hb0 := ‹Below w.heap.size w _ ∧ _›.1
    by_cases e1 : (cs.length : Int) = r * wd
    · have HE1 := hide e1
      have hne : ((cs.length : Int) != r * wd) = false := by simpa using e1
      clear e1
      by_cases e2 : 5 * wd < (bs.length : Int)
      · have HC := hide (code_back hsz HE1.out e2)
        clear hsz HE1
        go_wp2_with fail
        go_quiet (fail)
        go_wp2
        go_ret
        exact ⟨by rw [HC.out]; rfl, below_drewN hb0 _⟩
      · by_cases e3 : (bs.length : Int) % wd = 0
        · have e3' : (((bs.length : Int) % wd) != 0) = false := by simpa using e3
          have HE3 := hide e3
          clear e3
          have HC1 := hide (code_bad1 (bs := bs) hsz HE1.out e2 HE3.out)
          have HC2 := hide (code_bad2 (bs := bs) hsz HE1.out e2 HE3.out)
          have HC3 := hide (code_ok (bs := bs) hsz HE1.out e2 HE3.out)
          clear hsz HE1 HE3
          go_wp2_with fail
          go_quiet (fail)
          go_wp2_with fail
          have hb1 : Below w.heap.size w (w.drewN (1 + nq)) := below_drewN (Below.refl _ _) _
          refine (l3Cells_calls cs _ _ hn1 (h1.below hb1)).mono ?_
          rintro e w1 ⟨rfl, rfl⟩
          cases h4 : allC cs 0 with
          | false =>
            have HC := hide (HC1.out h4)
            clear HC1 HC2 HC3
            go_wp2
            go_ret
            exact ⟨by rw [HC.out]; rfl, hb1⟩
          | true =>
            replace HC2 := hide (HC2.out h4)
            replace HC3 := hide (HC3.out h4)
            clear HC1
            go_wp2_with fail
            refine (l3Cells_calls bs _ _ hn2 (h2.below hb1)).mono ?_
            rintro e w2 ⟨rfl, rfl⟩
            cases h5 : allC bs 0 with
            | false =>
              have HC := hide (HC2.out h5)
              clear HC2 HC3
              go_wp2
              go_ret
              exact ⟨by rw [HC.out]; rfl, hb1⟩
            | true =>
              have HC := hide (HC3.out h5)
              clear HC2 HC3
              go_wp2
              go_ret
              exact ⟨by rw [HC.out]; rfl, hb1⟩
        · have e3' : (((bs.length : Int) % wd) != 0) = true := by simpa using e3
          have HC := hide (code_rest hsz HE1.out e2 e3)
          clear hsz HE1 e3
          go_wp2_with fail
          go_quiet (fail)
          go_wp2
          go_ret
          exact ⟨by rw [HC.out]; rfl, below_drewN hb0 _⟩
    · have hne : ((cs.length : Int) != r * wd) = true := by simpa using e1
      have HC := hide (code_cells (bs := bs) hsz e1)
      clear hsz e1
      go_wp2_with fail
      go_quiet (fail)
      go_wp2
      go_ret
      exact ⟨by rw [HC.out]; rfl, below_drewN hb0 _⟩

theorem scrPlace_o (s : Scr) (b ob : Nat) (B : Bool) (hB : placeB s.r s.wd s.y s.x = B) (s1 : 1 ≤ s.r) (s2 : s.r ≤ 6) (s3 : 2 ≤ s.wd) (s4 : s.wd ≤ 12) (w : World) (c0 : w.cell? ⟨b, ob, none⟩ = some (.int .i64 s.r)) (c1 : w.cell? ⟨b, ob + 1, none⟩ = some (.int .i64 s.wd)) :
    Calls Tryd.prog 79 #[.pointer (some ⟨b, ob, none⟩), .int .i64 s.y, .int .i64 s.x] w fun e w' => e = .returned (.bool B) ∧ w' = w := by
  subst hB; exact l3Place_o s.r s.wd s.y s.x b ob s1 s2 s3 s4 w c0 c1

end Go.Proofs.YtknkbihjboadjaaDoor
