/-
  What ShiftCells answers, of the program and of the model.
-/
import Derived.Test.YtbndncfkkhjkoabGridRes
import Derived.Test.YtbndncfkkhjkoabSlideFns
import Derived.Test.YtbndncfkkhjkoabRowFns3
import Derived.Deep.RegionHeld3
import Derived.Deep.RegionHeld
namespace Go.Proofs.Ytbndncfkkhjkoab
set_option maxRecDepth 20000
open Go.ChangeShapes Go.WideShapes Go.ChangeAt Go.RowKit
set_option linter.unusedVariables false
set_option linter.unusedSimpArgs false
set_option maxRecDepth 20000

def shiftOk (r wd y x n at' : Int) : Bool := placeB r wd y x && (decide (-12 ≤ n ∧ n ≤ 12) && atB at')
/-- Of a row of m cells from place K on the cells from X on, shifted by n to the right. -/
def shiftF (K X m : Nat) (n : Int) (f : Nat → Int × Int) (bl : Int × Int) (i : Nat) : Int × Int := if K + X ≤ i ∧ i < K + m then (if (X : Int) ≤ ((i - K : Nat) : Int) - n ∧ ((i - K : Nat) : Int) - n < m then f (K + (((i - K : Nat) : Int) - n).toNat) else bl) else f i
def shiftRes (r wd : Int) (cs bs : List (Int × Int)) (y x n at' : Int) : GRes := gres r wd cs bs (shiftOk r wd y x n at') ⟨0, r, wd, mkL cs.length (shiftF (y * wd).toNat x.toNat wd.toNat n (fun i => cs.getD i (0, 0)) (32, at')), bs⟩
theorem shiftRes_def (r wd : Int) (cs bs : List (Int × Int)) (y x n at' : Int) : shiftRes r wd cs bs y x n at' = gres r wd cs bs (shiftOk r wd y x n at') ⟨0, r, wd, mkL cs.length (shiftF (y * wd).toNat x.toNat wd.toNat n (fun i => cs.getD i (0, 0)) (32, at')), bs⟩ := rfl
theorem shiftRes_len (r wd : Int) (cs bs : List (Int × Int)) (y x n at' : Int) : (shiftRes r wd cs bs y x n at').cs.length ≤ 72 ∧ (shiftRes r wd cs bs y x n at').bs.length ≤ 60 := gres_len (fun h => by obtain ⟨_, _, _, h1, h2, h3⟩ := h.short; exact ⟨by rw [mkL_length]; exact h2, h3⟩)
/-- A place of a grid without a fault, as naturals. -/
theorem place_nats {r wd y x : Int} {cs bs : List (Int × Int)} (h : GFine r wd cs bs) (hp : placeB r wd y x = true) : ∃ K X m : Nat, y * wd = (K : Int) ∧ x = (X : Int) ∧ wd = (m : Int) ∧ K + m ≤ cs.length ∧ X < m ∧ 2 ≤ m ∧ m ≤ 12 ∧ 0 ≤ y ∧ y ≤ 1000 := by
  obtain ⟨R, W, rfl, rfl, n1, n2, n3, n4, n5, n6, n7, n8, n9, n10⟩ := h.nats
  unfold placeB at hp
  simp at hp
  obtain ⟨⟨p1, p2⟩, p3, p4⟩ := hp
  obtain ⟨Y, rfl⟩ : ∃ Y : Nat, y = Y := ⟨y.toNat, by omega⟩
  obtain ⟨X, rfl⟩ : ∃ X : Nat, x = X := ⟨x.toNat, by omega⟩
  have h1 : (Y + 1) * W ≤ R * W := Nat.mul_le_mul_right W (by omega)
  rw [Nat.add_mul] at h1
  exact ⟨Y * W, X, W, by rw [Int.natCast_mul], rfl, rfl, by omega, by omega, by omega, by omega, by omega, by omega⟩
theorem fine_bounds {r wd : Int} {cs bs : List (Int × Int)} (h : GFine r wd cs bs) : 1 ≤ r ∧ r ≤ 6 ∧ 2 ≤ wd ∧ wd ≤ 12 := by
  obtain ⟨s1, s2, s3, s4, _⟩ := size_mul h.size
  exact ⟨s1, s2, s3, s4⟩

set_option maxHeartbeats 2000000 in
theorem implShiftCells_calls (r wd : Int) (cs bs : List (Int × Int)) (y x n at' : Int) (v1 v2 : Value) (w : World) (hn1 : cs.length ≤ 1048576) (hn2 : bs.length ≤ 1048576) (h1 : PRead w v1 cs) (h2 : PRead w v2 bs) :
    Calls Try.prog 7 #[.agg #[.int .i64 r, .int .i64 wd, v1, v2], .int .i64 y, .int .i64 x, .int .i64 n, .int .i64 at'] w fun e w' => ∃ v5 v6, e = .returned (.agg #[.int .i64 (shiftRes r wd cs bs y x n at').code, .int .i64 (shiftRes r wd cs bs y x n at').rows, .int .i64 (shiftRes r wd cs bs y x n at').wd, v5, v6]) ∧ GOwn w.heap.size w'.heap.size w' v5 v6 (shiftRes r wd cs bs y x n at').cs (shiftRes r wd cs bs y x n at').bs ∧ Below w.heap.size w w' := by
  have h1' := h1
  obtain ⟨a1, c1, rfl, hx1⟩ := h1'
  clear hx1
  have h2' := h2
  obtain ⟨a2, c2, rfl, hx2⟩ := h2'
  clear hx2
  have hb0 : Below w.heap.size w ((w.alloc (.cells #[.int .i64 r, .int .i64 wd, .slice a1 cs.length c1, .slice a2 bs.length c2] 26)).alloc (.cells #[.int .i64 0, .int .i64 0, .int .i64 0, .slice none 0 0, .slice none 0 0] 30)) := (by repeat' (first | with_reducible exact Below.refl _ _ | with_reducible assumption | with_reducible refine Below.drew ?_ | with_reducible refine Below.alloc ?_ ?_ _ | with_reducible refine Below.setCell ?_ ?_ _ | (simp; done) | (simp; omega) | omega))
  have HF := implGridFault_calls r wd cs bs _ _ ((w.alloc (.cells #[.int .i64 r, .int .i64 wd, .slice a1 cs.length c1, .slice a2 bs.length c2] 26)).alloc (.cells #[.int .i64 0, .int .i64 0, .int .i64 0, .slice none 0 0, .slice none 0 0] 30)) hn1 hn2 (h1.below hb0) (h2.below hb0)
  have hbd : gridCode r wd cs bs = 0 → 1 ≤ r ∧ r ≤ 6 ∧ 2 ≤ wd ∧ wd ≤ 12 := fun h => fine_bounds (gfine_of_code h)
  by_cases hG : gridCode r wd cs bs = 0
  · cases k0 : placeB r wd y x with
    | false =>
      obtain ⟨g1, g2, g3, g4⟩ := hbd hG
      rw [shiftRes_def, gres_bad hG (by unfold shiftOk; first | (rw [k0]; rfl) | (rw [k0, k1]; rfl) | (rw [k0, k1, k2]; rfl))]
      rw [hG] at HF
      simp only [gbad]
      go_enter Try.func7, Try.ntmps7
      go_wp2_with fail
      refine HF.mono ?_
      rintro e w1 ⟨rfl, hb1⟩
      have A0 : w1.cell? ⟨w.heap.size, 0, none⟩ = some (.int .i64 r) := cellb hb1 (by simp [go_sem])
      have A1 : w1.cell? ⟨w.heap.size, 1, none⟩ = some (.int .i64 wd) := cellb hb1 (by simp [go_sem])
      have A2 : w1.cell? ⟨w.heap.size, 2, none⟩ = some (.slice a1 cs.length c1) := cellb hb1 (by simp [go_sem])
      have A3 : w1.cell? ⟨w.heap.size, 3, none⟩ = some (.slice a2 bs.length c2) := cellb hb1 (by simp [go_sem])
      have R0 : w1.cell? ⟨w.heap.size + 1, 0, none⟩ = some (.int .i64 0) := cellb hb1 (by simp [go_sem])
      have Z0 : w1.frozen? ⟨w.heap.size + 1, 0, none⟩ = false := by rw [hb1.frozen (p := ⟨w.heap.size + 1, 0, none⟩) (by simp)]; simp [go_sem]
      have R1 : w1.cell? ⟨w.heap.size + 1, 1, none⟩ = some (.int .i64 0) := cellb hb1 (by simp [go_sem])
      have Z1 : w1.frozen? ⟨w.heap.size + 1, 1, none⟩ = false := by rw [hb1.frozen (p := ⟨w.heap.size + 1, 1, none⟩) (by simp)]; simp [go_sem]
      have R2 : w1.cell? ⟨w.heap.size + 1, 2, none⟩ = some (.int .i64 0) := cellb hb1 (by simp [go_sem])
      have Z2 : w1.frozen? ⟨w.heap.size + 1, 2, none⟩ = false := by rw [hb1.frozen (p := ⟨w.heap.size + 1, 2, none⟩) (by simp)]; simp [go_sem]
      have R3 : w1.cell? ⟨w.heap.size + 1, 3, none⟩ = some (.slice none 0 0) := cellb hb1 (by simp [go_sem])
      have Z3 : w1.frozen? ⟨w.heap.size + 1, 3, none⟩ = false := by rw [hb1.frozen (p := ⟨w.heap.size + 1, 3, none⟩) (by simp)]; simp [go_sem]
      have R4 : w1.cell? ⟨w.heap.size + 1, 4, none⟩ = some (.slice none 0 0) := cellb hb1 (by simp [go_sem])
      have Z4 : w1.frozen? ⟨w.heap.size + 1, 4, none⟩ = false := by rw [hb1.frozen (p := ⟨w.heap.size + 1, 4, none⟩) (by simp)]; simp [go_sem]
      have hs1 : w.heap.size + 2 ≤ w1.heap.size := by have := hb1.size; simp at this; omega
      have b1 : Below w.heap.size w w1 := hb0.trans (hb1.mono (by simp; omega))
      clear hb1 hb0 HF
      go_wp2_with fail
      refine (isPlace_calls r wd y x a1 a2 cs.length bs.length c1 c2 g1 g2 g3 g4 _).mono ?_
      rintro e w7 ⟨rfl, hb7⟩
      rw [k0]
      replace A0 := cellb hb7 A0
      replace A1 := cellb hb7 A1
      replace A2 := cellb hb7 A2
      replace A3 := cellb hb7 A3
      replace R0 := cellb hb7 R0
      replace R1 := cellb hb7 R1
      replace R2 := cellb hb7 R2
      replace R3 := cellb hb7 R3
      replace R4 := cellb hb7 R4
      replace Z0 : w7.frozen? ⟨w.heap.size + 1, 0, none⟩ = false := by rw [hb7.frozen (p := ⟨w.heap.size + 1, 0, none⟩) (by simp; omega)]; exact Z0
      replace Z1 : w7.frozen? ⟨w.heap.size + 1, 1, none⟩ = false := by rw [hb7.frozen (p := ⟨w.heap.size + 1, 1, none⟩) (by simp; omega)]; exact Z1
      replace Z2 : w7.frozen? ⟨w.heap.size + 1, 2, none⟩ = false := by rw [hb7.frozen (p := ⟨w.heap.size + 1, 2, none⟩) (by simp; omega)]; exact Z2
      replace Z3 : w7.frozen? ⟨w.heap.size + 1, 3, none⟩ = false := by rw [hb7.frozen (p := ⟨w.heap.size + 1, 3, none⟩) (by simp; omega)]; exact Z3
      replace Z4 : w7.frozen? ⟨w.heap.size + 1, 4, none⟩ = false := by rw [hb7.frozen (p := ⟨w.heap.size + 1, 4, none⟩) (by simp; omega)]; exact Z4
      have b7 := b1.trans (hb7.mono b1.size)
      have hs7 : w1.heap.size ≤ w7.heap.size := hb7.size
      clear hb7 b1
      have b1 := b7
      clear b7
      go_wp2_with (first
        | (go_at_call 27; refine (isFromTo_calls _ _ _ _).mono ?_; rintro e w' ⟨rfl, hw⟩; rw [hw]; clear hw w'; rw [k1])
        | (go_at_call 28; refine (isAttr_calls _ _).mono ?_; rintro e w' ⟨rfl, hw⟩; rw [hw]; clear hw w'; rw [k2]))
      have hr := res5 (w := w7) (r := w.heap.size + 1) (.int .i64 3) (.int .i64 0) (.int .i64 0) (.slice none 0 0) (.slice none 0 0) R0 R1 R2 R3 R4
      go_wp2
      refine bodyPost_ret (v := .agg #[.int .i64 3, .int .i64 0, .int .i64 0, .slice none 0 0, .slice none 0 0]) (by simp only [results, Try.results7]; simp [go_sem, hr.1, hr.2.1, hr.2.2.1, hr.2.2.2.1, hr.2.2.2.2]) rfl ⟨_, _, rfl, ?_, b1.trans (show Below w.heap.size w7 _ from (by repeat' (first | with_reducible exact Below.refl _ _ | with_reducible assumption | with_reducible refine Below.drew ?_ | with_reducible refine Below.alloc ?_ ?_ _ | with_reducible refine Below.setCell ?_ ?_ _ | (simp; done) | (simp; omega) | omega)))⟩
      exact GOwn.nil _ _ _ (by have := b1.size; simp [World.setCell]; omega)
    | true =>
      cases k1 : decide (-12 ≤ n ∧ n ≤ 12) with
      | false =>
        obtain ⟨g1, g2, g3, g4⟩ := hbd hG
        rw [shiftRes_def, gres_bad hG (by unfold shiftOk; first | (rw [k0]; rfl) | (rw [k0, k1]; rfl) | (rw [k0, k1, k2]; rfl))]
        rw [hG] at HF
        simp only [gbad]
        go_enter Try.func7, Try.ntmps7
        go_wp2_with fail
        refine HF.mono ?_
        rintro e w1 ⟨rfl, hb1⟩
        have A0 : w1.cell? ⟨w.heap.size, 0, none⟩ = some (.int .i64 r) := cellb hb1 (by simp [go_sem])
        have A1 : w1.cell? ⟨w.heap.size, 1, none⟩ = some (.int .i64 wd) := cellb hb1 (by simp [go_sem])
        have A2 : w1.cell? ⟨w.heap.size, 2, none⟩ = some (.slice a1 cs.length c1) := cellb hb1 (by simp [go_sem])
        have A3 : w1.cell? ⟨w.heap.size, 3, none⟩ = some (.slice a2 bs.length c2) := cellb hb1 (by simp [go_sem])
        have R0 : w1.cell? ⟨w.heap.size + 1, 0, none⟩ = some (.int .i64 0) := cellb hb1 (by simp [go_sem])
        have Z0 : w1.frozen? ⟨w.heap.size + 1, 0, none⟩ = false := by rw [hb1.frozen (p := ⟨w.heap.size + 1, 0, none⟩) (by simp)]; simp [go_sem]
        have R1 : w1.cell? ⟨w.heap.size + 1, 1, none⟩ = some (.int .i64 0) := cellb hb1 (by simp [go_sem])
        have Z1 : w1.frozen? ⟨w.heap.size + 1, 1, none⟩ = false := by rw [hb1.frozen (p := ⟨w.heap.size + 1, 1, none⟩) (by simp)]; simp [go_sem]
        have R2 : w1.cell? ⟨w.heap.size + 1, 2, none⟩ = some (.int .i64 0) := cellb hb1 (by simp [go_sem])
        have Z2 : w1.frozen? ⟨w.heap.size + 1, 2, none⟩ = false := by rw [hb1.frozen (p := ⟨w.heap.size + 1, 2, none⟩) (by simp)]; simp [go_sem]
        have R3 : w1.cell? ⟨w.heap.size + 1, 3, none⟩ = some (.slice none 0 0) := cellb hb1 (by simp [go_sem])
        have Z3 : w1.frozen? ⟨w.heap.size + 1, 3, none⟩ = false := by rw [hb1.frozen (p := ⟨w.heap.size + 1, 3, none⟩) (by simp)]; simp [go_sem]
        have R4 : w1.cell? ⟨w.heap.size + 1, 4, none⟩ = some (.slice none 0 0) := cellb hb1 (by simp [go_sem])
        have Z4 : w1.frozen? ⟨w.heap.size + 1, 4, none⟩ = false := by rw [hb1.frozen (p := ⟨w.heap.size + 1, 4, none⟩) (by simp)]; simp [go_sem]
        have hs1 : w.heap.size + 2 ≤ w1.heap.size := by have := hb1.size; simp at this; omega
        have b1 : Below w.heap.size w w1 := hb0.trans (hb1.mono (by simp; omega))
        clear hb1 hb0 HF
        go_wp2_with fail
        refine (isPlace_calls r wd y x a1 a2 cs.length bs.length c1 c2 g1 g2 g3 g4 _).mono ?_
        rintro e w7 ⟨rfl, hb7⟩
        rw [k0]
        replace A0 := cellb hb7 A0
        replace A1 := cellb hb7 A1
        replace A2 := cellb hb7 A2
        replace A3 := cellb hb7 A3
        replace R0 := cellb hb7 R0
        replace R1 := cellb hb7 R1
        replace R2 := cellb hb7 R2
        replace R3 := cellb hb7 R3
        replace R4 := cellb hb7 R4
        replace Z0 : w7.frozen? ⟨w.heap.size + 1, 0, none⟩ = false := by rw [hb7.frozen (p := ⟨w.heap.size + 1, 0, none⟩) (by simp; omega)]; exact Z0
        replace Z1 : w7.frozen? ⟨w.heap.size + 1, 1, none⟩ = false := by rw [hb7.frozen (p := ⟨w.heap.size + 1, 1, none⟩) (by simp; omega)]; exact Z1
        replace Z2 : w7.frozen? ⟨w.heap.size + 1, 2, none⟩ = false := by rw [hb7.frozen (p := ⟨w.heap.size + 1, 2, none⟩) (by simp; omega)]; exact Z2
        replace Z3 : w7.frozen? ⟨w.heap.size + 1, 3, none⟩ = false := by rw [hb7.frozen (p := ⟨w.heap.size + 1, 3, none⟩) (by simp; omega)]; exact Z3
        replace Z4 : w7.frozen? ⟨w.heap.size + 1, 4, none⟩ = false := by rw [hb7.frozen (p := ⟨w.heap.size + 1, 4, none⟩) (by simp; omega)]; exact Z4
        have b7 := b1.trans (hb7.mono b1.size)
        have hs7 : w1.heap.size ≤ w7.heap.size := hb7.size
        clear hb7 b1
        have b1 := b7
        clear b7
        go_wp2_with (first
          | (go_at_call 27; refine (isFromTo_calls _ _ _ _).mono ?_; rintro e w' ⟨rfl, hw⟩; rw [hw]; clear hw w'; rw [k1])
          | (go_at_call 28; refine (isAttr_calls _ _).mono ?_; rintro e w' ⟨rfl, hw⟩; rw [hw]; clear hw w'; rw [k2]))
        have hr := res5 (w := w7) (r := w.heap.size + 1) (.int .i64 3) (.int .i64 0) (.int .i64 0) (.slice none 0 0) (.slice none 0 0) R0 R1 R2 R3 R4
        go_wp2
        refine bodyPost_ret (v := .agg #[.int .i64 3, .int .i64 0, .int .i64 0, .slice none 0 0, .slice none 0 0]) (by simp only [results, Try.results7]; simp [go_sem, hr.1, hr.2.1, hr.2.2.1, hr.2.2.2.1, hr.2.2.2.2]) rfl ⟨_, _, rfl, ?_, b1.trans (show Below w.heap.size w7 _ from (by repeat' (first | with_reducible exact Below.refl _ _ | with_reducible assumption | with_reducible refine Below.drew ?_ | with_reducible refine Below.alloc ?_ ?_ _ | with_reducible refine Below.setCell ?_ ?_ _ | (simp; done) | (simp; omega) | omega)))⟩
        exact GOwn.nil _ _ _ (by have := b1.size; simp [World.setCell]; omega)
      | true =>
        cases k2 : atB at' with
        | false =>
          obtain ⟨g1, g2, g3, g4⟩ := hbd hG
          rw [shiftRes_def, gres_bad hG (by unfold shiftOk; first | (rw [k0]; rfl) | (rw [k0, k1]; rfl) | (rw [k0, k1, k2]; rfl))]
          rw [hG] at HF
          simp only [gbad]
          go_enter Try.func7, Try.ntmps7
          go_wp2_with fail
          refine HF.mono ?_
          rintro e w1 ⟨rfl, hb1⟩
          have A0 : w1.cell? ⟨w.heap.size, 0, none⟩ = some (.int .i64 r) := cellb hb1 (by simp [go_sem])
          have A1 : w1.cell? ⟨w.heap.size, 1, none⟩ = some (.int .i64 wd) := cellb hb1 (by simp [go_sem])
          have A2 : w1.cell? ⟨w.heap.size, 2, none⟩ = some (.slice a1 cs.length c1) := cellb hb1 (by simp [go_sem])
          have A3 : w1.cell? ⟨w.heap.size, 3, none⟩ = some (.slice a2 bs.length c2) := cellb hb1 (by simp [go_sem])
          have R0 : w1.cell? ⟨w.heap.size + 1, 0, none⟩ = some (.int .i64 0) := cellb hb1 (by simp [go_sem])
          have Z0 : w1.frozen? ⟨w.heap.size + 1, 0, none⟩ = false := by rw [hb1.frozen (p := ⟨w.heap.size + 1, 0, none⟩) (by simp)]; simp [go_sem]
          have R1 : w1.cell? ⟨w.heap.size + 1, 1, none⟩ = some (.int .i64 0) := cellb hb1 (by simp [go_sem])
          have Z1 : w1.frozen? ⟨w.heap.size + 1, 1, none⟩ = false := by rw [hb1.frozen (p := ⟨w.heap.size + 1, 1, none⟩) (by simp)]; simp [go_sem]
          have R2 : w1.cell? ⟨w.heap.size + 1, 2, none⟩ = some (.int .i64 0) := cellb hb1 (by simp [go_sem])
          have Z2 : w1.frozen? ⟨w.heap.size + 1, 2, none⟩ = false := by rw [hb1.frozen (p := ⟨w.heap.size + 1, 2, none⟩) (by simp)]; simp [go_sem]
          have R3 : w1.cell? ⟨w.heap.size + 1, 3, none⟩ = some (.slice none 0 0) := cellb hb1 (by simp [go_sem])
          have Z3 : w1.frozen? ⟨w.heap.size + 1, 3, none⟩ = false := by rw [hb1.frozen (p := ⟨w.heap.size + 1, 3, none⟩) (by simp)]; simp [go_sem]
          have R4 : w1.cell? ⟨w.heap.size + 1, 4, none⟩ = some (.slice none 0 0) := cellb hb1 (by simp [go_sem])
          have Z4 : w1.frozen? ⟨w.heap.size + 1, 4, none⟩ = false := by rw [hb1.frozen (p := ⟨w.heap.size + 1, 4, none⟩) (by simp)]; simp [go_sem]
          have hs1 : w.heap.size + 2 ≤ w1.heap.size := by have := hb1.size; simp at this; omega
          have b1 : Below w.heap.size w w1 := hb0.trans (hb1.mono (by simp; omega))
          clear hb1 hb0 HF
          go_wp2_with fail
          refine (isPlace_calls r wd y x a1 a2 cs.length bs.length c1 c2 g1 g2 g3 g4 _).mono ?_
          rintro e w7 ⟨rfl, hb7⟩
          rw [k0]
          replace A0 := cellb hb7 A0
          replace A1 := cellb hb7 A1
          replace A2 := cellb hb7 A2
          replace A3 := cellb hb7 A3
          replace R0 := cellb hb7 R0
          replace R1 := cellb hb7 R1
          replace R2 := cellb hb7 R2
          replace R3 := cellb hb7 R3
          replace R4 := cellb hb7 R4
          replace Z0 : w7.frozen? ⟨w.heap.size + 1, 0, none⟩ = false := by rw [hb7.frozen (p := ⟨w.heap.size + 1, 0, none⟩) (by simp; omega)]; exact Z0
          replace Z1 : w7.frozen? ⟨w.heap.size + 1, 1, none⟩ = false := by rw [hb7.frozen (p := ⟨w.heap.size + 1, 1, none⟩) (by simp; omega)]; exact Z1
          replace Z2 : w7.frozen? ⟨w.heap.size + 1, 2, none⟩ = false := by rw [hb7.frozen (p := ⟨w.heap.size + 1, 2, none⟩) (by simp; omega)]; exact Z2
          replace Z3 : w7.frozen? ⟨w.heap.size + 1, 3, none⟩ = false := by rw [hb7.frozen (p := ⟨w.heap.size + 1, 3, none⟩) (by simp; omega)]; exact Z3
          replace Z4 : w7.frozen? ⟨w.heap.size + 1, 4, none⟩ = false := by rw [hb7.frozen (p := ⟨w.heap.size + 1, 4, none⟩) (by simp; omega)]; exact Z4
          have b7 := b1.trans (hb7.mono b1.size)
          have hs7 : w1.heap.size ≤ w7.heap.size := hb7.size
          clear hb7 b1
          have b1 := b7
          clear b7
          go_wp2_with (first
            | (go_at_call 27; refine (isFromTo_calls _ _ _ _).mono ?_; rintro e w' ⟨rfl, hw⟩; rw [hw]; clear hw w'; rw [k1])
            | (go_at_call 28; refine (isAttr_calls _ _).mono ?_; rintro e w' ⟨rfl, hw⟩; rw [hw]; clear hw w'; rw [k2]))
          have hr := res5 (w := w7) (r := w.heap.size + 1) (.int .i64 3) (.int .i64 0) (.int .i64 0) (.slice none 0 0) (.slice none 0 0) R0 R1 R2 R3 R4
          go_wp2
          refine bodyPost_ret (v := .agg #[.int .i64 3, .int .i64 0, .int .i64 0, .slice none 0 0, .slice none 0 0]) (by simp only [results, Try.results7]; simp [go_sem, hr.1, hr.2.1, hr.2.2.1, hr.2.2.2.1, hr.2.2.2.2]) rfl ⟨_, _, rfl, ?_, b1.trans (show Below w.heap.size w7 _ from (by repeat' (first | with_reducible exact Below.refl _ _ | with_reducible assumption | with_reducible refine Below.drew ?_ | with_reducible refine Below.alloc ?_ ?_ _ | with_reducible refine Below.setCell ?_ ?_ _ | (simp; done) | (simp; omega) | omega)))⟩
          exact GOwn.nil _ _ _ (by have := b1.size; simp [World.setCell]; omega)
        | true =>
          obtain ⟨g1, g2, g3, g4⟩ := hbd hG
          rw [shiftRes_def, gres_ok hG (by unfold shiftOk; rw [k0, k1, k2]; rfl)]
          rw [hG] at HF
          have hfine := gfine_of_code hG
          obtain ⟨n1, n2, hq, n8, n9, n10⟩ := hfine.short
          obtain ⟨Kr, X, m', eK, eX, eW, q1, q2, q3, q4, y0, y1⟩ := place_nats hfine k0
          clear hfine hG hbd
          have eK' : (y * wd).toNat = Kr := by omega
          have eW' : wd.toNat = m' := by omega
          subst eX
          have j1 := of_decide_eq_true k1
          rw [eK', eW', Int.toNat_natCast]
          have EK := hide eK
          have EW := hide eW
          clear eK eW eK' eW'
          go_enter Try.func7, Try.ntmps7
          go_wp2_with fail
          refine HF.mono ?_
          rintro e w1 ⟨rfl, hb1⟩
          have A0 : w1.cell? ⟨w.heap.size, 0, none⟩ = some (.int .i64 r) := cellb hb1 (by simp [go_sem])
          have A1 : w1.cell? ⟨w.heap.size, 1, none⟩ = some (.int .i64 wd) := cellb hb1 (by simp [go_sem])
          have A2 : w1.cell? ⟨w.heap.size, 2, none⟩ = some (.slice a1 cs.length c1) := cellb hb1 (by simp [go_sem])
          have A3 : w1.cell? ⟨w.heap.size, 3, none⟩ = some (.slice a2 bs.length c2) := cellb hb1 (by simp [go_sem])
          have R0 : w1.cell? ⟨w.heap.size + 1, 0, none⟩ = some (.int .i64 0) := cellb hb1 (by simp [go_sem])
          have Z0 : w1.frozen? ⟨w.heap.size + 1, 0, none⟩ = false := by rw [hb1.frozen (p := ⟨w.heap.size + 1, 0, none⟩) (by simp)]; simp [go_sem]
          have R1 : w1.cell? ⟨w.heap.size + 1, 1, none⟩ = some (.int .i64 0) := cellb hb1 (by simp [go_sem])
          have Z1 : w1.frozen? ⟨w.heap.size + 1, 1, none⟩ = false := by rw [hb1.frozen (p := ⟨w.heap.size + 1, 1, none⟩) (by simp)]; simp [go_sem]
          have R2 : w1.cell? ⟨w.heap.size + 1, 2, none⟩ = some (.int .i64 0) := cellb hb1 (by simp [go_sem])
          have Z2 : w1.frozen? ⟨w.heap.size + 1, 2, none⟩ = false := by rw [hb1.frozen (p := ⟨w.heap.size + 1, 2, none⟩) (by simp)]; simp [go_sem]
          have R3 : w1.cell? ⟨w.heap.size + 1, 3, none⟩ = some (.slice none 0 0) := cellb hb1 (by simp [go_sem])
          have Z3 : w1.frozen? ⟨w.heap.size + 1, 3, none⟩ = false := by rw [hb1.frozen (p := ⟨w.heap.size + 1, 3, none⟩) (by simp)]; simp [go_sem]
          have R4 : w1.cell? ⟨w.heap.size + 1, 4, none⟩ = some (.slice none 0 0) := cellb hb1 (by simp [go_sem])
          have Z4 : w1.frozen? ⟨w.heap.size + 1, 4, none⟩ = false := by rw [hb1.frozen (p := ⟨w.heap.size + 1, 4, none⟩) (by simp)]; simp [go_sem]
          have hs1 : w.heap.size + 2 ≤ w1.heap.size := by have := hb1.size; simp at this; omega
          have b1 : Below w.heap.size w w1 := hb0.trans (hb1.mono (by simp; omega))
          clear hb1 hb0 HF
          go_wp2_with fail
          refine (isPlace_calls r wd y (X : Int) a1 a2 cs.length bs.length c1 c2 g1 g2 g3 g4 _).mono ?_
          rintro e w7 ⟨rfl, hb7⟩
          rw [k0]
          replace A0 := cellb hb7 A0
          replace A1 := cellb hb7 A1
          replace A2 := cellb hb7 A2
          replace A3 := cellb hb7 A3
          replace R0 := cellb hb7 R0
          replace R1 := cellb hb7 R1
          replace R2 := cellb hb7 R2
          replace R3 := cellb hb7 R3
          replace R4 := cellb hb7 R4
          replace Z0 : w7.frozen? ⟨w.heap.size + 1, 0, none⟩ = false := by rw [hb7.frozen (p := ⟨w.heap.size + 1, 0, none⟩) (by simp; omega)]; exact Z0
          replace Z1 : w7.frozen? ⟨w.heap.size + 1, 1, none⟩ = false := by rw [hb7.frozen (p := ⟨w.heap.size + 1, 1, none⟩) (by simp; omega)]; exact Z1
          replace Z2 : w7.frozen? ⟨w.heap.size + 1, 2, none⟩ = false := by rw [hb7.frozen (p := ⟨w.heap.size + 1, 2, none⟩) (by simp; omega)]; exact Z2
          replace Z3 : w7.frozen? ⟨w.heap.size + 1, 3, none⟩ = false := by rw [hb7.frozen (p := ⟨w.heap.size + 1, 3, none⟩) (by simp; omega)]; exact Z3
          replace Z4 : w7.frozen? ⟨w.heap.size + 1, 4, none⟩ = false := by rw [hb7.frozen (p := ⟨w.heap.size + 1, 4, none⟩) (by simp; omega)]; exact Z4
          have b7 := b1.trans (hb7.mono b1.size)
          have hs7 : w1.heap.size ≤ w7.heap.size := hb7.size
          clear hb7 b1
          have b1 := b7
          clear b7
          go_wp2_with (first
            | (go_at_call 27; refine (isFromTo_calls _ _ _ _).mono ?_; rintro e w' ⟨rfl, hw⟩; rw [hw]; clear hw w'; rw [k1])
            | (go_at_call 28; refine (isAttr_calls _ _).mono ?_; rintro e w' ⟨rfl, hw⟩; rw [hw]; clear hw w'; rw [k2]))
          refine (sheetsOf_calls r wd cs bs _ _ w7 hn1 hn2 (h1.below b1) (h2.below b1)).mono ?_
          rintro e w2 ⟨x, y', m, rfl, m1, m2, ox, xm, oy, hb2⟩
          replace A0 := cellb hb2 A0
          replace A1 := cellb hb2 A1
          replace A2 := cellb hb2 A2
          replace A3 := cellb hb2 A3
          replace R0 := cellb hb2 R0
          replace R1 := cellb hb2 R1
          replace R2 := cellb hb2 R2
          replace R3 := cellb hb2 R3
          replace R4 := cellb hb2 R4
          replace Z0 : w2.frozen? ⟨w.heap.size + 1, 0, none⟩ = false := by rw [hb2.frozen (p := ⟨w.heap.size + 1, 0, none⟩) (by simp; omega)]; exact Z0
          replace Z1 : w2.frozen? ⟨w.heap.size + 1, 1, none⟩ = false := by rw [hb2.frozen (p := ⟨w.heap.size + 1, 1, none⟩) (by simp; omega)]; exact Z1
          replace Z2 : w2.frozen? ⟨w.heap.size + 1, 2, none⟩ = false := by rw [hb2.frozen (p := ⟨w.heap.size + 1, 2, none⟩) (by simp; omega)]; exact Z2
          replace Z3 : w2.frozen? ⟨w.heap.size + 1, 3, none⟩ = false := by rw [hb2.frozen (p := ⟨w.heap.size + 1, 3, none⟩) (by simp; omega)]; exact Z3
          replace Z4 : w2.frozen? ⟨w.heap.size + 1, 4, none⟩ = false := by rw [hb2.frozen (p := ⟨w.heap.size + 1, 4, none⟩) (by simp; omega)]; exact Z4
          have b2 := b1.trans (hb2.mono b1.size)
          have hs2 : w7.heap.size ≤ w2.heap.size := hb2.size
          obtain ⟨bx, cx, rfl, hcx, _, x1, x2, hrow⟩ := own_row ox n8
          obtain ⟨ay, cy, rfl, hyc⟩ := own_room2 oy
          have x3 : bx < m := xm bx rfl
          have HX := hide hrow
          have HY := hide oy
          clear hrow oy ox xm hb2
          go_wp2_with fail
          have hb3 : Below w2.heap.size w2 ((w2.alloc (.cells #[.int .i64 wd, .slice (some ⟨bx, 0, none⟩) cs.length cx] 63)).alloc (.cells #[.int .i64 wd, .slice ay bs.length cy] 63)) := (by repeat' (first | with_reducible exact Below.refl _ _ | with_reducible assumption | with_reducible refine Below.drew ?_ | with_reducible refine Below.alloc ?_ ?_ _ | with_reducible refine Below.setCell ?_ ?_ _ | (simp; done) | (simp; omega) | omega))
          have S0 : ((w2.alloc (.cells #[.int .i64 wd, .slice (some ⟨bx, 0, none⟩) cs.length cx] 63)).alloc (.cells #[.int .i64 wd, .slice ay bs.length cy] 63)).cell? ⟨w2.heap.size, 0, none⟩ = some (.int .i64 wd) := by simp [go_sem]
          have S1 : ((w2.alloc (.cells #[.int .i64 wd, .slice (some ⟨bx, 0, none⟩) cs.length cx] 63)).alloc (.cells #[.int .i64 wd, .slice ay bs.length cy] 63)).cell? ⟨w2.heap.size, 1, none⟩ = some (.slice (some ⟨bx, 0, none⟩) cs.length cx) := by simp [go_sem]
          have U0 : ((w2.alloc (.cells #[.int .i64 wd, .slice (some ⟨bx, 0, none⟩) cs.length cx] 63)).alloc (.cells #[.int .i64 wd, .slice ay bs.length cy] 63)).cell? ⟨w2.heap.size + 1, 0, none⟩ = some (.int .i64 wd) := by simp [go_sem]
          have U1 : ((w2.alloc (.cells #[.int .i64 wd, .slice (some ⟨bx, 0, none⟩) cs.length cx] 63)).alloc (.cells #[.int .i64 wd, .slice ay bs.length cy] 63)).cell? ⟨w2.heap.size + 1, 1, none⟩ = some (.slice ay bs.length cy) := by simp [go_sem]
          have hs3 : ((w2.alloc (.cells #[.int .i64 wd, .slice (some ⟨bx, 0, none⟩) cs.length cx] 63)).alloc (.cells #[.int .i64 wd, .slice ay bs.length cy] 63)).heap.size = w2.heap.size + 2 := by simp
          generalize ((w2.alloc (.cells #[.int .i64 wd, .slice (some ⟨bx, 0, none⟩) cs.length cx] 63)).alloc (.cells #[.int .i64 wd, .slice ay bs.length cy] 63)) = w3 at *
          replace A0 := cellb hb3 A0
          replace A1 := cellb hb3 A1
          replace A2 := cellb hb3 A2
          replace A3 := cellb hb3 A3
          replace R0 := cellb hb3 R0
          replace R1 := cellb hb3 R1
          replace R2 := cellb hb3 R2
          replace R3 := cellb hb3 R3
          replace R4 := cellb hb3 R4
          replace Z0 : w3.frozen? ⟨w.heap.size + 1, 0, none⟩ = false := by rw [hb3.frozen (p := ⟨w.heap.size + 1, 0, none⟩) (by simp; omega)]; exact Z0
          replace Z1 : w3.frozen? ⟨w.heap.size + 1, 1, none⟩ = false := by rw [hb3.frozen (p := ⟨w.heap.size + 1, 1, none⟩) (by simp; omega)]; exact Z1
          replace Z2 : w3.frozen? ⟨w.heap.size + 1, 2, none⟩ = false := by rw [hb3.frozen (p := ⟨w.heap.size + 1, 2, none⟩) (by simp; omega)]; exact Z2
          replace Z3 : w3.frozen? ⟨w.heap.size + 1, 3, none⟩ = false := by rw [hb3.frozen (p := ⟨w.heap.size + 1, 3, none⟩) (by simp; omega)]; exact Z3
          replace Z4 : w3.frozen? ⟨w.heap.size + 1, 4, none⟩ = false := by rw [hb3.frozen (p := ⟨w.heap.size + 1, 4, none⟩) (by simp; omega)]; exact Z4
          have b3 := b2.trans (hb3.mono b2.size)
          replace HX := hide (HX.out.below hb3 x2)
          replace HY := hide (own_below HY.out hb3)
          clear hb3 b2
          have z1 : (X : Int) ≤ (m' : Int) := by omega
          have z2 : X ≤ m' := by omega
          have z3 : ¬ cx - Kr = X := by omega
          have z4 : ¬ X = cx - Kr := by omega
          have z5 : IntKind.i64.wrap (-n) = -n := wrap_small (by omega) (by omega)
          refine wp_region_held_drew (S := (fun w' => w'.cell? ⟨w2.heap.size, 0, none⟩ = some (.int .i64 wd) ∧ w'.cell? ⟨w2.heap.size, 1, none⟩ = some (.slice (some ⟨bx, 0, none⟩) cs.length cx))) (by kernel_rfl) ?_ (fun hHeld => ?_)
          · (try dsimp only); exact ⟨S0, S1⟩
          refine wpAnyH_take (i := 0) (oi := ⟨_, _, _, _, _, _⟩) (v := ?_) rfl (by kernel_rfl) (by kernel_rfl) (by kernel_rfl) (fun _ _ _ h => h) (Or.inl ⟨by rfl, ?_⟩) hHeld ?_
          rotate_left
          · (intro w hSw; (try dsimp only at hSw); go_simp; try (with_reducible rfl))
          try simp only [Act.put, List.setIfInBounds_toArray, List.set_cons_zero, List.set_cons_succ]
          refine wpAnyH_take (i := 1) (oi := ⟨_, _, _, _, _, _⟩) (v := ?_) rfl (by kernel_rfl) (by kernel_rfl) (by kernel_rfl) (fun _ _ _ h => h) (Or.inl ⟨by rfl, ?_⟩) hHeld ?_
          rotate_left
          · (intro w hSw; (try dsimp only at hSw); go_simp; try (with_reducible rfl))
          try simp only [Act.put, List.setIfInBounds_toArray, List.set_cons_zero, List.set_cons_succ]
          refine wpAnyH_take (i := 3) (oi := ⟨_, _, _, _, _, _⟩) (v := ?_) rfl (by kernel_rfl) (by kernel_rfl) (by kernel_rfl) (fun _ _ _ h => h) (Or.inl ⟨by rfl, ?_⟩) hHeld ?_
          rotate_left
          · (intro w hSw; (try dsimp only at hSw); go_simp; try (with_reducible rfl))
          try simp only [Act.put, List.setIfInBounds_toArray, List.set_cons_zero, List.set_cons_succ]
          refine wpAnyH_take (i := 5) (oi := ⟨_, _, _, _, _, _⟩) (v := ?_) rfl (by kernel_rfl) (by kernel_rfl) (by kernel_rfl) (fun _ _ _ h => h) (Or.inl ⟨by rfl, ?_⟩) hHeld ?_
          rotate_left
          · (intro w hSw; (try dsimp only at hSw); go_simp; try (with_reducible rfl))
          try simp only [Act.put, List.setIfInBounds_toArray, List.set_cons_zero, List.set_cons_succ]
          refine wpAnyH_take (i := 6) (oi := ⟨_, _, _, _, _, _⟩) (v := ?_) rfl (by kernel_rfl) (by kernel_rfl) (by kernel_rfl) (fun _ _ _ h => h) (Or.inl ⟨by rfl, ?_⟩) hHeld ?_
          rotate_left
          · (intro w hSw; (try dsimp only at hSw); go_simp; try (with_reducible rfl))
          try simp only [Act.put, List.setIfInBounds_toArray, List.set_cons_zero, List.set_cons_succ]
          refine wpAnyH_take (i := 7) (oi := ⟨_, _, _, _, _, _⟩) (v := ?_) rfl (by kernel_rfl) (by kernel_rfl) (by kernel_rfl) (fun _ _ _ h => h) (Or.inl ⟨by rfl, ?_⟩) hHeld ?_
          rotate_left
          · (intro w hSw; (try dsimp only at hSw); go_simp; try (with_reducible rfl))
          try simp only [Act.put, List.setIfInBounds_toArray, List.set_cons_zero, List.set_cons_succ]
          refine wpAnyH_ready (rs := [2]) (by kernel_rfl) (by simp) ?_
          refine AllReadyH.cons (o := ⟨_, _, _, _, _, _⟩) rfl (fun K hK => ?_) AllReadyH.nil
          go_simp
          go_at_call 31
          refine (row_calls wd y bx 0 cs.length cx Kr m' _ ⟨hcx, _, rfl, fun _ => rfl⟩ EK.out EW.out y0 y1 q1 hn1 _).mono ?_
          rintro e w4 ⟨vr, rfl, ⟨hcr, ar, rfl, har⟩, hb4⟩
          obtain rfl := har (by omega)
          rw [Nat.zero_add]
          replace hb4 : Below w3.heap.size w3 w4 := (below_drewN (Below.refl _ _) 1).trans hb4
          have hs4 : w3.heap.size ≤ w4.heap.size := hb4.size
          replace A0 := cellb hb4 A0
          replace A1 := cellb hb4 A1
          replace A2 := cellb hb4 A2
          replace A3 := cellb hb4 A3
          replace R0 := cellb hb4 R0
          replace R1 := cellb hb4 R1
          replace R2 := cellb hb4 R2
          replace R3 := cellb hb4 R3
          replace R4 := cellb hb4 R4
          replace S0 := cellb hb4 S0
          replace S1 := cellb hb4 S1
          replace U0 := cellb hb4 U0
          replace U1 := cellb hb4 U1
          replace Z0 : w4.frozen? ⟨w.heap.size + 1, 0, none⟩ = false := by rw [hb4.frozen (p := ⟨w.heap.size + 1, 0, none⟩) (by simp; omega)]; exact Z0
          replace Z1 : w4.frozen? ⟨w.heap.size + 1, 1, none⟩ = false := by rw [hb4.frozen (p := ⟨w.heap.size + 1, 1, none⟩) (by simp; omega)]; exact Z1
          replace Z2 : w4.frozen? ⟨w.heap.size + 1, 2, none⟩ = false := by rw [hb4.frozen (p := ⟨w.heap.size + 1, 2, none⟩) (by simp; omega)]; exact Z2
          replace Z3 : w4.frozen? ⟨w.heap.size + 1, 3, none⟩ = false := by rw [hb4.frozen (p := ⟨w.heap.size + 1, 3, none⟩) (by simp; omega)]; exact Z3
          replace Z4 : w4.frozen? ⟨w.heap.size + 1, 4, none⟩ = false := by rw [hb4.frozen (p := ⟨w.heap.size + 1, 4, none⟩) (by simp; omega)]; exact Z4
          have b4 := b3.trans (hb4.mono b3.size)
          replace HX := hide (HX.out.below hb4 (by omega))
          replace HY := hide (own_below HY.out hb4)
          clear b3 hb4
          try go_wp2_with fail
          refine hK.out _ _ ?_ ?_
          · (try dsimp only); exact ⟨S0, S1⟩
          clear hHeld hK K
          intro hHeld
          try simp only [Act.put, List.setIfInBounds_toArray, List.set_cons_zero, List.set_cons_succ]
          refine wpAnyH_take (i := 4) (oi := ⟨_, _, _, _, _, _⟩) (v := ?_) rfl (by kernel_rfl) (by kernel_rfl) (by kernel_rfl) (fun _ _ _ h => h) (Or.inl ⟨by rfl, ?_⟩) hHeld ?_
          rotate_left
          · (intro w hSw; (try dsimp only at hSw); go_simp; try (with_reducible rfl))
          try simp only [Act.put, List.setIfInBounds_toArray, List.set_cons_zero, List.set_cons_succ]
          refine wpAnyH_ready (rs := [8]) (by kernel_rfl) (by simp) ?_
          refine AllReadyH.cons (o := ⟨_, _, _, _, _, _⟩) rfl (fun K hK => ?_) AllReadyH.nil
          go_simp
          go_at_call 32
          refine (blankOf_calls at' _).mono ?_
          rintro e w5 ⟨rfl, hb5⟩
          have hs5 : w4.heap.size ≤ w5.heap.size := hb5.size
          replace A0 := cellb hb5 A0
          replace A1 := cellb hb5 A1
          replace A2 := cellb hb5 A2
          replace A3 := cellb hb5 A3
          replace R0 := cellb hb5 R0
          replace R1 := cellb hb5 R1
          replace R2 := cellb hb5 R2
          replace R3 := cellb hb5 R3
          replace R4 := cellb hb5 R4
          replace S0 := cellb hb5 S0
          replace S1 := cellb hb5 S1
          replace U0 := cellb hb5 U0
          replace U1 := cellb hb5 U1
          replace Z0 : w5.frozen? ⟨w.heap.size + 1, 0, none⟩ = false := by rw [hb5.frozen (p := ⟨w.heap.size + 1, 0, none⟩) (by simp; omega)]; exact Z0
          replace Z1 : w5.frozen? ⟨w.heap.size + 1, 1, none⟩ = false := by rw [hb5.frozen (p := ⟨w.heap.size + 1, 1, none⟩) (by simp; omega)]; exact Z1
          replace Z2 : w5.frozen? ⟨w.heap.size + 1, 2, none⟩ = false := by rw [hb5.frozen (p := ⟨w.heap.size + 1, 2, none⟩) (by simp; omega)]; exact Z2
          replace Z3 : w5.frozen? ⟨w.heap.size + 1, 3, none⟩ = false := by rw [hb5.frozen (p := ⟨w.heap.size + 1, 3, none⟩) (by simp; omega)]; exact Z3
          replace Z4 : w5.frozen? ⟨w.heap.size + 1, 4, none⟩ = false := by rw [hb5.frozen (p := ⟨w.heap.size + 1, 4, none⟩) (by simp; omega)]; exact Z4
          have b5 := b4.trans (hb5.mono b4.size)
          replace HX := hide (HX.out.below hb5 (by omega))
          replace HY := hide (own_below HY.out hb5)
          clear b4 hb5
          try go_wp2_with fail
          refine hK.out _ _ ?_ ?_
          · (try dsimp only); exact ⟨S0, S1⟩
          clear hHeld hK K
          intro hHeld
          try simp only [Act.put, List.setIfInBounds_toArray, List.set_cons_zero, List.set_cons_succ]
          refine wpAnyH_ready (rs := [9]) (by kernel_rfl) (by simp) ?_
          refine AllReadyH.cons (o := ⟨_, _, _, _, _, _⟩) rfl (fun K hK => ?_) AllReadyH.nil
          go_simp
          go_at_call 30
          refine (slide_calls bx (Kr * 2 + X * 2) (m' - X) (cx - Kr - X) _ (fun i => cs.getD (Kr + (X + i)) (0, 0)) (-n) 32 at' w5 ⟨by omega, _, rfl, fun _ => rfl⟩ (by have h := (HX.out.sub Kr m' (by omega)).sub X (m' - X) (by omega); rw [Nat.zero_add] at h; exact h) (by omega) (by omega) (by omega)).mono ?_
          rintro e w6 ⟨⟨u6, rfl⟩, hr6, ht6⟩
          replace A0 := ht6.cellAt A0 (by omega)
          replace A1 := ht6.cellAt A1 (by omega)
          replace A2 := ht6.cellAt A2 (by omega)
          replace A3 := ht6.cellAt A3 (by omega)
          replace R0 := ht6.cellAt R0 (by omega)
          replace R1 := ht6.cellAt R1 (by omega)
          replace R2 := ht6.cellAt R2 (by omega)
          replace R3 := ht6.cellAt R3 (by omega)
          replace R4 := ht6.cellAt R4 (by omega)
          replace S0 := ht6.cellAt S0 (by omega)
          replace S1 := ht6.cellAt S1 (by omega)
          replace U0 := ht6.cellAt U0 (by omega)
          replace U1 := ht6.cellAt U1 (by omega)
          replace Z0 := ht6.frozenAt (by omega) Z0
          replace Z1 := ht6.frozenAt (by omega) Z1
          replace Z2 := ht6.frozenAt (by omega) Z2
          replace Z3 := ht6.frozenAt (by omega) Z3
          replace Z4 := ht6.frozenAt (by omega) Z4
          have b6 : Below w.heap.size w w6 := b5.trans (ht6.below (by omega) (by omega))
          have hs6 : w5.heap.size ≤ w6.heap.size := ht6.size
          have l6 := HY.out.lt
          replace HY := hide (own_touch HY.out ht6 (fun k hk => by have := (l6 k hk).1; omega))
          clear l6 b5
          replace HX := hide (HX.out.join (k := Kr + X) (m := m' - X) (by rw [Nat.zero_add, Nat.add_mul]; exact ht6.mono (Nat.le_refl _) (by omega)) (by rw [Nat.zero_add, Nat.add_mul]; exact hr6) (by omega))
          clear hr6 ht6
          try go_wp2_with fail
          refine hK.out _ _ ?_ ?_
          · (try dsimp only); exact ⟨S0, S1⟩
          clear hHeld hK K
          intro hHeld
          try simp only [Act.put, List.setIfInBounds_toArray, List.set_cons_zero, List.set_cons_succ]
          refine wpAnyH_done (by kernel_rfl) ?_ _
          clear hHeld
          go_wp2_with fail
          refine (gridOf_calls wd wd n1 n2 (some ⟨bx, 0, none⟩) ay cs.length bs.length cx cy hn1 w6).mono ?_
          rintro e w8 ⟨rfl, hb8⟩
          rw [hq.out]
          replace R0 := cellb hb8 R0
          replace R1 := cellb hb8 R1
          replace R2 := cellb hb8 R2
          replace R3 := cellb hb8 R3
          replace R4 := cellb hb8 R4
          replace Z0 : w8.frozen? ⟨w.heap.size + 1, 0, none⟩ = false := by rw [hb8.frozen (p := ⟨w.heap.size + 1, 0, none⟩) (by simp; omega)]; exact Z0
          replace Z1 : w8.frozen? ⟨w.heap.size + 1, 1, none⟩ = false := by rw [hb8.frozen (p := ⟨w.heap.size + 1, 1, none⟩) (by simp; omega)]; exact Z1
          replace Z2 : w8.frozen? ⟨w.heap.size + 1, 2, none⟩ = false := by rw [hb8.frozen (p := ⟨w.heap.size + 1, 2, none⟩) (by simp; omega)]; exact Z2
          replace Z3 : w8.frozen? ⟨w.heap.size + 1, 3, none⟩ = false := by rw [hb8.frozen (p := ⟨w.heap.size + 1, 3, none⟩) (by simp; omega)]; exact Z3
          replace Z4 : w8.frozen? ⟨w.heap.size + 1, 4, none⟩ = false := by rw [hb8.frozen (p := ⟨w.heap.size + 1, 4, none⟩) (by simp; omega)]; exact Z4
          have b8 := b6.trans (hb8.mono b6.size)
          have hs8 : w6.heap.size ≤ w8.heap.size := hb8.size
          have HX8 := hide (HX.out.below hb8 (by omega))
          have HY8 := hide (own_below HY.out hb8)
          clear hb8 HX HY
          have hr := res5 (w := w8) (r := w.heap.size + 1) (.int .i64 0) (.int .i64 r) (.int .i64 wd) (.slice (some ⟨bx, 0, none⟩) cs.length cx) (.slice ay bs.length cy) R0 R1 R2 R3 R4
          go_wp2
          refine bodyPost_ret (v := .agg #[.int .i64 0, .int .i64 r, .int .i64 wd, .slice (some ⟨bx, 0, none⟩) cs.length cx, .slice ay bs.length cy]) (by simp only [results, Try.results7]; simp [go_sem, hr.1, hr.2.1, hr.2.2.1, hr.2.2.2.1, hr.2.2.2.2]) rfl ⟨_, _, rfl, ?_, b8.trans (show Below w.heap.size w8 _ from (by repeat' (first | with_reducible exact Below.refl _ _ | with_reducible assumption | with_reducible refine Below.drew ?_ | with_reducible refine Below.alloc ?_ ?_ _ | with_reducible refine Below.setCell ?_ ?_ _ | (simp; done) | (simp; omega) | omega)))⟩
          refine (gown_of (w := w8) (base := w7.heap.size) (m := m) (HX8.out.congr (fun i hi => ?_)) (by omega) (by omega) HY8.out (by omega) (by omega) (by simp [World.setCell]) (fun k _ => ?_) (by omega)).mono (by omega) (Nat.le_refl _)
          · unfold shiftF slideF
            by_cases e : Kr + X ≤ i ∧ i < Kr + X + (m' - X)
            · rw [if_pos e, if_pos (show Kr + X ≤ i ∧ i < Kr + m' by omega)]
              by_cases e2 : (X : Int) ≤ ((i - Kr : Nat) : Int) - n ∧ ((i - Kr : Nat) : Int) - n < m'
              · rw [if_pos e2, if_pos (show 0 ≤ ((i - (Kr + X) : Nat) : Int) + -n ∧ ((i - (Kr + X) : Nat) : Int) + -n < ((m' - X : Nat) : Int) by omega)]
                dsimp only
                rw [show Kr + (X + (((i - (Kr + X) : Nat) : Int) + -n).toNat) = Kr + (((i - Kr : Nat) : Int) - n).toNat by omega]
              · rw [if_neg e2, if_neg (show ¬ (0 ≤ ((i - (Kr + X) : Nat) : Int) + -n ∧ ((i - (Kr + X) : Nat) : Int) + -n < ((m' - X : Nat) : Int)) by omega)]
            · rw [if_neg e, if_neg (show ¬ (Kr + X ≤ i ∧ i < Kr + m') by omega)]
          · by_cases hk : k < w7.heap.size
            · exact .inr hk
            · left
              simp only [World.setCell, Array.getElem?_modify]
              repeat rw [if_neg (by omega)]
  · rw [shiftRes_def, gres_fault hG]
    generalize gridCode r wd cs bs = code at *
    have hcb : (code != 0) = true := by simpa using hG
    simp only [gbad]
    go_enter Try.func7, Try.ntmps7
    go_wp2_with fail
    refine HF.mono ?_
    rintro e w1 ⟨rfl, hb1⟩
    have A0 : w1.cell? ⟨w.heap.size, 0, none⟩ = some (.int .i64 r) := cellb hb1 (by simp [go_sem])
    have A1 : w1.cell? ⟨w.heap.size, 1, none⟩ = some (.int .i64 wd) := cellb hb1 (by simp [go_sem])
    have A2 : w1.cell? ⟨w.heap.size, 2, none⟩ = some (.slice a1 cs.length c1) := cellb hb1 (by simp [go_sem])
    have A3 : w1.cell? ⟨w.heap.size, 3, none⟩ = some (.slice a2 bs.length c2) := cellb hb1 (by simp [go_sem])
    have R0 : w1.cell? ⟨w.heap.size + 1, 0, none⟩ = some (.int .i64 0) := cellb hb1 (by simp [go_sem])
    have Z0 : w1.frozen? ⟨w.heap.size + 1, 0, none⟩ = false := by rw [hb1.frozen (p := ⟨w.heap.size + 1, 0, none⟩) (by simp)]; simp [go_sem]
    have R1 : w1.cell? ⟨w.heap.size + 1, 1, none⟩ = some (.int .i64 0) := cellb hb1 (by simp [go_sem])
    have Z1 : w1.frozen? ⟨w.heap.size + 1, 1, none⟩ = false := by rw [hb1.frozen (p := ⟨w.heap.size + 1, 1, none⟩) (by simp)]; simp [go_sem]
    have R2 : w1.cell? ⟨w.heap.size + 1, 2, none⟩ = some (.int .i64 0) := cellb hb1 (by simp [go_sem])
    have Z2 : w1.frozen? ⟨w.heap.size + 1, 2, none⟩ = false := by rw [hb1.frozen (p := ⟨w.heap.size + 1, 2, none⟩) (by simp)]; simp [go_sem]
    have R3 : w1.cell? ⟨w.heap.size + 1, 3, none⟩ = some (.slice none 0 0) := cellb hb1 (by simp [go_sem])
    have Z3 : w1.frozen? ⟨w.heap.size + 1, 3, none⟩ = false := by rw [hb1.frozen (p := ⟨w.heap.size + 1, 3, none⟩) (by simp)]; simp [go_sem]
    have R4 : w1.cell? ⟨w.heap.size + 1, 4, none⟩ = some (.slice none 0 0) := cellb hb1 (by simp [go_sem])
    have Z4 : w1.frozen? ⟨w.heap.size + 1, 4, none⟩ = false := by rw [hb1.frozen (p := ⟨w.heap.size + 1, 4, none⟩) (by simp)]; simp [go_sem]
    have hs1 : w.heap.size + 2 ≤ w1.heap.size := by have := hb1.size; simp at this; omega
    have b1 : Below w.heap.size w w1 := hb0.trans (hb1.mono (by simp; omega))
    clear hb1 hb0 HF
    have hr := res5 (w := w1) (r := w.heap.size + 1) (.int .i64 code) (.int .i64 0) (.int .i64 0) (.slice none 0 0) (.slice none 0 0) R0 R1 R2 R3 R4
    go_wp2
    refine bodyPost_ret (v := .agg #[.int .i64 code, .int .i64 0, .int .i64 0, .slice none 0 0, .slice none 0 0]) (by simp only [results, Try.results7]; simp [go_sem, hr.1, hr.2.1, hr.2.2.1, hr.2.2.2.1, hr.2.2.2.2]) rfl ⟨_, _, rfl, ?_, b1.trans (show Below w.heap.size w1 _ from (by repeat' (first | with_reducible exact Below.refl _ _ | with_reducible assumption | with_reducible refine Below.drew ?_ | with_reducible refine Below.alloc ?_ ?_ _ | with_reducible refine Below.setCell ?_ ?_ _ | (simp; done) | (simp; omega) | omega)))⟩
    exact GOwn.nil _ _ _ (by have := b1.size; simp [World.setCell]; omega)

set_option maxHeartbeats 2000000 in
theorem l3Shift_calls (pb bx N cx K X m : Nat) (y wd n at' : Int) (f : Nat → Int × Int) (w : World) (c1 : w.cell? ⟨pb, 1, none⟩ = some (.int .i64 wd)) (c2 : w.cell? ⟨pb, 2, none⟩ = some (.slice (some ⟨bx, 0, none⟩) N cx)) (hr : Row w bx 0 N f) (hc : N ≤ cx) (hp : pb ≠ bx) (hpw : pb < w.heap.size)
    (hK : y * wd = (K : Int)) (hm : wd = (m : Int)) (hKm : K + m ≤ N) (hN : N ≤ 72) (hX : X < m) (hm12 : m ≤ 12) (y0 : 0 ≤ y) (y1 : y ≤ 1000) (n1 : -12 ≤ n) (n2 : n ≤ 12) :
    Calls Try.prog 47 #[.pointer (some ⟨pb, 0, none⟩), .int .i64 y, .int .i64 X, .int .i64 n, .int .i64 at'] w fun e w' => (∃ u, e = .returned u) ∧ Row w' bx 0 N (shiftF K X m n f (32, at')) ∧ Touch bx 0 (N * 2) w w' := by
  obtain ⟨i0, hi, hz0, hz1, hz2⟩ := info_parts info_cell
  have hbx : bx < w.heap.size := hr.lt (by omega)
  have HRO := l3RowOf_calls pb bx N cx K m (K + m) y wd f w c1 c2 hr.read hc hK hm rfl hKm (by omega) (by omega) y0 y1
  have HF := hide hr
  have HK := hide hK
  have HM := hide hm
  clear hr hK hm
  go_enter Try.func47, Try.ntmps47
  go_wp2_with fail
  refine HRO.mono ?_
  rintro e w1 ⟨vw, rfl, ow, hb1⟩
  clear HRO
  have hs1 : w.heap.size ≤ w1.heap.size := hb1.size
  obtain ⟨bw, cw, rfl, hcw, _, u1, u2, hroww⟩ := own_row ow (by omega)
  have hlit : (w1.alloc (.cells #[] 38)).ownsRow w1.heap.size 38 2 (.slice (some ⟨w1.heap.size, 0, none⟩) 0 0) 0 (pvs []) := World.ownsRow_lit (base := w1.heap.size) (e := 38) (size := 2) w1 #[] 0 (Nat.le_refl _) (by simp) rfl
  have hpr : PRead (w1.alloc (.cells #[] 38)) (.slice (some ⟨bw, 0, none⟩) m cw) (mkL m (fun i => f (K + i))) := (pread_of_row (hroww.congr (fun i hi => mkL_get _ _ _ hi)).read).below ((Below.refl _ _).alloc (Nat.le_refl _) _)
  have D1 := cellb hb1 c1
  have D2 := cellb hb1 c2
  have HW := hide (hroww.congr (fun i hi => mkL_get _ _ _ hi)).read
  have HF1 := hide (HF.out.below hb1 hbx)
  have HB1 := hide hb1
  clear hroww ow hb1
  go_wp2_with (at_builtin; refine wpList_append_pread _ rfl (.tmp 17) (.tmp 18) 24 rfl w1.heap.size 38 i0 (.agg #[.int .i64 0, .int .i64 0]) 16 Try.underlying24 hi hz0 hz1 hz2 rfl _ 0 [] rfl hlit (some ⟨bw, 0, none⟩) (mkL m (fun i => f (K + i))) m cw rfl (by rw [mkL_length]) hpr (by unfold maxLen; omega) (by omega) (by simp) ?_)
  intro vn w2 on hgr
  have hb2 : Below w1.heap.size w1 w2 := (((Below.refl _ _).alloc (Nat.le_refl _) _) : Below w1.heap.size w1 (w1.alloc (.cells #[] 38))).grown hgr (by simp) (fun q hq => (hlit.lt q hq).1)
  try simp only [List.nil_append, Nat.zero_add] at on
  obtain ⟨bn, cn, rfl, hcn, _, v1, v2, hrown⟩ := own_row on (by omega)
  have hs2 : w1.heap.size ≤ w2.heap.size := hb2.size
  replace D1 := cellb hb2 D1
  replace D2 := cellb hb2 D2
  replace HW := hide (HW.out.below hb2 u2)
  replace HF1 := hide (HF1.out.below hb2 (by omega))
  have HB2 := hide (HB1.out.trans (hb2.mono hs1))
  have HN := hide (hrown.congr (fun i hi => mkL_get _ _ _ hi))
  clear hrown on hgr hlit hpr hb2 HB1
  go_wp2
  go_loopw [12] (fun i wr => ∃ k : Nat, X ≤ k ∧ k ≤ m ∧ i = .int .i64 k ∧ Touch bn 0 (m * 2) w2 wr ∧ Hid (Row wr bn 0 m (fun j => if X ≤ j ∧ j < k then (if (X : Int) ≤ (j : Int) - n ∧ (j : Int) - n < m then f (K + ((j : Int) - n).toNat) else (32, at')) else f (K + j)))) (fun i _ => m - (intOf i).toNat)
  case atStart => exact ⟨X, Nat.le_refl _, by omega, rfl, Touch.refl _ _ _ _, hide (HN.out.congr (fun i hi => by rw [if_neg (by omega)]))⟩
  case round =>
    obtain ⟨k, hk1, hk2, rfl, ht, hrow⟩ := hrel
    have E1 := ht.cellAt D1 (by omega)
    have E2 := ht.cellAt D2 (by omega)
    have hkm : wd = (m : Int) := HM.out
    by_cases hlt : k < m
    · have hltI : (k : Int) < wd := by omega
      have hltM : (k : Int) < (m : Int) := by omega
      obtain ⟨⟨g1, g2⟩, f1, f2⟩ := hrow.out k hlt
      rw [Nat.zero_add] at g1 g2 f1 f2
      generalize ((fun j => if X ≤ j ∧ j < k then (if (X : Int) ≤ (j : Int) - n ∧ (j : Int) - n < m then f (K + ((j : Int) - n).toNat) else (32, at')) else f (K + j)) k).2 = o2 at g2
      generalize ((fun j => if X ≤ j ∧ j < k then (if (X : Int) ≤ (j : Int) - n ∧ (j : Int) - n < m then f (K + ((j : Int) - n).toNat) else (32, at')) else f (K + j)) k).1 = o1 at g1
      have HT := hide ht
      have w3 : 2 ≤ wd ∨ wd < 2 := by omega
      have wd1 : 0 ≤ wd := by omega
      have wd2 : wd ≤ 12 := by omega
      have HKM := hide hkm
      clear hkm w3 ht
      go_wp2_with fail
      refine (l1In_calls ((k : Int) - n) X (wd - 1) _).mono ?_
      rintro e w' ⟨rfl, hw⟩
      rw [hw]
      clear hw w'
      cases hd : decide ((X : Int) ≤ (k : Int) - n ∧ (k : Int) - n ≤ wd - 1) with
      | true =>
        have hd' := of_decide_eq_true hd
        obtain ⟨q, hq⟩ : ∃ q : Nat, (k : Int) - n = (q : Int) := ⟨((k : Int) - n).toNat, by omega⟩
        have hqm : q < m := by have := HKM.out; omega
        have hqI : (q : Int) < (m : Int) := by omega
        obtain ⟨p1, p2⟩ := (HW.out.touch HT.out (by omega)) q hqm
        rw [Nat.zero_add] at p1 p2
        dsimp only at p1 p2
        generalize hfq : f (K + q) = fq at p1 p2
        obtain ⟨fq1, fq2⟩ := fq
        dsimp only at p1 p2
        have g3 : (wr.setCell ⟨bn, k * 2, none⟩ (.int .i64 fq1)).cell? ⟨bn, k * 2 + 1, none⟩ = some (.int .i64 o2) := by rw [World.cell?_setCell_other _ _ _ _ (addr_ne (by omega))]; exact g2
        have HQ := hide hq
        have HFQ := hide hfq
        have HD := hide hd'
        clear hfq hd' hd
        go_wp2
        go_roundw
        case rel =>
          have hst := hrow.out.store hlt fq1 fq2
          rw [Nat.zero_add] at hst
          refine ⟨k + 1, by omega, by omega, by go_num, HT.out.trans (by have h := touch_store (b := bn) (off := 0) (k := k) wr (.int .i64 fq1) (.int .i64 fq2) (p := 0) (q := m * 2) (by omega) (by omega); rw [Nat.zero_add] at h; exact h), hide (hst.congr (fun i hi => ?_))⟩
          by_cases e : i = k
          · subst e
            have h1 := HQ.out
            have h2 := HD.out
            have h3 := HKM.out
            rw [if_pos rfl, if_pos (show X ≤ i ∧ i < i + 1 by omega), if_pos (show (X : Int) ≤ (i : Int) - n ∧ (i : Int) - n < m by omega), show ((i : Int) - n).toNat = q by omega, HFQ.out]
          · rw [if_neg e]
            by_cases e2 : X ≤ i ∧ i < k
            · rw [if_pos e2, if_pos (show X ≤ i ∧ i < k + 1 by omega)]
            · rw [if_neg e2, if_neg (show ¬ (X ≤ i ∧ i < k + 1) by omega)]
        case measure => simp [intOf]; omega
      | false =>
        have HD := hide (of_decide_eq_false hd)
        clear hd
        have g3 : (wr.setCell ⟨bn, k * 2, none⟩ (.int .i64 32)).cell? ⟨bn, k * 2 + 1, none⟩ = some (.int .i64 o2) := by rw [World.cell?_setCell_other _ _ _ _ (addr_ne (by omega))]; exact g2
        go_wp2
        go_roundw
        case rel =>
          have hst := hrow.out.store hlt 32 at'
          rw [Nat.zero_add] at hst
          refine ⟨k + 1, by omega, by omega, by go_num, HT.out.trans (by have h := touch_store (b := bn) (off := 0) (k := k) wr (.int .i64 32) (.int .i64 at') (p := 0) (q := m * 2) (by omega) (by omega); rw [Nat.zero_add] at h; exact h), hide (hst.congr (fun i hi => ?_))⟩
          by_cases e : i = k
          · subst e
            have h2 := HD.out
            have h3 := HKM.out
            rw [if_pos rfl, if_pos (show X ≤ i ∧ i < i + 1 by omega), if_neg (show ¬ ((X : Int) ≤ (i : Int) - n ∧ (i : Int) - n < m) by omega)]
          · rw [if_neg e]
            by_cases e2 : X ≤ i ∧ i < k
            · rw [if_pos e2, if_pos (show X ≤ i ∧ i < k + 1 by omega)]
            · rw [if_neg e2, if_neg (show ¬ (X ≤ i ∧ i < k + 1) by omega)]
        case measure => simp [intOf]; omega
    · obtain rfl : k = m := by omega
      have hge : ¬ ((k : Int) < wd) := by omega
      have HKM := hide hkm
      have HT := hide ht
      clear hkm ht
      go_wp2_with fail
      refine (l3Row_calls pb bx N cx K k (K + k) bn k cn k y wd f _ wr E1 E2 (HF1.out.touch HT.out (by omega)) hc hp hrow.out.read HK.out HKM.out rfl hKm (by omega) (by omega) y0 y1 (by omega)).mono ?_
      rintro e w4 ⟨⟨u4, rfl⟩, hr4, ht4⟩
      have H4 := hide hr4
      have T4 := hide ht4
      clear hr4 ht4
      go_wp2
      go_end0
      refine ⟨⟨_, rfl⟩, H4.out.congr (fun i hi => ?_), (Touch.of_below (HB2.out.trans (HT.out.below (B := w.heap.size) (by omega) (by omega))) (Nat.le_refl _) hbx).trans T4.out⟩
      · unfold shiftF
        by_cases e : K ≤ i ∧ i < K + k
        · rw [if_pos e]
          by_cases e2 : X ≤ i - K ∧ i - K < k
          · rw [if_pos e2, if_pos (show K + X ≤ i ∧ i < K + k by omega)]
          · rw [if_neg e2, if_neg (show ¬ (K + X ≤ i ∧ i < K + k) by omega), show K + (i - K) = i by omega]
        · rw [if_neg e, if_neg (show ¬ (K + X ≤ i ∧ i < K + k) by omega)]
set_option maxHeartbeats 2000000 in
theorem specShiftCells_calls (r wd : Int) (cs bs : List (Int × Int)) (y x n at' : Int) (v1 v2 : Value) (w : World) (hn1 : cs.length ≤ 1048576) (hn2 : bs.length ≤ 1048576) (h1 : PRead w v1 cs) (h2 : PRead w v2 bs) :
    Calls Try.prog 13 #[.agg #[.int .i64 r, .int .i64 wd, v1, v2], .int .i64 y, .int .i64 x, .int .i64 n, .int .i64 at'] w fun e w' => ∃ v5 v6, e = .returned (.agg #[.int .i64 (shiftRes r wd cs bs y x n at').code, .int .i64 (shiftRes r wd cs bs y x n at').rows, .int .i64 (shiftRes r wd cs bs y x n at').wd, v5, v6]) ∧ GOwn w.heap.size w'.heap.size w' v5 v6 (shiftRes r wd cs bs y x n at').cs (shiftRes r wd cs bs y x n at').bs ∧ Below w.heap.size w w' := by
  have h1' := h1
  obtain ⟨a1, c1, rfl, hx1⟩ := h1'
  clear hx1
  have h2' := h2
  obtain ⟨a2, c2, rfl, hx2⟩ := h2'
  clear hx2
  have hb0 : Below w.heap.size w ((w.alloc (.cells #[.int .i64 r, .int .i64 wd, .slice a1 cs.length c1, .slice a2 bs.length c2] 26)).alloc (.cells #[.int .i64 0, .int .i64 0, .int .i64 0, .slice none 0 0, .slice none 0 0] 30)) := (by repeat' (first | with_reducible exact Below.refl _ _ | with_reducible assumption | with_reducible refine Below.drew ?_ | with_reducible refine Below.alloc ?_ ?_ _ | with_reducible refine Below.setCell ?_ ?_ _ | (simp; done) | (simp; omega) | omega))
  have HF := l3Fault_calls r wd cs bs _ _ w.heap.size ((w.alloc (.cells #[.int .i64 r, .int .i64 wd, .slice a1 cs.length c1, .slice a2 bs.length c2] 26)).alloc (.cells #[.int .i64 0, .int .i64 0, .int .i64 0, .slice none 0 0, .slice none 0 0] 30)) hn1 hn2 (h1.below hb0) (h2.below hb0) (by simp [go_sem]) (by simp [go_sem]) (by simp [go_sem]) (by simp [go_sem])
  have hbd : gridCode r wd cs bs = 0 → 1 ≤ r ∧ r ≤ 6 ∧ 2 ≤ wd ∧ wd ≤ 12 := fun h => fine_bounds (gfine_of_code h)
  by_cases hG : gridCode r wd cs bs = 0
  · cases k0 : placeB r wd y x with
    | false =>
      obtain ⟨g1, g2, g3, g4⟩ := hbd hG
      rw [shiftRes_def, gres_bad hG (by unfold shiftOk; first | (rw [k0]; rfl) | (rw [k0, k1]; rfl) | (rw [k0, k1, k2]; rfl))]
      rw [hG] at HF
      simp only [gbad]
      go_enter Try.func13, Try.ntmps13
      go_wp2_with fail
      refine HF.mono ?_
      rintro e w1 ⟨rfl, hb1⟩
      have A0 : w1.cell? ⟨w.heap.size, 0, none⟩ = some (.int .i64 r) := cellb hb1 (by simp [go_sem])
      have A1 : w1.cell? ⟨w.heap.size, 1, none⟩ = some (.int .i64 wd) := cellb hb1 (by simp [go_sem])
      have A2 : w1.cell? ⟨w.heap.size, 2, none⟩ = some (.slice a1 cs.length c1) := cellb hb1 (by simp [go_sem])
      have A3 : w1.cell? ⟨w.heap.size, 3, none⟩ = some (.slice a2 bs.length c2) := cellb hb1 (by simp [go_sem])
      have R0 : w1.cell? ⟨w.heap.size + 1, 0, none⟩ = some (.int .i64 0) := cellb hb1 (by simp [go_sem])
      have Z0 : w1.frozen? ⟨w.heap.size + 1, 0, none⟩ = false := by rw [hb1.frozen (p := ⟨w.heap.size + 1, 0, none⟩) (by simp)]; simp [go_sem]
      have R1 : w1.cell? ⟨w.heap.size + 1, 1, none⟩ = some (.int .i64 0) := cellb hb1 (by simp [go_sem])
      have Z1 : w1.frozen? ⟨w.heap.size + 1, 1, none⟩ = false := by rw [hb1.frozen (p := ⟨w.heap.size + 1, 1, none⟩) (by simp)]; simp [go_sem]
      have R2 : w1.cell? ⟨w.heap.size + 1, 2, none⟩ = some (.int .i64 0) := cellb hb1 (by simp [go_sem])
      have Z2 : w1.frozen? ⟨w.heap.size + 1, 2, none⟩ = false := by rw [hb1.frozen (p := ⟨w.heap.size + 1, 2, none⟩) (by simp)]; simp [go_sem]
      have R3 : w1.cell? ⟨w.heap.size + 1, 3, none⟩ = some (.slice none 0 0) := cellb hb1 (by simp [go_sem])
      have Z3 : w1.frozen? ⟨w.heap.size + 1, 3, none⟩ = false := by rw [hb1.frozen (p := ⟨w.heap.size + 1, 3, none⟩) (by simp)]; simp [go_sem]
      have R4 : w1.cell? ⟨w.heap.size + 1, 4, none⟩ = some (.slice none 0 0) := cellb hb1 (by simp [go_sem])
      have Z4 : w1.frozen? ⟨w.heap.size + 1, 4, none⟩ = false := by rw [hb1.frozen (p := ⟨w.heap.size + 1, 4, none⟩) (by simp)]; simp [go_sem]
      have hs1 : w.heap.size + 2 ≤ w1.heap.size := by have := hb1.size; simp at this; omega
      have b1 : Below w.heap.size w w1 := hb0.trans (hb1.mono (by simp; omega))
      clear hb1 hb0 HF
      go_wp2_with (first
        | (go_at_call 43; refine (l3Place_calls r wd y x w.heap.size g1 g2 g3 g4 _ A0 A1).mono ?_; rintro e w' ⟨rfl, hw⟩; rw [hw]; clear hw w'; rw [k0])
        | (go_at_call 44; refine (l1In_calls _ _ _ _).mono ?_; rintro e w' ⟨rfl, hw⟩; rw [hw]; clear hw w'; rw [k1])
        | (go_at_call 45; refine (l3Attr_calls _ _).mono ?_; rintro e w' ⟨rfl, hw⟩; rw [hw]; clear hw w'; rw [k2]))
      go_wp2_with fail
      refine (l3Bad_calls 3 _).mono ?_
      rintro e w9 ⟨rfl, hb9⟩
      replace R0 := cellb hb9 R0
      replace R1 := cellb hb9 R1
      replace R2 := cellb hb9 R2
      replace R3 := cellb hb9 R3
      replace R4 := cellb hb9 R4
      replace Z0 : w9.frozen? ⟨w.heap.size + 1, 0, none⟩ = false := by rw [hb9.frozen (p := ⟨w.heap.size + 1, 0, none⟩) (by simp; omega)]; exact Z0
      replace Z1 : w9.frozen? ⟨w.heap.size + 1, 1, none⟩ = false := by rw [hb9.frozen (p := ⟨w.heap.size + 1, 1, none⟩) (by simp; omega)]; exact Z1
      replace Z2 : w9.frozen? ⟨w.heap.size + 1, 2, none⟩ = false := by rw [hb9.frozen (p := ⟨w.heap.size + 1, 2, none⟩) (by simp; omega)]; exact Z2
      replace Z3 : w9.frozen? ⟨w.heap.size + 1, 3, none⟩ = false := by rw [hb9.frozen (p := ⟨w.heap.size + 1, 3, none⟩) (by simp; omega)]; exact Z3
      replace Z4 : w9.frozen? ⟨w.heap.size + 1, 4, none⟩ = false := by rw [hb9.frozen (p := ⟨w.heap.size + 1, 4, none⟩) (by simp; omega)]; exact Z4
      have b9 := b1.trans (hb9.mono b1.size)
      have hr := res5 (w := w9) (r := w.heap.size + 1) (.int .i64 3) (.int .i64 0) (.int .i64 0) (.slice none 0 0) (.slice none 0 0) R0 R1 R2 R3 R4
      go_wp2
      refine bodyPost_ret (v := .agg #[.int .i64 3, .int .i64 0, .int .i64 0, .slice none 0 0, .slice none 0 0]) (by simp only [results, Try.results13]; simp [go_sem, hr.1, hr.2.1, hr.2.2.1, hr.2.2.2.1, hr.2.2.2.2]) rfl ⟨_, _, rfl, ?_, b9.trans (show Below w.heap.size w9 _ from (by repeat' (first | with_reducible exact Below.refl _ _ | with_reducible assumption | with_reducible refine Below.drew ?_ | with_reducible refine Below.alloc ?_ ?_ _ | with_reducible refine Below.setCell ?_ ?_ _ | (simp; done) | (simp; omega) | omega)))⟩
      exact GOwn.nil _ _ _ (by have := b9.size; simp [World.setCell]; omega)
    | true =>
      cases k1 : decide (-12 ≤ n ∧ n ≤ 12) with
      | false =>
        obtain ⟨g1, g2, g3, g4⟩ := hbd hG
        rw [shiftRes_def, gres_bad hG (by unfold shiftOk; first | (rw [k0]; rfl) | (rw [k0, k1]; rfl) | (rw [k0, k1, k2]; rfl))]
        rw [hG] at HF
        simp only [gbad]
        go_enter Try.func13, Try.ntmps13
        go_wp2_with fail
        refine HF.mono ?_
        rintro e w1 ⟨rfl, hb1⟩
        have A0 : w1.cell? ⟨w.heap.size, 0, none⟩ = some (.int .i64 r) := cellb hb1 (by simp [go_sem])
        have A1 : w1.cell? ⟨w.heap.size, 1, none⟩ = some (.int .i64 wd) := cellb hb1 (by simp [go_sem])
        have A2 : w1.cell? ⟨w.heap.size, 2, none⟩ = some (.slice a1 cs.length c1) := cellb hb1 (by simp [go_sem])
        have A3 : w1.cell? ⟨w.heap.size, 3, none⟩ = some (.slice a2 bs.length c2) := cellb hb1 (by simp [go_sem])
        have R0 : w1.cell? ⟨w.heap.size + 1, 0, none⟩ = some (.int .i64 0) := cellb hb1 (by simp [go_sem])
        have Z0 : w1.frozen? ⟨w.heap.size + 1, 0, none⟩ = false := by rw [hb1.frozen (p := ⟨w.heap.size + 1, 0, none⟩) (by simp)]; simp [go_sem]
        have R1 : w1.cell? ⟨w.heap.size + 1, 1, none⟩ = some (.int .i64 0) := cellb hb1 (by simp [go_sem])
        have Z1 : w1.frozen? ⟨w.heap.size + 1, 1, none⟩ = false := by rw [hb1.frozen (p := ⟨w.heap.size + 1, 1, none⟩) (by simp)]; simp [go_sem]
        have R2 : w1.cell? ⟨w.heap.size + 1, 2, none⟩ = some (.int .i64 0) := cellb hb1 (by simp [go_sem])
        have Z2 : w1.frozen? ⟨w.heap.size + 1, 2, none⟩ = false := by rw [hb1.frozen (p := ⟨w.heap.size + 1, 2, none⟩) (by simp)]; simp [go_sem]
        have R3 : w1.cell? ⟨w.heap.size + 1, 3, none⟩ = some (.slice none 0 0) := cellb hb1 (by simp [go_sem])
        have Z3 : w1.frozen? ⟨w.heap.size + 1, 3, none⟩ = false := by rw [hb1.frozen (p := ⟨w.heap.size + 1, 3, none⟩) (by simp)]; simp [go_sem]
        have R4 : w1.cell? ⟨w.heap.size + 1, 4, none⟩ = some (.slice none 0 0) := cellb hb1 (by simp [go_sem])
        have Z4 : w1.frozen? ⟨w.heap.size + 1, 4, none⟩ = false := by rw [hb1.frozen (p := ⟨w.heap.size + 1, 4, none⟩) (by simp)]; simp [go_sem]
        have hs1 : w.heap.size + 2 ≤ w1.heap.size := by have := hb1.size; simp at this; omega
        have b1 : Below w.heap.size w w1 := hb0.trans (hb1.mono (by simp; omega))
        clear hb1 hb0 HF
        go_wp2_with (first
          | (go_at_call 43; refine (l3Place_calls r wd y x w.heap.size g1 g2 g3 g4 _ A0 A1).mono ?_; rintro e w' ⟨rfl, hw⟩; rw [hw]; clear hw w'; rw [k0])
          | (go_at_call 44; refine (l1In_calls _ _ _ _).mono ?_; rintro e w' ⟨rfl, hw⟩; rw [hw]; clear hw w'; rw [k1])
          | (go_at_call 45; refine (l3Attr_calls _ _).mono ?_; rintro e w' ⟨rfl, hw⟩; rw [hw]; clear hw w'; rw [k2]))
        go_wp2_with fail
        refine (l3Bad_calls 3 _).mono ?_
        rintro e w9 ⟨rfl, hb9⟩
        replace R0 := cellb hb9 R0
        replace R1 := cellb hb9 R1
        replace R2 := cellb hb9 R2
        replace R3 := cellb hb9 R3
        replace R4 := cellb hb9 R4
        replace Z0 : w9.frozen? ⟨w.heap.size + 1, 0, none⟩ = false := by rw [hb9.frozen (p := ⟨w.heap.size + 1, 0, none⟩) (by simp; omega)]; exact Z0
        replace Z1 : w9.frozen? ⟨w.heap.size + 1, 1, none⟩ = false := by rw [hb9.frozen (p := ⟨w.heap.size + 1, 1, none⟩) (by simp; omega)]; exact Z1
        replace Z2 : w9.frozen? ⟨w.heap.size + 1, 2, none⟩ = false := by rw [hb9.frozen (p := ⟨w.heap.size + 1, 2, none⟩) (by simp; omega)]; exact Z2
        replace Z3 : w9.frozen? ⟨w.heap.size + 1, 3, none⟩ = false := by rw [hb9.frozen (p := ⟨w.heap.size + 1, 3, none⟩) (by simp; omega)]; exact Z3
        replace Z4 : w9.frozen? ⟨w.heap.size + 1, 4, none⟩ = false := by rw [hb9.frozen (p := ⟨w.heap.size + 1, 4, none⟩) (by simp; omega)]; exact Z4
        have b9 := b1.trans (hb9.mono b1.size)
        have hr := res5 (w := w9) (r := w.heap.size + 1) (.int .i64 3) (.int .i64 0) (.int .i64 0) (.slice none 0 0) (.slice none 0 0) R0 R1 R2 R3 R4
        go_wp2
        refine bodyPost_ret (v := .agg #[.int .i64 3, .int .i64 0, .int .i64 0, .slice none 0 0, .slice none 0 0]) (by simp only [results, Try.results13]; simp [go_sem, hr.1, hr.2.1, hr.2.2.1, hr.2.2.2.1, hr.2.2.2.2]) rfl ⟨_, _, rfl, ?_, b9.trans (show Below w.heap.size w9 _ from (by repeat' (first | with_reducible exact Below.refl _ _ | with_reducible assumption | with_reducible refine Below.drew ?_ | with_reducible refine Below.alloc ?_ ?_ _ | with_reducible refine Below.setCell ?_ ?_ _ | (simp; done) | (simp; omega) | omega)))⟩
        exact GOwn.nil _ _ _ (by have := b9.size; simp [World.setCell]; omega)
      | true =>
        cases k2 : atB at' with
        | false =>
          obtain ⟨g1, g2, g3, g4⟩ := hbd hG
          rw [shiftRes_def, gres_bad hG (by unfold shiftOk; first | (rw [k0]; rfl) | (rw [k0, k1]; rfl) | (rw [k0, k1, k2]; rfl))]
          rw [hG] at HF
          simp only [gbad]
          go_enter Try.func13, Try.ntmps13
          go_wp2_with fail
          refine HF.mono ?_
          rintro e w1 ⟨rfl, hb1⟩
          have A0 : w1.cell? ⟨w.heap.size, 0, none⟩ = some (.int .i64 r) := cellb hb1 (by simp [go_sem])
          have A1 : w1.cell? ⟨w.heap.size, 1, none⟩ = some (.int .i64 wd) := cellb hb1 (by simp [go_sem])
          have A2 : w1.cell? ⟨w.heap.size, 2, none⟩ = some (.slice a1 cs.length c1) := cellb hb1 (by simp [go_sem])
          have A3 : w1.cell? ⟨w.heap.size, 3, none⟩ = some (.slice a2 bs.length c2) := cellb hb1 (by simp [go_sem])
          have R0 : w1.cell? ⟨w.heap.size + 1, 0, none⟩ = some (.int .i64 0) := cellb hb1 (by simp [go_sem])
          have Z0 : w1.frozen? ⟨w.heap.size + 1, 0, none⟩ = false := by rw [hb1.frozen (p := ⟨w.heap.size + 1, 0, none⟩) (by simp)]; simp [go_sem]
          have R1 : w1.cell? ⟨w.heap.size + 1, 1, none⟩ = some (.int .i64 0) := cellb hb1 (by simp [go_sem])
          have Z1 : w1.frozen? ⟨w.heap.size + 1, 1, none⟩ = false := by rw [hb1.frozen (p := ⟨w.heap.size + 1, 1, none⟩) (by simp)]; simp [go_sem]
          have R2 : w1.cell? ⟨w.heap.size + 1, 2, none⟩ = some (.int .i64 0) := cellb hb1 (by simp [go_sem])
          have Z2 : w1.frozen? ⟨w.heap.size + 1, 2, none⟩ = false := by rw [hb1.frozen (p := ⟨w.heap.size + 1, 2, none⟩) (by simp)]; simp [go_sem]
          have R3 : w1.cell? ⟨w.heap.size + 1, 3, none⟩ = some (.slice none 0 0) := cellb hb1 (by simp [go_sem])
          have Z3 : w1.frozen? ⟨w.heap.size + 1, 3, none⟩ = false := by rw [hb1.frozen (p := ⟨w.heap.size + 1, 3, none⟩) (by simp)]; simp [go_sem]
          have R4 : w1.cell? ⟨w.heap.size + 1, 4, none⟩ = some (.slice none 0 0) := cellb hb1 (by simp [go_sem])
          have Z4 : w1.frozen? ⟨w.heap.size + 1, 4, none⟩ = false := by rw [hb1.frozen (p := ⟨w.heap.size + 1, 4, none⟩) (by simp)]; simp [go_sem]
          have hs1 : w.heap.size + 2 ≤ w1.heap.size := by have := hb1.size; simp at this; omega
          have b1 : Below w.heap.size w w1 := hb0.trans (hb1.mono (by simp; omega))
          clear hb1 hb0 HF
          go_wp2_with (first
            | (go_at_call 43; refine (l3Place_calls r wd y x w.heap.size g1 g2 g3 g4 _ A0 A1).mono ?_; rintro e w' ⟨rfl, hw⟩; rw [hw]; clear hw w'; rw [k0])
            | (go_at_call 44; refine (l1In_calls _ _ _ _).mono ?_; rintro e w' ⟨rfl, hw⟩; rw [hw]; clear hw w'; rw [k1])
            | (go_at_call 45; refine (l3Attr_calls _ _).mono ?_; rintro e w' ⟨rfl, hw⟩; rw [hw]; clear hw w'; rw [k2]))
          go_wp2_with fail
          refine (l3Bad_calls 3 _).mono ?_
          rintro e w9 ⟨rfl, hb9⟩
          replace R0 := cellb hb9 R0
          replace R1 := cellb hb9 R1
          replace R2 := cellb hb9 R2
          replace R3 := cellb hb9 R3
          replace R4 := cellb hb9 R4
          replace Z0 : w9.frozen? ⟨w.heap.size + 1, 0, none⟩ = false := by rw [hb9.frozen (p := ⟨w.heap.size + 1, 0, none⟩) (by simp; omega)]; exact Z0
          replace Z1 : w9.frozen? ⟨w.heap.size + 1, 1, none⟩ = false := by rw [hb9.frozen (p := ⟨w.heap.size + 1, 1, none⟩) (by simp; omega)]; exact Z1
          replace Z2 : w9.frozen? ⟨w.heap.size + 1, 2, none⟩ = false := by rw [hb9.frozen (p := ⟨w.heap.size + 1, 2, none⟩) (by simp; omega)]; exact Z2
          replace Z3 : w9.frozen? ⟨w.heap.size + 1, 3, none⟩ = false := by rw [hb9.frozen (p := ⟨w.heap.size + 1, 3, none⟩) (by simp; omega)]; exact Z3
          replace Z4 : w9.frozen? ⟨w.heap.size + 1, 4, none⟩ = false := by rw [hb9.frozen (p := ⟨w.heap.size + 1, 4, none⟩) (by simp; omega)]; exact Z4
          have b9 := b1.trans (hb9.mono b1.size)
          have hr := res5 (w := w9) (r := w.heap.size + 1) (.int .i64 3) (.int .i64 0) (.int .i64 0) (.slice none 0 0) (.slice none 0 0) R0 R1 R2 R3 R4
          go_wp2
          refine bodyPost_ret (v := .agg #[.int .i64 3, .int .i64 0, .int .i64 0, .slice none 0 0, .slice none 0 0]) (by simp only [results, Try.results13]; simp [go_sem, hr.1, hr.2.1, hr.2.2.1, hr.2.2.2.1, hr.2.2.2.2]) rfl ⟨_, _, rfl, ?_, b9.trans (show Below w.heap.size w9 _ from (by repeat' (first | with_reducible exact Below.refl _ _ | with_reducible assumption | with_reducible refine Below.drew ?_ | with_reducible refine Below.alloc ?_ ?_ _ | with_reducible refine Below.setCell ?_ ?_ _ | (simp; done) | (simp; omega) | omega)))⟩
          exact GOwn.nil _ _ _ (by have := b9.size; simp [World.setCell]; omega)
        | true =>
          obtain ⟨g1, g2, g3, g4⟩ := hbd hG
          rw [shiftRes_def, gres_ok hG (by unfold shiftOk; rw [k0, k1, k2]; rfl)]
          rw [hG] at HF
          have hfine := gfine_of_code hG
          obtain ⟨n1, n2, hq, n8, n9, n10⟩ := hfine.short
          obtain ⟨Kr, X, m', eK, eX, eW, q1, q2, q3, q4, y0, y1⟩ := place_nats hfine k0
          clear hfine hG hbd
          have eK' : (y * wd).toNat = Kr := by omega
          have eW' : wd.toNat = m' := by omega
          subst eX
          have j1 := of_decide_eq_true k1
          rw [eK', eW', Int.toNat_natCast]
          have EK := hide eK
          have EW := hide eW
          clear eK eW eK' eW'
          go_enter Try.func13, Try.ntmps13
          go_wp2_with fail
          refine HF.mono ?_
          rintro e w1 ⟨rfl, hb1⟩
          have A0 : w1.cell? ⟨w.heap.size, 0, none⟩ = some (.int .i64 r) := cellb hb1 (by simp [go_sem])
          have A1 : w1.cell? ⟨w.heap.size, 1, none⟩ = some (.int .i64 wd) := cellb hb1 (by simp [go_sem])
          have A2 : w1.cell? ⟨w.heap.size, 2, none⟩ = some (.slice a1 cs.length c1) := cellb hb1 (by simp [go_sem])
          have A3 : w1.cell? ⟨w.heap.size, 3, none⟩ = some (.slice a2 bs.length c2) := cellb hb1 (by simp [go_sem])
          have R0 : w1.cell? ⟨w.heap.size + 1, 0, none⟩ = some (.int .i64 0) := cellb hb1 (by simp [go_sem])
          have Z0 : w1.frozen? ⟨w.heap.size + 1, 0, none⟩ = false := by rw [hb1.frozen (p := ⟨w.heap.size + 1, 0, none⟩) (by simp)]; simp [go_sem]
          have R1 : w1.cell? ⟨w.heap.size + 1, 1, none⟩ = some (.int .i64 0) := cellb hb1 (by simp [go_sem])
          have Z1 : w1.frozen? ⟨w.heap.size + 1, 1, none⟩ = false := by rw [hb1.frozen (p := ⟨w.heap.size + 1, 1, none⟩) (by simp)]; simp [go_sem]
          have R2 : w1.cell? ⟨w.heap.size + 1, 2, none⟩ = some (.int .i64 0) := cellb hb1 (by simp [go_sem])
          have Z2 : w1.frozen? ⟨w.heap.size + 1, 2, none⟩ = false := by rw [hb1.frozen (p := ⟨w.heap.size + 1, 2, none⟩) (by simp)]; simp [go_sem]
          have R3 : w1.cell? ⟨w.heap.size + 1, 3, none⟩ = some (.slice none 0 0) := cellb hb1 (by simp [go_sem])
          have Z3 : w1.frozen? ⟨w.heap.size + 1, 3, none⟩ = false := by rw [hb1.frozen (p := ⟨w.heap.size + 1, 3, none⟩) (by simp)]; simp [go_sem]
          have R4 : w1.cell? ⟨w.heap.size + 1, 4, none⟩ = some (.slice none 0 0) := cellb hb1 (by simp [go_sem])
          have Z4 : w1.frozen? ⟨w.heap.size + 1, 4, none⟩ = false := by rw [hb1.frozen (p := ⟨w.heap.size + 1, 4, none⟩) (by simp)]; simp [go_sem]
          have hs1 : w.heap.size + 2 ≤ w1.heap.size := by have := hb1.size; simp at this; omega
          have b1 : Below w.heap.size w w1 := hb0.trans (hb1.mono (by simp; omega))
          clear hb1 hb0 HF
          go_wp2_with (first
            | (go_at_call 43; refine (l3Place_calls r wd y (X : Int) w.heap.size g1 g2 g3 g4 _ A0 A1).mono ?_; rintro e w' ⟨rfl, hw⟩; rw [hw]; clear hw w'; rw [k0])
            | (go_at_call 44; refine (l1In_calls _ _ _ _).mono ?_; rintro e w' ⟨rfl, hw⟩; rw [hw]; clear hw w'; rw [k1])
            | (go_at_call 45; refine (l3Attr_calls _ _).mono ?_; rintro e w' ⟨rfl, hw⟩; rw [hw]; clear hw w'; rw [k2]))
          refine (l3Copy_calls r wd cs bs _ _ w1 hn1 hn2 (h1.below b1) (h2.below b1)).mono ?_
          rintro e w2 ⟨x, y, m, rfl, m1, m2, ox, xm, oy, hb2⟩
          replace A0 := cellb hb2 A0
          replace A1 := cellb hb2 A1
          replace A2 := cellb hb2 A2
          replace A3 := cellb hb2 A3
          replace R0 := cellb hb2 R0
          replace R1 := cellb hb2 R1
          replace R2 := cellb hb2 R2
          replace R3 := cellb hb2 R3
          replace R4 := cellb hb2 R4
          replace Z0 : w2.frozen? ⟨w.heap.size + 1, 0, none⟩ = false := by rw [hb2.frozen (p := ⟨w.heap.size + 1, 0, none⟩) (by simp; omega)]; exact Z0
          replace Z1 : w2.frozen? ⟨w.heap.size + 1, 1, none⟩ = false := by rw [hb2.frozen (p := ⟨w.heap.size + 1, 1, none⟩) (by simp; omega)]; exact Z1
          replace Z2 : w2.frozen? ⟨w.heap.size + 1, 2, none⟩ = false := by rw [hb2.frozen (p := ⟨w.heap.size + 1, 2, none⟩) (by simp; omega)]; exact Z2
          replace Z3 : w2.frozen? ⟨w.heap.size + 1, 3, none⟩ = false := by rw [hb2.frozen (p := ⟨w.heap.size + 1, 3, none⟩) (by simp; omega)]; exact Z3
          replace Z4 : w2.frozen? ⟨w.heap.size + 1, 4, none⟩ = false := by rw [hb2.frozen (p := ⟨w.heap.size + 1, 4, none⟩) (by simp; omega)]; exact Z4
          have b2 := b1.trans (hb2.mono b1.size)
          have hs2 : w1.heap.size ≤ w2.heap.size := hb2.size
          obtain ⟨bx, cx, rfl, hcx, _, x1, x2, hrow⟩ := own_row ox n8
          obtain ⟨ay, cy, rfl, hyc⟩ := own_room2 oy
          have x3 : bx < m := xm bx rfl
          have HX := hide hrow
          have HY := hide oy
          clear hrow oy ox xm hb2
          go_wp2_with fail
          have hb3 : Below w2.heap.size w2 (w2.alloc (.cells #[.int .i64 r, .int .i64 wd, .slice (some ⟨bx, 0, none⟩) cs.length cx, .slice ay bs.length cy] 26)) := (by repeat' (first | with_reducible exact Below.refl _ _ | with_reducible assumption | with_reducible refine Below.drew ?_ | with_reducible refine Below.alloc ?_ ?_ _ | with_reducible refine Below.setCell ?_ ?_ _ | (simp; done) | (simp; omega) | omega))
          have S0 : (w2.alloc (.cells #[.int .i64 r, .int .i64 wd, .slice (some ⟨bx, 0, none⟩) cs.length cx, .slice ay bs.length cy] 26)).cell? ⟨w2.heap.size, 0, none⟩ = some (.int .i64 r) := by simp [go_sem]
          have S1 : (w2.alloc (.cells #[.int .i64 r, .int .i64 wd, .slice (some ⟨bx, 0, none⟩) cs.length cx, .slice ay bs.length cy] 26)).cell? ⟨w2.heap.size, 1, none⟩ = some (.int .i64 wd) := by simp [go_sem]
          have S2 : (w2.alloc (.cells #[.int .i64 r, .int .i64 wd, .slice (some ⟨bx, 0, none⟩) cs.length cx, .slice ay bs.length cy] 26)).cell? ⟨w2.heap.size, 2, none⟩ = some (.slice (some ⟨bx, 0, none⟩) cs.length cx) := by simp [go_sem]
          have S3 : (w2.alloc (.cells #[.int .i64 r, .int .i64 wd, .slice (some ⟨bx, 0, none⟩) cs.length cx, .slice ay bs.length cy] 26)).cell? ⟨w2.heap.size, 3, none⟩ = some (.slice ay bs.length cy) := by simp [go_sem]
          have hs3 : (w2.alloc (.cells #[.int .i64 r, .int .i64 wd, .slice (some ⟨bx, 0, none⟩) cs.length cx, .slice ay bs.length cy] 26)).heap.size = w2.heap.size + 1 := by simp
          generalize (w2.alloc (.cells #[.int .i64 r, .int .i64 wd, .slice (some ⟨bx, 0, none⟩) cs.length cx, .slice ay bs.length cy] 26)) = w3 at *
          replace A0 := cellb hb3 A0
          replace A1 := cellb hb3 A1
          replace A2 := cellb hb3 A2
          replace A3 := cellb hb3 A3
          replace R0 := cellb hb3 R0
          replace R1 := cellb hb3 R1
          replace R2 := cellb hb3 R2
          replace R3 := cellb hb3 R3
          replace R4 := cellb hb3 R4
          replace Z0 : w3.frozen? ⟨w.heap.size + 1, 0, none⟩ = false := by rw [hb3.frozen (p := ⟨w.heap.size + 1, 0, none⟩) (by simp; omega)]; exact Z0
          replace Z1 : w3.frozen? ⟨w.heap.size + 1, 1, none⟩ = false := by rw [hb3.frozen (p := ⟨w.heap.size + 1, 1, none⟩) (by simp; omega)]; exact Z1
          replace Z2 : w3.frozen? ⟨w.heap.size + 1, 2, none⟩ = false := by rw [hb3.frozen (p := ⟨w.heap.size + 1, 2, none⟩) (by simp; omega)]; exact Z2
          replace Z3 : w3.frozen? ⟨w.heap.size + 1, 3, none⟩ = false := by rw [hb3.frozen (p := ⟨w.heap.size + 1, 3, none⟩) (by simp; omega)]; exact Z3
          replace Z4 : w3.frozen? ⟨w.heap.size + 1, 4, none⟩ = false := by rw [hb3.frozen (p := ⟨w.heap.size + 1, 4, none⟩) (by simp; omega)]; exact Z4
          have b3 := b2.trans (hb3.mono b2.size)
          replace HX := hide (HX.out.below hb3 x2)
          replace HY := hide (own_below HY.out hb3)
          clear hb3 b2
          refine (l3Shift_calls w2.heap.size bx cs.length cx Kr X m' y wd n at' _ w3 S1 S2 HX.out hcx (by omega) (by omega) EK.out EW.out q1 n9 q2 q4 y0 y1 j1.1 j1.2).mono ?_
          rintro e w5 ⟨⟨u5, rfl⟩, hr5, ht5⟩
          replace A0 := ht5.cellAt A0 (by omega)
          replace A1 := ht5.cellAt A1 (by omega)
          replace A2 := ht5.cellAt A2 (by omega)
          replace A3 := ht5.cellAt A3 (by omega)
          replace R0 := ht5.cellAt R0 (by omega)
          replace R1 := ht5.cellAt R1 (by omega)
          replace R2 := ht5.cellAt R2 (by omega)
          replace R3 := ht5.cellAt R3 (by omega)
          replace R4 := ht5.cellAt R4 (by omega)
          replace S0 := ht5.cellAt S0 (by omega)
          replace S1 := ht5.cellAt S1 (by omega)
          replace S2 := ht5.cellAt S2 (by omega)
          replace S3 := ht5.cellAt S3 (by omega)
          replace Z0 := ht5.frozenAt (by omega) Z0
          replace Z1 := ht5.frozenAt (by omega) Z1
          replace Z2 := ht5.frozenAt (by omega) Z2
          replace Z3 := ht5.frozenAt (by omega) Z3
          replace Z4 := ht5.frozenAt (by omega) Z4
          have b5 : Below w.heap.size w w5 := b3.trans (ht5.below (by omega) (by omega))
          have hs5 : w3.heap.size ≤ w5.heap.size := ht5.size
          have l5 := HY.out.lt
          replace HY := hide (own_touch HY.out ht5 (fun k hk => by have := (l5 k hk).1; omega))
          clear l5 b3
          replace HX := hide hr5
          clear hr5 ht5
          have hr := res5 (w := w5) (r := w.heap.size + 1) (.int .i64 0) (.int .i64 r) (.int .i64 wd) (.slice (some ⟨bx, 0, none⟩) cs.length cx) (.slice ay bs.length cy) R0 R1 R2 R3 R4
          go_wp2
          refine bodyPost_ret (v := .agg #[.int .i64 0, .int .i64 r, .int .i64 wd, .slice (some ⟨bx, 0, none⟩) cs.length cx, .slice ay bs.length cy]) (by simp only [results, Try.results13]; simp [go_sem, hr.1, hr.2.1, hr.2.2.1, hr.2.2.2.1, hr.2.2.2.2]) rfl ⟨_, _, rfl, ?_, b5.trans (show Below w.heap.size w5 _ from (by repeat' (first | with_reducible exact Below.refl _ _ | with_reducible assumption | with_reducible refine Below.drew ?_ | with_reducible refine Below.alloc ?_ ?_ _ | with_reducible refine Below.setCell ?_ ?_ _ | (simp; done) | (simp; omega) | omega)))⟩
          refine (gown_of (w := w5) (base := w1.heap.size) (m := m) (HX.out.congr (fun i hi => ?_)) (by omega) (by omega) HY.out (by omega) (by omega) (by simp [World.setCell]) (fun k _ => ?_) (by omega)).mono (by omega) (Nat.le_refl _)
          · rfl
          · by_cases hk : k < w1.heap.size
            · exact .inr hk
            · left
              simp only [World.setCell, Array.getElem?_modify]
              repeat rw [if_neg (by omega)]
  · rw [shiftRes_def, gres_fault hG]
    generalize gridCode r wd cs bs = code at *
    have hcb : (code != 0) = true := by simpa using hG
    simp only [gbad]
    go_enter Try.func13, Try.ntmps13
    go_wp2_with fail
    refine HF.mono ?_
    rintro e w1 ⟨rfl, hb1⟩
    have A0 : w1.cell? ⟨w.heap.size, 0, none⟩ = some (.int .i64 r) := cellb hb1 (by simp [go_sem])
    have A1 : w1.cell? ⟨w.heap.size, 1, none⟩ = some (.int .i64 wd) := cellb hb1 (by simp [go_sem])
    have A2 : w1.cell? ⟨w.heap.size, 2, none⟩ = some (.slice a1 cs.length c1) := cellb hb1 (by simp [go_sem])
    have A3 : w1.cell? ⟨w.heap.size, 3, none⟩ = some (.slice a2 bs.length c2) := cellb hb1 (by simp [go_sem])
    have R0 : w1.cell? ⟨w.heap.size + 1, 0, none⟩ = some (.int .i64 0) := cellb hb1 (by simp [go_sem])
    have Z0 : w1.frozen? ⟨w.heap.size + 1, 0, none⟩ = false := by rw [hb1.frozen (p := ⟨w.heap.size + 1, 0, none⟩) (by simp)]; simp [go_sem]
    have R1 : w1.cell? ⟨w.heap.size + 1, 1, none⟩ = some (.int .i64 0) := cellb hb1 (by simp [go_sem])
    have Z1 : w1.frozen? ⟨w.heap.size + 1, 1, none⟩ = false := by rw [hb1.frozen (p := ⟨w.heap.size + 1, 1, none⟩) (by simp)]; simp [go_sem]
    have R2 : w1.cell? ⟨w.heap.size + 1, 2, none⟩ = some (.int .i64 0) := cellb hb1 (by simp [go_sem])
    have Z2 : w1.frozen? ⟨w.heap.size + 1, 2, none⟩ = false := by rw [hb1.frozen (p := ⟨w.heap.size + 1, 2, none⟩) (by simp)]; simp [go_sem]
    have R3 : w1.cell? ⟨w.heap.size + 1, 3, none⟩ = some (.slice none 0 0) := cellb hb1 (by simp [go_sem])
    have Z3 : w1.frozen? ⟨w.heap.size + 1, 3, none⟩ = false := by rw [hb1.frozen (p := ⟨w.heap.size + 1, 3, none⟩) (by simp)]; simp [go_sem]
    have R4 : w1.cell? ⟨w.heap.size + 1, 4, none⟩ = some (.slice none 0 0) := cellb hb1 (by simp [go_sem])
    have Z4 : w1.frozen? ⟨w.heap.size + 1, 4, none⟩ = false := by rw [hb1.frozen (p := ⟨w.heap.size + 1, 4, none⟩) (by simp)]; simp [go_sem]
    have hs1 : w.heap.size + 2 ≤ w1.heap.size := by have := hb1.size; simp at this; omega
    have b1 : Below w.heap.size w w1 := hb0.trans (hb1.mono (by simp; omega))
    clear hb1 hb0 HF
    go_wp2_with fail
    refine (l3Bad_calls code _).mono ?_
    rintro e w9 ⟨rfl, hb9⟩
    replace R0 := cellb hb9 R0
    replace R1 := cellb hb9 R1
    replace R2 := cellb hb9 R2
    replace R3 := cellb hb9 R3
    replace R4 := cellb hb9 R4
    replace Z0 : w9.frozen? ⟨w.heap.size + 1, 0, none⟩ = false := by rw [hb9.frozen (p := ⟨w.heap.size + 1, 0, none⟩) (by simp; omega)]; exact Z0
    replace Z1 : w9.frozen? ⟨w.heap.size + 1, 1, none⟩ = false := by rw [hb9.frozen (p := ⟨w.heap.size + 1, 1, none⟩) (by simp; omega)]; exact Z1
    replace Z2 : w9.frozen? ⟨w.heap.size + 1, 2, none⟩ = false := by rw [hb9.frozen (p := ⟨w.heap.size + 1, 2, none⟩) (by simp; omega)]; exact Z2
    replace Z3 : w9.frozen? ⟨w.heap.size + 1, 3, none⟩ = false := by rw [hb9.frozen (p := ⟨w.heap.size + 1, 3, none⟩) (by simp; omega)]; exact Z3
    replace Z4 : w9.frozen? ⟨w.heap.size + 1, 4, none⟩ = false := by rw [hb9.frozen (p := ⟨w.heap.size + 1, 4, none⟩) (by simp; omega)]; exact Z4
    have b9 := b1.trans (hb9.mono b1.size)
    have hr := res5 (w := w9) (r := w.heap.size + 1) (.int .i64 code) (.int .i64 0) (.int .i64 0) (.slice none 0 0) (.slice none 0 0) R0 R1 R2 R3 R4
    go_wp2
    refine bodyPost_ret (v := .agg #[.int .i64 code, .int .i64 0, .int .i64 0, .slice none 0 0, .slice none 0 0]) (by simp only [results, Try.results13]; simp [go_sem, hr.1, hr.2.1, hr.2.2.1, hr.2.2.2.1, hr.2.2.2.2]) rfl ⟨_, _, rfl, ?_, b9.trans (show Below w.heap.size w9 _ from (by repeat' (first | with_reducible exact Below.refl _ _ | with_reducible assumption | with_reducible refine Below.drew ?_ | with_reducible refine Below.alloc ?_ ?_ _ | with_reducible refine Below.setCell ?_ ?_ _ | (simp; done) | (simp; omega) | omega)))⟩
    exact GOwn.nil _ _ _ (by have := b9.size; simp [World.setCell]; omega)

end Go.Proofs.Ytbndncfkkhjkoab
