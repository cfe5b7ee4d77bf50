/-
  What ScrollGrid answers, of the model.
-/
import Derived.Test.YtbndncfkkhjkoaiScrollSpec
namespace Go.Proofs.Ytbndncfkkhjkoai
open Go.ChangeShapes Go.WideShapes Go.ChangeAt Go.RowKit
set_option linter.unusedVariables false
set_option linter.unusedSimpArgs false
set_option maxRecDepth 20000

theorem scrollOk_spec (r top bot n at' : Int) : scrollOk r top bot n at' = (decide (0 ≤ top ∧ top ≤ r - 1) && (decide (top ≤ bot ∧ bot ≤ r - 1) && (decide (-9 ≤ n ∧ n ≤ 9) && atB at'))) := by
  unfold scrollOk
  rw [← Bool.and_assoc, ← Bool.and_assoc (decide (0 ≤ top ∧ top ≤ r - 1)), ← Bool.decide_and, ← Bool.decide_and]
  congr 1
  apply decide_eq_decide.2
  omega
/-- What a result holds, whose second list is owned and lies elsewhere than the first. -/
theorem gown_of3 {w w' : World} {base bx n cx pb : Nat} {F : Nat → Int × Int} {y : Value} {bs : List (Int × Int)} {e : TypeId} (hr : Row w bx 0 n F) (h1 : base ≤ bx) (h2 : bx < w.heap.size) (ho : w.ownsRow base e 2 y bs.length (pvs bs)) (ha : ∀ k, y.ownBlock = some k → k ≠ bx)
    (hp : base ≤ pb ∧ pb < w.heap.size ∧ pb ≠ bx) (hs : w.heap.size ≤ w'.heap.size) (hk : ∀ k, k < w.heap.size → w'.heap[k]? = w.heap[k]? ∨ k < base) : GOwn base w'.heap.size w' (.slice (some ⟨bx, 0, none⟩) n cx) y (mkL n F) bs := by
  have p1 : PairsAt bx (bx + 1) w (.slice (some ⟨bx, 0, none⟩) n cx) (mkL n F) := PairsAt.of_row hr (Nat.le_refl _) (Nat.lt_succ_self _)
  have p2 : ∃ bb, base ≤ bb ∧ bb < w.heap.size ∧ bb ≠ bx ∧ PairsAt bb (bb + 1) w y bs := by
    by_cases h0 : 0 < bs.length
    · obtain ⟨b, cap, rfl, hc, hl, g1, g2, hrow⟩ := own_row ho h0
      exact ⟨b, g1, g2, ha b rfl, ⟨_, _, rfl, .inr ⟨b, 0, rfl, Nat.le_refl _, Nat.lt_succ_self _, fun i hi => hrow i hi⟩⟩⟩
    · obtain ⟨a, cap, rfl, hc⟩ := own_room2 ho
      obtain rfl := List.length_eq_zero_iff.1 (show bs.length = 0 by omega)
      exact ⟨pb, hp.1, hp.2.1, hp.2.2, PairsAt.nil _ _ _ _ _⟩
  obtain ⟨bb, b1, b2, b3, p2⟩ := p2
  refine ((GOwn.of (lo := base) (hi := w.heap.size) p1 p2 h1 (by omega) b1 (by omega) (by omega)).of_blocks (fun i h1 h2 => ?_)).mono (Nat.le_refl _) hs
  rcases hk i h2 with h | h
  · exact h
  · omega

set_option maxHeartbeats 2000000 in
theorem specScrollGrid_calls (r wd : Int) (cs bs : List (Int × Int)) (top bot n at' : Int) (v1 v2 : Value) (w : World) (hn1 : cs.length ≤ 1048576) (hn2 : bs.length ≤ 1048576) (h1 : PRead w v1 cs) (h2 : PRead w v2 bs) :
    Calls Try.prog 21 #[.agg #[.int .i64 r, .int .i64 wd, v1, v2], .int .i64 top, .int .i64 bot, .int .i64 n, .int .i64 at'] w fun e w' => ∃ v5 v6, e = .returned (.agg #[.int .i64 (scrollRes r wd cs bs top bot n at').code, .int .i64 (scrollRes r wd cs bs top bot n at').rows, .int .i64 (scrollRes r wd cs bs top bot n at').wd, v5, v6]) ∧ GOwn w.heap.size w'.heap.size w' v5 v6 (scrollRes r wd cs bs top bot n at').cs (scrollRes r wd cs bs top bot n at').bs ∧ Below w.heap.size w w' := by
  have h1' := h1
  obtain ⟨a1, c1, rfl, hx1⟩ := h1'
  clear hx1
  have h2' := h2
  obtain ⟨a2, c2, rfl, hx2⟩ := h2'
  clear hx2
  have hb0 : Below w.heap.size w ((w.alloc (.cells #[.int .i64 r, .int .i64 wd, .slice a1 cs.length c1, .slice a2 bs.length c2] 24)).alloc (.cells #[.int .i64 0, .int .i64 0, .int .i64 0, .slice none 0 0, .slice none 0 0] 26)) := (by repeat' (first | with_reducible exact Below.refl _ _ | with_reducible assumption | with_reducible refine Below.drew ?_ | with_reducible refine Below.alloc ?_ ?_ _ | with_reducible refine Below.setCell ?_ ?_ _ | (simp; done) | (simp; omega) | omega))
  have HF := l3Fault_calls r wd cs bs _ _ w.heap.size ((w.alloc (.cells #[.int .i64 r, .int .i64 wd, .slice a1 cs.length c1, .slice a2 bs.length c2] 24)).alloc (.cells #[.int .i64 0, .int .i64 0, .int .i64 0, .slice none 0 0, .slice none 0 0] 26)) hn1 hn2 (h1.below hb0) (h2.below hb0) (by simp [go_sem]) (by simp [go_sem]) (by simp [go_sem]) (by simp [go_sem])
  have hbd : gridCode r wd cs bs = 0 → 1 ≤ r ∧ r ≤ 6 ∧ 2 ≤ wd ∧ wd ≤ 12 := fun h => fine_bounds (gfine_of_code h)
  by_cases hG : gridCode r wd cs bs = 0
  · cases k0 : decide (0 ≤ top ∧ top ≤ r - 1) with
    | false =>
      obtain ⟨g1, g2, g3, g4⟩ := hbd hG
      rw [scrollRes_def, gres_bad hG (by rw [scrollOk_spec]; first | (rw [k0]; rfl) | (rw [k0, k1]; rfl) | (rw [k0, k1, k2]; rfl) | (rw [k0, k1, k2, k3]; rfl))]
      rw [hG] at HF
      simp only [gbad]
      go_enter Try.func21, Try.ntmps21
      go_wp2_with fail
      refine HF.mono ?_
      rintro e w1 ⟨rfl, hb1⟩
      have A0 : w1.cell? ⟨w.heap.size, 0, none⟩ = some (.int .i64 r) := cellb hb1 (by simp [go_sem])
      have A1 : w1.cell? ⟨w.heap.size, 1, none⟩ = some (.int .i64 wd) := cellb hb1 (by simp [go_sem])
      have A2 : w1.cell? ⟨w.heap.size, 2, none⟩ = some (.slice a1 cs.length c1) := cellb hb1 (by simp [go_sem])
      have A3 : w1.cell? ⟨w.heap.size, 3, none⟩ = some (.slice a2 bs.length c2) := cellb hb1 (by simp [go_sem])
      have R0 : w1.cell? ⟨w.heap.size + 1, 0, none⟩ = some (.int .i64 0) := cellb hb1 (by simp [go_sem])
      have Z0 : w1.frozen? ⟨w.heap.size + 1, 0, none⟩ = false := by rw [hb1.frozen (p := ⟨w.heap.size + 1, 0, none⟩) (by simp)]; simp [go_sem]
      have R1 : w1.cell? ⟨w.heap.size + 1, 1, none⟩ = some (.int .i64 0) := cellb hb1 (by simp [go_sem])
      have Z1 : w1.frozen? ⟨w.heap.size + 1, 1, none⟩ = false := by rw [hb1.frozen (p := ⟨w.heap.size + 1, 1, none⟩) (by simp)]; simp [go_sem]
      have R2 : w1.cell? ⟨w.heap.size + 1, 2, none⟩ = some (.int .i64 0) := cellb hb1 (by simp [go_sem])
      have Z2 : w1.frozen? ⟨w.heap.size + 1, 2, none⟩ = false := by rw [hb1.frozen (p := ⟨w.heap.size + 1, 2, none⟩) (by simp)]; simp [go_sem]
      have R3 : w1.cell? ⟨w.heap.size + 1, 3, none⟩ = some (.slice none 0 0) := cellb hb1 (by simp [go_sem])
      have Z3 : w1.frozen? ⟨w.heap.size + 1, 3, none⟩ = false := by rw [hb1.frozen (p := ⟨w.heap.size + 1, 3, none⟩) (by simp)]; simp [go_sem]
      have R4 : w1.cell? ⟨w.heap.size + 1, 4, none⟩ = some (.slice none 0 0) := cellb hb1 (by simp [go_sem])
      have Z4 : w1.frozen? ⟨w.heap.size + 1, 4, none⟩ = false := by rw [hb1.frozen (p := ⟨w.heap.size + 1, 4, none⟩) (by simp)]; simp [go_sem]
      have hs1 : w.heap.size + 2 ≤ w1.heap.size := by have := hb1.size; simp at this; omega
      have b1 : Below w.heap.size w w1 := hb0.trans (hb1.mono (by simp; omega))
      clear hb1 hb0 HF
      go_wp2_with (first
        | (go_at_call 50; refine (l1In_calls _ _ _ _).mono ?_; rintro e w' ⟨rfl, hw⟩; rw [hw]; clear hw w'; first | rw [k0] | rw [k1] | rw [k2])
        | (go_at_call 51; refine (l3Attr_calls _ _).mono ?_; rintro e w' ⟨rfl, hw⟩; rw [hw]; clear hw w'; rw [k3]))
      go_wp2_with fail
      refine (l3Bad_calls 3 _).mono ?_
      rintro e w9 ⟨rfl, hb9⟩
      replace R0 := cellb hb9 R0
      replace R1 := cellb hb9 R1
      replace R2 := cellb hb9 R2
      replace R3 := cellb hb9 R3
      replace R4 := cellb hb9 R4
      replace Z0 : w9.frozen? ⟨w.heap.size + 1, 0, none⟩ = false := by rw [hb9.frozen (p := ⟨w.heap.size + 1, 0, none⟩) (by simp; omega)]; exact Z0
      replace Z1 : w9.frozen? ⟨w.heap.size + 1, 1, none⟩ = false := by rw [hb9.frozen (p := ⟨w.heap.size + 1, 1, none⟩) (by simp; omega)]; exact Z1
      replace Z2 : w9.frozen? ⟨w.heap.size + 1, 2, none⟩ = false := by rw [hb9.frozen (p := ⟨w.heap.size + 1, 2, none⟩) (by simp; omega)]; exact Z2
      replace Z3 : w9.frozen? ⟨w.heap.size + 1, 3, none⟩ = false := by rw [hb9.frozen (p := ⟨w.heap.size + 1, 3, none⟩) (by simp; omega)]; exact Z3
      replace Z4 : w9.frozen? ⟨w.heap.size + 1, 4, none⟩ = false := by rw [hb9.frozen (p := ⟨w.heap.size + 1, 4, none⟩) (by simp; omega)]; exact Z4
      have b9 := b1.trans (hb9.mono b1.size)
      have hr := res5 (w := w9) (r := w.heap.size + 1) (.int .i64 3) (.int .i64 0) (.int .i64 0) (.slice none 0 0) (.slice none 0 0) R0 R1 R2 R3 R4
      go_wp2
      refine bodyPost_ret (v := .agg #[.int .i64 3, .int .i64 0, .int .i64 0, .slice none 0 0, .slice none 0 0]) (by simp only [results, Try.results21]; simp [go_sem, hr.1, hr.2.1, hr.2.2.1, hr.2.2.2.1, hr.2.2.2.2]) rfl ⟨_, _, rfl, ?_, b9.trans (show Below w.heap.size w9 _ from (by repeat' (first | with_reducible exact Below.refl _ _ | with_reducible assumption | with_reducible refine Below.drew ?_ | with_reducible refine Below.alloc ?_ ?_ _ | with_reducible refine Below.setCell ?_ ?_ _ | (simp; done) | (simp; omega) | omega)))⟩
      exact GOwn.nil _ _ _ (by have := b9.size; simp [World.setCell]; omega)
    | true =>
      cases k1 : decide (top ≤ bot ∧ bot ≤ r - 1) with
      | false =>
        obtain ⟨g1, g2, g3, g4⟩ := hbd hG
        rw [scrollRes_def, gres_bad hG (by rw [scrollOk_spec]; first | (rw [k0]; rfl) | (rw [k0, k1]; rfl) | (rw [k0, k1, k2]; rfl) | (rw [k0, k1, k2, k3]; rfl))]
        rw [hG] at HF
        simp only [gbad]
        go_enter Try.func21, Try.ntmps21
        go_wp2_with fail
        refine HF.mono ?_
        rintro e w1 ⟨rfl, hb1⟩
        have A0 : w1.cell? ⟨w.heap.size, 0, none⟩ = some (.int .i64 r) := cellb hb1 (by simp [go_sem])
        have A1 : w1.cell? ⟨w.heap.size, 1, none⟩ = some (.int .i64 wd) := cellb hb1 (by simp [go_sem])
        have A2 : w1.cell? ⟨w.heap.size, 2, none⟩ = some (.slice a1 cs.length c1) := cellb hb1 (by simp [go_sem])
        have A3 : w1.cell? ⟨w.heap.size, 3, none⟩ = some (.slice a2 bs.length c2) := cellb hb1 (by simp [go_sem])
        have R0 : w1.cell? ⟨w.heap.size + 1, 0, none⟩ = some (.int .i64 0) := cellb hb1 (by simp [go_sem])
        have Z0 : w1.frozen? ⟨w.heap.size + 1, 0, none⟩ = false := by rw [hb1.frozen (p := ⟨w.heap.size + 1, 0, none⟩) (by simp)]; simp [go_sem]
        have R1 : w1.cell? ⟨w.heap.size + 1, 1, none⟩ = some (.int .i64 0) := cellb hb1 (by simp [go_sem])
        have Z1 : w1.frozen? ⟨w.heap.size + 1, 1, none⟩ = false := by rw [hb1.frozen (p := ⟨w.heap.size + 1, 1, none⟩) (by simp)]; simp [go_sem]
        have R2 : w1.cell? ⟨w.heap.size + 1, 2, none⟩ = some (.int .i64 0) := cellb hb1 (by simp [go_sem])
        have Z2 : w1.frozen? ⟨w.heap.size + 1, 2, none⟩ = false := by rw [hb1.frozen (p := ⟨w.heap.size + 1, 2, none⟩) (by simp)]; simp [go_sem]
        have R3 : w1.cell? ⟨w.heap.size + 1, 3, none⟩ = some (.slice none 0 0) := cellb hb1 (by simp [go_sem])
        have Z3 : w1.frozen? ⟨w.heap.size + 1, 3, none⟩ = false := by rw [hb1.frozen (p := ⟨w.heap.size + 1, 3, none⟩) (by simp)]; simp [go_sem]
        have R4 : w1.cell? ⟨w.heap.size + 1, 4, none⟩ = some (.slice none 0 0) := cellb hb1 (by simp [go_sem])
        have Z4 : w1.frozen? ⟨w.heap.size + 1, 4, none⟩ = false := by rw [hb1.frozen (p := ⟨w.heap.size + 1, 4, none⟩) (by simp)]; simp [go_sem]
        have hs1 : w.heap.size + 2 ≤ w1.heap.size := by have := hb1.size; simp at this; omega
        have b1 : Below w.heap.size w w1 := hb0.trans (hb1.mono (by simp; omega))
        clear hb1 hb0 HF
        go_wp2_with (first
          | (go_at_call 50; refine (l1In_calls _ _ _ _).mono ?_; rintro e w' ⟨rfl, hw⟩; rw [hw]; clear hw w'; first | rw [k0] | rw [k1] | rw [k2])
          | (go_at_call 51; refine (l3Attr_calls _ _).mono ?_; rintro e w' ⟨rfl, hw⟩; rw [hw]; clear hw w'; rw [k3]))
        go_wp2_with fail
        refine (l3Bad_calls 3 _).mono ?_
        rintro e w9 ⟨rfl, hb9⟩
        replace R0 := cellb hb9 R0
        replace R1 := cellb hb9 R1
        replace R2 := cellb hb9 R2
        replace R3 := cellb hb9 R3
        replace R4 := cellb hb9 R4
        replace Z0 : w9.frozen? ⟨w.heap.size + 1, 0, none⟩ = false := by rw [hb9.frozen (p := ⟨w.heap.size + 1, 0, none⟩) (by simp; omega)]; exact Z0
        replace Z1 : w9.frozen? ⟨w.heap.size + 1, 1, none⟩ = false := by rw [hb9.frozen (p := ⟨w.heap.size + 1, 1, none⟩) (by simp; omega)]; exact Z1
        replace Z2 : w9.frozen? ⟨w.heap.size + 1, 2, none⟩ = false := by rw [hb9.frozen (p := ⟨w.heap.size + 1, 2, none⟩) (by simp; omega)]; exact Z2
        replace Z3 : w9.frozen? ⟨w.heap.size + 1, 3, none⟩ = false := by rw [hb9.frozen (p := ⟨w.heap.size + 1, 3, none⟩) (by simp; omega)]; exact Z3
        replace Z4 : w9.frozen? ⟨w.heap.size + 1, 4, none⟩ = false := by rw [hb9.frozen (p := ⟨w.heap.size + 1, 4, none⟩) (by simp; omega)]; exact Z4
        have b9 := b1.trans (hb9.mono b1.size)
        have hr := res5 (w := w9) (r := w.heap.size + 1) (.int .i64 3) (.int .i64 0) (.int .i64 0) (.slice none 0 0) (.slice none 0 0) R0 R1 R2 R3 R4
        go_wp2
        refine bodyPost_ret (v := .agg #[.int .i64 3, .int .i64 0, .int .i64 0, .slice none 0 0, .slice none 0 0]) (by simp only [results, Try.results21]; simp [go_sem, hr.1, hr.2.1, hr.2.2.1, hr.2.2.2.1, hr.2.2.2.2]) rfl ⟨_, _, rfl, ?_, b9.trans (show Below w.heap.size w9 _ from (by repeat' (first | with_reducible exact Below.refl _ _ | with_reducible assumption | with_reducible refine Below.drew ?_ | with_reducible refine Below.alloc ?_ ?_ _ | with_reducible refine Below.setCell ?_ ?_ _ | (simp; done) | (simp; omega) | omega)))⟩
        exact GOwn.nil _ _ _ (by have := b9.size; simp [World.setCell]; omega)
      | true =>
        cases k2 : decide (-9 ≤ n ∧ n ≤ 9) with
        | false =>
          obtain ⟨g1, g2, g3, g4⟩ := hbd hG
          rw [scrollRes_def, gres_bad hG (by rw [scrollOk_spec]; first | (rw [k0]; rfl) | (rw [k0, k1]; rfl) | (rw [k0, k1, k2]; rfl) | (rw [k0, k1, k2, k3]; rfl))]
          rw [hG] at HF
          simp only [gbad]
          go_enter Try.func21, Try.ntmps21
          go_wp2_with fail
          refine HF.mono ?_
          rintro e w1 ⟨rfl, hb1⟩
          have A0 : w1.cell? ⟨w.heap.size, 0, none⟩ = some (.int .i64 r) := cellb hb1 (by simp [go_sem])
          have A1 : w1.cell? ⟨w.heap.size, 1, none⟩ = some (.int .i64 wd) := cellb hb1 (by simp [go_sem])
          have A2 : w1.cell? ⟨w.heap.size, 2, none⟩ = some (.slice a1 cs.length c1) := cellb hb1 (by simp [go_sem])
          have A3 : w1.cell? ⟨w.heap.size, 3, none⟩ = some (.slice a2 bs.length c2) := cellb hb1 (by simp [go_sem])
          have R0 : w1.cell? ⟨w.heap.size + 1, 0, none⟩ = some (.int .i64 0) := cellb hb1 (by simp [go_sem])
          have Z0 : w1.frozen? ⟨w.heap.size + 1, 0, none⟩ = false := by rw [hb1.frozen (p := ⟨w.heap.size + 1, 0, none⟩) (by simp)]; simp [go_sem]
          have R1 : w1.cell? ⟨w.heap.size + 1, 1, none⟩ = some (.int .i64 0) := cellb hb1 (by simp [go_sem])
          have Z1 : w1.frozen? ⟨w.heap.size + 1, 1, none⟩ = false := by rw [hb1.frozen (p := ⟨w.heap.size + 1, 1, none⟩) (by simp)]; simp [go_sem]
          have R2 : w1.cell? ⟨w.heap.size + 1, 2, none⟩ = some (.int .i64 0) := cellb hb1 (by simp [go_sem])
          have Z2 : w1.frozen? ⟨w.heap.size + 1, 2, none⟩ = false := by rw [hb1.frozen (p := ⟨w.heap.size + 1, 2, none⟩) (by simp)]; simp [go_sem]
          have R3 : w1.cell? ⟨w.heap.size + 1, 3, none⟩ = some (.slice none 0 0) := cellb hb1 (by simp [go_sem])
          have Z3 : w1.frozen? ⟨w.heap.size + 1, 3, none⟩ = false := by rw [hb1.frozen (p := ⟨w.heap.size + 1, 3, none⟩) (by simp)]; simp [go_sem]
          have R4 : w1.cell? ⟨w.heap.size + 1, 4, none⟩ = some (.slice none 0 0) := cellb hb1 (by simp [go_sem])
          have Z4 : w1.frozen? ⟨w.heap.size + 1, 4, none⟩ = false := by rw [hb1.frozen (p := ⟨w.heap.size + 1, 4, none⟩) (by simp)]; simp [go_sem]
          have hs1 : w.heap.size + 2 ≤ w1.heap.size := by have := hb1.size; simp at this; omega
          have b1 : Below w.heap.size w w1 := hb0.trans (hb1.mono (by simp; omega))
          clear hb1 hb0 HF
          go_wp2_with (first
            | (go_at_call 50; refine (l1In_calls _ _ _ _).mono ?_; rintro e w' ⟨rfl, hw⟩; rw [hw]; clear hw w'; first | rw [k0] | rw [k1] | rw [k2])
            | (go_at_call 51; refine (l3Attr_calls _ _).mono ?_; rintro e w' ⟨rfl, hw⟩; rw [hw]; clear hw w'; rw [k3]))
          go_wp2_with fail
          refine (l3Bad_calls 3 _).mono ?_
          rintro e w9 ⟨rfl, hb9⟩
          replace R0 := cellb hb9 R0
          replace R1 := cellb hb9 R1
          replace R2 := cellb hb9 R2
          replace R3 := cellb hb9 R3
          replace R4 := cellb hb9 R4
          replace Z0 : w9.frozen? ⟨w.heap.size + 1, 0, none⟩ = false := by rw [hb9.frozen (p := ⟨w.heap.size + 1, 0, none⟩) (by simp; omega)]; exact Z0
          replace Z1 : w9.frozen? ⟨w.heap.size + 1, 1, none⟩ = false := by rw [hb9.frozen (p := ⟨w.heap.size + 1, 1, none⟩) (by simp; omega)]; exact Z1
          replace Z2 : w9.frozen? ⟨w.heap.size + 1, 2, none⟩ = false := by rw [hb9.frozen (p := ⟨w.heap.size + 1, 2, none⟩) (by simp; omega)]; exact Z2
          replace Z3 : w9.frozen? ⟨w.heap.size + 1, 3, none⟩ = false := by rw [hb9.frozen (p := ⟨w.heap.size + 1, 3, none⟩) (by simp; omega)]; exact Z3
          replace Z4 : w9.frozen? ⟨w.heap.size + 1, 4, none⟩ = false := by rw [hb9.frozen (p := ⟨w.heap.size + 1, 4, none⟩) (by simp; omega)]; exact Z4
          have b9 := b1.trans (hb9.mono b1.size)
          have hr := res5 (w := w9) (r := w.heap.size + 1) (.int .i64 3) (.int .i64 0) (.int .i64 0) (.slice none 0 0) (.slice none 0 0) R0 R1 R2 R3 R4
          go_wp2
          refine bodyPost_ret (v := .agg #[.int .i64 3, .int .i64 0, .int .i64 0, .slice none 0 0, .slice none 0 0]) (by simp only [results, Try.results21]; simp [go_sem, hr.1, hr.2.1, hr.2.2.1, hr.2.2.2.1, hr.2.2.2.2]) rfl ⟨_, _, rfl, ?_, b9.trans (show Below w.heap.size w9 _ from (by repeat' (first | with_reducible exact Below.refl _ _ | with_reducible assumption | with_reducible refine Below.drew ?_ | with_reducible refine Below.alloc ?_ ?_ _ | with_reducible refine Below.setCell ?_ ?_ _ | (simp; done) | (simp; omega) | omega)))⟩
          exact GOwn.nil _ _ _ (by have := b9.size; simp [World.setCell]; omega)
        | true =>
          cases k3 : atB at' with
          | false =>
            obtain ⟨g1, g2, g3, g4⟩ := hbd hG
            rw [scrollRes_def, gres_bad hG (by rw [scrollOk_spec]; first | (rw [k0]; rfl) | (rw [k0, k1]; rfl) | (rw [k0, k1, k2]; rfl) | (rw [k0, k1, k2, k3]; rfl))]
            rw [hG] at HF
            simp only [gbad]
            go_enter Try.func21, Try.ntmps21
            go_wp2_with fail
            refine HF.mono ?_
            rintro e w1 ⟨rfl, hb1⟩
            have A0 : w1.cell? ⟨w.heap.size, 0, none⟩ = some (.int .i64 r) := cellb hb1 (by simp [go_sem])
            have A1 : w1.cell? ⟨w.heap.size, 1, none⟩ = some (.int .i64 wd) := cellb hb1 (by simp [go_sem])
            have A2 : w1.cell? ⟨w.heap.size, 2, none⟩ = some (.slice a1 cs.length c1) := cellb hb1 (by simp [go_sem])
            have A3 : w1.cell? ⟨w.heap.size, 3, none⟩ = some (.slice a2 bs.length c2) := cellb hb1 (by simp [go_sem])
            have R0 : w1.cell? ⟨w.heap.size + 1, 0, none⟩ = some (.int .i64 0) := cellb hb1 (by simp [go_sem])
            have Z0 : w1.frozen? ⟨w.heap.size + 1, 0, none⟩ = false := by rw [hb1.frozen (p := ⟨w.heap.size + 1, 0, none⟩) (by simp)]; simp [go_sem]
            have R1 : w1.cell? ⟨w.heap.size + 1, 1, none⟩ = some (.int .i64 0) := cellb hb1 (by simp [go_sem])
            have Z1 : w1.frozen? ⟨w.heap.size + 1, 1, none⟩ = false := by rw [hb1.frozen (p := ⟨w.heap.size + 1, 1, none⟩) (by simp)]; simp [go_sem]
            have R2 : w1.cell? ⟨w.heap.size + 1, 2, none⟩ = some (.int .i64 0) := cellb hb1 (by simp [go_sem])
            have Z2 : w1.frozen? ⟨w.heap.size + 1, 2, none⟩ = false := by rw [hb1.frozen (p := ⟨w.heap.size + 1, 2, none⟩) (by simp)]; simp [go_sem]
            have R3 : w1.cell? ⟨w.heap.size + 1, 3, none⟩ = some (.slice none 0 0) := cellb hb1 (by simp [go_sem])
            have Z3 : w1.frozen? ⟨w.heap.size + 1, 3, none⟩ = false := by rw [hb1.frozen (p := ⟨w.heap.size + 1, 3, none⟩) (by simp)]; simp [go_sem]
            have R4 : w1.cell? ⟨w.heap.size + 1, 4, none⟩ = some (.slice none 0 0) := cellb hb1 (by simp [go_sem])
            have Z4 : w1.frozen? ⟨w.heap.size + 1, 4, none⟩ = false := by rw [hb1.frozen (p := ⟨w.heap.size + 1, 4, none⟩) (by simp)]; simp [go_sem]
            have hs1 : w.heap.size + 2 ≤ w1.heap.size := by have := hb1.size; simp at this; omega
            have b1 : Below w.heap.size w w1 := hb0.trans (hb1.mono (by simp; omega))
            clear hb1 hb0 HF
            go_wp2_with (first
              | (go_at_call 50; refine (l1In_calls _ _ _ _).mono ?_; rintro e w' ⟨rfl, hw⟩; rw [hw]; clear hw w'; first | rw [k0] | rw [k1] | rw [k2])
              | (go_at_call 51; refine (l3Attr_calls _ _).mono ?_; rintro e w' ⟨rfl, hw⟩; rw [hw]; clear hw w'; rw [k3]))
            go_wp2_with fail
            refine (l3Bad_calls 3 _).mono ?_
            rintro e w9 ⟨rfl, hb9⟩
            replace R0 := cellb hb9 R0
            replace R1 := cellb hb9 R1
            replace R2 := cellb hb9 R2
            replace R3 := cellb hb9 R3
            replace R4 := cellb hb9 R4
            replace Z0 : w9.frozen? ⟨w.heap.size + 1, 0, none⟩ = false := by rw [hb9.frozen (p := ⟨w.heap.size + 1, 0, none⟩) (by simp; omega)]; exact Z0
            replace Z1 : w9.frozen? ⟨w.heap.size + 1, 1, none⟩ = false := by rw [hb9.frozen (p := ⟨w.heap.size + 1, 1, none⟩) (by simp; omega)]; exact Z1
            replace Z2 : w9.frozen? ⟨w.heap.size + 1, 2, none⟩ = false := by rw [hb9.frozen (p := ⟨w.heap.size + 1, 2, none⟩) (by simp; omega)]; exact Z2
            replace Z3 : w9.frozen? ⟨w.heap.size + 1, 3, none⟩ = false := by rw [hb9.frozen (p := ⟨w.heap.size + 1, 3, none⟩) (by simp; omega)]; exact Z3
            replace Z4 : w9.frozen? ⟨w.heap.size + 1, 4, none⟩ = false := by rw [hb9.frozen (p := ⟨w.heap.size + 1, 4, none⟩) (by simp; omega)]; exact Z4
            have b9 := b1.trans (hb9.mono b1.size)
            have hr := res5 (w := w9) (r := w.heap.size + 1) (.int .i64 3) (.int .i64 0) (.int .i64 0) (.slice none 0 0) (.slice none 0 0) R0 R1 R2 R3 R4
            go_wp2
            refine bodyPost_ret (v := .agg #[.int .i64 3, .int .i64 0, .int .i64 0, .slice none 0 0, .slice none 0 0]) (by simp only [results, Try.results21]; simp [go_sem, hr.1, hr.2.1, hr.2.2.1, hr.2.2.2.1, hr.2.2.2.2]) rfl ⟨_, _, rfl, ?_, b9.trans (show Below w.heap.size w9 _ from (by repeat' (first | with_reducible exact Below.refl _ _ | with_reducible assumption | with_reducible refine Below.drew ?_ | with_reducible refine Below.alloc ?_ ?_ _ | with_reducible refine Below.setCell ?_ ?_ _ | (simp; done) | (simp; omega) | omega)))⟩
            exact GOwn.nil _ _ _ (by have := b9.size; simp [World.setCell]; omega)
          | true =>
            obtain ⟨g1, g2, g3, g4⟩ := hbd hG
            rw [scrollRes_def, gres_ok hG (by rw [scrollOk_spec, k0, k1, k2, k3]; rfl)]
            rw [hG] at HF
            have hfine := gfine_of_code hG
            obtain ⟨n1, n2, hq, n8, n9, n10⟩ := hfine.short
            have l0 := of_decide_eq_true k0
            have l1 := of_decide_eq_true k1
            obtain ⟨T, B, W, rfl, rfl, rfl, q1, q2, q3, q4, q5, q6, Hb, q7, q8⟩ := scroll_nats hfine (show 0 ≤ top ∧ top ≤ bot by omega) (show 0 ≤ bot ∧ bot ≤ r - 1 by omega)
            clear hfine hG hbd l0 l1
            have j2 := of_decide_eq_true k2
            rw [Int.toNat_natCast, Int.toNat_natCast, show ((B : Int) + 1 - (T : Int)).toNat = B + 1 - T by omega]
            have Q8 := hide q8
            clear q8
            go_enter Try.func21, Try.ntmps21
            go_wp2_with fail
            refine HF.mono ?_
            rintro e w1 ⟨rfl, hb1⟩
            have A0 : w1.cell? ⟨w.heap.size, 0, none⟩ = some (.int .i64 r) := cellb hb1 (by simp [go_sem])
            have A1 : w1.cell? ⟨w.heap.size, 1, none⟩ = some (.int .i64 (W : Int)) := cellb hb1 (by simp [go_sem])
            have A2 : w1.cell? ⟨w.heap.size, 2, none⟩ = some (.slice a1 cs.length c1) := cellb hb1 (by simp [go_sem])
            have A3 : w1.cell? ⟨w.heap.size, 3, none⟩ = some (.slice a2 bs.length c2) := cellb hb1 (by simp [go_sem])
            have R0 : w1.cell? ⟨w.heap.size + 1, 0, none⟩ = some (.int .i64 0) := cellb hb1 (by simp [go_sem])
            have Z0 : w1.frozen? ⟨w.heap.size + 1, 0, none⟩ = false := by rw [hb1.frozen (p := ⟨w.heap.size + 1, 0, none⟩) (by simp)]; simp [go_sem]
            have R1 : w1.cell? ⟨w.heap.size + 1, 1, none⟩ = some (.int .i64 0) := cellb hb1 (by simp [go_sem])
            have Z1 : w1.frozen? ⟨w.heap.size + 1, 1, none⟩ = false := by rw [hb1.frozen (p := ⟨w.heap.size + 1, 1, none⟩) (by simp)]; simp [go_sem]
            have R2 : w1.cell? ⟨w.heap.size + 1, 2, none⟩ = some (.int .i64 0) := cellb hb1 (by simp [go_sem])
            have Z2 : w1.frozen? ⟨w.heap.size + 1, 2, none⟩ = false := by rw [hb1.frozen (p := ⟨w.heap.size + 1, 2, none⟩) (by simp)]; simp [go_sem]
            have R3 : w1.cell? ⟨w.heap.size + 1, 3, none⟩ = some (.slice none 0 0) := cellb hb1 (by simp [go_sem])
            have Z3 : w1.frozen? ⟨w.heap.size + 1, 3, none⟩ = false := by rw [hb1.frozen (p := ⟨w.heap.size + 1, 3, none⟩) (by simp)]; simp [go_sem]
            have R4 : w1.cell? ⟨w.heap.size + 1, 4, none⟩ = some (.slice none 0 0) := cellb hb1 (by simp [go_sem])
            have Z4 : w1.frozen? ⟨w.heap.size + 1, 4, none⟩ = false := by rw [hb1.frozen (p := ⟨w.heap.size + 1, 4, none⟩) (by simp)]; simp [go_sem]
            have hs1 : w.heap.size + 2 ≤ w1.heap.size := by have := hb1.size; simp at this; omega
            have b1 : Below w.heap.size w w1 := hb0.trans (hb1.mono (by simp; omega))
            clear hb1 hb0 HF
            go_wp2_with (first
              | (go_at_call 50; refine (l1In_calls _ _ _ _).mono ?_; rintro e w' ⟨rfl, hw⟩; rw [hw]; clear hw w'; first | rw [k0] | rw [k1] | rw [k2])
              | (go_at_call 51; refine (l3Attr_calls _ _).mono ?_; rintro e w' ⟨rfl, hw⟩; rw [hw]; clear hw w'; rw [k3]))
            refine (l3Copy_calls r (W : Int) cs bs _ _ w1 hn1 hn2 (h1.below b1) (h2.below b1)).mono ?_
            rintro e w2 ⟨x, y, m, rfl, m1, m2, ox, xm, oy, hb2⟩
            replace A0 := cellb hb2 A0
            replace A1 := cellb hb2 A1
            replace A2 := cellb hb2 A2
            replace A3 := cellb hb2 A3
            replace R0 := cellb hb2 R0
            replace R1 := cellb hb2 R1
            replace R2 := cellb hb2 R2
            replace R3 := cellb hb2 R3
            replace R4 := cellb hb2 R4
            replace Z0 : w2.frozen? ⟨w.heap.size + 1, 0, none⟩ = false := by rw [hb2.frozen (p := ⟨w.heap.size + 1, 0, none⟩) (by simp; omega)]; exact Z0
            replace Z1 : w2.frozen? ⟨w.heap.size + 1, 1, none⟩ = false := by rw [hb2.frozen (p := ⟨w.heap.size + 1, 1, none⟩) (by simp; omega)]; exact Z1
            replace Z2 : w2.frozen? ⟨w.heap.size + 1, 2, none⟩ = false := by rw [hb2.frozen (p := ⟨w.heap.size + 1, 2, none⟩) (by simp; omega)]; exact Z2
            replace Z3 : w2.frozen? ⟨w.heap.size + 1, 3, none⟩ = false := by rw [hb2.frozen (p := ⟨w.heap.size + 1, 3, none⟩) (by simp; omega)]; exact Z3
            replace Z4 : w2.frozen? ⟨w.heap.size + 1, 4, none⟩ = false := by rw [hb2.frozen (p := ⟨w.heap.size + 1, 4, none⟩) (by simp; omega)]; exact Z4
            have b2 := b1.trans (hb2.mono b1.size)
            have hs2 : w1.heap.size ≤ w2.heap.size := hb2.size
            obtain ⟨bx, cx, rfl, hcx, _, x1, x2, hrow⟩ := own_row ox n8
            obtain ⟨ay, cy, rfl, hyc⟩ := own_room2 oy
            have x3 : bx < m := xm bx rfl
            have HX := hide hrow
            have HY := hide oy
            have HL := hide oy.lt
            clear hrow oy ox xm hb2
            go_wp2_with fail
            have hb3 : Below w2.heap.size w2 (w2.alloc (.cells #[.int .i64 r, .int .i64 (W : Int), .slice (some ⟨bx, 0, none⟩) cs.length cx, .slice ay bs.length cy] 24)) := (by repeat' (first | with_reducible exact Below.refl _ _ | with_reducible assumption | with_reducible refine Below.drew ?_ | with_reducible refine Below.alloc ?_ ?_ _ | with_reducible refine Below.setCell ?_ ?_ _ | (simp; done) | (simp; omega) | omega))
            have S0 : (w2.alloc (.cells #[.int .i64 r, .int .i64 (W : Int), .slice (some ⟨bx, 0, none⟩) cs.length cx, .slice ay bs.length cy] 24)).cell? ⟨w2.heap.size, 0, none⟩ = some (.int .i64 r) := by simp [go_sem]
            have S1 : (w2.alloc (.cells #[.int .i64 r, .int .i64 (W : Int), .slice (some ⟨bx, 0, none⟩) cs.length cx, .slice ay bs.length cy] 24)).cell? ⟨w2.heap.size, 1, none⟩ = some (.int .i64 (W : Int)) := by simp [go_sem]
            have S2 : (w2.alloc (.cells #[.int .i64 r, .int .i64 (W : Int), .slice (some ⟨bx, 0, none⟩) cs.length cx, .slice ay bs.length cy] 24)).cell? ⟨w2.heap.size, 2, none⟩ = some (.slice (some ⟨bx, 0, none⟩) cs.length cx) := by simp [go_sem]
            have S3 : (w2.alloc (.cells #[.int .i64 r, .int .i64 (W : Int), .slice (some ⟨bx, 0, none⟩) cs.length cx, .slice ay bs.length cy] 24)).cell? ⟨w2.heap.size, 3, none⟩ = some (.slice ay bs.length cy) := by simp [go_sem]
            have ZS3 : (w2.alloc (.cells #[.int .i64 r, .int .i64 (W : Int), .slice (some ⟨bx, 0, none⟩) cs.length cx, .slice ay bs.length cy] 24)).frozen? ⟨w2.heap.size, 3, none⟩ = false := by simp [go_sem]
            have hs3 : (w2.alloc (.cells #[.int .i64 r, .int .i64 (W : Int), .slice (some ⟨bx, 0, none⟩) cs.length cx, .slice ay bs.length cy] 24)).heap.size = w2.heap.size + 1 := by simp
            generalize (w2.alloc (.cells #[.int .i64 r, .int .i64 (W : Int), .slice (some ⟨bx, 0, none⟩) cs.length cx, .slice ay bs.length cy] 24)) = w3 at *
            replace A0 := cellb hb3 A0
            replace A1 := cellb hb3 A1
            replace A2 := cellb hb3 A2
            replace A3 := cellb hb3 A3
            replace R0 := cellb hb3 R0
            replace R1 := cellb hb3 R1
            replace R2 := cellb hb3 R2
            replace R3 := cellb hb3 R3
            replace R4 := cellb hb3 R4
            replace Z0 : w3.frozen? ⟨w.heap.size + 1, 0, none⟩ = false := by rw [hb3.frozen (p := ⟨w.heap.size + 1, 0, none⟩) (by simp; omega)]; exact Z0
            replace Z1 : w3.frozen? ⟨w.heap.size + 1, 1, none⟩ = false := by rw [hb3.frozen (p := ⟨w.heap.size + 1, 1, none⟩) (by simp; omega)]; exact Z1
            replace Z2 : w3.frozen? ⟨w.heap.size + 1, 2, none⟩ = false := by rw [hb3.frozen (p := ⟨w.heap.size + 1, 2, none⟩) (by simp; omega)]; exact Z2
            replace Z3 : w3.frozen? ⟨w.heap.size + 1, 3, none⟩ = false := by rw [hb3.frozen (p := ⟨w.heap.size + 1, 3, none⟩) (by simp; omega)]; exact Z3
            replace Z4 : w3.frozen? ⟨w.heap.size + 1, 4, none⟩ = false := by rw [hb3.frozen (p := ⟨w.heap.size + 1, 4, none⟩) (by simp; omega)]; exact Z4
            have b3 := b2.trans (hb3.mono b2.size)
            replace HX := hide (HX.out.below hb3 x2)
            replace HY := hide (own_below HY.out hb3)
            clear hb3 b2
            have st : Hid (GSt w1.heap.size w2.heap.size bx cs.length cx r (W : Int) (fun i => cs.getD i (0, 0)) bs w3) := hide ⟨S0, S1, S2, ZS3, HX.out, ⟨by omega, by omega, by omega, by omega, by omega⟩, _, S3, own_base HY.out m1, fun k hk => by have := HL.out k hk; omega⟩
            clear S0 S1 S2 S3 ZS3 HX HY HL
            refine (l3Many_calls w1.heap.size w2.heap.size bx cs.length cx T B W Hb r at' n _ bs w3 st.out hcx n9 q3 q4 q1 q2 q6 Q8.out q7 j2).mono ?_
            rintro e w5 ⟨⟨u5, rfl⟩, st5, hb5⟩
            replace A0 := cellk hb5 (by omega) A0
            replace A1 := cellk hb5 (by omega) A1
            replace A2 := cellk hb5 (by omega) A2
            replace A3 := cellk hb5 (by omega) A3
            replace R0 := cellk hb5 (by omega) R0
            replace R1 := cellk hb5 (by omega) R1
            replace R2 := cellk hb5 (by omega) R2
            replace R3 := cellk hb5 (by omega) R3
            replace R4 := cellk hb5 (by omega) R4
            replace Z0 : w5.frozen? ⟨w.heap.size + 1, 0, none⟩ = false := (hb5.frozen (p := ⟨w.heap.size + 1, 0, none⟩) (by first | omega | (simp; omega))).trans Z0
            replace Z1 : w5.frozen? ⟨w.heap.size + 1, 1, none⟩ = false := (hb5.frozen (p := ⟨w.heap.size + 1, 1, none⟩) (by first | omega | (simp; omega))).trans Z1
            replace Z2 : w5.frozen? ⟨w.heap.size + 1, 2, none⟩ = false := (hb5.frozen (p := ⟨w.heap.size + 1, 2, none⟩) (by first | omega | (simp; omega))).trans Z2
            replace Z3 : w5.frozen? ⟨w.heap.size + 1, 3, none⟩ = false := (hb5.frozen (p := ⟨w.heap.size + 1, 3, none⟩) (by first | omega | (simp; omega))).trans Z3
            replace Z4 : w5.frozen? ⟨w.heap.size + 1, 4, none⟩ = false := (hb5.frozen (p := ⟨w.heap.size + 1, 4, none⟩) (by first | omega | (simp; omega))).trans Z4
            have b5 : Below w.heap.size w w5 := b3.trans (hb5.mono (by omega))
            have hs5 : w3.heap.size ≤ w5.heap.size := hb5.size
            clear hb5 b3 st
            obtain ⟨vb, S3, ob, ab⟩ := st5.ex
            obtain ⟨av, cv, rfl, hcv⟩ := own_room2 ob
            have S0 := st5.s0
            have S1 := st5.s1
            have S2 := st5.s2
            have hlo := st5.lo
            have HX := hide st5.row
            have HO := hide ob
            have HAB := hide ab
            clear st5 ob ab
            generalize hBL : scrollB W T (max 0 (min n ((B : Int) + 1))).toNat (fun i => cs.getD i (0, 0)) bs = BL at *
            have hr := res5 (w := w5) (r := w.heap.size + 1) (.int .i64 0) (.int .i64 r) (.int .i64 (W : Int)) (.slice (some ⟨bx, 0, none⟩) cs.length cx) (.slice av BL.length cv) R0 R1 R2 R3 R4
            go_wp2
            refine bodyPost_ret (v := .agg #[.int .i64 0, .int .i64 r, .int .i64 (W : Int), .slice (some ⟨bx, 0, none⟩) cs.length cx, .slice av BL.length cv]) (by simp only [results, Try.results21]; simp [go_sem, hr.1, hr.2.1, hr.2.2.1, hr.2.2.2.1, hr.2.2.2.2]) rfl ⟨_, _, rfl, ?_, b5.trans (show Below w.heap.size w5 _ from (by repeat' (first | with_reducible exact Below.refl _ _ | with_reducible assumption | with_reducible refine Below.drew ?_ | with_reducible refine Below.alloc ?_ ?_ _ | with_reducible refine Below.setCell ?_ ?_ _ | (simp; done) | (simp; omega) | omega)))⟩
            rw [hBL]
            refine (gown_of3 (w := w5) (base := w1.heap.size) (pb := w2.heap.size) HX.out (by omega) (by omega) HO.out (fun k hk => (HAB.out k hk).2) (by omega) ?_ (fun k _ => ?_)).mono (by omega) (Nat.le_refl _)
            · simp [World.setCell]
            · by_cases hk : k < w1.heap.size
              · exact .inr hk
              · left
                simp only [World.setCell, Array.getElem?_modify]
                repeat rw [if_neg (by omega)]
  · rw [scrollRes_def, gres_fault hG]
    generalize gridCode r wd cs bs = code at *
    have hcb : (code != 0) = true := by simpa using hG
    simp only [gbad]
    go_enter Try.func21, Try.ntmps21
    go_wp2_with fail
    refine HF.mono ?_
    rintro e w1 ⟨rfl, hb1⟩
    have A0 : w1.cell? ⟨w.heap.size, 0, none⟩ = some (.int .i64 r) := cellb hb1 (by simp [go_sem])
    have A1 : w1.cell? ⟨w.heap.size, 1, none⟩ = some (.int .i64 wd) := cellb hb1 (by simp [go_sem])
    have A2 : w1.cell? ⟨w.heap.size, 2, none⟩ = some (.slice a1 cs.length c1) := cellb hb1 (by simp [go_sem])
    have A3 : w1.cell? ⟨w.heap.size, 3, none⟩ = some (.slice a2 bs.length c2) := cellb hb1 (by simp [go_sem])
    have R0 : w1.cell? ⟨w.heap.size + 1, 0, none⟩ = some (.int .i64 0) := cellb hb1 (by simp [go_sem])
    have Z0 : w1.frozen? ⟨w.heap.size + 1, 0, none⟩ = false := by rw [hb1.frozen (p := ⟨w.heap.size + 1, 0, none⟩) (by simp)]; simp [go_sem]
    have R1 : w1.cell? ⟨w.heap.size + 1, 1, none⟩ = some (.int .i64 0) := cellb hb1 (by simp [go_sem])
    have Z1 : w1.frozen? ⟨w.heap.size + 1, 1, none⟩ = false := by rw [hb1.frozen (p := ⟨w.heap.size + 1, 1, none⟩) (by simp)]; simp [go_sem]
    have R2 : w1.cell? ⟨w.heap.size + 1, 2, none⟩ = some (.int .i64 0) := cellb hb1 (by simp [go_sem])
    have Z2 : w1.frozen? ⟨w.heap.size + 1, 2, none⟩ = false := by rw [hb1.frozen (p := ⟨w.heap.size + 1, 2, none⟩) (by simp)]; simp [go_sem]
    have R3 : w1.cell? ⟨w.heap.size + 1, 3, none⟩ = some (.slice none 0 0) := cellb hb1 (by simp [go_sem])
    have Z3 : w1.frozen? ⟨w.heap.size + 1, 3, none⟩ = false := by rw [hb1.frozen (p := ⟨w.heap.size + 1, 3, none⟩) (by simp)]; simp [go_sem]
    have R4 : w1.cell? ⟨w.heap.size + 1, 4, none⟩ = some (.slice none 0 0) := cellb hb1 (by simp [go_sem])
    have Z4 : w1.frozen? ⟨w.heap.size + 1, 4, none⟩ = false := by rw [hb1.frozen (p := ⟨w.heap.size + 1, 4, none⟩) (by simp)]; simp [go_sem]
    have hs1 : w.heap.size + 2 ≤ w1.heap.size := by have := hb1.size; simp at this; omega
    have b1 : Below w.heap.size w w1 := hb0.trans (hb1.mono (by simp; omega))
    clear hb1 hb0 HF
    go_wp2_with fail
    refine (l3Bad_calls code _).mono ?_
    rintro e w9 ⟨rfl, hb9⟩
    replace R0 := cellb hb9 R0
    replace R1 := cellb hb9 R1
    replace R2 := cellb hb9 R2
    replace R3 := cellb hb9 R3
    replace R4 := cellb hb9 R4
    replace Z0 : w9.frozen? ⟨w.heap.size + 1, 0, none⟩ = false := by rw [hb9.frozen (p := ⟨w.heap.size + 1, 0, none⟩) (by simp; omega)]; exact Z0
    replace Z1 : w9.frozen? ⟨w.heap.size + 1, 1, none⟩ = false := by rw [hb9.frozen (p := ⟨w.heap.size + 1, 1, none⟩) (by simp; omega)]; exact Z1
    replace Z2 : w9.frozen? ⟨w.heap.size + 1, 2, none⟩ = false := by rw [hb9.frozen (p := ⟨w.heap.size + 1, 2, none⟩) (by simp; omega)]; exact Z2
    replace Z3 : w9.frozen? ⟨w.heap.size + 1, 3, none⟩ = false := by rw [hb9.frozen (p := ⟨w.heap.size + 1, 3, none⟩) (by simp; omega)]; exact Z3
    replace Z4 : w9.frozen? ⟨w.heap.size + 1, 4, none⟩ = false := by rw [hb9.frozen (p := ⟨w.heap.size + 1, 4, none⟩) (by simp; omega)]; exact Z4
    have b9 := b1.trans (hb9.mono b1.size)
    have hr := res5 (w := w9) (r := w.heap.size + 1) (.int .i64 code) (.int .i64 0) (.int .i64 0) (.slice none 0 0) (.slice none 0 0) R0 R1 R2 R3 R4
    go_wp2
    refine bodyPost_ret (v := .agg #[.int .i64 code, .int .i64 0, .int .i64 0, .slice none 0 0, .slice none 0 0]) (by simp only [results, Try.results21]; simp [go_sem, hr.1, hr.2.1, hr.2.2.1, hr.2.2.2.1, hr.2.2.2.2]) rfl ⟨_, _, rfl, ?_, b9.trans (show Below w.heap.size w9 _ from (by repeat' (first | with_reducible exact Below.refl _ _ | with_reducible assumption | with_reducible refine Below.drew ?_ | with_reducible refine Below.alloc ?_ ?_ _ | with_reducible refine Below.setCell ?_ ?_ _ | (simp; done) | (simp; omega) | omega)))⟩
    exact GOwn.nil _ _ _ (by have := b9.size; simp [World.setCell]; omega)

end Go.Proofs.Ytbndncfkkhjkoai
