/-
  What EraseCells answers, of the program and of the model.
-/
import Derived.Test.YtbndncfkkhjkoaiGridRes
import Derived.Test.YtbndncfkkhjkoaiSlideFns
import Derived.Deep.RegionHeld3
namespace Go.Proofs.Ytbndncfkkhjkoai
open Go.ChangeShapes Go.WideShapes Go.ChangeAt Go.RowKit
set_option linter.unusedVariables false
set_option linter.unusedSimpArgs false
set_option maxRecDepth 20000

def eraseOk (f t at' : Int) (n : Nat) : Bool := decide (0 ≤ f ∧ f ≤ t) && (decide (0 ≤ t ∧ t ≤ n) && atB at')
def eraseF (cs : List (Int × Int)) (f t at' : Int) (i : Nat) : Int × Int := if f ≤ (i : Int) ∧ (i : Int) < t then (32, at') else cs.getD i (0, 0)
def eraseRes (r wd : Int) (cs bs : List (Int × Int)) (f t at' : Int) : GRes := gres r wd cs bs (eraseOk f t at' cs.length) ⟨0, r, wd, mkL cs.length (eraseF cs f t at'), bs⟩
theorem eraseRes_def (r wd : Int) (cs bs : List (Int × Int)) (f t at' : Int) : eraseRes r wd cs bs f t at' = gres r wd cs bs (eraseOk f t at' cs.length) ⟨0, r, wd, mkL cs.length (eraseF cs f t at'), bs⟩ := rfl
theorem eraseRes_len (r wd : Int) (cs bs : List (Int × Int)) (f t at' : Int) : (eraseRes r wd cs bs f t at').cs.length ≤ 72 ∧ (eraseRes r wd cs bs f t at').bs.length ≤ 60 := gres_len (fun h => by obtain ⟨_, _, _, h1, h2, h3⟩ := h.short; exact ⟨by rw [mkL_length]; exact h2, h3⟩)

set_option maxHeartbeats 2000000 in
theorem implEraseCells_calls (r wd : Int) (cs bs : List (Int × Int)) (f t at' : Int) (v1 v2 : Value) (w : World) (hn1 : cs.length ≤ 1048576) (hn2 : bs.length ≤ 1048576) (h1 : PRead w v1 cs) (h2 : PRead w v2 bs) :
    Calls Try.prog 24 #[.agg #[.int .i64 r, .int .i64 wd, v1, v2], .int .i64 f, .int .i64 t, .int .i64 at'] w fun e w' => ∃ v5 v6, e = .returned (.agg #[.int .i64 (eraseRes r wd cs bs f t at').code, .int .i64 (eraseRes r wd cs bs f t at').rows, .int .i64 (eraseRes r wd cs bs f t at').wd, v5, v6]) ∧ GOwn w.heap.size w'.heap.size w' v5 v6 (eraseRes r wd cs bs f t at').cs (eraseRes r wd cs bs f t at').bs ∧ Below w.heap.size w w' := by
  have h1' := h1
  obtain ⟨a1, c1, rfl, hx1⟩ := h1'
  clear hx1
  have h2' := h2
  obtain ⟨a2, c2, rfl, hx2⟩ := h2'
  clear hx2
  have hb0 : Below w.heap.size w ((w.alloc (.cells #[.int .i64 r, .int .i64 wd, .slice a1 cs.length c1, .slice a2 bs.length c2] 24)).alloc (.cells #[.int .i64 0, .int .i64 0, .int .i64 0, .slice none 0 0, .slice none 0 0] 26)) := (by repeat' (first | with_reducible exact Below.refl _ _ | with_reducible assumption | with_reducible refine Below.drew ?_ | with_reducible refine Below.alloc ?_ ?_ _ | with_reducible refine Below.setCell ?_ ?_ _ | (simp; done) | (simp; omega) | omega))
  have HF := implGridFault_calls r wd cs bs _ _ ((w.alloc (.cells #[.int .i64 r, .int .i64 wd, .slice a1 cs.length c1, .slice a2 bs.length c2] 24)).alloc (.cells #[.int .i64 0, .int .i64 0, .int .i64 0, .slice none 0 0, .slice none 0 0] 26)) hn1 hn2 (h1.below hb0) (h2.below hb0)
  by_cases hG : gridCode r wd cs bs = 0
  · cases k0 : decide (0 ≤ f ∧ f ≤ t) with
    | false =>
      rw [eraseRes_def, gres_bad hG (by unfold eraseOk; first | (rw [k0]; rfl) | (rw [k0, k1]; rfl) | (rw [k0, k1, k2]; rfl))]
      rw [hG] at HF
      simp only [gbad]
      go_enter Try.func24, Try.ntmps24
      go_wp2_with fail
      refine HF.mono ?_
      rintro e w1 ⟨rfl, hb1⟩
      have A0 : w1.cell? ⟨w.heap.size, 0, none⟩ = some (.int .i64 r) := cellb hb1 (by simp [go_sem])
      have A1 : w1.cell? ⟨w.heap.size, 1, none⟩ = some (.int .i64 wd) := cellb hb1 (by simp [go_sem])
      have A2 : w1.cell? ⟨w.heap.size, 2, none⟩ = some (.slice a1 cs.length c1) := cellb hb1 (by simp [go_sem])
      have A3 : w1.cell? ⟨w.heap.size, 3, none⟩ = some (.slice a2 bs.length c2) := cellb hb1 (by simp [go_sem])
      have R0 : w1.cell? ⟨w.heap.size + 1, 0, none⟩ = some (.int .i64 0) := cellb hb1 (by simp [go_sem])
      have Z0 : w1.frozen? ⟨w.heap.size + 1, 0, none⟩ = false := by rw [hb1.frozen (p := ⟨w.heap.size + 1, 0, none⟩) (by simp)]; simp [go_sem]
      have R1 : w1.cell? ⟨w.heap.size + 1, 1, none⟩ = some (.int .i64 0) := cellb hb1 (by simp [go_sem])
      have Z1 : w1.frozen? ⟨w.heap.size + 1, 1, none⟩ = false := by rw [hb1.frozen (p := ⟨w.heap.size + 1, 1, none⟩) (by simp)]; simp [go_sem]
      have R2 : w1.cell? ⟨w.heap.size + 1, 2, none⟩ = some (.int .i64 0) := cellb hb1 (by simp [go_sem])
      have Z2 : w1.frozen? ⟨w.heap.size + 1, 2, none⟩ = false := by rw [hb1.frozen (p := ⟨w.heap.size + 1, 2, none⟩) (by simp)]; simp [go_sem]
      have R3 : w1.cell? ⟨w.heap.size + 1, 3, none⟩ = some (.slice none 0 0) := cellb hb1 (by simp [go_sem])
      have Z3 : w1.frozen? ⟨w.heap.size + 1, 3, none⟩ = false := by rw [hb1.frozen (p := ⟨w.heap.size + 1, 3, none⟩) (by simp)]; simp [go_sem]
      have R4 : w1.cell? ⟨w.heap.size + 1, 4, none⟩ = some (.slice none 0 0) := cellb hb1 (by simp [go_sem])
      have Z4 : w1.frozen? ⟨w.heap.size + 1, 4, none⟩ = false := by rw [hb1.frozen (p := ⟨w.heap.size + 1, 4, none⟩) (by simp)]; simp [go_sem]
      have hs1 : w.heap.size + 2 ≤ w1.heap.size := by have := hb1.size; simp at this; omega
      have b1 : Below w.heap.size w w1 := hb0.trans (hb1.mono (by simp; omega))
      clear hb1 hb0 HF
      go_wp2_with (first
        | (go_at_call 53; refine (isFromTo_calls _ _ _ _).mono ?_; rintro e w' ⟨rfl, hw⟩; rw [hw]; clear hw w'; first | rw [k0] | rw [k1])
        | (go_at_call 54; refine (isAttr_calls _ _).mono ?_; rintro e w' ⟨rfl, hw⟩; rw [hw]; clear hw w'; rw [k2]))
      have hr := res5 (w := w1) (r := w.heap.size + 1) (.int .i64 3) (.int .i64 0) (.int .i64 0) (.slice none 0 0) (.slice none 0 0) R0 R1 R2 R3 R4
      go_wp2
      refine bodyPost_ret (v := .agg #[.int .i64 3, .int .i64 0, .int .i64 0, .slice none 0 0, .slice none 0 0]) (by simp only [results, Try.results24]; simp [go_sem, hr.1, hr.2.1, hr.2.2.1, hr.2.2.2.1, hr.2.2.2.2]) rfl ⟨_, _, rfl, ?_, b1.trans (show Below w.heap.size w1 _ from (by repeat' (first | with_reducible exact Below.refl _ _ | with_reducible assumption | with_reducible refine Below.drew ?_ | with_reducible refine Below.alloc ?_ ?_ _ | with_reducible refine Below.setCell ?_ ?_ _ | (simp; done) | (simp; omega) | omega)))⟩
      exact GOwn.nil _ _ _ (by have := b1.size; simp [World.setCell]; omega)
    | true =>
      cases k1 : decide (0 ≤ t ∧ t ≤ (cs.length : Int)) with
      | false =>
        rw [eraseRes_def, gres_bad hG (by unfold eraseOk; first | (rw [k0]; rfl) | (rw [k0, k1]; rfl) | (rw [k0, k1, k2]; rfl))]
        rw [hG] at HF
        simp only [gbad]
        go_enter Try.func24, Try.ntmps24
        go_wp2_with fail
        refine HF.mono ?_
        rintro e w1 ⟨rfl, hb1⟩
        have A0 : w1.cell? ⟨w.heap.size, 0, none⟩ = some (.int .i64 r) := cellb hb1 (by simp [go_sem])
        have A1 : w1.cell? ⟨w.heap.size, 1, none⟩ = some (.int .i64 wd) := cellb hb1 (by simp [go_sem])
        have A2 : w1.cell? ⟨w.heap.size, 2, none⟩ = some (.slice a1 cs.length c1) := cellb hb1 (by simp [go_sem])
        have A3 : w1.cell? ⟨w.heap.size, 3, none⟩ = some (.slice a2 bs.length c2) := cellb hb1 (by simp [go_sem])
        have R0 : w1.cell? ⟨w.heap.size + 1, 0, none⟩ = some (.int .i64 0) := cellb hb1 (by simp [go_sem])
        have Z0 : w1.frozen? ⟨w.heap.size + 1, 0, none⟩ = false := by rw [hb1.frozen (p := ⟨w.heap.size + 1, 0, none⟩) (by simp)]; simp [go_sem]
        have R1 : w1.cell? ⟨w.heap.size + 1, 1, none⟩ = some (.int .i64 0) := cellb hb1 (by simp [go_sem])
        have Z1 : w1.frozen? ⟨w.heap.size + 1, 1, none⟩ = false := by rw [hb1.frozen (p := ⟨w.heap.size + 1, 1, none⟩) (by simp)]; simp [go_sem]
        have R2 : w1.cell? ⟨w.heap.size + 1, 2, none⟩ = some (.int .i64 0) := cellb hb1 (by simp [go_sem])
        have Z2 : w1.frozen? ⟨w.heap.size + 1, 2, none⟩ = false := by rw [hb1.frozen (p := ⟨w.heap.size + 1, 2, none⟩) (by simp)]; simp [go_sem]
        have R3 : w1.cell? ⟨w.heap.size + 1, 3, none⟩ = some (.slice none 0 0) := cellb hb1 (by simp [go_sem])
        have Z3 : w1.frozen? ⟨w.heap.size + 1, 3, none⟩ = false := by rw [hb1.frozen (p := ⟨w.heap.size + 1, 3, none⟩) (by simp)]; simp [go_sem]
        have R4 : w1.cell? ⟨w.heap.size + 1, 4, none⟩ = some (.slice none 0 0) := cellb hb1 (by simp [go_sem])
        have Z4 : w1.frozen? ⟨w.heap.size + 1, 4, none⟩ = false := by rw [hb1.frozen (p := ⟨w.heap.size + 1, 4, none⟩) (by simp)]; simp [go_sem]
        have hs1 : w.heap.size + 2 ≤ w1.heap.size := by have := hb1.size; simp at this; omega
        have b1 : Below w.heap.size w w1 := hb0.trans (hb1.mono (by simp; omega))
        clear hb1 hb0 HF
        go_wp2_with (first
          | (go_at_call 53; refine (isFromTo_calls _ _ _ _).mono ?_; rintro e w' ⟨rfl, hw⟩; rw [hw]; clear hw w'; first | rw [k0] | rw [k1])
          | (go_at_call 54; refine (isAttr_calls _ _).mono ?_; rintro e w' ⟨rfl, hw⟩; rw [hw]; clear hw w'; rw [k2]))
        have hr := res5 (w := w1) (r := w.heap.size + 1) (.int .i64 3) (.int .i64 0) (.int .i64 0) (.slice none 0 0) (.slice none 0 0) R0 R1 R2 R3 R4
        go_wp2
        refine bodyPost_ret (v := .agg #[.int .i64 3, .int .i64 0, .int .i64 0, .slice none 0 0, .slice none 0 0]) (by simp only [results, Try.results24]; simp [go_sem, hr.1, hr.2.1, hr.2.2.1, hr.2.2.2.1, hr.2.2.2.2]) rfl ⟨_, _, rfl, ?_, b1.trans (show Below w.heap.size w1 _ from (by repeat' (first | with_reducible exact Below.refl _ _ | with_reducible assumption | with_reducible refine Below.drew ?_ | with_reducible refine Below.alloc ?_ ?_ _ | with_reducible refine Below.setCell ?_ ?_ _ | (simp; done) | (simp; omega) | omega)))⟩
        exact GOwn.nil _ _ _ (by have := b1.size; simp [World.setCell]; omega)
      | true =>
        cases k2 : atB at' with
        | false =>
          rw [eraseRes_def, gres_bad hG (by unfold eraseOk; first | (rw [k0]; rfl) | (rw [k0, k1]; rfl) | (rw [k0, k1, k2]; rfl))]
          rw [hG] at HF
          simp only [gbad]
          go_enter Try.func24, Try.ntmps24
          go_wp2_with fail
          refine HF.mono ?_
          rintro e w1 ⟨rfl, hb1⟩
          have A0 : w1.cell? ⟨w.heap.size, 0, none⟩ = some (.int .i64 r) := cellb hb1 (by simp [go_sem])
          have A1 : w1.cell? ⟨w.heap.size, 1, none⟩ = some (.int .i64 wd) := cellb hb1 (by simp [go_sem])
          have A2 : w1.cell? ⟨w.heap.size, 2, none⟩ = some (.slice a1 cs.length c1) := cellb hb1 (by simp [go_sem])
          have A3 : w1.cell? ⟨w.heap.size, 3, none⟩ = some (.slice a2 bs.length c2) := cellb hb1 (by simp [go_sem])
          have R0 : w1.cell? ⟨w.heap.size + 1, 0, none⟩ = some (.int .i64 0) := cellb hb1 (by simp [go_sem])
          have Z0 : w1.frozen? ⟨w.heap.size + 1, 0, none⟩ = false := by rw [hb1.frozen (p := ⟨w.heap.size + 1, 0, none⟩) (by simp)]; simp [go_sem]
          have R1 : w1.cell? ⟨w.heap.size + 1, 1, none⟩ = some (.int .i64 0) := cellb hb1 (by simp [go_sem])
          have Z1 : w1.frozen? ⟨w.heap.size + 1, 1, none⟩ = false := by rw [hb1.frozen (p := ⟨w.heap.size + 1, 1, none⟩) (by simp)]; simp [go_sem]
          have R2 : w1.cell? ⟨w.heap.size + 1, 2, none⟩ = some (.int .i64 0) := cellb hb1 (by simp [go_sem])
          have Z2 : w1.frozen? ⟨w.heap.size + 1, 2, none⟩ = false := by rw [hb1.frozen (p := ⟨w.heap.size + 1, 2, none⟩) (by simp)]; simp [go_sem]
          have R3 : w1.cell? ⟨w.heap.size + 1, 3, none⟩ = some (.slice none 0 0) := cellb hb1 (by simp [go_sem])
          have Z3 : w1.frozen? ⟨w.heap.size + 1, 3, none⟩ = false := by rw [hb1.frozen (p := ⟨w.heap.size + 1, 3, none⟩) (by simp)]; simp [go_sem]
          have R4 : w1.cell? ⟨w.heap.size + 1, 4, none⟩ = some (.slice none 0 0) := cellb hb1 (by simp [go_sem])
          have Z4 : w1.frozen? ⟨w.heap.size + 1, 4, none⟩ = false := by rw [hb1.frozen (p := ⟨w.heap.size + 1, 4, none⟩) (by simp)]; simp [go_sem]
          have hs1 : w.heap.size + 2 ≤ w1.heap.size := by have := hb1.size; simp at this; omega
          have b1 : Below w.heap.size w w1 := hb0.trans (hb1.mono (by simp; omega))
          clear hb1 hb0 HF
          go_wp2_with (first
            | (go_at_call 53; refine (isFromTo_calls _ _ _ _).mono ?_; rintro e w' ⟨rfl, hw⟩; rw [hw]; clear hw w'; first | rw [k0] | rw [k1])
            | (go_at_call 54; refine (isAttr_calls _ _).mono ?_; rintro e w' ⟨rfl, hw⟩; rw [hw]; clear hw w'; rw [k2]))
          have hr := res5 (w := w1) (r := w.heap.size + 1) (.int .i64 3) (.int .i64 0) (.int .i64 0) (.slice none 0 0) (.slice none 0 0) R0 R1 R2 R3 R4
          go_wp2
          refine bodyPost_ret (v := .agg #[.int .i64 3, .int .i64 0, .int .i64 0, .slice none 0 0, .slice none 0 0]) (by simp only [results, Try.results24]; simp [go_sem, hr.1, hr.2.1, hr.2.2.1, hr.2.2.2.1, hr.2.2.2.2]) rfl ⟨_, _, rfl, ?_, b1.trans (show Below w.heap.size w1 _ from (by repeat' (first | with_reducible exact Below.refl _ _ | with_reducible assumption | with_reducible refine Below.drew ?_ | with_reducible refine Below.alloc ?_ ?_ _ | with_reducible refine Below.setCell ?_ ?_ _ | (simp; done) | (simp; omega) | omega)))⟩
          exact GOwn.nil _ _ _ (by have := b1.size; simp [World.setCell]; omega)
        | true =>
          rw [eraseRes_def, gres_ok hG (by unfold eraseOk; rw [k0, k1, k2]; rfl)]
          rw [hG] at HF
          have hfine := gfine_of_code hG
          obtain ⟨n1, n2, hq, n8, n9, n10⟩ := hfine.short
          clear hfine hG
          have j0 := of_decide_eq_true k0
          have j1 := of_decide_eq_true k1
          obtain ⟨F, rfl⟩ : ∃ F : Nat, f = F := ⟨f.toNat, by omega⟩
          obtain ⟨U, rfl⟩ : ∃ U : Nat, t = U := ⟨t.toNat, by omega⟩
          have u1 : F ≤ U := by omega
          have u2 : U ≤ cs.length := by omega
          clear j0 j1
          go_enter Try.func24, Try.ntmps24
          go_wp2_with fail
          refine HF.mono ?_
          rintro e w1 ⟨rfl, hb1⟩
          have A0 : w1.cell? ⟨w.heap.size, 0, none⟩ = some (.int .i64 r) := cellb hb1 (by simp [go_sem])
          have A1 : w1.cell? ⟨w.heap.size, 1, none⟩ = some (.int .i64 wd) := cellb hb1 (by simp [go_sem])
          have A2 : w1.cell? ⟨w.heap.size, 2, none⟩ = some (.slice a1 cs.length c1) := cellb hb1 (by simp [go_sem])
          have A3 : w1.cell? ⟨w.heap.size, 3, none⟩ = some (.slice a2 bs.length c2) := cellb hb1 (by simp [go_sem])
          have R0 : w1.cell? ⟨w.heap.size + 1, 0, none⟩ = some (.int .i64 0) := cellb hb1 (by simp [go_sem])
          have Z0 : w1.frozen? ⟨w.heap.size + 1, 0, none⟩ = false := by rw [hb1.frozen (p := ⟨w.heap.size + 1, 0, none⟩) (by simp)]; simp [go_sem]
          have R1 : w1.cell? ⟨w.heap.size + 1, 1, none⟩ = some (.int .i64 0) := cellb hb1 (by simp [go_sem])
          have Z1 : w1.frozen? ⟨w.heap.size + 1, 1, none⟩ = false := by rw [hb1.frozen (p := ⟨w.heap.size + 1, 1, none⟩) (by simp)]; simp [go_sem]
          have R2 : w1.cell? ⟨w.heap.size + 1, 2, none⟩ = some (.int .i64 0) := cellb hb1 (by simp [go_sem])
          have Z2 : w1.frozen? ⟨w.heap.size + 1, 2, none⟩ = false := by rw [hb1.frozen (p := ⟨w.heap.size + 1, 2, none⟩) (by simp)]; simp [go_sem]
          have R3 : w1.cell? ⟨w.heap.size + 1, 3, none⟩ = some (.slice none 0 0) := cellb hb1 (by simp [go_sem])
          have Z3 : w1.frozen? ⟨w.heap.size + 1, 3, none⟩ = false := by rw [hb1.frozen (p := ⟨w.heap.size + 1, 3, none⟩) (by simp)]; simp [go_sem]
          have R4 : w1.cell? ⟨w.heap.size + 1, 4, none⟩ = some (.slice none 0 0) := cellb hb1 (by simp [go_sem])
          have Z4 : w1.frozen? ⟨w.heap.size + 1, 4, none⟩ = false := by rw [hb1.frozen (p := ⟨w.heap.size + 1, 4, none⟩) (by simp)]; simp [go_sem]
          have hs1 : w.heap.size + 2 ≤ w1.heap.size := by have := hb1.size; simp at this; omega
          have b1 : Below w.heap.size w w1 := hb0.trans (hb1.mono (by simp; omega))
          clear hb1 hb0 HF
          go_wp2_with (first
            | (go_at_call 53; refine (isFromTo_calls _ _ _ _).mono ?_; rintro e w' ⟨rfl, hw⟩; rw [hw]; clear hw w'; first | rw [k0] | rw [k1])
            | (go_at_call 54; refine (isAttr_calls _ _).mono ?_; rintro e w' ⟨rfl, hw⟩; rw [hw]; clear hw w'; rw [k2]))
          refine (sheetsOf_calls r wd cs bs _ _ w1 hn1 hn2 (h1.below b1) (h2.below b1)).mono ?_
          rintro e w2 ⟨x, y, m, rfl, m1, m2, ox, xm, oy, hb2⟩
          replace A0 := cellb hb2 A0
          replace A1 := cellb hb2 A1
          replace A2 := cellb hb2 A2
          replace A3 := cellb hb2 A3
          replace R0 := cellb hb2 R0
          replace R1 := cellb hb2 R1
          replace R2 := cellb hb2 R2
          replace R3 := cellb hb2 R3
          replace R4 := cellb hb2 R4
          replace Z0 : w2.frozen? ⟨w.heap.size + 1, 0, none⟩ = false := by rw [hb2.frozen (p := ⟨w.heap.size + 1, 0, none⟩) (by simp; omega)]; exact Z0
          replace Z1 : w2.frozen? ⟨w.heap.size + 1, 1, none⟩ = false := by rw [hb2.frozen (p := ⟨w.heap.size + 1, 1, none⟩) (by simp; omega)]; exact Z1
          replace Z2 : w2.frozen? ⟨w.heap.size + 1, 2, none⟩ = false := by rw [hb2.frozen (p := ⟨w.heap.size + 1, 2, none⟩) (by simp; omega)]; exact Z2
          replace Z3 : w2.frozen? ⟨w.heap.size + 1, 3, none⟩ = false := by rw [hb2.frozen (p := ⟨w.heap.size + 1, 3, none⟩) (by simp; omega)]; exact Z3
          replace Z4 : w2.frozen? ⟨w.heap.size + 1, 4, none⟩ = false := by rw [hb2.frozen (p := ⟨w.heap.size + 1, 4, none⟩) (by simp; omega)]; exact Z4
          have b2 := b1.trans (hb2.mono b1.size)
          have hs2 : w1.heap.size ≤ w2.heap.size := hb2.size
          obtain ⟨bx, cx, rfl, hcx, _, x1, x2, hrow⟩ := own_row ox n8
          obtain ⟨ay, cy, rfl, hyc⟩ := own_room2 oy
          have x3 : bx < m := xm bx rfl
          have HX := hide hrow
          have HY := hide oy
          clear hrow oy ox xm hb2
          go_wp2_with fail
          have hb3 : Below w2.heap.size w2 ((w2.alloc (.cells #[.int .i64 wd, .slice (some ⟨bx, 0, none⟩) cs.length cx] 53)).alloc (.cells #[.int .i64 wd, .slice ay bs.length cy] 53)) := (by repeat' (first | with_reducible exact Below.refl _ _ | with_reducible assumption | with_reducible refine Below.drew ?_ | with_reducible refine Below.alloc ?_ ?_ _ | with_reducible refine Below.setCell ?_ ?_ _ | (simp; done) | (simp; omega) | omega))
          have S0 : ((w2.alloc (.cells #[.int .i64 wd, .slice (some ⟨bx, 0, none⟩) cs.length cx] 53)).alloc (.cells #[.int .i64 wd, .slice ay bs.length cy] 53)).cell? ⟨w2.heap.size, 0, none⟩ = some (.int .i64 wd) := by simp [go_sem]
          have S1 : ((w2.alloc (.cells #[.int .i64 wd, .slice (some ⟨bx, 0, none⟩) cs.length cx] 53)).alloc (.cells #[.int .i64 wd, .slice ay bs.length cy] 53)).cell? ⟨w2.heap.size, 1, none⟩ = some (.slice (some ⟨bx, 0, none⟩) cs.length cx) := by simp [go_sem]
          have U0 : ((w2.alloc (.cells #[.int .i64 wd, .slice (some ⟨bx, 0, none⟩) cs.length cx] 53)).alloc (.cells #[.int .i64 wd, .slice ay bs.length cy] 53)).cell? ⟨w2.heap.size + 1, 0, none⟩ = some (.int .i64 wd) := by simp [go_sem]
          have U1 : ((w2.alloc (.cells #[.int .i64 wd, .slice (some ⟨bx, 0, none⟩) cs.length cx] 53)).alloc (.cells #[.int .i64 wd, .slice ay bs.length cy] 53)).cell? ⟨w2.heap.size + 1, 1, none⟩ = some (.slice ay bs.length cy) := by simp [go_sem]
          have hs3 : ((w2.alloc (.cells #[.int .i64 wd, .slice (some ⟨bx, 0, none⟩) cs.length cx] 53)).alloc (.cells #[.int .i64 wd, .slice ay bs.length cy] 53)).heap.size = w2.heap.size + 2 := by simp
          generalize ((w2.alloc (.cells #[.int .i64 wd, .slice (some ⟨bx, 0, none⟩) cs.length cx] 53)).alloc (.cells #[.int .i64 wd, .slice ay bs.length cy] 53)) = w3 at *
          replace A0 := cellb hb3 A0
          replace A1 := cellb hb3 A1
          replace A2 := cellb hb3 A2
          replace A3 := cellb hb3 A3
          replace R0 := cellb hb3 R0
          replace R1 := cellb hb3 R1
          replace R2 := cellb hb3 R2
          replace R3 := cellb hb3 R3
          replace R4 := cellb hb3 R4
          replace Z0 : w3.frozen? ⟨w.heap.size + 1, 0, none⟩ = false := by rw [hb3.frozen (p := ⟨w.heap.size + 1, 0, none⟩) (by simp; omega)]; exact Z0
          replace Z1 : w3.frozen? ⟨w.heap.size + 1, 1, none⟩ = false := by rw [hb3.frozen (p := ⟨w.heap.size + 1, 1, none⟩) (by simp; omega)]; exact Z1
          replace Z2 : w3.frozen? ⟨w.heap.size + 1, 2, none⟩ = false := by rw [hb3.frozen (p := ⟨w.heap.size + 1, 2, none⟩) (by simp; omega)]; exact Z2
          replace Z3 : w3.frozen? ⟨w.heap.size + 1, 3, none⟩ = false := by rw [hb3.frozen (p := ⟨w.heap.size + 1, 3, none⟩) (by simp; omega)]; exact Z3
          replace Z4 : w3.frozen? ⟨w.heap.size + 1, 4, none⟩ = false := by rw [hb3.frozen (p := ⟨w.heap.size + 1, 4, none⟩) (by simp; omega)]; exact Z4
          have b3 := b2.trans (hb3.mono b2.size)
          replace HX := hide (HX.out.below hb3 x2)
          replace HY := hide (own_below HY.out hb3)
          clear hb3 b2
          by_cases hcap : cx = F
          · have e7 : cx = U := by omega
            have e8 : cx = F := hcap
            clear hcap
            subst e7
            subst e8
            refine wp_region_held_drew (S := (fun w' => w'.cell? ⟨w2.heap.size, 1, none⟩ = some (.slice (some ⟨bx, 0, none⟩) cs.length cx))) (by kernel_rfl) ?_ (fun hHeld => ?_)
            · (try dsimp only); exact S1
            refine wpAnyH_take (i := 0) (oi := ⟨_, _, _, _, _, _⟩) (v := ?_) rfl (by kernel_rfl) (by kernel_rfl) (by kernel_rfl) (fun _ _ _ h => h) (Or.inl ⟨by rfl, ?_⟩) hHeld ?_
            rotate_left
            · (intro w hSw; (try dsimp only at hSw); go_simp; try (with_reducible rfl))
            try simp only [Act.put, List.setIfInBounds_toArray, List.set_cons_zero, List.set_cons_succ]
            refine wpAnyH_take (i := 1) (oi := ⟨_, _, _, _, _, _⟩) (v := ?_) rfl (by kernel_rfl) (by kernel_rfl) (by kernel_rfl) (fun _ _ _ h => h) (Or.inl ⟨by rfl, ?_⟩) hHeld ?_
            rotate_left
            · (intro w hSw; (try dsimp only at hSw); go_simp; try (with_reducible rfl))
            try simp only [Act.put, List.setIfInBounds_toArray, List.set_cons_zero, List.set_cons_succ]
            refine wpAnyH_take (i := 2) (oi := ⟨_, _, _, _, _, _⟩) (v := ?_) rfl (by kernel_rfl) (by kernel_rfl) (by kernel_rfl) (fun _ _ _ h => h) (Or.inl ⟨by rfl, ?_⟩) hHeld ?_
            rotate_left
            · (intro w hSw; (try dsimp only at hSw); go_simp; try (with_reducible rfl))
            try simp only [Act.put, List.setIfInBounds_toArray, List.set_cons_zero, List.set_cons_succ]
            refine wpAnyH_take (i := 3) (oi := ⟨_, _, _, _, _, _⟩) (v := ?_) rfl (by kernel_rfl) (by kernel_rfl) (by kernel_rfl) (fun _ _ _ h => h) (Or.inl ⟨by rfl, ?_⟩) hHeld ?_
            rotate_left
            · (intro w hSw; (try dsimp only at hSw); go_simp; try (with_reducible rfl))
            try simp only [Act.put, List.setIfInBounds_toArray, List.set_cons_zero, List.set_cons_succ]
            refine wpAnyH_take (i := 4) (oi := ⟨_, _, _, _, _, _⟩) (v := ?_) rfl (by kernel_rfl) (by kernel_rfl) (by kernel_rfl) (fun _ _ _ h => h) (Or.inl ⟨by rfl, ?_⟩) hHeld ?_
            rotate_left
            · (intro w hSw; (try dsimp only at hSw); go_simp; try (with_reducible rfl))
            try simp only [Act.put, List.setIfInBounds_toArray, List.set_cons_zero, List.set_cons_succ]
            refine wpAnyH_take (i := 5) (oi := ⟨_, _, _, _, _, _⟩) (v := ?_) rfl (by kernel_rfl) (by kernel_rfl) (by kernel_rfl) (fun _ _ _ h => h) (Or.inl ⟨by rfl, ?_⟩) hHeld ?_
            rotate_left
            · (intro w hSw; (try dsimp only at hSw); go_simp; try (with_reducible rfl))
            try simp only [Act.put, List.setIfInBounds_toArray, List.set_cons_zero, List.set_cons_succ]
            refine wpAnyH_ready (rs := [6]) (by kernel_rfl) (by simp) ?_
            refine AllReadyH.cons (o := ⟨_, _, _, _, _, _⟩) rfl (fun K hK => ?_) AllReadyH.nil
            go_simp
            go_at_call 34
            refine (blankOf_calls at' _).mono ?_
            rintro e w4 ⟨rfl, hb4⟩
            replace hb4 : Below w3.heap.size w3 w4 := (below_drewN (Below.refl _ _) 1).trans hb4
            have hs4 : w3.heap.size ≤ w4.heap.size := hb4.size
            replace A0 := cellb hb4 A0
            replace A1 := cellb hb4 A1
            replace A2 := cellb hb4 A2
            replace A3 := cellb hb4 A3
            replace R0 := cellb hb4 R0
            replace R1 := cellb hb4 R1
            replace R2 := cellb hb4 R2
            replace R3 := cellb hb4 R3
            replace R4 := cellb hb4 R4
            replace S0 := cellb hb4 S0
            replace S1 := cellb hb4 S1
            replace U0 := cellb hb4 U0
            replace U1 := cellb hb4 U1
            replace Z0 : w4.frozen? ⟨w.heap.size + 1, 0, none⟩ = false := by rw [hb4.frozen (p := ⟨w.heap.size + 1, 0, none⟩) (by simp; omega)]; exact Z0
            replace Z1 : w4.frozen? ⟨w.heap.size + 1, 1, none⟩ = false := by rw [hb4.frozen (p := ⟨w.heap.size + 1, 1, none⟩) (by simp; omega)]; exact Z1
            replace Z2 : w4.frozen? ⟨w.heap.size + 1, 2, none⟩ = false := by rw [hb4.frozen (p := ⟨w.heap.size + 1, 2, none⟩) (by simp; omega)]; exact Z2
            replace Z3 : w4.frozen? ⟨w.heap.size + 1, 3, none⟩ = false := by rw [hb4.frozen (p := ⟨w.heap.size + 1, 3, none⟩) (by simp; omega)]; exact Z3
            replace Z4 : w4.frozen? ⟨w.heap.size + 1, 4, none⟩ = false := by rw [hb4.frozen (p := ⟨w.heap.size + 1, 4, none⟩) (by simp; omega)]; exact Z4
            have b4 := b3.trans (hb4.mono b3.size)
            replace HX := hide (HX.out.below hb4 (by omega))
            replace HY := hide (own_below HY.out hb4)
            clear b3 hb4
            try go_wp2_with fail
            refine hK.out _ _ ?_ ?_
            · (try dsimp only); exact S1
            clear hHeld hK K
            intro hHeld
            try simp only [Act.put, List.setIfInBounds_toArray, List.set_cons_zero, List.set_cons_succ]
            refine wpAnyH_ready (rs := [7]) (by kernel_rfl) (by simp) ?_
            refine AllReadyH.cons (o := ⟨_, _, _, _, _, _⟩) rfl (fun K hK => ?_) AllReadyH.nil
            go_simp
            go_at_call 60
            refine (fill_calls bx 0 0 0 _ (fun _ => (0, 0)) 32 at' w4 ⟨by omega, _, rfl, fun _ => rfl⟩ (fun i hi => by omega) (by omega) (by omega)).mono ?_
            rintro e w5 ⟨⟨u5, rfl⟩, hr5, ht5⟩
            replace A0 := ht5.cellAt A0 (by omega)
            replace A1 := ht5.cellAt A1 (by omega)
            replace A2 := ht5.cellAt A2 (by omega)
            replace A3 := ht5.cellAt A3 (by omega)
            replace R0 := ht5.cellAt R0 (by omega)
            replace R1 := ht5.cellAt R1 (by omega)
            replace R2 := ht5.cellAt R2 (by omega)
            replace R3 := ht5.cellAt R3 (by omega)
            replace R4 := ht5.cellAt R4 (by omega)
            replace S0 := ht5.cellAt S0 (by omega)
            replace S1 := ht5.cellAt S1 (by omega)
            replace U0 := ht5.cellAt U0 (by omega)
            replace U1 := ht5.cellAt U1 (by omega)
            replace Z0 := ht5.frozenAt (by omega) Z0
            replace Z1 := ht5.frozenAt (by omega) Z1
            replace Z2 := ht5.frozenAt (by omega) Z2
            replace Z3 := ht5.frozenAt (by omega) Z3
            replace Z4 := ht5.frozenAt (by omega) Z4
            have b5 : Below w.heap.size w w5 := b4.trans (ht5.below (by omega) (by omega))
            have hs5 : w4.heap.size ≤ w5.heap.size := ht5.size
            have l5 := HY.out.lt
            replace HY := hide (own_touch HY.out ht5 (fun k hk => by have := (l5 k hk).1; omega))
            clear l5 b4
            replace HX := hide (HX.out.touch ht5 (by omega))
            clear hr5 ht5
            try go_wp2_with fail
            refine hK.out _ _ ?_ ?_
            · (try dsimp only); exact S1
            clear hHeld hK K
            intro hHeld
            try simp only [Act.put, List.setIfInBounds_toArray, List.set_cons_zero, List.set_cons_succ]
            refine wpAnyH_done (by kernel_rfl) ?_ _
            clear hHeld
            go_wp2_with fail
            refine (gridOf_calls wd wd n1 n2 (some ⟨bx, 0, none⟩) ay cs.length bs.length cx cy hn1 w5).mono ?_
            rintro e w8 ⟨rfl, hb8⟩
            rw [hq.out]
            replace R0 := cellb hb8 R0
            replace R1 := cellb hb8 R1
            replace R2 := cellb hb8 R2
            replace R3 := cellb hb8 R3
            replace R4 := cellb hb8 R4
            replace Z0 : w8.frozen? ⟨w.heap.size + 1, 0, none⟩ = false := by rw [hb8.frozen (p := ⟨w.heap.size + 1, 0, none⟩) (by simp; omega)]; exact Z0
            replace Z1 : w8.frozen? ⟨w.heap.size + 1, 1, none⟩ = false := by rw [hb8.frozen (p := ⟨w.heap.size + 1, 1, none⟩) (by simp; omega)]; exact Z1
            replace Z2 : w8.frozen? ⟨w.heap.size + 1, 2, none⟩ = false := by rw [hb8.frozen (p := ⟨w.heap.size + 1, 2, none⟩) (by simp; omega)]; exact Z2
            replace Z3 : w8.frozen? ⟨w.heap.size + 1, 3, none⟩ = false := by rw [hb8.frozen (p := ⟨w.heap.size + 1, 3, none⟩) (by simp; omega)]; exact Z3
            replace Z4 : w8.frozen? ⟨w.heap.size + 1, 4, none⟩ = false := by rw [hb8.frozen (p := ⟨w.heap.size + 1, 4, none⟩) (by simp; omega)]; exact Z4
            have b8 := b5.trans (hb8.mono b5.size)
            have hs8 : w5.heap.size ≤ w8.heap.size := hb8.size
            have HX8 := hide (HX.out.below hb8 (by omega))
            have HY8 := hide (own_below HY.out hb8)
            clear hb8 HX HY
            have hr := res5 (w := w8) (r := w.heap.size + 1) (.int .i64 0) (.int .i64 r) (.int .i64 wd) (.slice (some ⟨bx, 0, none⟩) cs.length cx) (.slice ay bs.length cy) R0 R1 R2 R3 R4
            go_wp2
            refine bodyPost_ret (v := .agg #[.int .i64 0, .int .i64 r, .int .i64 wd, .slice (some ⟨bx, 0, none⟩) cs.length cx, .slice ay bs.length cy]) (by simp only [results, Try.results24]; simp [go_sem, hr.1, hr.2.1, hr.2.2.1, hr.2.2.2.1, hr.2.2.2.2]) rfl ⟨_, _, rfl, ?_, b8.trans (show Below w.heap.size w8 _ from (by repeat' (first | with_reducible exact Below.refl _ _ | with_reducible assumption | with_reducible refine Below.drew ?_ | with_reducible refine Below.alloc ?_ ?_ _ | with_reducible refine Below.setCell ?_ ?_ _ | (simp; done) | (simp; omega) | omega)))⟩
            refine (gown_of (w := w8) (base := w1.heap.size) (m := m) (HX8.out.congr (fun i hi => ?_)) (by omega) (by omega) HY8.out (by omega) (by omega) (by simp [World.setCell]) (fun k _ => ?_) (by omega)).mono (by omega) (Nat.le_refl _)
            · unfold eraseF
              rw [if_neg (by omega)]
            · by_cases hk : k < w1.heap.size
              · exact .inr hk
              · left
                simp only [World.setCell, Array.getElem?_modify]
                repeat rw [if_neg (by omega)]
          · have hcap' : ¬ F = cx := fun h => hcap h.symm
            have e4 : U ≤ cx := by omega
            have e5 : (F : Int) ≤ (U : Int) := by omega
            have e6 : (U : Int) ≤ (cx : Int) := by omega
            refine wp_region_held_drew (S := (fun w' => w'.cell? ⟨w2.heap.size, 1, none⟩ = some (.slice (some ⟨bx, 0, none⟩) cs.length cx))) (by kernel_rfl) ?_ (fun hHeld => ?_)
            · (try dsimp only); exact S1
            refine wpAnyH_take (i := 0) (oi := ⟨_, _, _, _, _, _⟩) (v := ?_) rfl (by kernel_rfl) (by kernel_rfl) (by kernel_rfl) (fun _ _ _ h => h) (Or.inl ⟨by rfl, ?_⟩) hHeld ?_
            rotate_left
            · (intro w hSw; (try dsimp only at hSw); go_simp; try (with_reducible rfl))
            try simp only [Act.put, List.setIfInBounds_toArray, List.set_cons_zero, List.set_cons_succ]
            refine wpAnyH_take (i := 1) (oi := ⟨_, _, _, _, _, _⟩) (v := ?_) rfl (by kernel_rfl) (by kernel_rfl) (by kernel_rfl) (fun _ _ _ h => h) (Or.inl ⟨by rfl, ?_⟩) hHeld ?_
            rotate_left
            · (intro w hSw; (try dsimp only at hSw); go_simp; try (with_reducible rfl))
            try simp only [Act.put, List.setIfInBounds_toArray, List.set_cons_zero, List.set_cons_succ]
            refine wpAnyH_take (i := 2) (oi := ⟨_, _, _, _, _, _⟩) (v := ?_) rfl (by kernel_rfl) (by kernel_rfl) (by kernel_rfl) (fun _ _ _ h => h) (Or.inl ⟨by rfl, ?_⟩) hHeld ?_
            rotate_left
            · (intro w hSw; (try dsimp only at hSw); go_simp; try (with_reducible rfl))
            try simp only [Act.put, List.setIfInBounds_toArray, List.set_cons_zero, List.set_cons_succ]
            refine wpAnyH_take (i := 3) (oi := ⟨_, _, _, _, _, _⟩) (v := ?_) rfl (by kernel_rfl) (by kernel_rfl) (by kernel_rfl) (fun _ _ _ h => h) (Or.inl ⟨by rfl, ?_⟩) hHeld ?_
            rotate_left
            · (intro w hSw; (try dsimp only at hSw); go_simp; try (with_reducible rfl))
            try simp only [Act.put, List.setIfInBounds_toArray, List.set_cons_zero, List.set_cons_succ]
            refine wpAnyH_take (i := 4) (oi := ⟨_, _, _, _, _, _⟩) (v := ?_) rfl (by kernel_rfl) (by kernel_rfl) (by kernel_rfl) (fun _ _ _ h => h) (Or.inl ⟨by rfl, ?_⟩) hHeld ?_
            rotate_left
            · (intro w hSw; (try dsimp only at hSw); go_simp; try (with_reducible rfl))
            try simp only [Act.put, List.setIfInBounds_toArray, List.set_cons_zero, List.set_cons_succ]
            refine wpAnyH_take (i := 5) (oi := ⟨_, _, _, _, _, _⟩) (v := ?_) rfl (by kernel_rfl) (by kernel_rfl) (by kernel_rfl) (fun _ _ _ h => h) (Or.inl ⟨by rfl, ?_⟩) hHeld ?_
            rotate_left
            · (intro w hSw; (try dsimp only at hSw); go_simp; try (with_reducible rfl))
            try simp only [Act.put, List.setIfInBounds_toArray, List.set_cons_zero, List.set_cons_succ]
            refine wpAnyH_ready (rs := [6]) (by kernel_rfl) (by simp) ?_
            refine AllReadyH.cons (o := ⟨_, _, _, _, _, _⟩) rfl (fun K hK => ?_) AllReadyH.nil
            go_simp
            go_at_call 34
            refine (blankOf_calls at' _).mono ?_
            rintro e w4 ⟨rfl, hb4⟩
            replace hb4 : Below w3.heap.size w3 w4 := (below_drewN (Below.refl _ _) 1).trans hb4
            have hs4 : w3.heap.size ≤ w4.heap.size := hb4.size
            replace A0 := cellb hb4 A0
            replace A1 := cellb hb4 A1
            replace A2 := cellb hb4 A2
            replace A3 := cellb hb4 A3
            replace R0 := cellb hb4 R0
            replace R1 := cellb hb4 R1
            replace R2 := cellb hb4 R2
            replace R3 := cellb hb4 R3
            replace R4 := cellb hb4 R4
            replace S0 := cellb hb4 S0
            replace S1 := cellb hb4 S1
            replace U0 := cellb hb4 U0
            replace U1 := cellb hb4 U1
            replace Z0 : w4.frozen? ⟨w.heap.size + 1, 0, none⟩ = false := by rw [hb4.frozen (p := ⟨w.heap.size + 1, 0, none⟩) (by simp; omega)]; exact Z0
            replace Z1 : w4.frozen? ⟨w.heap.size + 1, 1, none⟩ = false := by rw [hb4.frozen (p := ⟨w.heap.size + 1, 1, none⟩) (by simp; omega)]; exact Z1
            replace Z2 : w4.frozen? ⟨w.heap.size + 1, 2, none⟩ = false := by rw [hb4.frozen (p := ⟨w.heap.size + 1, 2, none⟩) (by simp; omega)]; exact Z2
            replace Z3 : w4.frozen? ⟨w.heap.size + 1, 3, none⟩ = false := by rw [hb4.frozen (p := ⟨w.heap.size + 1, 3, none⟩) (by simp; omega)]; exact Z3
            replace Z4 : w4.frozen? ⟨w.heap.size + 1, 4, none⟩ = false := by rw [hb4.frozen (p := ⟨w.heap.size + 1, 4, none⟩) (by simp; omega)]; exact Z4
            have b4 := b3.trans (hb4.mono b3.size)
            replace HX := hide (HX.out.below hb4 (by omega))
            replace HY := hide (own_below HY.out hb4)
            clear b3 hb4
            try go_wp2_with fail
            refine hK.out _ _ ?_ ?_
            · (try dsimp only); exact S1
            clear hHeld hK K
            intro hHeld
            try simp only [Act.put, List.setIfInBounds_toArray, List.set_cons_zero, List.set_cons_succ]
            refine wpAnyH_ready (rs := [7]) (by kernel_rfl) (by simp) ?_
            refine AllReadyH.cons (o := ⟨_, _, _, _, _, _⟩) rfl (fun K hK => ?_) AllReadyH.nil
            go_simp
            go_at_call 60
            refine (fill_calls bx (F * 2) (U - F) (cx - F) _ _ 32 at' w4 ⟨by omega, _, rfl, fun _ => rfl⟩ (by have h := HX.out.sub F (U - F) (by omega); rw [Nat.zero_add] at h; exact h) (by omega) (by omega)).mono ?_
            rintro e w5 ⟨⟨u5, rfl⟩, hr5, ht5⟩
            replace A0 := ht5.cellAt A0 (by omega)
            replace A1 := ht5.cellAt A1 (by omega)
            replace A2 := ht5.cellAt A2 (by omega)
            replace A3 := ht5.cellAt A3 (by omega)
            replace R0 := ht5.cellAt R0 (by omega)
            replace R1 := ht5.cellAt R1 (by omega)
            replace R2 := ht5.cellAt R2 (by omega)
            replace R3 := ht5.cellAt R3 (by omega)
            replace R4 := ht5.cellAt R4 (by omega)
            replace S0 := ht5.cellAt S0 (by omega)
            replace S1 := ht5.cellAt S1 (by omega)
            replace U0 := ht5.cellAt U0 (by omega)
            replace U1 := ht5.cellAt U1 (by omega)
            replace Z0 := ht5.frozenAt (by omega) Z0
            replace Z1 := ht5.frozenAt (by omega) Z1
            replace Z2 := ht5.frozenAt (by omega) Z2
            replace Z3 := ht5.frozenAt (by omega) Z3
            replace Z4 := ht5.frozenAt (by omega) Z4
            have b5 : Below w.heap.size w w5 := b4.trans (ht5.below (by omega) (by omega))
            have hs5 : w4.heap.size ≤ w5.heap.size := ht5.size
            have l5 := HY.out.lt
            replace HY := hide (own_touch HY.out ht5 (fun k hk => by have := (l5 k hk).1; omega))
            clear l5 b4
            replace HX := hide (HX.out.join (k := F) (m := U - F) (by rw [Nat.zero_add]; exact ht5.mono (Nat.le_refl _) (by omega)) (by rw [Nat.zero_add]; exact hr5) (by omega))
            clear hr5 ht5
            try go_wp2_with fail
            refine hK.out _ _ ?_ ?_
            · (try dsimp only); exact S1
            clear hHeld hK K
            intro hHeld
            try simp only [Act.put, List.setIfInBounds_toArray, List.set_cons_zero, List.set_cons_succ]
            refine wpAnyH_done (by kernel_rfl) ?_ _
            clear hHeld
            go_wp2_with fail
            refine (gridOf_calls wd wd n1 n2 (some ⟨bx, 0, none⟩) ay cs.length bs.length cx cy hn1 w5).mono ?_
            rintro e w8 ⟨rfl, hb8⟩
            rw [hq.out]
            replace R0 := cellb hb8 R0
            replace R1 := cellb hb8 R1
            replace R2 := cellb hb8 R2
            replace R3 := cellb hb8 R3
            replace R4 := cellb hb8 R4
            replace Z0 : w8.frozen? ⟨w.heap.size + 1, 0, none⟩ = false := by rw [hb8.frozen (p := ⟨w.heap.size + 1, 0, none⟩) (by simp; omega)]; exact Z0
            replace Z1 : w8.frozen? ⟨w.heap.size + 1, 1, none⟩ = false := by rw [hb8.frozen (p := ⟨w.heap.size + 1, 1, none⟩) (by simp; omega)]; exact Z1
            replace Z2 : w8.frozen? ⟨w.heap.size + 1, 2, none⟩ = false := by rw [hb8.frozen (p := ⟨w.heap.size + 1, 2, none⟩) (by simp; omega)]; exact Z2
            replace Z3 : w8.frozen? ⟨w.heap.size + 1, 3, none⟩ = false := by rw [hb8.frozen (p := ⟨w.heap.size + 1, 3, none⟩) (by simp; omega)]; exact Z3
            replace Z4 : w8.frozen? ⟨w.heap.size + 1, 4, none⟩ = false := by rw [hb8.frozen (p := ⟨w.heap.size + 1, 4, none⟩) (by simp; omega)]; exact Z4
            have b8 := b5.trans (hb8.mono b5.size)
            have hs8 : w5.heap.size ≤ w8.heap.size := hb8.size
            have HX8 := hide (HX.out.below hb8 (by omega))
            have HY8 := hide (own_below HY.out hb8)
            clear hb8 HX HY
            have hr := res5 (w := w8) (r := w.heap.size + 1) (.int .i64 0) (.int .i64 r) (.int .i64 wd) (.slice (some ⟨bx, 0, none⟩) cs.length cx) (.slice ay bs.length cy) R0 R1 R2 R3 R4
            go_wp2
            refine bodyPost_ret (v := .agg #[.int .i64 0, .int .i64 r, .int .i64 wd, .slice (some ⟨bx, 0, none⟩) cs.length cx, .slice ay bs.length cy]) (by simp only [results, Try.results24]; simp [go_sem, hr.1, hr.2.1, hr.2.2.1, hr.2.2.2.1, hr.2.2.2.2]) rfl ⟨_, _, rfl, ?_, b8.trans (show Below w.heap.size w8 _ from (by repeat' (first | with_reducible exact Below.refl _ _ | with_reducible assumption | with_reducible refine Below.drew ?_ | with_reducible refine Below.alloc ?_ ?_ _ | with_reducible refine Below.setCell ?_ ?_ _ | (simp; done) | (simp; omega) | omega)))⟩
            refine (gown_of (w := w8) (base := w1.heap.size) (m := m) (HX8.out.congr (fun i hi => ?_)) (by omega) (by omega) HY8.out (by omega) (by omega) (by simp [World.setCell]) (fun k _ => ?_) (by omega)).mono (by omega) (Nat.le_refl _)
            · unfold eraseF
              by_cases e : F ≤ i ∧ i < F + (U - F)
              · rw [if_pos e, if_pos (by omega)]
              · rw [if_neg e, if_neg (by omega)]
            · by_cases hk : k < w1.heap.size
              · exact .inr hk
              · left
                simp only [World.setCell, Array.getElem?_modify]
                repeat rw [if_neg (by omega)]
  · rw [eraseRes_def, gres_fault hG]
    generalize gridCode r wd cs bs = code at *
    have hcb : (code != 0) = true := by simpa using hG
    simp only [gbad]
    go_enter Try.func24, Try.ntmps24
    go_wp2_with fail
    refine HF.mono ?_
    rintro e w1 ⟨rfl, hb1⟩
    have A0 : w1.cell? ⟨w.heap.size, 0, none⟩ = some (.int .i64 r) := cellb hb1 (by simp [go_sem])
    have A1 : w1.cell? ⟨w.heap.size, 1, none⟩ = some (.int .i64 wd) := cellb hb1 (by simp [go_sem])
    have A2 : w1.cell? ⟨w.heap.size, 2, none⟩ = some (.slice a1 cs.length c1) := cellb hb1 (by simp [go_sem])
    have A3 : w1.cell? ⟨w.heap.size, 3, none⟩ = some (.slice a2 bs.length c2) := cellb hb1 (by simp [go_sem])
    have R0 : w1.cell? ⟨w.heap.size + 1, 0, none⟩ = some (.int .i64 0) := cellb hb1 (by simp [go_sem])
    have Z0 : w1.frozen? ⟨w.heap.size + 1, 0, none⟩ = false := by rw [hb1.frozen (p := ⟨w.heap.size + 1, 0, none⟩) (by simp)]; simp [go_sem]
    have R1 : w1.cell? ⟨w.heap.size + 1, 1, none⟩ = some (.int .i64 0) := cellb hb1 (by simp [go_sem])
    have Z1 : w1.frozen? ⟨w.heap.size + 1, 1, none⟩ = false := by rw [hb1.frozen (p := ⟨w.heap.size + 1, 1, none⟩) (by simp)]; simp [go_sem]
    have R2 : w1.cell? ⟨w.heap.size + 1, 2, none⟩ = some (.int .i64 0) := cellb hb1 (by simp [go_sem])
    have Z2 : w1.frozen? ⟨w.heap.size + 1, 2, none⟩ = false := by rw [hb1.frozen (p := ⟨w.heap.size + 1, 2, none⟩) (by simp)]; simp [go_sem]
    have R3 : w1.cell? ⟨w.heap.size + 1, 3, none⟩ = some (.slice none 0 0) := cellb hb1 (by simp [go_sem])
    have Z3 : w1.frozen? ⟨w.heap.size + 1, 3, none⟩ = false := by rw [hb1.frozen (p := ⟨w.heap.size + 1, 3, none⟩) (by simp)]; simp [go_sem]
    have R4 : w1.cell? ⟨w.heap.size + 1, 4, none⟩ = some (.slice none 0 0) := cellb hb1 (by simp [go_sem])
    have Z4 : w1.frozen? ⟨w.heap.size + 1, 4, none⟩ = false := by rw [hb1.frozen (p := ⟨w.heap.size + 1, 4, none⟩) (by simp)]; simp [go_sem]
    have hs1 : w.heap.size + 2 ≤ w1.heap.size := by have := hb1.size; simp at this; omega
    have b1 : Below w.heap.size w w1 := hb0.trans (hb1.mono (by simp; omega))
    clear hb1 hb0 HF
    have hr := res5 (w := w1) (r := w.heap.size + 1) (.int .i64 code) (.int .i64 0) (.int .i64 0) (.slice none 0 0) (.slice none 0 0) R0 R1 R2 R3 R4
    go_wp2
    refine bodyPost_ret (v := .agg #[.int .i64 code, .int .i64 0, .int .i64 0, .slice none 0 0, .slice none 0 0]) (by simp only [results, Try.results24]; simp [go_sem, hr.1, hr.2.1, hr.2.2.1, hr.2.2.2.1, hr.2.2.2.2]) rfl ⟨_, _, rfl, ?_, b1.trans (show Below w.heap.size w1 _ from (by repeat' (first | with_reducible exact Below.refl _ _ | with_reducible assumption | with_reducible refine Below.drew ?_ | with_reducible refine Below.alloc ?_ ?_ _ | with_reducible refine Below.setCell ?_ ?_ _ | (simp; done) | (simp; omega) | omega)))⟩
    exact GOwn.nil _ _ _ (by have := b1.size; simp [World.setCell]; omega)

set_option maxHeartbeats 1000000 in
theorem l3Erase_calls (pb bx n cx F U : Nat) (at' : Int) (f : Nat → Int × Int) (w : World) (k2 : w.cell? ⟨pb, 2, none⟩ = some (.slice (some ⟨bx, 0, none⟩) n cx)) (hp : pb ≠ bx) (hr : Row w bx 0 n f) (hU : U ≤ n) (hn : n ≤ 1048576) (hF : F ≤ U) :
    Calls Try.prog 59 #[.pointer (some ⟨pb, 0, none⟩), .int .i64 F, .int .i64 U, .int .i64 at'] w fun e w' => (∃ u, e = .returned u) ∧ Row w' bx 0 n (fun i => if F ≤ i ∧ i < U then (32, at') else f i) ∧ Touch bx 0 (n * 2) w w' := by
  have HR := hide hr
  clear hr
  go_enter Try.func59, Try.ntmps59
  go_wp2
  go_loopw [8] (fun i wr => ∃ k : Nat, F ≤ k ∧ k ≤ U ∧ i = .int .i64 k ∧ Touch bx 0 (n * 2) w wr ∧ Hid (Row wr bx 0 n (fun j => if F ≤ j ∧ j < k then (32, at') else f j))) (fun i _ => U - (intOf i).toNat)
  case atStart => exact ⟨F, Nat.le_refl _, hF, rfl, Touch.refl _ _ _ _, hide (HR.out.congr (fun i _ => by rw [if_neg (by omega)]))⟩
  case round =>
    obtain ⟨k, hk1, hk2, rfl, ht, hrow⟩ := hrel
    have K2 : wr.cell? ⟨pb, 2, none⟩ = some (.slice (some ⟨bx, 0, none⟩) n cx) := ht.cellAt k2 (by omega)
    by_cases hlt : k < U
    · obtain ⟨⟨g1, g2⟩, f1, f2⟩ := hrow.out k (by omega)
      rw [Nat.zero_add] at g1 g2 f1 f2
      have hltI : (k : Int) < (U : Int) := by omega
      have hltN : (k : Int) < (n : Int) := by omega
      have hltM : k < n := by omega
      generalize ((fun j => if F ≤ j ∧ j < k then (32, at') else f j) k).2 = o2 at g2
      generalize ((fun j => if F ≤ j ∧ j < k then (32, at') else f j) k).1 = o1 at g1
      have g3 : (wr.setCell ⟨bx, k * 2, none⟩ (.int .i64 32)).cell? ⟨bx, k * 2 + 1, none⟩ = some (.int .i64 o2) := by rw [World.cell?_setCell_other _ _ _ _ (addr_ne (by omega))]; exact g2
      have HT := hide ht
      clear ht
      go_wp2
      go_roundw
      case rel =>
        have hst := hrow.out.store hltM 32 at'
        rw [Nat.zero_add] at hst
        refine ⟨k + 1, by omega, by omega, by go_num, HT.out.trans (by have h := touch_store (b := bx) (off := 0) (k := k) wr (.int .i64 32) (.int .i64 at') (p := 0) (q := n * 2) (by omega) (by omega); rw [Nat.zero_add] at h; exact h), hide (hst.congr (fun i hi => ?_))⟩
        by_cases e : i = k
        · subst e; rw [if_pos rfl, if_pos (by omega)]
        · rw [if_neg e]
          by_cases e2 : F ≤ i ∧ i < k
          · rw [if_pos e2, if_pos (by omega)]
          · rw [if_neg e2, if_neg (by omega)]
      case measure => simp [intOf]; omega
    · obtain rfl : k = U := by omega
      have hge : ¬ ((k : Int) < (k : Int)) := by omega
      have HT := hide ht
      clear ht
      go_wp2
      go_end0
      exact ⟨⟨_, rfl⟩, hrow.out, HT.out⟩

set_option maxHeartbeats 2000000 in
theorem specEraseCells_calls (r wd : Int) (cs bs : List (Int × Int)) (f t at' : Int) (v1 v2 : Value) (w : World) (hn1 : cs.length ≤ 1048576) (hn2 : bs.length ≤ 1048576) (h1 : PRead w v1 cs) (h2 : PRead w v2 bs) :
    Calls Try.prog 23 #[.agg #[.int .i64 r, .int .i64 wd, v1, v2], .int .i64 f, .int .i64 t, .int .i64 at'] w fun e w' => ∃ v5 v6, e = .returned (.agg #[.int .i64 (eraseRes r wd cs bs f t at').code, .int .i64 (eraseRes r wd cs bs f t at').rows, .int .i64 (eraseRes r wd cs bs f t at').wd, v5, v6]) ∧ GOwn w.heap.size w'.heap.size w' v5 v6 (eraseRes r wd cs bs f t at').cs (eraseRes r wd cs bs f t at').bs ∧ Below w.heap.size w w' := by
  have h1' := h1
  obtain ⟨a1, c1, rfl, hx1⟩ := h1'
  clear hx1
  have h2' := h2
  obtain ⟨a2, c2, rfl, hx2⟩ := h2'
  clear hx2
  have hb0 : Below w.heap.size w ((w.alloc (.cells #[.int .i64 r, .int .i64 wd, .slice a1 cs.length c1, .slice a2 bs.length c2] 24)).alloc (.cells #[.int .i64 0, .int .i64 0, .int .i64 0, .slice none 0 0, .slice none 0 0] 26)) := (by repeat' (first | with_reducible exact Below.refl _ _ | with_reducible assumption | with_reducible refine Below.drew ?_ | with_reducible refine Below.alloc ?_ ?_ _ | with_reducible refine Below.setCell ?_ ?_ _ | (simp; done) | (simp; omega) | omega))
  have HF := l3Fault_calls r wd cs bs _ _ w.heap.size ((w.alloc (.cells #[.int .i64 r, .int .i64 wd, .slice a1 cs.length c1, .slice a2 bs.length c2] 24)).alloc (.cells #[.int .i64 0, .int .i64 0, .int .i64 0, .slice none 0 0, .slice none 0 0] 26)) hn1 hn2 (h1.below hb0) (h2.below hb0) (by simp [go_sem]) (by simp [go_sem]) (by simp [go_sem]) (by simp [go_sem])
  by_cases hG : gridCode r wd cs bs = 0
  · cases k0 : decide (0 ≤ f ∧ f ≤ (cs.length : Int)) with
    | false =>
      rw [eraseRes_def, gres_bad hG (by first | (have h0 := of_decide_eq_false k0; unfold eraseOk; rw [Bool.and_eq_false_iff, Bool.and_eq_false_iff, decide_eq_false_iff_not, decide_eq_false_iff_not]; omega) | (have h1 := of_decide_eq_false k1; have h0 := of_decide_eq_true k0; unfold eraseOk; rw [Bool.and_eq_false_iff, Bool.and_eq_false_iff, decide_eq_false_iff_not, decide_eq_false_iff_not]; omega) | (unfold eraseOk; rw [k2]; simp))]
      rw [hG] at HF
      simp only [gbad]
      go_enter Try.func23, Try.ntmps23
      go_wp2_with fail
      refine HF.mono ?_
      rintro e w1 ⟨rfl, hb1⟩
      have A0 : w1.cell? ⟨w.heap.size, 0, none⟩ = some (.int .i64 r) := cellb hb1 (by simp [go_sem])
      have A1 : w1.cell? ⟨w.heap.size, 1, none⟩ = some (.int .i64 wd) := cellb hb1 (by simp [go_sem])
      have A2 : w1.cell? ⟨w.heap.size, 2, none⟩ = some (.slice a1 cs.length c1) := cellb hb1 (by simp [go_sem])
      have A3 : w1.cell? ⟨w.heap.size, 3, none⟩ = some (.slice a2 bs.length c2) := cellb hb1 (by simp [go_sem])
      have R0 : w1.cell? ⟨w.heap.size + 1, 0, none⟩ = some (.int .i64 0) := cellb hb1 (by simp [go_sem])
      have Z0 : w1.frozen? ⟨w.heap.size + 1, 0, none⟩ = false := by rw [hb1.frozen (p := ⟨w.heap.size + 1, 0, none⟩) (by simp)]; simp [go_sem]
      have R1 : w1.cell? ⟨w.heap.size + 1, 1, none⟩ = some (.int .i64 0) := cellb hb1 (by simp [go_sem])
      have Z1 : w1.frozen? ⟨w.heap.size + 1, 1, none⟩ = false := by rw [hb1.frozen (p := ⟨w.heap.size + 1, 1, none⟩) (by simp)]; simp [go_sem]
      have R2 : w1.cell? ⟨w.heap.size + 1, 2, none⟩ = some (.int .i64 0) := cellb hb1 (by simp [go_sem])
      have Z2 : w1.frozen? ⟨w.heap.size + 1, 2, none⟩ = false := by rw [hb1.frozen (p := ⟨w.heap.size + 1, 2, none⟩) (by simp)]; simp [go_sem]
      have R3 : w1.cell? ⟨w.heap.size + 1, 3, none⟩ = some (.slice none 0 0) := cellb hb1 (by simp [go_sem])
      have Z3 : w1.frozen? ⟨w.heap.size + 1, 3, none⟩ = false := by rw [hb1.frozen (p := ⟨w.heap.size + 1, 3, none⟩) (by simp)]; simp [go_sem]
      have R4 : w1.cell? ⟨w.heap.size + 1, 4, none⟩ = some (.slice none 0 0) := cellb hb1 (by simp [go_sem])
      have Z4 : w1.frozen? ⟨w.heap.size + 1, 4, none⟩ = false := by rw [hb1.frozen (p := ⟨w.heap.size + 1, 4, none⟩) (by simp)]; simp [go_sem]
      have hs1 : w.heap.size + 2 ≤ w1.heap.size := by have := hb1.size; simp at this; omega
      have b1 : Below w.heap.size w w1 := hb0.trans (hb1.mono (by simp; omega))
      clear hb1 hb0 HF
      go_wp2_with (first
        | (go_at_call 50; refine (l1In_calls _ _ _ _).mono ?_; rintro e w' ⟨rfl, hw⟩; rw [hw]; clear hw w'; first | rw [k0] | rw [k1])
        | (go_at_call 51; refine (l3Attr_calls _ _).mono ?_; rintro e w' ⟨rfl, hw⟩; rw [hw]; clear hw w'; rw [k2]))
      go_wp2_with fail
      refine (l3Bad_calls 3 _).mono ?_
      rintro e w9 ⟨rfl, hb9⟩
      replace R0 := cellb hb9 R0
      replace R1 := cellb hb9 R1
      replace R2 := cellb hb9 R2
      replace R3 := cellb hb9 R3
      replace R4 := cellb hb9 R4
      replace Z0 : w9.frozen? ⟨w.heap.size + 1, 0, none⟩ = false := by rw [hb9.frozen (p := ⟨w.heap.size + 1, 0, none⟩) (by simp; omega)]; exact Z0
      replace Z1 : w9.frozen? ⟨w.heap.size + 1, 1, none⟩ = false := by rw [hb9.frozen (p := ⟨w.heap.size + 1, 1, none⟩) (by simp; omega)]; exact Z1
      replace Z2 : w9.frozen? ⟨w.heap.size + 1, 2, none⟩ = false := by rw [hb9.frozen (p := ⟨w.heap.size + 1, 2, none⟩) (by simp; omega)]; exact Z2
      replace Z3 : w9.frozen? ⟨w.heap.size + 1, 3, none⟩ = false := by rw [hb9.frozen (p := ⟨w.heap.size + 1, 3, none⟩) (by simp; omega)]; exact Z3
      replace Z4 : w9.frozen? ⟨w.heap.size + 1, 4, none⟩ = false := by rw [hb9.frozen (p := ⟨w.heap.size + 1, 4, none⟩) (by simp; omega)]; exact Z4
      have b9 := b1.trans (hb9.mono b1.size)
      have hr := res5 (w := w9) (r := w.heap.size + 1) (.int .i64 3) (.int .i64 0) (.int .i64 0) (.slice none 0 0) (.slice none 0 0) R0 R1 R2 R3 R4
      go_wp2
      refine bodyPost_ret (v := .agg #[.int .i64 3, .int .i64 0, .int .i64 0, .slice none 0 0, .slice none 0 0]) (by simp only [results, Try.results23]; simp [go_sem, hr.1, hr.2.1, hr.2.2.1, hr.2.2.2.1, hr.2.2.2.2]) rfl ⟨_, _, rfl, ?_, b9.trans (show Below w.heap.size w9 _ from (by repeat' (first | with_reducible exact Below.refl _ _ | with_reducible assumption | with_reducible refine Below.drew ?_ | with_reducible refine Below.alloc ?_ ?_ _ | with_reducible refine Below.setCell ?_ ?_ _ | (simp; done) | (simp; omega) | omega)))⟩
      exact GOwn.nil _ _ _ (by have := b9.size; simp [World.setCell]; omega)
    | true =>
      cases k1 : decide (f ≤ t ∧ t ≤ (cs.length : Int)) with
      | false =>
        rw [eraseRes_def, gres_bad hG (by first | (have h0 := of_decide_eq_false k0; unfold eraseOk; rw [Bool.and_eq_false_iff, Bool.and_eq_false_iff, decide_eq_false_iff_not, decide_eq_false_iff_not]; omega) | (have h1 := of_decide_eq_false k1; have h0 := of_decide_eq_true k0; unfold eraseOk; rw [Bool.and_eq_false_iff, Bool.and_eq_false_iff, decide_eq_false_iff_not, decide_eq_false_iff_not]; omega) | (unfold eraseOk; rw [k2]; simp))]
        rw [hG] at HF
        simp only [gbad]
        go_enter Try.func23, Try.ntmps23
        go_wp2_with fail
        refine HF.mono ?_
        rintro e w1 ⟨rfl, hb1⟩
        have A0 : w1.cell? ⟨w.heap.size, 0, none⟩ = some (.int .i64 r) := cellb hb1 (by simp [go_sem])
        have A1 : w1.cell? ⟨w.heap.size, 1, none⟩ = some (.int .i64 wd) := cellb hb1 (by simp [go_sem])
        have A2 : w1.cell? ⟨w.heap.size, 2, none⟩ = some (.slice a1 cs.length c1) := cellb hb1 (by simp [go_sem])
        have A3 : w1.cell? ⟨w.heap.size, 3, none⟩ = some (.slice a2 bs.length c2) := cellb hb1 (by simp [go_sem])
        have R0 : w1.cell? ⟨w.heap.size + 1, 0, none⟩ = some (.int .i64 0) := cellb hb1 (by simp [go_sem])
        have Z0 : w1.frozen? ⟨w.heap.size + 1, 0, none⟩ = false := by rw [hb1.frozen (p := ⟨w.heap.size + 1, 0, none⟩) (by simp)]; simp [go_sem]
        have R1 : w1.cell? ⟨w.heap.size + 1, 1, none⟩ = some (.int .i64 0) := cellb hb1 (by simp [go_sem])
        have Z1 : w1.frozen? ⟨w.heap.size + 1, 1, none⟩ = false := by rw [hb1.frozen (p := ⟨w.heap.size + 1, 1, none⟩) (by simp)]; simp [go_sem]
        have R2 : w1.cell? ⟨w.heap.size + 1, 2, none⟩ = some (.int .i64 0) := cellb hb1 (by simp [go_sem])
        have Z2 : w1.frozen? ⟨w.heap.size + 1, 2, none⟩ = false := by rw [hb1.frozen (p := ⟨w.heap.size + 1, 2, none⟩) (by simp)]; simp [go_sem]
        have R3 : w1.cell? ⟨w.heap.size + 1, 3, none⟩ = some (.slice none 0 0) := cellb hb1 (by simp [go_sem])
        have Z3 : w1.frozen? ⟨w.heap.size + 1, 3, none⟩ = false := by rw [hb1.frozen (p := ⟨w.heap.size + 1, 3, none⟩) (by simp)]; simp [go_sem]
        have R4 : w1.cell? ⟨w.heap.size + 1, 4, none⟩ = some (.slice none 0 0) := cellb hb1 (by simp [go_sem])
        have Z4 : w1.frozen? ⟨w.heap.size + 1, 4, none⟩ = false := by rw [hb1.frozen (p := ⟨w.heap.size + 1, 4, none⟩) (by simp)]; simp [go_sem]
        have hs1 : w.heap.size + 2 ≤ w1.heap.size := by have := hb1.size; simp at this; omega
        have b1 : Below w.heap.size w w1 := hb0.trans (hb1.mono (by simp; omega))
        clear hb1 hb0 HF
        go_wp2_with (first
          | (go_at_call 50; refine (l1In_calls _ _ _ _).mono ?_; rintro e w' ⟨rfl, hw⟩; rw [hw]; clear hw w'; first | rw [k0] | rw [k1])
          | (go_at_call 51; refine (l3Attr_calls _ _).mono ?_; rintro e w' ⟨rfl, hw⟩; rw [hw]; clear hw w'; rw [k2]))
        go_wp2_with fail
        refine (l3Bad_calls 3 _).mono ?_
        rintro e w9 ⟨rfl, hb9⟩
        replace R0 := cellb hb9 R0
        replace R1 := cellb hb9 R1
        replace R2 := cellb hb9 R2
        replace R3 := cellb hb9 R3
        replace R4 := cellb hb9 R4
        replace Z0 : w9.frozen? ⟨w.heap.size + 1, 0, none⟩ = false := by rw [hb9.frozen (p := ⟨w.heap.size + 1, 0, none⟩) (by simp; omega)]; exact Z0
        replace Z1 : w9.frozen? ⟨w.heap.size + 1, 1, none⟩ = false := by rw [hb9.frozen (p := ⟨w.heap.size + 1, 1, none⟩) (by simp; omega)]; exact Z1
        replace Z2 : w9.frozen? ⟨w.heap.size + 1, 2, none⟩ = false := by rw [hb9.frozen (p := ⟨w.heap.size + 1, 2, none⟩) (by simp; omega)]; exact Z2
        replace Z3 : w9.frozen? ⟨w.heap.size + 1, 3, none⟩ = false := by rw [hb9.frozen (p := ⟨w.heap.size + 1, 3, none⟩) (by simp; omega)]; exact Z3
        replace Z4 : w9.frozen? ⟨w.heap.size + 1, 4, none⟩ = false := by rw [hb9.frozen (p := ⟨w.heap.size + 1, 4, none⟩) (by simp; omega)]; exact Z4
        have b9 := b1.trans (hb9.mono b1.size)
        have hr := res5 (w := w9) (r := w.heap.size + 1) (.int .i64 3) (.int .i64 0) (.int .i64 0) (.slice none 0 0) (.slice none 0 0) R0 R1 R2 R3 R4
        go_wp2
        refine bodyPost_ret (v := .agg #[.int .i64 3, .int .i64 0, .int .i64 0, .slice none 0 0, .slice none 0 0]) (by simp only [results, Try.results23]; simp [go_sem, hr.1, hr.2.1, hr.2.2.1, hr.2.2.2.1, hr.2.2.2.2]) rfl ⟨_, _, rfl, ?_, b9.trans (show Below w.heap.size w9 _ from (by repeat' (first | with_reducible exact Below.refl _ _ | with_reducible assumption | with_reducible refine Below.drew ?_ | with_reducible refine Below.alloc ?_ ?_ _ | with_reducible refine Below.setCell ?_ ?_ _ | (simp; done) | (simp; omega) | omega)))⟩
        exact GOwn.nil _ _ _ (by have := b9.size; simp [World.setCell]; omega)
      | true =>
        cases k2 : atB at' with
        | false =>
          rw [eraseRes_def, gres_bad hG (by first | (have h0 := of_decide_eq_false k0; unfold eraseOk; rw [Bool.and_eq_false_iff, Bool.and_eq_false_iff, decide_eq_false_iff_not, decide_eq_false_iff_not]; omega) | (have h1 := of_decide_eq_false k1; have h0 := of_decide_eq_true k0; unfold eraseOk; rw [Bool.and_eq_false_iff, Bool.and_eq_false_iff, decide_eq_false_iff_not, decide_eq_false_iff_not]; omega) | (unfold eraseOk; rw [k2]; simp))]
          rw [hG] at HF
          simp only [gbad]
          go_enter Try.func23, Try.ntmps23
          go_wp2_with fail
          refine HF.mono ?_
          rintro e w1 ⟨rfl, hb1⟩
          have A0 : w1.cell? ⟨w.heap.size, 0, none⟩ = some (.int .i64 r) := cellb hb1 (by simp [go_sem])
          have A1 : w1.cell? ⟨w.heap.size, 1, none⟩ = some (.int .i64 wd) := cellb hb1 (by simp [go_sem])
          have A2 : w1.cell? ⟨w.heap.size, 2, none⟩ = some (.slice a1 cs.length c1) := cellb hb1 (by simp [go_sem])
          have A3 : w1.cell? ⟨w.heap.size, 3, none⟩ = some (.slice a2 bs.length c2) := cellb hb1 (by simp [go_sem])
          have R0 : w1.cell? ⟨w.heap.size + 1, 0, none⟩ = some (.int .i64 0) := cellb hb1 (by simp [go_sem])
          have Z0 : w1.frozen? ⟨w.heap.size + 1, 0, none⟩ = false := by rw [hb1.frozen (p := ⟨w.heap.size + 1, 0, none⟩) (by simp)]; simp [go_sem]
          have R1 : w1.cell? ⟨w.heap.size + 1, 1, none⟩ = some (.int .i64 0) := cellb hb1 (by simp [go_sem])
          have Z1 : w1.frozen? ⟨w.heap.size + 1, 1, none⟩ = false := by rw [hb1.frozen (p := ⟨w.heap.size + 1, 1, none⟩) (by simp)]; simp [go_sem]
          have R2 : w1.cell? ⟨w.heap.size + 1, 2, none⟩ = some (.int .i64 0) := cellb hb1 (by simp [go_sem])
          have Z2 : w1.frozen? ⟨w.heap.size + 1, 2, none⟩ = false := by rw [hb1.frozen (p := ⟨w.heap.size + 1, 2, none⟩) (by simp)]; simp [go_sem]
          have R3 : w1.cell? ⟨w.heap.size + 1, 3, none⟩ = some (.slice none 0 0) := cellb hb1 (by simp [go_sem])
          have Z3 : w1.frozen? ⟨w.heap.size + 1, 3, none⟩ = false := by rw [hb1.frozen (p := ⟨w.heap.size + 1, 3, none⟩) (by simp)]; simp [go_sem]
          have R4 : w1.cell? ⟨w.heap.size + 1, 4, none⟩ = some (.slice none 0 0) := cellb hb1 (by simp [go_sem])
          have Z4 : w1.frozen? ⟨w.heap.size + 1, 4, none⟩ = false := by rw [hb1.frozen (p := ⟨w.heap.size + 1, 4, none⟩) (by simp)]; simp [go_sem]
          have hs1 : w.heap.size + 2 ≤ w1.heap.size := by have := hb1.size; simp at this; omega
          have b1 : Below w.heap.size w w1 := hb0.trans (hb1.mono (by simp; omega))
          clear hb1 hb0 HF
          go_wp2_with (first
            | (go_at_call 50; refine (l1In_calls _ _ _ _).mono ?_; rintro e w' ⟨rfl, hw⟩; rw [hw]; clear hw w'; first | rw [k0] | rw [k1])
            | (go_at_call 51; refine (l3Attr_calls _ _).mono ?_; rintro e w' ⟨rfl, hw⟩; rw [hw]; clear hw w'; rw [k2]))
          go_wp2_with fail
          refine (l3Bad_calls 3 _).mono ?_
          rintro e w9 ⟨rfl, hb9⟩
          replace R0 := cellb hb9 R0
          replace R1 := cellb hb9 R1
          replace R2 := cellb hb9 R2
          replace R3 := cellb hb9 R3
          replace R4 := cellb hb9 R4
          replace Z0 : w9.frozen? ⟨w.heap.size + 1, 0, none⟩ = false := by rw [hb9.frozen (p := ⟨w.heap.size + 1, 0, none⟩) (by simp; omega)]; exact Z0
          replace Z1 : w9.frozen? ⟨w.heap.size + 1, 1, none⟩ = false := by rw [hb9.frozen (p := ⟨w.heap.size + 1, 1, none⟩) (by simp; omega)]; exact Z1
          replace Z2 : w9.frozen? ⟨w.heap.size + 1, 2, none⟩ = false := by rw [hb9.frozen (p := ⟨w.heap.size + 1, 2, none⟩) (by simp; omega)]; exact Z2
          replace Z3 : w9.frozen? ⟨w.heap.size + 1, 3, none⟩ = false := by rw [hb9.frozen (p := ⟨w.heap.size + 1, 3, none⟩) (by simp; omega)]; exact Z3
          replace Z4 : w9.frozen? ⟨w.heap.size + 1, 4, none⟩ = false := by rw [hb9.frozen (p := ⟨w.heap.size + 1, 4, none⟩) (by simp; omega)]; exact Z4
          have b9 := b1.trans (hb9.mono b1.size)
          have hr := res5 (w := w9) (r := w.heap.size + 1) (.int .i64 3) (.int .i64 0) (.int .i64 0) (.slice none 0 0) (.slice none 0 0) R0 R1 R2 R3 R4
          go_wp2
          refine bodyPost_ret (v := .agg #[.int .i64 3, .int .i64 0, .int .i64 0, .slice none 0 0, .slice none 0 0]) (by simp only [results, Try.results23]; simp [go_sem, hr.1, hr.2.1, hr.2.2.1, hr.2.2.2.1, hr.2.2.2.2]) rfl ⟨_, _, rfl, ?_, b9.trans (show Below w.heap.size w9 _ from (by repeat' (first | with_reducible exact Below.refl _ _ | with_reducible assumption | with_reducible refine Below.drew ?_ | with_reducible refine Below.alloc ?_ ?_ _ | with_reducible refine Below.setCell ?_ ?_ _ | (simp; done) | (simp; omega) | omega)))⟩
          exact GOwn.nil _ _ _ (by have := b9.size; simp [World.setCell]; omega)
        | true =>
          have j0 := of_decide_eq_true k0
          have j1 := of_decide_eq_true k1
          rw [eraseRes_def, gres_ok hG (by unfold eraseOk; rw [k2, decide_eq_true (show 0 ≤ f ∧ f ≤ t by omega), decide_eq_true (show 0 ≤ t ∧ t ≤ (cs.length : Int) by omega)]; rfl)]
          rw [hG] at HF
          have hfine := gfine_of_code hG
          obtain ⟨n1, n2, hq, n8, n9, n10⟩ := hfine.short
          clear hfine hG
          obtain ⟨F, rfl⟩ : ∃ F : Nat, f = F := ⟨f.toNat, by omega⟩
          obtain ⟨U, rfl⟩ : ∃ U : Nat, t = U := ⟨t.toNat, by omega⟩
          have u1 : F ≤ U := by omega
          have u2 : U ≤ cs.length := by omega
          clear j0 j1
          go_enter Try.func23, Try.ntmps23
          go_wp2_with fail
          refine HF.mono ?_
          rintro e w1 ⟨rfl, hb1⟩
          have A0 : w1.cell? ⟨w.heap.size, 0, none⟩ = some (.int .i64 r) := cellb hb1 (by simp [go_sem])
          have A1 : w1.cell? ⟨w.heap.size, 1, none⟩ = some (.int .i64 wd) := cellb hb1 (by simp [go_sem])
          have A2 : w1.cell? ⟨w.heap.size, 2, none⟩ = some (.slice a1 cs.length c1) := cellb hb1 (by simp [go_sem])
          have A3 : w1.cell? ⟨w.heap.size, 3, none⟩ = some (.slice a2 bs.length c2) := cellb hb1 (by simp [go_sem])
          have R0 : w1.cell? ⟨w.heap.size + 1, 0, none⟩ = some (.int .i64 0) := cellb hb1 (by simp [go_sem])
          have Z0 : w1.frozen? ⟨w.heap.size + 1, 0, none⟩ = false := by rw [hb1.frozen (p := ⟨w.heap.size + 1, 0, none⟩) (by simp)]; simp [go_sem]
          have R1 : w1.cell? ⟨w.heap.size + 1, 1, none⟩ = some (.int .i64 0) := cellb hb1 (by simp [go_sem])
          have Z1 : w1.frozen? ⟨w.heap.size + 1, 1, none⟩ = false := by rw [hb1.frozen (p := ⟨w.heap.size + 1, 1, none⟩) (by simp)]; simp [go_sem]
          have R2 : w1.cell? ⟨w.heap.size + 1, 2, none⟩ = some (.int .i64 0) := cellb hb1 (by simp [go_sem])
          have Z2 : w1.frozen? ⟨w.heap.size + 1, 2, none⟩ = false := by rw [hb1.frozen (p := ⟨w.heap.size + 1, 2, none⟩) (by simp)]; simp [go_sem]
          have R3 : w1.cell? ⟨w.heap.size + 1, 3, none⟩ = some (.slice none 0 0) := cellb hb1 (by simp [go_sem])
          have Z3 : w1.frozen? ⟨w.heap.size + 1, 3, none⟩ = false := by rw [hb1.frozen (p := ⟨w.heap.size + 1, 3, none⟩) (by simp)]; simp [go_sem]
          have R4 : w1.cell? ⟨w.heap.size + 1, 4, none⟩ = some (.slice none 0 0) := cellb hb1 (by simp [go_sem])
          have Z4 : w1.frozen? ⟨w.heap.size + 1, 4, none⟩ = false := by rw [hb1.frozen (p := ⟨w.heap.size + 1, 4, none⟩) (by simp)]; simp [go_sem]
          have hs1 : w.heap.size + 2 ≤ w1.heap.size := by have := hb1.size; simp at this; omega
          have b1 : Below w.heap.size w w1 := hb0.trans (hb1.mono (by simp; omega))
          clear hb1 hb0 HF
          go_wp2_with (first
            | (go_at_call 50; refine (l1In_calls _ _ _ _).mono ?_; rintro e w' ⟨rfl, hw⟩; rw [hw]; clear hw w'; first | rw [k0] | rw [k1])
            | (go_at_call 51; refine (l3Attr_calls _ _).mono ?_; rintro e w' ⟨rfl, hw⟩; rw [hw]; clear hw w'; rw [k2]))
          refine (l3Copy_calls r wd cs bs _ _ w1 hn1 hn2 (h1.below b1) (h2.below b1)).mono ?_
          rintro e w2 ⟨x, y, m, rfl, m1, m2, ox, xm, oy, hb2⟩
          replace A0 := cellb hb2 A0
          replace A1 := cellb hb2 A1
          replace A2 := cellb hb2 A2
          replace A3 := cellb hb2 A3
          replace R0 := cellb hb2 R0
          replace R1 := cellb hb2 R1
          replace R2 := cellb hb2 R2
          replace R3 := cellb hb2 R3
          replace R4 := cellb hb2 R4
          replace Z0 : w2.frozen? ⟨w.heap.size + 1, 0, none⟩ = false := by rw [hb2.frozen (p := ⟨w.heap.size + 1, 0, none⟩) (by simp; omega)]; exact Z0
          replace Z1 : w2.frozen? ⟨w.heap.size + 1, 1, none⟩ = false := by rw [hb2.frozen (p := ⟨w.heap.size + 1, 1, none⟩) (by simp; omega)]; exact Z1
          replace Z2 : w2.frozen? ⟨w.heap.size + 1, 2, none⟩ = false := by rw [hb2.frozen (p := ⟨w.heap.size + 1, 2, none⟩) (by simp; omega)]; exact Z2
          replace Z3 : w2.frozen? ⟨w.heap.size + 1, 3, none⟩ = false := by rw [hb2.frozen (p := ⟨w.heap.size + 1, 3, none⟩) (by simp; omega)]; exact Z3
          replace Z4 : w2.frozen? ⟨w.heap.size + 1, 4, none⟩ = false := by rw [hb2.frozen (p := ⟨w.heap.size + 1, 4, none⟩) (by simp; omega)]; exact Z4
          have b2 := b1.trans (hb2.mono b1.size)
          have hs2 : w1.heap.size ≤ w2.heap.size := hb2.size
          obtain ⟨bx, cx, rfl, hcx, _, x1, x2, hrow⟩ := own_row ox n8
          obtain ⟨ay, cy, rfl, hyc⟩ := own_room2 oy
          have x3 : bx < m := xm bx rfl
          have HX := hide hrow
          have HY := hide oy
          clear hrow oy ox xm hb2
          go_wp2_with fail
          have hb3 : Below w2.heap.size w2 (w2.alloc (.cells #[.int .i64 r, .int .i64 wd, .slice (some ⟨bx, 0, none⟩) cs.length cx, .slice ay bs.length cy] 24)) := (by repeat' (first | with_reducible exact Below.refl _ _ | with_reducible assumption | with_reducible refine Below.drew ?_ | with_reducible refine Below.alloc ?_ ?_ _ | with_reducible refine Below.setCell ?_ ?_ _ | (simp; done) | (simp; omega) | omega))
          have S0 : (w2.alloc (.cells #[.int .i64 r, .int .i64 wd, .slice (some ⟨bx, 0, none⟩) cs.length cx, .slice ay bs.length cy] 24)).cell? ⟨w2.heap.size, 0, none⟩ = some (.int .i64 r) := by simp [go_sem]
          have S1 : (w2.alloc (.cells #[.int .i64 r, .int .i64 wd, .slice (some ⟨bx, 0, none⟩) cs.length cx, .slice ay bs.length cy] 24)).cell? ⟨w2.heap.size, 1, none⟩ = some (.int .i64 wd) := by simp [go_sem]
          have S2 : (w2.alloc (.cells #[.int .i64 r, .int .i64 wd, .slice (some ⟨bx, 0, none⟩) cs.length cx, .slice ay bs.length cy] 24)).cell? ⟨w2.heap.size, 2, none⟩ = some (.slice (some ⟨bx, 0, none⟩) cs.length cx) := by simp [go_sem]
          have S3 : (w2.alloc (.cells #[.int .i64 r, .int .i64 wd, .slice (some ⟨bx, 0, none⟩) cs.length cx, .slice ay bs.length cy] 24)).cell? ⟨w2.heap.size, 3, none⟩ = some (.slice ay bs.length cy) := by simp [go_sem]
          have hs3 : (w2.alloc (.cells #[.int .i64 r, .int .i64 wd, .slice (some ⟨bx, 0, none⟩) cs.length cx, .slice ay bs.length cy] 24)).heap.size = w2.heap.size + 1 := by simp
          generalize (w2.alloc (.cells #[.int .i64 r, .int .i64 wd, .slice (some ⟨bx, 0, none⟩) cs.length cx, .slice ay bs.length cy] 24)) = w3 at *
          replace A0 := cellb hb3 A0
          replace A1 := cellb hb3 A1
          replace A2 := cellb hb3 A2
          replace A3 := cellb hb3 A3
          replace R0 := cellb hb3 R0
          replace R1 := cellb hb3 R1
          replace R2 := cellb hb3 R2
          replace R3 := cellb hb3 R3
          replace R4 := cellb hb3 R4
          replace Z0 : w3.frozen? ⟨w.heap.size + 1, 0, none⟩ = false := by rw [hb3.frozen (p := ⟨w.heap.size + 1, 0, none⟩) (by simp; omega)]; exact Z0
          replace Z1 : w3.frozen? ⟨w.heap.size + 1, 1, none⟩ = false := by rw [hb3.frozen (p := ⟨w.heap.size + 1, 1, none⟩) (by simp; omega)]; exact Z1
          replace Z2 : w3.frozen? ⟨w.heap.size + 1, 2, none⟩ = false := by rw [hb3.frozen (p := ⟨w.heap.size + 1, 2, none⟩) (by simp; omega)]; exact Z2
          replace Z3 : w3.frozen? ⟨w.heap.size + 1, 3, none⟩ = false := by rw [hb3.frozen (p := ⟨w.heap.size + 1, 3, none⟩) (by simp; omega)]; exact Z3
          replace Z4 : w3.frozen? ⟨w.heap.size + 1, 4, none⟩ = false := by rw [hb3.frozen (p := ⟨w.heap.size + 1, 4, none⟩) (by simp; omega)]; exact Z4
          have b3 := b2.trans (hb3.mono b2.size)
          replace HX := hide (HX.out.below hb3 x2)
          replace HY := hide (own_below HY.out hb3)
          clear hb3 b2
          refine (l3Erase_calls w2.heap.size bx cs.length cx F U at' _ w3 S2 (by omega) HX.out u2 hn1 u1).mono ?_
          rintro e w5 ⟨⟨u5, rfl⟩, hr5, ht5⟩
          replace A0 := ht5.cellAt A0 (by omega)
          replace A1 := ht5.cellAt A1 (by omega)
          replace A2 := ht5.cellAt A2 (by omega)
          replace A3 := ht5.cellAt A3 (by omega)
          replace R0 := ht5.cellAt R0 (by omega)
          replace R1 := ht5.cellAt R1 (by omega)
          replace R2 := ht5.cellAt R2 (by omega)
          replace R3 := ht5.cellAt R3 (by omega)
          replace R4 := ht5.cellAt R4 (by omega)
          replace S0 := ht5.cellAt S0 (by omega)
          replace S1 := ht5.cellAt S1 (by omega)
          replace S2 := ht5.cellAt S2 (by omega)
          replace S3 := ht5.cellAt S3 (by omega)
          replace Z0 := ht5.frozenAt (by omega) Z0
          replace Z1 := ht5.frozenAt (by omega) Z1
          replace Z2 := ht5.frozenAt (by omega) Z2
          replace Z3 := ht5.frozenAt (by omega) Z3
          replace Z4 := ht5.frozenAt (by omega) Z4
          have b5 : Below w.heap.size w w5 := b3.trans (ht5.below (by omega) (by omega))
          have hs5 : w3.heap.size ≤ w5.heap.size := ht5.size
          have l5 := HY.out.lt
          replace HY := hide (own_touch HY.out ht5 (fun k hk => by have := (l5 k hk).1; omega))
          clear l5 b3
          replace HX := hide hr5
          clear hr5 ht5
          have hr := res5 (w := w5) (r := w.heap.size + 1) (.int .i64 0) (.int .i64 r) (.int .i64 wd) (.slice (some ⟨bx, 0, none⟩) cs.length cx) (.slice ay bs.length cy) R0 R1 R2 R3 R4
          go_wp2
          refine bodyPost_ret (v := .agg #[.int .i64 0, .int .i64 r, .int .i64 wd, .slice (some ⟨bx, 0, none⟩) cs.length cx, .slice ay bs.length cy]) (by simp only [results, Try.results23]; simp [go_sem, hr.1, hr.2.1, hr.2.2.1, hr.2.2.2.1, hr.2.2.2.2]) rfl ⟨_, _, rfl, ?_, b5.trans (show Below w.heap.size w5 _ from (by repeat' (first | with_reducible exact Below.refl _ _ | with_reducible assumption | with_reducible refine Below.drew ?_ | with_reducible refine Below.alloc ?_ ?_ _ | with_reducible refine Below.setCell ?_ ?_ _ | (simp; done) | (simp; omega) | omega)))⟩
          refine (gown_of (w := w5) (base := w1.heap.size) (m := m) (HX.out.congr (fun i hi => ?_)) (by omega) (by omega) HY.out (by omega) (by omega) (by simp [World.setCell]) (fun k _ => ?_) (by omega)).mono (by omega) (Nat.le_refl _)
          · unfold eraseF
            by_cases e : F ≤ i ∧ i < U
            · rw [if_pos e, if_pos (by omega)]
            · rw [if_neg e, if_neg (by omega)]
          · by_cases hk : k < w1.heap.size
            · exact .inr hk
            · left
              simp only [World.setCell, Array.getElem?_modify]
              repeat rw [if_neg (by omega)]
  · rw [eraseRes_def, gres_fault hG]
    generalize gridCode r wd cs bs = code at *
    have hcb : (code != 0) = true := by simpa using hG
    simp only [gbad]
    go_enter Try.func23, Try.ntmps23
    go_wp2_with fail
    refine HF.mono ?_
    rintro e w1 ⟨rfl, hb1⟩
    have A0 : w1.cell? ⟨w.heap.size, 0, none⟩ = some (.int .i64 r) := cellb hb1 (by simp [go_sem])
    have A1 : w1.cell? ⟨w.heap.size, 1, none⟩ = some (.int .i64 wd) := cellb hb1 (by simp [go_sem])
    have A2 : w1.cell? ⟨w.heap.size, 2, none⟩ = some (.slice a1 cs.length c1) := cellb hb1 (by simp [go_sem])
    have A3 : w1.cell? ⟨w.heap.size, 3, none⟩ = some (.slice a2 bs.length c2) := cellb hb1 (by simp [go_sem])
    have R0 : w1.cell? ⟨w.heap.size + 1, 0, none⟩ = some (.int .i64 0) := cellb hb1 (by simp [go_sem])
    have Z0 : w1.frozen? ⟨w.heap.size + 1, 0, none⟩ = false := by rw [hb1.frozen (p := ⟨w.heap.size + 1, 0, none⟩) (by simp)]; simp [go_sem]
    have R1 : w1.cell? ⟨w.heap.size + 1, 1, none⟩ = some (.int .i64 0) := cellb hb1 (by simp [go_sem])
    have Z1 : w1.frozen? ⟨w.heap.size + 1, 1, none⟩ = false := by rw [hb1.frozen (p := ⟨w.heap.size + 1, 1, none⟩) (by simp)]; simp [go_sem]
    have R2 : w1.cell? ⟨w.heap.size + 1, 2, none⟩ = some (.int .i64 0) := cellb hb1 (by simp [go_sem])
    have Z2 : w1.frozen? ⟨w.heap.size + 1, 2, none⟩ = false := by rw [hb1.frozen (p := ⟨w.heap.size + 1, 2, none⟩) (by simp)]; simp [go_sem]
    have R3 : w1.cell? ⟨w.heap.size + 1, 3, none⟩ = some (.slice none 0 0) := cellb hb1 (by simp [go_sem])
    have Z3 : w1.frozen? ⟨w.heap.size + 1, 3, none⟩ = false := by rw [hb1.frozen (p := ⟨w.heap.size + 1, 3, none⟩) (by simp)]; simp [go_sem]
    have R4 : w1.cell? ⟨w.heap.size + 1, 4, none⟩ = some (.slice none 0 0) := cellb hb1 (by simp [go_sem])
    have Z4 : w1.frozen? ⟨w.heap.size + 1, 4, none⟩ = false := by rw [hb1.frozen (p := ⟨w.heap.size + 1, 4, none⟩) (by simp)]; simp [go_sem]
    have hs1 : w.heap.size + 2 ≤ w1.heap.size := by have := hb1.size; simp at this; omega
    have b1 : Below w.heap.size w w1 := hb0.trans (hb1.mono (by simp; omega))
    clear hb1 hb0 HF
    go_wp2_with fail
    refine (l3Bad_calls code _).mono ?_
    rintro e w9 ⟨rfl, hb9⟩
    replace R0 := cellb hb9 R0
    replace R1 := cellb hb9 R1
    replace R2 := cellb hb9 R2
    replace R3 := cellb hb9 R3
    replace R4 := cellb hb9 R4
    replace Z0 : w9.frozen? ⟨w.heap.size + 1, 0, none⟩ = false := by rw [hb9.frozen (p := ⟨w.heap.size + 1, 0, none⟩) (by simp; omega)]; exact Z0
    replace Z1 : w9.frozen? ⟨w.heap.size + 1, 1, none⟩ = false := by rw [hb9.frozen (p := ⟨w.heap.size + 1, 1, none⟩) (by simp; omega)]; exact Z1
    replace Z2 : w9.frozen? ⟨w.heap.size + 1, 2, none⟩ = false := by rw [hb9.frozen (p := ⟨w.heap.size + 1, 2, none⟩) (by simp; omega)]; exact Z2
    replace Z3 : w9.frozen? ⟨w.heap.size + 1, 3, none⟩ = false := by rw [hb9.frozen (p := ⟨w.heap.size + 1, 3, none⟩) (by simp; omega)]; exact Z3
    replace Z4 : w9.frozen? ⟨w.heap.size + 1, 4, none⟩ = false := by rw [hb9.frozen (p := ⟨w.heap.size + 1, 4, none⟩) (by simp; omega)]; exact Z4
    have b9 := b1.trans (hb9.mono b1.size)
    have hr := res5 (w := w9) (r := w.heap.size + 1) (.int .i64 code) (.int .i64 0) (.int .i64 0) (.slice none 0 0) (.slice none 0 0) R0 R1 R2 R3 R4
    go_wp2
    refine bodyPost_ret (v := .agg #[.int .i64 code, .int .i64 0, .int .i64 0, .slice none 0 0, .slice none 0 0]) (by simp only [results, Try.results23]; simp [go_sem, hr.1, hr.2.1, hr.2.2.1, hr.2.2.2.1, hr.2.2.2.2]) rfl ⟨_, _, rfl, ?_, b9.trans (show Below w.heap.size w9 _ from (by repeat' (first | with_reducible exact Below.refl _ _ | with_reducible assumption | with_reducible refine Below.drew ?_ | with_reducible refine Below.alloc ?_ ?_ _ | with_reducible refine Below.setCell ?_ ?_ _ | (simp; done) | (simp; omega) | omega)))⟩
    exact GOwn.nil _ _ _ (by have := b9.size; simp [World.setCell]; omega)

end Go.Proofs.Ytbndncfkkhjkoai
