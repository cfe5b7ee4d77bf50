/-
  What PutCell answers, of the program and of the model.
-/
import Derived.Test.YtbndncfkkhjkoaiGridRes
import Derived.Test.YtbndncfkkhjkoaiSlideFns
import Derived.Test.YtbndncfkkhjkoaiRowFns3
import Derived.Test.YtbndncfkkhjkoaiShiftFns
import Derived.Deep.RegionHeld3
import Derived.Deep.RegionHeld
namespace Go.Proofs.Ytbndncfkkhjkoai
open Go.ChangeShapes Go.WideShapes Go.ChangeAt Go.RowKit
set_option linter.unusedVariables false
set_option linter.unusedSimpArgs false
set_option maxRecDepth 20000

def putcF (k : Nat) (f : Nat → Int × Int) (p : Int × Int) (i : Nat) : Int × Int := if i = k then p else f i
def putcRes (r wd : Int) (cs bs : List (Int × Int)) (y x c g : Int) : GRes := gres r wd cs bs (placeB r wd y x && cellB (c, g)) ⟨0, r, wd, mkL cs.length (putcF (y * wd + x).toNat (fun i => cs.getD i (0, 0)) (c, g)), bs⟩
theorem putcRes_def (r wd : Int) (cs bs : List (Int × Int)) (y x c g : Int) : putcRes r wd cs bs y x c g = gres r wd cs bs (placeB r wd y x && cellB (c, g)) ⟨0, r, wd, mkL cs.length (putcF (y * wd + x).toNat (fun i => cs.getD i (0, 0)) (c, g)), bs⟩ := rfl
theorem putcRes_len (r wd : Int) (cs bs : List (Int × Int)) (y x c g : Int) : (putcRes r wd cs bs y x c g).cs.length ≤ 72 ∧ (putcRes r wd cs bs y x c g).bs.length ≤ 60 := gres_len (fun h => by obtain ⟨_, _, _, h1, h2, h3⟩ := h.short; exact ⟨by rw [mkL_length]; exact h2, h3⟩)

set_option maxHeartbeats 2000000 in
theorem implPutCell_calls (r wd : Int) (cs bs : List (Int × Int)) (y x c g : Int) (v1 v2 : Value) (w : World) (hn1 : cs.length ≤ 1048576) (hn2 : bs.length ≤ 1048576) (h1 : PRead w v1 cs) (h2 : PRead w v2 bs) :
    Calls Try.prog 18 #[.agg #[.int .i64 r, .int .i64 wd, v1, v2], .int .i64 y, .int .i64 x, .agg #[.int .i64 c, .int .i64 g]] w fun e w' => ∃ v5 v6, e = .returned (.agg #[.int .i64 (putcRes r wd cs bs y x c g).code, .int .i64 (putcRes r wd cs bs y x c g).rows, .int .i64 (putcRes r wd cs bs y x c g).wd, v5, v6]) ∧ GOwn w.heap.size w'.heap.size w' v5 v6 (putcRes r wd cs bs y x c g).cs (putcRes r wd cs bs y x c g).bs ∧ Below w.heap.size w w' := by
  have h1' := h1
  obtain ⟨a1, c1, rfl, hx1⟩ := h1'
  clear hx1
  have h2' := h2
  obtain ⟨a2, c2, rfl, hx2⟩ := h2'
  clear hx2
  have hb0 : Below w.heap.size w (((w.alloc (.cells #[.int .i64 r, .int .i64 wd, .slice a1 cs.length c1, .slice a2 bs.length c2] 24)).alloc (.cells #[.int .i64 c, .int .i64 g] 39)).alloc (.cells #[.int .i64 0, .int .i64 0, .int .i64 0, .slice none 0 0, .slice none 0 0] 26)) := (by repeat' (first | with_reducible exact Below.refl _ _ | with_reducible assumption | with_reducible refine Below.drew ?_ | with_reducible refine Below.alloc ?_ ?_ _ | with_reducible refine Below.setCell ?_ ?_ _ | (simp; done) | (simp; omega) | omega))
  have HF := implGridFault_calls r wd cs bs _ _ (((w.alloc (.cells #[.int .i64 r, .int .i64 wd, .slice a1 cs.length c1, .slice a2 bs.length c2] 24)).alloc (.cells #[.int .i64 c, .int .i64 g] 39)).alloc (.cells #[.int .i64 0, .int .i64 0, .int .i64 0, .slice none 0 0, .slice none 0 0] 26)) hn1 hn2 (h1.below hb0) (h2.below hb0)
  have hbd : gridCode r wd cs bs = 0 → 1 ≤ r ∧ r ≤ 6 ∧ 2 ≤ wd ∧ wd ≤ 12 := fun h => fine_bounds (gfine_of_code h)
  by_cases hG : gridCode r wd cs bs = 0
  · cases k0 : placeB r wd y x with
    | false =>
      obtain ⟨g1, g2, g3, g4⟩ := hbd hG
      rw [putcRes_def, gres_bad hG (by first | (rw [k0]; rfl) | (rw [k0, k1]; rfl))]
      rw [hG] at HF
      simp only [gbad]
      go_enter Try.func18, Try.ntmps18
      go_wp2_with fail
      refine HF.mono ?_
      rintro e w1 ⟨rfl, hb1⟩
      have A0 : w1.cell? ⟨w.heap.size, 0, none⟩ = some (.int .i64 r) := cellb hb1 (by simp [go_sem])
      have A1 : w1.cell? ⟨w.heap.size, 1, none⟩ = some (.int .i64 wd) := cellb hb1 (by simp [go_sem])
      have A2 : w1.cell? ⟨w.heap.size, 2, none⟩ = some (.slice a1 cs.length c1) := cellb hb1 (by simp [go_sem])
      have A3 : w1.cell? ⟨w.heap.size, 3, none⟩ = some (.slice a2 bs.length c2) := cellb hb1 (by simp [go_sem])
      have P0 : w1.cell? ⟨w.heap.size + 1, 0, none⟩ = some (.int .i64 c) := cellb hb1 (by simp [go_sem])
      have P1 : w1.cell? ⟨w.heap.size + 1, 1, none⟩ = some (.int .i64 g) := cellb hb1 (by simp [go_sem])
      have R0 : w1.cell? ⟨w.heap.size + 2, 0, none⟩ = some (.int .i64 0) := cellb hb1 (by simp [go_sem])
      have Z0 : w1.frozen? ⟨w.heap.size + 2, 0, none⟩ = false := by rw [hb1.frozen (p := ⟨w.heap.size + 2, 0, none⟩) (by simp)]; simp [go_sem]
      have R1 : w1.cell? ⟨w.heap.size + 2, 1, none⟩ = some (.int .i64 0) := cellb hb1 (by simp [go_sem])
      have Z1 : w1.frozen? ⟨w.heap.size + 2, 1, none⟩ = false := by rw [hb1.frozen (p := ⟨w.heap.size + 2, 1, none⟩) (by simp)]; simp [go_sem]
      have R2 : w1.cell? ⟨w.heap.size + 2, 2, none⟩ = some (.int .i64 0) := cellb hb1 (by simp [go_sem])
      have Z2 : w1.frozen? ⟨w.heap.size + 2, 2, none⟩ = false := by rw [hb1.frozen (p := ⟨w.heap.size + 2, 2, none⟩) (by simp)]; simp [go_sem]
      have R3 : w1.cell? ⟨w.heap.size + 2, 3, none⟩ = some (.slice none 0 0) := cellb hb1 (by simp [go_sem])
      have Z3 : w1.frozen? ⟨w.heap.size + 2, 3, none⟩ = false := by rw [hb1.frozen (p := ⟨w.heap.size + 2, 3, none⟩) (by simp)]; simp [go_sem]
      have R4 : w1.cell? ⟨w.heap.size + 2, 4, none⟩ = some (.slice none 0 0) := cellb hb1 (by simp [go_sem])
      have Z4 : w1.frozen? ⟨w.heap.size + 2, 4, none⟩ = false := by rw [hb1.frozen (p := ⟨w.heap.size + 2, 4, none⟩) (by simp)]; simp [go_sem]
      have hs1 : w.heap.size + 3 ≤ w1.heap.size := by have := hb1.size; simp at this; omega
      have b1 : Below w.heap.size w w1 := hb0.trans (hb1.mono (by simp; omega))
      clear hb1 hb0 HF
      go_wp2_with fail
      refine (isPlace_calls r wd y x a1 a2 cs.length bs.length c1 c2 g1 g2 g3 g4 _).mono ?_
      rintro e w7 ⟨rfl, hb7⟩
      rw [k0]
      replace A0 := cellb hb7 A0
      replace A1 := cellb hb7 A1
      replace A2 := cellb hb7 A2
      replace A3 := cellb hb7 A3
      replace P0 := cellb hb7 P0
      replace P1 := cellb hb7 P1
      replace R0 := cellb hb7 R0
      replace R1 := cellb hb7 R1
      replace R2 := cellb hb7 R2
      replace R3 := cellb hb7 R3
      replace R4 := cellb hb7 R4
      replace Z0 : w7.frozen? ⟨w.heap.size + 2, 0, none⟩ = false := by rw [hb7.frozen (p := ⟨w.heap.size + 2, 0, none⟩) (by simp; omega)]; exact Z0
      replace Z1 : w7.frozen? ⟨w.heap.size + 2, 1, none⟩ = false := by rw [hb7.frozen (p := ⟨w.heap.size + 2, 1, none⟩) (by simp; omega)]; exact Z1
      replace Z2 : w7.frozen? ⟨w.heap.size + 2, 2, none⟩ = false := by rw [hb7.frozen (p := ⟨w.heap.size + 2, 2, none⟩) (by simp; omega)]; exact Z2
      replace Z3 : w7.frozen? ⟨w.heap.size + 2, 3, none⟩ = false := by rw [hb7.frozen (p := ⟨w.heap.size + 2, 3, none⟩) (by simp; omega)]; exact Z3
      replace Z4 : w7.frozen? ⟨w.heap.size + 2, 4, none⟩ = false := by rw [hb7.frozen (p := ⟨w.heap.size + 2, 4, none⟩) (by simp; omega)]; exact Z4
      have b7 := b1.trans (hb7.mono b1.size)
      have hs7 : w1.heap.size ≤ w7.heap.size := hb7.size
      clear hb7 b1
      go_wp2_with (first
        | fail)
      have hr := res5 (w := w7) (r := w.heap.size + 2) (.int .i64 3) (.int .i64 0) (.int .i64 0) (.slice none 0 0) (.slice none 0 0) R0 R1 R2 R3 R4
      go_wp2
      refine bodyPost_ret (v := .agg #[.int .i64 3, .int .i64 0, .int .i64 0, .slice none 0 0, .slice none 0 0]) (by simp only [results, Try.results18]; simp [go_sem, hr.1, hr.2.1, hr.2.2.1, hr.2.2.2.1, hr.2.2.2.2]) rfl ⟨_, _, rfl, ?_, b7.trans (show Below w.heap.size w7 _ from (by repeat' (first | with_reducible exact Below.refl _ _ | with_reducible assumption | with_reducible refine Below.drew ?_ | with_reducible refine Below.alloc ?_ ?_ _ | with_reducible refine Below.setCell ?_ ?_ _ | (simp; done) | (simp; omega) | omega)))⟩
      exact GOwn.nil _ _ _ (by have := b7.size; simp [World.setCell]; omega)
    | true =>
      cases k1 : cellB (c, g) with
      | false =>
        obtain ⟨g1, g2, g3, g4⟩ := hbd hG
        rw [putcRes_def, gres_bad hG (by first | (rw [k0]; rfl) | (rw [k0, k1]; rfl))]
        rw [hG] at HF
        simp only [gbad]
        go_enter Try.func18, Try.ntmps18
        go_wp2_with fail
        refine HF.mono ?_
        rintro e w1 ⟨rfl, hb1⟩
        have A0 : w1.cell? ⟨w.heap.size, 0, none⟩ = some (.int .i64 r) := cellb hb1 (by simp [go_sem])
        have A1 : w1.cell? ⟨w.heap.size, 1, none⟩ = some (.int .i64 wd) := cellb hb1 (by simp [go_sem])
        have A2 : w1.cell? ⟨w.heap.size, 2, none⟩ = some (.slice a1 cs.length c1) := cellb hb1 (by simp [go_sem])
        have A3 : w1.cell? ⟨w.heap.size, 3, none⟩ = some (.slice a2 bs.length c2) := cellb hb1 (by simp [go_sem])
        have P0 : w1.cell? ⟨w.heap.size + 1, 0, none⟩ = some (.int .i64 c) := cellb hb1 (by simp [go_sem])
        have P1 : w1.cell? ⟨w.heap.size + 1, 1, none⟩ = some (.int .i64 g) := cellb hb1 (by simp [go_sem])
        have R0 : w1.cell? ⟨w.heap.size + 2, 0, none⟩ = some (.int .i64 0) := cellb hb1 (by simp [go_sem])
        have Z0 : w1.frozen? ⟨w.heap.size + 2, 0, none⟩ = false := by rw [hb1.frozen (p := ⟨w.heap.size + 2, 0, none⟩) (by simp)]; simp [go_sem]
        have R1 : w1.cell? ⟨w.heap.size + 2, 1, none⟩ = some (.int .i64 0) := cellb hb1 (by simp [go_sem])
        have Z1 : w1.frozen? ⟨w.heap.size + 2, 1, none⟩ = false := by rw [hb1.frozen (p := ⟨w.heap.size + 2, 1, none⟩) (by simp)]; simp [go_sem]
        have R2 : w1.cell? ⟨w.heap.size + 2, 2, none⟩ = some (.int .i64 0) := cellb hb1 (by simp [go_sem])
        have Z2 : w1.frozen? ⟨w.heap.size + 2, 2, none⟩ = false := by rw [hb1.frozen (p := ⟨w.heap.size + 2, 2, none⟩) (by simp)]; simp [go_sem]
        have R3 : w1.cell? ⟨w.heap.size + 2, 3, none⟩ = some (.slice none 0 0) := cellb hb1 (by simp [go_sem])
        have Z3 : w1.frozen? ⟨w.heap.size + 2, 3, none⟩ = false := by rw [hb1.frozen (p := ⟨w.heap.size + 2, 3, none⟩) (by simp)]; simp [go_sem]
        have R4 : w1.cell? ⟨w.heap.size + 2, 4, none⟩ = some (.slice none 0 0) := cellb hb1 (by simp [go_sem])
        have Z4 : w1.frozen? ⟨w.heap.size + 2, 4, none⟩ = false := by rw [hb1.frozen (p := ⟨w.heap.size + 2, 4, none⟩) (by simp)]; simp [go_sem]
        have hs1 : w.heap.size + 3 ≤ w1.heap.size := by have := hb1.size; simp at this; omega
        have b1 : Below w.heap.size w w1 := hb0.trans (hb1.mono (by simp; omega))
        clear hb1 hb0 HF
        go_wp2_with fail
        refine (isPlace_calls r wd y x a1 a2 cs.length bs.length c1 c2 g1 g2 g3 g4 _).mono ?_
        rintro e w7 ⟨rfl, hb7⟩
        rw [k0]
        replace A0 := cellb hb7 A0
        replace A1 := cellb hb7 A1
        replace A2 := cellb hb7 A2
        replace A3 := cellb hb7 A3
        replace P0 := cellb hb7 P0
        replace P1 := cellb hb7 P1
        replace R0 := cellb hb7 R0
        replace R1 := cellb hb7 R1
        replace R2 := cellb hb7 R2
        replace R3 := cellb hb7 R3
        replace R4 := cellb hb7 R4
        replace Z0 : w7.frozen? ⟨w.heap.size + 2, 0, none⟩ = false := by rw [hb7.frozen (p := ⟨w.heap.size + 2, 0, none⟩) (by simp; omega)]; exact Z0
        replace Z1 : w7.frozen? ⟨w.heap.size + 2, 1, none⟩ = false := by rw [hb7.frozen (p := ⟨w.heap.size + 2, 1, none⟩) (by simp; omega)]; exact Z1
        replace Z2 : w7.frozen? ⟨w.heap.size + 2, 2, none⟩ = false := by rw [hb7.frozen (p := ⟨w.heap.size + 2, 2, none⟩) (by simp; omega)]; exact Z2
        replace Z3 : w7.frozen? ⟨w.heap.size + 2, 3, none⟩ = false := by rw [hb7.frozen (p := ⟨w.heap.size + 2, 3, none⟩) (by simp; omega)]; exact Z3
        replace Z4 : w7.frozen? ⟨w.heap.size + 2, 4, none⟩ = false := by rw [hb7.frozen (p := ⟨w.heap.size + 2, 4, none⟩) (by simp; omega)]; exact Z4
        have b7 := b1.trans (hb7.mono b1.size)
        have hs7 : w1.heap.size ≤ w7.heap.size := hb7.size
        clear hb7 b1
        go_wp2_with fail
        refine (isCell_calls c g _).mono ?_
        rintro e w6 ⟨rfl, hb6⟩
        rw [k1]
        replace A0 := cellb hb6 A0
        replace A1 := cellb hb6 A1
        replace A2 := cellb hb6 A2
        replace A3 := cellb hb6 A3
        replace P0 := cellb hb6 P0
        replace P1 := cellb hb6 P1
        replace R0 := cellb hb6 R0
        replace R1 := cellb hb6 R1
        replace R2 := cellb hb6 R2
        replace R3 := cellb hb6 R3
        replace R4 := cellb hb6 R4
        replace Z0 : w6.frozen? ⟨w.heap.size + 2, 0, none⟩ = false := by rw [hb6.frozen (p := ⟨w.heap.size + 2, 0, none⟩) (by simp; omega)]; exact Z0
        replace Z1 : w6.frozen? ⟨w.heap.size + 2, 1, none⟩ = false := by rw [hb6.frozen (p := ⟨w.heap.size + 2, 1, none⟩) (by simp; omega)]; exact Z1
        replace Z2 : w6.frozen? ⟨w.heap.size + 2, 2, none⟩ = false := by rw [hb6.frozen (p := ⟨w.heap.size + 2, 2, none⟩) (by simp; omega)]; exact Z2
        replace Z3 : w6.frozen? ⟨w.heap.size + 2, 3, none⟩ = false := by rw [hb6.frozen (p := ⟨w.heap.size + 2, 3, none⟩) (by simp; omega)]; exact Z3
        replace Z4 : w6.frozen? ⟨w.heap.size + 2, 4, none⟩ = false := by rw [hb6.frozen (p := ⟨w.heap.size + 2, 4, none⟩) (by simp; omega)]; exact Z4
        have b6 := b7.trans (hb6.mono b7.size)
        have hs6 : w7.heap.size ≤ w6.heap.size := hb6.size
        clear hb6 b7
        go_wp2_with (first
          | fail)
        have hr := res5 (w := w6) (r := w.heap.size + 2) (.int .i64 3) (.int .i64 0) (.int .i64 0) (.slice none 0 0) (.slice none 0 0) R0 R1 R2 R3 R4
        go_wp2
        refine bodyPost_ret (v := .agg #[.int .i64 3, .int .i64 0, .int .i64 0, .slice none 0 0, .slice none 0 0]) (by simp only [results, Try.results18]; simp [go_sem, hr.1, hr.2.1, hr.2.2.1, hr.2.2.2.1, hr.2.2.2.2]) rfl ⟨_, _, rfl, ?_, b6.trans (show Below w.heap.size w6 _ from (by repeat' (first | with_reducible exact Below.refl _ _ | with_reducible assumption | with_reducible refine Below.drew ?_ | with_reducible refine Below.alloc ?_ ?_ _ | with_reducible refine Below.setCell ?_ ?_ _ | (simp; done) | (simp; omega) | omega)))⟩
        exact GOwn.nil _ _ _ (by have := b6.size; simp [World.setCell]; omega)
      | true =>
        obtain ⟨g1, g2, g3, g4⟩ := hbd hG
        rw [putcRes_def, gres_ok hG (by rw [k0, k1]; rfl)]
        rw [hG] at HF
        have hfine := gfine_of_code hG
        obtain ⟨n1, n2, hq, n8, n9, n10⟩ := hfine.short
        obtain ⟨Kr, X, m', eK, eX, eW, q1, q2, q3, q4, y0, y1⟩ := place_nats hfine k0
        clear hfine hG hbd
        subst eX
        have eK' : (y * wd + (X : Int)).toNat = Kr + X := by omega
        rw [eK']
        have EK := hide eK
        have EW := hide eW
        clear eK eW eK'
        go_enter Try.func18, Try.ntmps18
        go_wp2_with fail
        refine HF.mono ?_
        rintro e w1 ⟨rfl, hb1⟩
        have A0 : w1.cell? ⟨w.heap.size, 0, none⟩ = some (.int .i64 r) := cellb hb1 (by simp [go_sem])
        have A1 : w1.cell? ⟨w.heap.size, 1, none⟩ = some (.int .i64 wd) := cellb hb1 (by simp [go_sem])
        have A2 : w1.cell? ⟨w.heap.size, 2, none⟩ = some (.slice a1 cs.length c1) := cellb hb1 (by simp [go_sem])
        have A3 : w1.cell? ⟨w.heap.size, 3, none⟩ = some (.slice a2 bs.length c2) := cellb hb1 (by simp [go_sem])
        have P0 : w1.cell? ⟨w.heap.size + 1, 0, none⟩ = some (.int .i64 c) := cellb hb1 (by simp [go_sem])
        have P1 : w1.cell? ⟨w.heap.size + 1, 1, none⟩ = some (.int .i64 g) := cellb hb1 (by simp [go_sem])
        have R0 : w1.cell? ⟨w.heap.size + 2, 0, none⟩ = some (.int .i64 0) := cellb hb1 (by simp [go_sem])
        have Z0 : w1.frozen? ⟨w.heap.size + 2, 0, none⟩ = false := by rw [hb1.frozen (p := ⟨w.heap.size + 2, 0, none⟩) (by simp)]; simp [go_sem]
        have R1 : w1.cell? ⟨w.heap.size + 2, 1, none⟩ = some (.int .i64 0) := cellb hb1 (by simp [go_sem])
        have Z1 : w1.frozen? ⟨w.heap.size + 2, 1, none⟩ = false := by rw [hb1.frozen (p := ⟨w.heap.size + 2, 1, none⟩) (by simp)]; simp [go_sem]
        have R2 : w1.cell? ⟨w.heap.size + 2, 2, none⟩ = some (.int .i64 0) := cellb hb1 (by simp [go_sem])
        have Z2 : w1.frozen? ⟨w.heap.size + 2, 2, none⟩ = false := by rw [hb1.frozen (p := ⟨w.heap.size + 2, 2, none⟩) (by simp)]; simp [go_sem]
        have R3 : w1.cell? ⟨w.heap.size + 2, 3, none⟩ = some (.slice none 0 0) := cellb hb1 (by simp [go_sem])
        have Z3 : w1.frozen? ⟨w.heap.size + 2, 3, none⟩ = false := by rw [hb1.frozen (p := ⟨w.heap.size + 2, 3, none⟩) (by simp)]; simp [go_sem]
        have R4 : w1.cell? ⟨w.heap.size + 2, 4, none⟩ = some (.slice none 0 0) := cellb hb1 (by simp [go_sem])
        have Z4 : w1.frozen? ⟨w.heap.size + 2, 4, none⟩ = false := by rw [hb1.frozen (p := ⟨w.heap.size + 2, 4, none⟩) (by simp)]; simp [go_sem]
        have hs1 : w.heap.size + 3 ≤ w1.heap.size := by have := hb1.size; simp at this; omega
        have b1 : Below w.heap.size w w1 := hb0.trans (hb1.mono (by simp; omega))
        clear hb1 hb0 HF
        go_wp2_with fail
        refine (isPlace_calls r wd y (X : Int) a1 a2 cs.length bs.length c1 c2 g1 g2 g3 g4 _).mono ?_
        rintro e w7 ⟨rfl, hb7⟩
        rw [k0]
        replace A0 := cellb hb7 A0
        replace A1 := cellb hb7 A1
        replace A2 := cellb hb7 A2
        replace A3 := cellb hb7 A3
        replace P0 := cellb hb7 P0
        replace P1 := cellb hb7 P1
        replace R0 := cellb hb7 R0
        replace R1 := cellb hb7 R1
        replace R2 := cellb hb7 R2
        replace R3 := cellb hb7 R3
        replace R4 := cellb hb7 R4
        replace Z0 : w7.frozen? ⟨w.heap.size + 2, 0, none⟩ = false := by rw [hb7.frozen (p := ⟨w.heap.size + 2, 0, none⟩) (by simp; omega)]; exact Z0
        replace Z1 : w7.frozen? ⟨w.heap.size + 2, 1, none⟩ = false := by rw [hb7.frozen (p := ⟨w.heap.size + 2, 1, none⟩) (by simp; omega)]; exact Z1
        replace Z2 : w7.frozen? ⟨w.heap.size + 2, 2, none⟩ = false := by rw [hb7.frozen (p := ⟨w.heap.size + 2, 2, none⟩) (by simp; omega)]; exact Z2
        replace Z3 : w7.frozen? ⟨w.heap.size + 2, 3, none⟩ = false := by rw [hb7.frozen (p := ⟨w.heap.size + 2, 3, none⟩) (by simp; omega)]; exact Z3
        replace Z4 : w7.frozen? ⟨w.heap.size + 2, 4, none⟩ = false := by rw [hb7.frozen (p := ⟨w.heap.size + 2, 4, none⟩) (by simp; omega)]; exact Z4
        have b7 := b1.trans (hb7.mono b1.size)
        have hs7 : w1.heap.size ≤ w7.heap.size := hb7.size
        clear hb7 b1
        go_wp2_with fail
        refine (isCell_calls c g _).mono ?_
        rintro e w6 ⟨rfl, hb6⟩
        rw [k1]
        replace A0 := cellb hb6 A0
        replace A1 := cellb hb6 A1
        replace A2 := cellb hb6 A2
        replace A3 := cellb hb6 A3
        replace P0 := cellb hb6 P0
        replace P1 := cellb hb6 P1
        replace R0 := cellb hb6 R0
        replace R1 := cellb hb6 R1
        replace R2 := cellb hb6 R2
        replace R3 := cellb hb6 R3
        replace R4 := cellb hb6 R4
        replace Z0 : w6.frozen? ⟨w.heap.size + 2, 0, none⟩ = false := by rw [hb6.frozen (p := ⟨w.heap.size + 2, 0, none⟩) (by simp; omega)]; exact Z0
        replace Z1 : w6.frozen? ⟨w.heap.size + 2, 1, none⟩ = false := by rw [hb6.frozen (p := ⟨w.heap.size + 2, 1, none⟩) (by simp; omega)]; exact Z1
        replace Z2 : w6.frozen? ⟨w.heap.size + 2, 2, none⟩ = false := by rw [hb6.frozen (p := ⟨w.heap.size + 2, 2, none⟩) (by simp; omega)]; exact Z2
        replace Z3 : w6.frozen? ⟨w.heap.size + 2, 3, none⟩ = false := by rw [hb6.frozen (p := ⟨w.heap.size + 2, 3, none⟩) (by simp; omega)]; exact Z3
        replace Z4 : w6.frozen? ⟨w.heap.size + 2, 4, none⟩ = false := by rw [hb6.frozen (p := ⟨w.heap.size + 2, 4, none⟩) (by simp; omega)]; exact Z4
        have b6 := b7.trans (hb6.mono b7.size)
        have hs6 : w7.heap.size ≤ w6.heap.size := hb6.size
        clear hb6 b7
        go_wp2_with fail
        refine (sheetsOf_calls r wd cs bs _ _ w6 hn1 hn2 (h1.below b6) (h2.below b6)).mono ?_
        rintro e w2 ⟨x, y', m, rfl, m1, m2, ox, xm, oy, hb2⟩
        replace A0 := cellb hb2 A0
        replace A1 := cellb hb2 A1
        replace A2 := cellb hb2 A2
        replace A3 := cellb hb2 A3
        replace P0 := cellb hb2 P0
        replace P1 := cellb hb2 P1
        replace R0 := cellb hb2 R0
        replace R1 := cellb hb2 R1
        replace R2 := cellb hb2 R2
        replace R3 := cellb hb2 R3
        replace R4 := cellb hb2 R4
        replace Z0 : w2.frozen? ⟨w.heap.size + 2, 0, none⟩ = false := by rw [hb2.frozen (p := ⟨w.heap.size + 2, 0, none⟩) (by simp; omega)]; exact Z0
        replace Z1 : w2.frozen? ⟨w.heap.size + 2, 1, none⟩ = false := by rw [hb2.frozen (p := ⟨w.heap.size + 2, 1, none⟩) (by simp; omega)]; exact Z1
        replace Z2 : w2.frozen? ⟨w.heap.size + 2, 2, none⟩ = false := by rw [hb2.frozen (p := ⟨w.heap.size + 2, 2, none⟩) (by simp; omega)]; exact Z2
        replace Z3 : w2.frozen? ⟨w.heap.size + 2, 3, none⟩ = false := by rw [hb2.frozen (p := ⟨w.heap.size + 2, 3, none⟩) (by simp; omega)]; exact Z3
        replace Z4 : w2.frozen? ⟨w.heap.size + 2, 4, none⟩ = false := by rw [hb2.frozen (p := ⟨w.heap.size + 2, 4, none⟩) (by simp; omega)]; exact Z4
        have b2 := b6.trans (hb2.mono b6.size)
        have hs2 : w6.heap.size ≤ w2.heap.size := hb2.size
        obtain ⟨bx, cx, rfl, hcx, _, x1, x2, hrow⟩ := own_row ox n8
        obtain ⟨ay, cy, rfl, hyc⟩ := own_room2 oy
        have x3 : bx < m := xm bx rfl
        have HX := hide hrow
        have HY := hide oy
        clear hrow oy ox xm hb2
        go_wp2_with fail
        have hb3 : Below w2.heap.size w2 ((w2.alloc (.cells #[.int .i64 wd, .slice (some ⟨bx, 0, none⟩) cs.length cx] 53)).alloc (.cells #[.int .i64 wd, .slice ay bs.length cy] 53)) := (by repeat' (first | with_reducible exact Below.refl _ _ | with_reducible assumption | with_reducible refine Below.drew ?_ | with_reducible refine Below.alloc ?_ ?_ _ | with_reducible refine Below.setCell ?_ ?_ _ | (simp; done) | (simp; omega) | omega))
        have S0 : ((w2.alloc (.cells #[.int .i64 wd, .slice (some ⟨bx, 0, none⟩) cs.length cx] 53)).alloc (.cells #[.int .i64 wd, .slice ay bs.length cy] 53)).cell? ⟨w2.heap.size, 0, none⟩ = some (.int .i64 wd) := by simp [go_sem]
        have S1 : ((w2.alloc (.cells #[.int .i64 wd, .slice (some ⟨bx, 0, none⟩) cs.length cx] 53)).alloc (.cells #[.int .i64 wd, .slice ay bs.length cy] 53)).cell? ⟨w2.heap.size, 1, none⟩ = some (.slice (some ⟨bx, 0, none⟩) cs.length cx) := by simp [go_sem]
        have U0 : ((w2.alloc (.cells #[.int .i64 wd, .slice (some ⟨bx, 0, none⟩) cs.length cx] 53)).alloc (.cells #[.int .i64 wd, .slice ay bs.length cy] 53)).cell? ⟨w2.heap.size + 1, 0, none⟩ = some (.int .i64 wd) := by simp [go_sem]
        have U1 : ((w2.alloc (.cells #[.int .i64 wd, .slice (some ⟨bx, 0, none⟩) cs.length cx] 53)).alloc (.cells #[.int .i64 wd, .slice ay bs.length cy] 53)).cell? ⟨w2.heap.size + 1, 1, none⟩ = some (.slice ay bs.length cy) := by simp [go_sem]
        have hs3 : ((w2.alloc (.cells #[.int .i64 wd, .slice (some ⟨bx, 0, none⟩) cs.length cx] 53)).alloc (.cells #[.int .i64 wd, .slice ay bs.length cy] 53)).heap.size = w2.heap.size + 2 := by simp
        generalize ((w2.alloc (.cells #[.int .i64 wd, .slice (some ⟨bx, 0, none⟩) cs.length cx] 53)).alloc (.cells #[.int .i64 wd, .slice ay bs.length cy] 53)) = w3 at *
        replace A0 := cellb hb3 A0
        replace A1 := cellb hb3 A1
        replace A2 := cellb hb3 A2
        replace A3 := cellb hb3 A3
        replace P0 := cellb hb3 P0
        replace P1 := cellb hb3 P1
        replace R0 := cellb hb3 R0
        replace R1 := cellb hb3 R1
        replace R2 := cellb hb3 R2
        replace R3 := cellb hb3 R3
        replace R4 := cellb hb3 R4
        replace Z0 : w3.frozen? ⟨w.heap.size + 2, 0, none⟩ = false := by rw [hb3.frozen (p := ⟨w.heap.size + 2, 0, none⟩) (by simp; omega)]; exact Z0
        replace Z1 : w3.frozen? ⟨w.heap.size + 2, 1, none⟩ = false := by rw [hb3.frozen (p := ⟨w.heap.size + 2, 1, none⟩) (by simp; omega)]; exact Z1
        replace Z2 : w3.frozen? ⟨w.heap.size + 2, 2, none⟩ = false := by rw [hb3.frozen (p := ⟨w.heap.size + 2, 2, none⟩) (by simp; omega)]; exact Z2
        replace Z3 : w3.frozen? ⟨w.heap.size + 2, 3, none⟩ = false := by rw [hb3.frozen (p := ⟨w.heap.size + 2, 3, none⟩) (by simp; omega)]; exact Z3
        replace Z4 : w3.frozen? ⟨w.heap.size + 2, 4, none⟩ = false := by rw [hb3.frozen (p := ⟨w.heap.size + 2, 4, none⟩) (by simp; omega)]; exact Z4
        have b3 := b2.trans (hb3.mono b2.size)
        replace HX := hide (HX.out.below hb3 x2)
        replace HY := hide (own_below HY.out hb3)
        clear hb3 b2
        have z1 : (X : Int) < (m' : Int) := by omega
        have z2 : X < m' := q2
        have z3 : (0 : Int) ≤ (X : Int) := by omega
        refine wp_region_held_drew (S := (fun w' => w'.cell? ⟨w2.heap.size, 0, none⟩ = some (.int .i64 wd) ∧ w'.cell? ⟨w2.heap.size, 1, none⟩ = some (.slice (some ⟨bx, 0, none⟩) cs.length cx) ∧ w'.cell? ⟨w.heap.size + 1, 0, none⟩ = some (.int .i64 c) ∧ w'.cell? ⟨w.heap.size + 1, 1, none⟩ = some (.int .i64 g))) (by kernel_rfl) ?_ (fun hHeld => ?_)
        · (try dsimp only); exact ⟨S0, S1, P0, P1⟩
        refine wpAnyH_take (i := 0) (oi := ⟨_, _, _, _, _, _⟩) (v := ?_) rfl (by kernel_rfl) (by kernel_rfl) (by kernel_rfl) (fun _ _ _ h => h) (Or.inl ⟨by rfl, ?_⟩) hHeld ?_
        rotate_left
        · (intro w hSw; (try dsimp only at hSw); go_simp; try (with_reducible rfl))
        try simp only [Act.put, List.setIfInBounds_toArray, List.set_cons_zero, List.set_cons_succ]
        refine wpAnyH_take (i := 1) (oi := ⟨_, _, _, _, _, _⟩) (v := ?_) rfl (by kernel_rfl) (by kernel_rfl) (by kernel_rfl) (fun _ _ _ h => h) (Or.inl ⟨by rfl, ?_⟩) hHeld ?_
        rotate_left
        · (intro w hSw; (try dsimp only at hSw); go_simp; try (with_reducible rfl))
        try simp only [Act.put, List.setIfInBounds_toArray, List.set_cons_zero, List.set_cons_succ]
        refine wpAnyH_take (i := 3) (oi := ⟨_, _, _, _, _, _⟩) (v := ?_) rfl (by kernel_rfl) (by kernel_rfl) (by kernel_rfl) (fun _ _ _ h => h) (Or.inl ⟨by rfl, ?_⟩) hHeld ?_
        rotate_left
        · (intro w hSw; (try dsimp only at hSw); go_simp; try (with_reducible rfl))
        try simp only [Act.put, List.setIfInBounds_toArray, List.set_cons_zero, List.set_cons_succ]
        refine wpAnyH_take (i := 4) (oi := ⟨_, _, _, _, _, _⟩) (v := ?_) rfl (by kernel_rfl) (by kernel_rfl) (by kernel_rfl) (fun _ _ _ h => h) (Or.inl ⟨by rfl, ?_⟩) hHeld ?_
        rotate_left
        · (intro w hSw; (try dsimp only at hSw); go_simp; try (with_reducible rfl))
        try simp only [Act.put, List.setIfInBounds_toArray, List.set_cons_zero, List.set_cons_succ]
        refine wpAnyH_ready (rs := [2]) (by kernel_rfl) (by simp) ?_
        refine AllReadyH.cons (o := ⟨_, _, _, _, _, _⟩) rfl (fun K hK => ?_) AllReadyH.nil
        go_simp
        go_at_call 47
        refine (row_calls wd y bx 0 cs.length cx Kr m' _ ⟨hcx, _, rfl, fun _ => rfl⟩ EK.out EW.out y0 y1 q1 hn1 _).mono ?_
        rintro e w4 ⟨vr, rfl, ⟨hcr, ar, rfl, har⟩, hb4⟩
        obtain rfl := har (by omega)
        rw [Nat.zero_add]
        replace hb4 : Below w3.heap.size w3 w4 := (below_drewN (Below.refl _ _) 1).trans hb4
        have hs4 : w3.heap.size ≤ w4.heap.size := hb4.size
        replace A0 := cellb hb4 A0
        replace A1 := cellb hb4 A1
        replace A2 := cellb hb4 A2
        replace A3 := cellb hb4 A3
        replace P0 := cellb hb4 P0
        replace P1 := cellb hb4 P1
        replace R0 := cellb hb4 R0
        replace R1 := cellb hb4 R1
        replace R2 := cellb hb4 R2
        replace R3 := cellb hb4 R3
        replace R4 := cellb hb4 R4
        replace S0 := cellb hb4 S0
        replace S1 := cellb hb4 S1
        replace U0 := cellb hb4 U0
        replace U1 := cellb hb4 U1
        replace Z0 : w4.frozen? ⟨w.heap.size + 2, 0, none⟩ = false := by rw [hb4.frozen (p := ⟨w.heap.size + 2, 0, none⟩) (by simp; omega)]; exact Z0
        replace Z1 : w4.frozen? ⟨w.heap.size + 2, 1, none⟩ = false := by rw [hb4.frozen (p := ⟨w.heap.size + 2, 1, none⟩) (by simp; omega)]; exact Z1
        replace Z2 : w4.frozen? ⟨w.heap.size + 2, 2, none⟩ = false := by rw [hb4.frozen (p := ⟨w.heap.size + 2, 2, none⟩) (by simp; omega)]; exact Z2
        replace Z3 : w4.frozen? ⟨w.heap.size + 2, 3, none⟩ = false := by rw [hb4.frozen (p := ⟨w.heap.size + 2, 3, none⟩) (by simp; omega)]; exact Z3
        replace Z4 : w4.frozen? ⟨w.heap.size + 2, 4, none⟩ = false := by rw [hb4.frozen (p := ⟨w.heap.size + 2, 4, none⟩) (by simp; omega)]; exact Z4
        have b4 := b3.trans (hb4.mono b3.size)
        replace HX := hide (HX.out.below hb4 (by omega))
        replace HY := hide (own_below HY.out hb4)
        clear b3 hb4
        obtain ⟨⟨o1, o2⟩, o3, o4⟩ := HX.out (Kr + X) (by omega)
        rw [Nat.zero_add, Nat.add_mul] at o1 o2 o3 o4
        have o5 : (w4.setCell ⟨bx, Kr * 2 + X * 2, none⟩ (.int .i64 c)).cell? ⟨bx, Kr * 2 + X * 2 + 1, none⟩ = some (.int .i64 (cs.getD (Kr + X) (0, 0)).2) := by rw [World.cell?_setCell_other _ _ _ _ (addr_ne (by omega))]; exact o2
        try go_wp2_with fail
        refine hK.out _ _ ?_ ?_
        · (try dsimp only); exact ⟨S0, S1, P0, P1⟩
        clear hHeld hK K
        intro hHeld
        try simp only [Act.put, List.setIfInBounds_toArray, List.set_cons_zero, List.set_cons_succ]
        refine wpAnyH_take (i := 5) (oi := ⟨_, _, _, _, _, _⟩) (v := ?_) rfl (by kernel_rfl) (by kernel_rfl) (by kernel_rfl) (fun _ _ _ h => h) (Or.inl ⟨by rfl, ?_⟩) hHeld ?_
        rotate_left
        · (intro w hSw; (try dsimp only at hSw); go_simp; try (with_reducible rfl))
        try simp only [Act.put, List.setIfInBounds_toArray, List.set_cons_zero, List.set_cons_succ]
        refine wpAnyH_ready (rs := [6]) (by kernel_rfl) (by simp) ?_
        refine AllReadyH.cons (o := ⟨_, _, _, _, _, _⟩) rfl (fun K hK => ?_) AllReadyH.nil
        go_simp
        have ht5 : Touch bx (Kr * 2 + X * 2) (Kr * 2 + X * 2 + 2) w4 ((w4.setCell ⟨bx, Kr * 2 + X * 2, none⟩ (.int .i64 c)).setCell ⟨bx, Kr * 2 + X * 2 + 1, none⟩ (.int .i64 g)) := ((Touch.refl _ _ _ _).setCell (by omega) (by omega) _).setCell (by omega) (by omega) _
        have hr5 : Row ((w4.setCell ⟨bx, Kr * 2 + X * 2, none⟩ (.int .i64 c)).setCell ⟨bx, Kr * 2 + X * 2 + 1, none⟩ (.int .i64 g)) bx 0 cs.length (fun i => if i = Kr + X then (c, g) else cs.getD i (0, 0)) := by have h := HX.out.store (k := Kr + X) (by omega) c g; rw [Nat.zero_add, Nat.add_mul] at h; exact h
        generalize ((w4.setCell ⟨bx, Kr * 2 + X * 2, none⟩ (.int .i64 c)).setCell ⟨bx, Kr * 2 + X * 2 + 1, none⟩ (.int .i64 g)) = w5 at *
        replace A0 := ht5.cellAt A0 (by omega)
        replace A1 := ht5.cellAt A1 (by omega)
        replace A2 := ht5.cellAt A2 (by omega)
        replace A3 := ht5.cellAt A3 (by omega)
        replace P0 := ht5.cellAt P0 (by omega)
        replace P1 := ht5.cellAt P1 (by omega)
        replace R0 := ht5.cellAt R0 (by omega)
        replace R1 := ht5.cellAt R1 (by omega)
        replace R2 := ht5.cellAt R2 (by omega)
        replace R3 := ht5.cellAt R3 (by omega)
        replace R4 := ht5.cellAt R4 (by omega)
        replace S0 := ht5.cellAt S0 (by omega)
        replace S1 := ht5.cellAt S1 (by omega)
        replace U0 := ht5.cellAt U0 (by omega)
        replace U1 := ht5.cellAt U1 (by omega)
        replace Z0 := ht5.frozenAt (by omega) Z0
        replace Z1 := ht5.frozenAt (by omega) Z1
        replace Z2 := ht5.frozenAt (by omega) Z2
        replace Z3 := ht5.frozenAt (by omega) Z3
        replace Z4 := ht5.frozenAt (by omega) Z4
        have b5 : Below w.heap.size w w5 := b4.trans (ht5.below (by omega) (by omega))
        have hs5 : w4.heap.size ≤ w5.heap.size := ht5.size
        have l5 := HY.out.lt
        replace HY := hide (own_touch HY.out ht5 (fun k hk => by have := (l5 k hk).1; omega))
        replace HX := hide hr5
        clear l5 b4 hr5 ht5 o1 o2 o3 o4 o5
        refine hK.out _ _ ?_ ?_
        · (try dsimp only); exact ⟨S0, S1, P0, P1⟩
        clear hHeld hK K
        intro hHeld
        try simp only [Act.put, List.setIfInBounds_toArray, List.set_cons_zero, List.set_cons_succ]
        refine wpAnyH_done (by kernel_rfl) ?_ _
        clear hHeld
        go_wp2_with fail
        refine (gridOf_calls wd wd n1 n2 (some ⟨bx, 0, none⟩) ay cs.length bs.length cx cy hn1 w5).mono ?_
        rintro e w8 ⟨rfl, hb8⟩
        rw [hq.out]
        replace R0 := cellb hb8 R0
        replace R1 := cellb hb8 R1
        replace R2 := cellb hb8 R2
        replace R3 := cellb hb8 R3
        replace R4 := cellb hb8 R4
        replace Z0 : w8.frozen? ⟨w.heap.size + 2, 0, none⟩ = false := by rw [hb8.frozen (p := ⟨w.heap.size + 2, 0, none⟩) (by simp; omega)]; exact Z0
        replace Z1 : w8.frozen? ⟨w.heap.size + 2, 1, none⟩ = false := by rw [hb8.frozen (p := ⟨w.heap.size + 2, 1, none⟩) (by simp; omega)]; exact Z1
        replace Z2 : w8.frozen? ⟨w.heap.size + 2, 2, none⟩ = false := by rw [hb8.frozen (p := ⟨w.heap.size + 2, 2, none⟩) (by simp; omega)]; exact Z2
        replace Z3 : w8.frozen? ⟨w.heap.size + 2, 3, none⟩ = false := by rw [hb8.frozen (p := ⟨w.heap.size + 2, 3, none⟩) (by simp; omega)]; exact Z3
        replace Z4 : w8.frozen? ⟨w.heap.size + 2, 4, none⟩ = false := by rw [hb8.frozen (p := ⟨w.heap.size + 2, 4, none⟩) (by simp; omega)]; exact Z4
        have b8 := b5.trans (hb8.mono b5.size)
        have hs8 : w5.heap.size ≤ w8.heap.size := hb8.size
        have HX8 := hide (HX.out.below hb8 (by omega))
        have HY8 := hide (own_below HY.out hb8)
        clear hb8 HX HY
        have hr := res5 (w := w8) (r := w.heap.size + 2) (.int .i64 0) (.int .i64 r) (.int .i64 wd) (.slice (some ⟨bx, 0, none⟩) cs.length cx) (.slice ay bs.length cy) R0 R1 R2 R3 R4
        go_wp2
        refine bodyPost_ret (v := .agg #[.int .i64 0, .int .i64 r, .int .i64 wd, .slice (some ⟨bx, 0, none⟩) cs.length cx, .slice ay bs.length cy]) (by simp only [results, Try.results18]; simp [go_sem, hr.1, hr.2.1, hr.2.2.1, hr.2.2.2.1, hr.2.2.2.2]) rfl ⟨_, _, rfl, ?_, b8.trans (show Below w.heap.size w8 _ from (by repeat' (first | with_reducible exact Below.refl _ _ | with_reducible assumption | with_reducible refine Below.drew ?_ | with_reducible refine Below.alloc ?_ ?_ _ | with_reducible refine Below.setCell ?_ ?_ _ | (simp; done) | (simp; omega) | omega)))⟩
        refine (gown_of (w := w8) (base := w6.heap.size) (m := m) (HX8.out.congr (fun i hi => ?_)) (by omega) (by omega) HY8.out (by omega) (by omega) (by simp [World.setCell]) (fun k _ => ?_) (by omega)).mono (by omega) (Nat.le_refl _)
        · rfl
        · by_cases hk : k < w6.heap.size
          · exact .inr hk
          · left
            simp only [World.setCell, Array.getElem?_modify]
            repeat rw [if_neg (by omega)]
  · rw [putcRes_def, gres_fault hG]
    generalize gridCode r wd cs bs = code at *
    have hcb : (code != 0) = true := by simpa using hG
    simp only [gbad]
    go_enter Try.func18, Try.ntmps18
    go_wp2_with fail
    refine HF.mono ?_
    rintro e w1 ⟨rfl, hb1⟩
    have A0 : w1.cell? ⟨w.heap.size, 0, none⟩ = some (.int .i64 r) := cellb hb1 (by simp [go_sem])
    have A1 : w1.cell? ⟨w.heap.size, 1, none⟩ = some (.int .i64 wd) := cellb hb1 (by simp [go_sem])
    have A2 : w1.cell? ⟨w.heap.size, 2, none⟩ = some (.slice a1 cs.length c1) := cellb hb1 (by simp [go_sem])
    have A3 : w1.cell? ⟨w.heap.size, 3, none⟩ = some (.slice a2 bs.length c2) := cellb hb1 (by simp [go_sem])
    have P0 : w1.cell? ⟨w.heap.size + 1, 0, none⟩ = some (.int .i64 c) := cellb hb1 (by simp [go_sem])
    have P1 : w1.cell? ⟨w.heap.size + 1, 1, none⟩ = some (.int .i64 g) := cellb hb1 (by simp [go_sem])
    have R0 : w1.cell? ⟨w.heap.size + 2, 0, none⟩ = some (.int .i64 0) := cellb hb1 (by simp [go_sem])
    have Z0 : w1.frozen? ⟨w.heap.size + 2, 0, none⟩ = false := by rw [hb1.frozen (p := ⟨w.heap.size + 2, 0, none⟩) (by simp)]; simp [go_sem]
    have R1 : w1.cell? ⟨w.heap.size + 2, 1, none⟩ = some (.int .i64 0) := cellb hb1 (by simp [go_sem])
    have Z1 : w1.frozen? ⟨w.heap.size + 2, 1, none⟩ = false := by rw [hb1.frozen (p := ⟨w.heap.size + 2, 1, none⟩) (by simp)]; simp [go_sem]
    have R2 : w1.cell? ⟨w.heap.size + 2, 2, none⟩ = some (.int .i64 0) := cellb hb1 (by simp [go_sem])
    have Z2 : w1.frozen? ⟨w.heap.size + 2, 2, none⟩ = false := by rw [hb1.frozen (p := ⟨w.heap.size + 2, 2, none⟩) (by simp)]; simp [go_sem]
    have R3 : w1.cell? ⟨w.heap.size + 2, 3, none⟩ = some (.slice none 0 0) := cellb hb1 (by simp [go_sem])
    have Z3 : w1.frozen? ⟨w.heap.size + 2, 3, none⟩ = false := by rw [hb1.frozen (p := ⟨w.heap.size + 2, 3, none⟩) (by simp)]; simp [go_sem]
    have R4 : w1.cell? ⟨w.heap.size + 2, 4, none⟩ = some (.slice none 0 0) := cellb hb1 (by simp [go_sem])
    have Z4 : w1.frozen? ⟨w.heap.size + 2, 4, none⟩ = false := by rw [hb1.frozen (p := ⟨w.heap.size + 2, 4, none⟩) (by simp)]; simp [go_sem]
    have hs1 : w.heap.size + 3 ≤ w1.heap.size := by have := hb1.size; simp at this; omega
    have b1 : Below w.heap.size w w1 := hb0.trans (hb1.mono (by simp; omega))
    clear hb1 hb0 HF
    have hr := res5 (w := w1) (r := w.heap.size + 2) (.int .i64 code) (.int .i64 0) (.int .i64 0) (.slice none 0 0) (.slice none 0 0) R0 R1 R2 R3 R4
    go_wp2
    refine bodyPost_ret (v := .agg #[.int .i64 code, .int .i64 0, .int .i64 0, .slice none 0 0, .slice none 0 0]) (by simp only [results, Try.results18]; simp [go_sem, hr.1, hr.2.1, hr.2.2.1, hr.2.2.2.1, hr.2.2.2.2]) rfl ⟨_, _, rfl, ?_, b1.trans (show Below w.heap.size w1 _ from (by repeat' (first | with_reducible exact Below.refl _ _ | with_reducible assumption | with_reducible refine Below.drew ?_ | with_reducible refine Below.alloc ?_ ?_ _ | with_reducible refine Below.setCell ?_ ?_ _ | (simp; done) | (simp; omega) | omega)))⟩
    exact GOwn.nil _ _ _ (by have := b1.size; simp [World.setCell]; omega)

set_option maxHeartbeats 2000000 in
theorem specPutCell_calls (r wd : Int) (cs bs : List (Int × Int)) (y x c g : Int) (v1 v2 : Value) (w : World) (hn1 : cs.length ≤ 1048576) (hn2 : bs.length ≤ 1048576) (h1 : PRead w v1 cs) (h2 : PRead w v2 bs) :
    Calls Try.prog 15 #[.agg #[.int .i64 r, .int .i64 wd, v1, v2], .int .i64 y, .int .i64 x, .agg #[.int .i64 c, .int .i64 g]] w fun e w' => ∃ v5 v6, e = .returned (.agg #[.int .i64 (putcRes r wd cs bs y x c g).code, .int .i64 (putcRes r wd cs bs y x c g).rows, .int .i64 (putcRes r wd cs bs y x c g).wd, v5, v6]) ∧ GOwn w.heap.size w'.heap.size w' v5 v6 (putcRes r wd cs bs y x c g).cs (putcRes r wd cs bs y x c g).bs ∧ Below w.heap.size w w' := by
  have h1' := h1
  obtain ⟨a1, c1, rfl, hx1⟩ := h1'
  clear hx1
  have h2' := h2
  obtain ⟨a2, c2, rfl, hx2⟩ := h2'
  clear hx2
  have hb0 : Below w.heap.size w (((w.alloc (.cells #[.int .i64 r, .int .i64 wd, .slice a1 cs.length c1, .slice a2 bs.length c2] 24)).alloc (.cells #[.int .i64 c, .int .i64 g] 39)).alloc (.cells #[.int .i64 0, .int .i64 0, .int .i64 0, .slice none 0 0, .slice none 0 0] 26)) := (by repeat' (first | with_reducible exact Below.refl _ _ | with_reducible assumption | with_reducible refine Below.drew ?_ | with_reducible refine Below.alloc ?_ ?_ _ | with_reducible refine Below.setCell ?_ ?_ _ | (simp; done) | (simp; omega) | omega))
  have HF := l3Fault_calls r wd cs bs _ _ w.heap.size (((w.alloc (.cells #[.int .i64 r, .int .i64 wd, .slice a1 cs.length c1, .slice a2 bs.length c2] 24)).alloc (.cells #[.int .i64 c, .int .i64 g] 39)).alloc (.cells #[.int .i64 0, .int .i64 0, .int .i64 0, .slice none 0 0, .slice none 0 0] 26)) hn1 hn2 (h1.below hb0) (h2.below hb0) (by simp [go_sem]) (by simp [go_sem]) (by simp [go_sem]) (by simp [go_sem])
  have hbd : gridCode r wd cs bs = 0 → 1 ≤ r ∧ r ≤ 6 ∧ 2 ≤ wd ∧ wd ≤ 12 := fun h => fine_bounds (gfine_of_code h)
  by_cases hG : gridCode r wd cs bs = 0
  · cases k0 : placeB r wd y x with
    | false =>
      obtain ⟨g1, g2, g3, g4⟩ := hbd hG
      rw [putcRes_def, gres_bad hG (by first | (rw [k0]; rfl) | (rw [k0, k1]; rfl))]
      rw [hG] at HF
      simp only [gbad]
      go_enter Try.func15, Try.ntmps15
      go_wp2_with fail
      refine HF.mono ?_
      rintro e w1 ⟨rfl, hb1⟩
      have A0 : w1.cell? ⟨w.heap.size, 0, none⟩ = some (.int .i64 r) := cellb hb1 (by simp [go_sem])
      have A1 : w1.cell? ⟨w.heap.size, 1, none⟩ = some (.int .i64 wd) := cellb hb1 (by simp [go_sem])
      have A2 : w1.cell? ⟨w.heap.size, 2, none⟩ = some (.slice a1 cs.length c1) := cellb hb1 (by simp [go_sem])
      have A3 : w1.cell? ⟨w.heap.size, 3, none⟩ = some (.slice a2 bs.length c2) := cellb hb1 (by simp [go_sem])
      have P0 : w1.cell? ⟨w.heap.size + 1, 0, none⟩ = some (.int .i64 c) := cellb hb1 (by simp [go_sem])
      have P1 : w1.cell? ⟨w.heap.size + 1, 1, none⟩ = some (.int .i64 g) := cellb hb1 (by simp [go_sem])
      have R0 : w1.cell? ⟨w.heap.size + 2, 0, none⟩ = some (.int .i64 0) := cellb hb1 (by simp [go_sem])
      have Z0 : w1.frozen? ⟨w.heap.size + 2, 0, none⟩ = false := by rw [hb1.frozen (p := ⟨w.heap.size + 2, 0, none⟩) (by simp)]; simp [go_sem]
      have R1 : w1.cell? ⟨w.heap.size + 2, 1, none⟩ = some (.int .i64 0) := cellb hb1 (by simp [go_sem])
      have Z1 : w1.frozen? ⟨w.heap.size + 2, 1, none⟩ = false := by rw [hb1.frozen (p := ⟨w.heap.size + 2, 1, none⟩) (by simp)]; simp [go_sem]
      have R2 : w1.cell? ⟨w.heap.size + 2, 2, none⟩ = some (.int .i64 0) := cellb hb1 (by simp [go_sem])
      have Z2 : w1.frozen? ⟨w.heap.size + 2, 2, none⟩ = false := by rw [hb1.frozen (p := ⟨w.heap.size + 2, 2, none⟩) (by simp)]; simp [go_sem]
      have R3 : w1.cell? ⟨w.heap.size + 2, 3, none⟩ = some (.slice none 0 0) := cellb hb1 (by simp [go_sem])
      have Z3 : w1.frozen? ⟨w.heap.size + 2, 3, none⟩ = false := by rw [hb1.frozen (p := ⟨w.heap.size + 2, 3, none⟩) (by simp)]; simp [go_sem]
      have R4 : w1.cell? ⟨w.heap.size + 2, 4, none⟩ = some (.slice none 0 0) := cellb hb1 (by simp [go_sem])
      have Z4 : w1.frozen? ⟨w.heap.size + 2, 4, none⟩ = false := by rw [hb1.frozen (p := ⟨w.heap.size + 2, 4, none⟩) (by simp)]; simp [go_sem]
      have hs1 : w.heap.size + 3 ≤ w1.heap.size := by have := hb1.size; simp at this; omega
      have b1 : Below w.heap.size w w1 := hb0.trans (hb1.mono (by simp; omega))
      clear hb1 hb0 HF
      go_wp2_with (first
        | (go_at_call 39; refine (l3Place_calls r wd y x w.heap.size g1 g2 g3 g4 _ A0 A1).mono ?_; rintro e w' ⟨rfl, hw⟩; rw [hw]; clear hw w'; rw [k0])
        | (go_at_call 40; refine (l3Cell_calls c g _ _ _ P0 P1).mono ?_; rintro e w' ⟨rfl, hw⟩; rw [hw]; clear hw w'; rw [k1]))
      go_wp2_with fail
      refine (l3Bad_calls 3 _).mono ?_
      rintro e w9 ⟨rfl, hb9⟩
      replace R0 := cellb hb9 R0
      replace R1 := cellb hb9 R1
      replace R2 := cellb hb9 R2
      replace R3 := cellb hb9 R3
      replace R4 := cellb hb9 R4
      replace Z0 : w9.frozen? ⟨w.heap.size + 2, 0, none⟩ = false := by rw [hb9.frozen (p := ⟨w.heap.size + 2, 0, none⟩) (by simp; omega)]; exact Z0
      replace Z1 : w9.frozen? ⟨w.heap.size + 2, 1, none⟩ = false := by rw [hb9.frozen (p := ⟨w.heap.size + 2, 1, none⟩) (by simp; omega)]; exact Z1
      replace Z2 : w9.frozen? ⟨w.heap.size + 2, 2, none⟩ = false := by rw [hb9.frozen (p := ⟨w.heap.size + 2, 2, none⟩) (by simp; omega)]; exact Z2
      replace Z3 : w9.frozen? ⟨w.heap.size + 2, 3, none⟩ = false := by rw [hb9.frozen (p := ⟨w.heap.size + 2, 3, none⟩) (by simp; omega)]; exact Z3
      replace Z4 : w9.frozen? ⟨w.heap.size + 2, 4, none⟩ = false := by rw [hb9.frozen (p := ⟨w.heap.size + 2, 4, none⟩) (by simp; omega)]; exact Z4
      have b9 := b1.trans (hb9.mono b1.size)
      have hr := res5 (w := w9) (r := w.heap.size + 2) (.int .i64 3) (.int .i64 0) (.int .i64 0) (.slice none 0 0) (.slice none 0 0) R0 R1 R2 R3 R4
      go_wp2
      refine bodyPost_ret (v := .agg #[.int .i64 3, .int .i64 0, .int .i64 0, .slice none 0 0, .slice none 0 0]) (by simp only [results, Try.results15]; simp [go_sem, hr.1, hr.2.1, hr.2.2.1, hr.2.2.2.1, hr.2.2.2.2]) rfl ⟨_, _, rfl, ?_, b9.trans (show Below w.heap.size w9 _ from (by repeat' (first | with_reducible exact Below.refl _ _ | with_reducible assumption | with_reducible refine Below.drew ?_ | with_reducible refine Below.alloc ?_ ?_ _ | with_reducible refine Below.setCell ?_ ?_ _ | (simp; done) | (simp; omega) | omega)))⟩
      exact GOwn.nil _ _ _ (by have := b9.size; simp [World.setCell]; omega)
    | true =>
      cases k1 : cellB (c, g) with
      | false =>
        obtain ⟨g1, g2, g3, g4⟩ := hbd hG
        rw [putcRes_def, gres_bad hG (by first | (rw [k0]; rfl) | (rw [k0, k1]; rfl))]
        rw [hG] at HF
        simp only [gbad]
        go_enter Try.func15, Try.ntmps15
        go_wp2_with fail
        refine HF.mono ?_
        rintro e w1 ⟨rfl, hb1⟩
        have A0 : w1.cell? ⟨w.heap.size, 0, none⟩ = some (.int .i64 r) := cellb hb1 (by simp [go_sem])
        have A1 : w1.cell? ⟨w.heap.size, 1, none⟩ = some (.int .i64 wd) := cellb hb1 (by simp [go_sem])
        have A2 : w1.cell? ⟨w.heap.size, 2, none⟩ = some (.slice a1 cs.length c1) := cellb hb1 (by simp [go_sem])
        have A3 : w1.cell? ⟨w.heap.size, 3, none⟩ = some (.slice a2 bs.length c2) := cellb hb1 (by simp [go_sem])
        have P0 : w1.cell? ⟨w.heap.size + 1, 0, none⟩ = some (.int .i64 c) := cellb hb1 (by simp [go_sem])
        have P1 : w1.cell? ⟨w.heap.size + 1, 1, none⟩ = some (.int .i64 g) := cellb hb1 (by simp [go_sem])
        have R0 : w1.cell? ⟨w.heap.size + 2, 0, none⟩ = some (.int .i64 0) := cellb hb1 (by simp [go_sem])
        have Z0 : w1.frozen? ⟨w.heap.size + 2, 0, none⟩ = false := by rw [hb1.frozen (p := ⟨w.heap.size + 2, 0, none⟩) (by simp)]; simp [go_sem]
        have R1 : w1.cell? ⟨w.heap.size + 2, 1, none⟩ = some (.int .i64 0) := cellb hb1 (by simp [go_sem])
        have Z1 : w1.frozen? ⟨w.heap.size + 2, 1, none⟩ = false := by rw [hb1.frozen (p := ⟨w.heap.size + 2, 1, none⟩) (by simp)]; simp [go_sem]
        have R2 : w1.cell? ⟨w.heap.size + 2, 2, none⟩ = some (.int .i64 0) := cellb hb1 (by simp [go_sem])
        have Z2 : w1.frozen? ⟨w.heap.size + 2, 2, none⟩ = false := by rw [hb1.frozen (p := ⟨w.heap.size + 2, 2, none⟩) (by simp)]; simp [go_sem]
        have R3 : w1.cell? ⟨w.heap.size + 2, 3, none⟩ = some (.slice none 0 0) := cellb hb1 (by simp [go_sem])
        have Z3 : w1.frozen? ⟨w.heap.size + 2, 3, none⟩ = false := by rw [hb1.frozen (p := ⟨w.heap.size + 2, 3, none⟩) (by simp)]; simp [go_sem]
        have R4 : w1.cell? ⟨w.heap.size + 2, 4, none⟩ = some (.slice none 0 0) := cellb hb1 (by simp [go_sem])
        have Z4 : w1.frozen? ⟨w.heap.size + 2, 4, none⟩ = false := by rw [hb1.frozen (p := ⟨w.heap.size + 2, 4, none⟩) (by simp)]; simp [go_sem]
        have hs1 : w.heap.size + 3 ≤ w1.heap.size := by have := hb1.size; simp at this; omega
        have b1 : Below w.heap.size w w1 := hb0.trans (hb1.mono (by simp; omega))
        clear hb1 hb0 HF
        go_wp2_with (first
          | (go_at_call 39; refine (l3Place_calls r wd y x w.heap.size g1 g2 g3 g4 _ A0 A1).mono ?_; rintro e w' ⟨rfl, hw⟩; rw [hw]; clear hw w'; rw [k0])
          | (go_at_call 40; refine (l3Cell_calls c g _ _ _ P0 P1).mono ?_; rintro e w' ⟨rfl, hw⟩; rw [hw]; clear hw w'; rw [k1]))
        go_wp2_with fail
        refine (l3Bad_calls 3 _).mono ?_
        rintro e w9 ⟨rfl, hb9⟩
        replace R0 := cellb hb9 R0
        replace R1 := cellb hb9 R1
        replace R2 := cellb hb9 R2
        replace R3 := cellb hb9 R3
        replace R4 := cellb hb9 R4
        replace Z0 : w9.frozen? ⟨w.heap.size + 2, 0, none⟩ = false := by rw [hb9.frozen (p := ⟨w.heap.size + 2, 0, none⟩) (by simp; omega)]; exact Z0
        replace Z1 : w9.frozen? ⟨w.heap.size + 2, 1, none⟩ = false := by rw [hb9.frozen (p := ⟨w.heap.size + 2, 1, none⟩) (by simp; omega)]; exact Z1
        replace Z2 : w9.frozen? ⟨w.heap.size + 2, 2, none⟩ = false := by rw [hb9.frozen (p := ⟨w.heap.size + 2, 2, none⟩) (by simp; omega)]; exact Z2
        replace Z3 : w9.frozen? ⟨w.heap.size + 2, 3, none⟩ = false := by rw [hb9.frozen (p := ⟨w.heap.size + 2, 3, none⟩) (by simp; omega)]; exact Z3
        replace Z4 : w9.frozen? ⟨w.heap.size + 2, 4, none⟩ = false := by rw [hb9.frozen (p := ⟨w.heap.size + 2, 4, none⟩) (by simp; omega)]; exact Z4
        have b9 := b1.trans (hb9.mono b1.size)
        have hr := res5 (w := w9) (r := w.heap.size + 2) (.int .i64 3) (.int .i64 0) (.int .i64 0) (.slice none 0 0) (.slice none 0 0) R0 R1 R2 R3 R4
        go_wp2
        refine bodyPost_ret (v := .agg #[.int .i64 3, .int .i64 0, .int .i64 0, .slice none 0 0, .slice none 0 0]) (by simp only [results, Try.results15]; simp [go_sem, hr.1, hr.2.1, hr.2.2.1, hr.2.2.2.1, hr.2.2.2.2]) rfl ⟨_, _, rfl, ?_, b9.trans (show Below w.heap.size w9 _ from (by repeat' (first | with_reducible exact Below.refl _ _ | with_reducible assumption | with_reducible refine Below.drew ?_ | with_reducible refine Below.alloc ?_ ?_ _ | with_reducible refine Below.setCell ?_ ?_ _ | (simp; done) | (simp; omega) | omega)))⟩
        exact GOwn.nil _ _ _ (by have := b9.size; simp [World.setCell]; omega)
      | true =>
        obtain ⟨g1, g2, g3, g4⟩ := hbd hG
        rw [putcRes_def, gres_ok hG (by rw [k0, k1]; rfl)]
        rw [hG] at HF
        have hfine := gfine_of_code hG
        obtain ⟨n1, n2, hq, n8, n9, n10⟩ := hfine.short
        obtain ⟨Kr, X, m', eK, eX, eW, q1, q2, q3, q4, y0, y1⟩ := place_nats hfine k0
        clear hfine hG hbd
        subst eX
        have eK' : (y * wd + (X : Int)).toNat = Kr + X := by omega
        rw [eK']
        have EK := hide eK
        have EW := hide eW
        clear eK eW eK'
        go_enter Try.func15, Try.ntmps15
        go_wp2_with fail
        refine HF.mono ?_
        rintro e w1 ⟨rfl, hb1⟩
        have A0 : w1.cell? ⟨w.heap.size, 0, none⟩ = some (.int .i64 r) := cellb hb1 (by simp [go_sem])
        have A1 : w1.cell? ⟨w.heap.size, 1, none⟩ = some (.int .i64 wd) := cellb hb1 (by simp [go_sem])
        have A2 : w1.cell? ⟨w.heap.size, 2, none⟩ = some (.slice a1 cs.length c1) := cellb hb1 (by simp [go_sem])
        have A3 : w1.cell? ⟨w.heap.size, 3, none⟩ = some (.slice a2 bs.length c2) := cellb hb1 (by simp [go_sem])
        have P0 : w1.cell? ⟨w.heap.size + 1, 0, none⟩ = some (.int .i64 c) := cellb hb1 (by simp [go_sem])
        have P1 : w1.cell? ⟨w.heap.size + 1, 1, none⟩ = some (.int .i64 g) := cellb hb1 (by simp [go_sem])
        have R0 : w1.cell? ⟨w.heap.size + 2, 0, none⟩ = some (.int .i64 0) := cellb hb1 (by simp [go_sem])
        have Z0 : w1.frozen? ⟨w.heap.size + 2, 0, none⟩ = false := by rw [hb1.frozen (p := ⟨w.heap.size + 2, 0, none⟩) (by simp)]; simp [go_sem]
        have R1 : w1.cell? ⟨w.heap.size + 2, 1, none⟩ = some (.int .i64 0) := cellb hb1 (by simp [go_sem])
        have Z1 : w1.frozen? ⟨w.heap.size + 2, 1, none⟩ = false := by rw [hb1.frozen (p := ⟨w.heap.size + 2, 1, none⟩) (by simp)]; simp [go_sem]
        have R2 : w1.cell? ⟨w.heap.size + 2, 2, none⟩ = some (.int .i64 0) := cellb hb1 (by simp [go_sem])
        have Z2 : w1.frozen? ⟨w.heap.size + 2, 2, none⟩ = false := by rw [hb1.frozen (p := ⟨w.heap.size + 2, 2, none⟩) (by simp)]; simp [go_sem]
        have R3 : w1.cell? ⟨w.heap.size + 2, 3, none⟩ = some (.slice none 0 0) := cellb hb1 (by simp [go_sem])
        have Z3 : w1.frozen? ⟨w.heap.size + 2, 3, none⟩ = false := by rw [hb1.frozen (p := ⟨w.heap.size + 2, 3, none⟩) (by simp)]; simp [go_sem]
        have R4 : w1.cell? ⟨w.heap.size + 2, 4, none⟩ = some (.slice none 0 0) := cellb hb1 (by simp [go_sem])
        have Z4 : w1.frozen? ⟨w.heap.size + 2, 4, none⟩ = false := by rw [hb1.frozen (p := ⟨w.heap.size + 2, 4, none⟩) (by simp)]; simp [go_sem]
        have hs1 : w.heap.size + 3 ≤ w1.heap.size := by have := hb1.size; simp at this; omega
        have b1 : Below w.heap.size w w1 := hb0.trans (hb1.mono (by simp; omega))
        clear hb1 hb0 HF
        go_wp2_with (first
          | (go_at_call 39; refine (l3Place_calls r wd y (X : Int) w.heap.size g1 g2 g3 g4 _ A0 A1).mono ?_; rintro e w' ⟨rfl, hw⟩; rw [hw]; clear hw w'; rw [k0])
          | (go_at_call 40; refine (l3Cell_calls c g _ _ _ P0 P1).mono ?_; rintro e w' ⟨rfl, hw⟩; rw [hw]; clear hw w'; rw [k1]))
        refine (l3Copy_calls r wd cs bs _ _ w1 hn1 hn2 (h1.below b1) (h2.below b1)).mono ?_
        rintro e w2 ⟨x, y, m, rfl, m1, m2, ox, xm, oy, hb2⟩
        replace A0 := cellb hb2 A0
        replace A1 := cellb hb2 A1
        replace A2 := cellb hb2 A2
        replace A3 := cellb hb2 A3
        replace P0 := cellb hb2 P0
        replace P1 := cellb hb2 P1
        replace R0 := cellb hb2 R0
        replace R1 := cellb hb2 R1
        replace R2 := cellb hb2 R2
        replace R3 := cellb hb2 R3
        replace R4 := cellb hb2 R4
        replace Z0 : w2.frozen? ⟨w.heap.size + 2, 0, none⟩ = false := by rw [hb2.frozen (p := ⟨w.heap.size + 2, 0, none⟩) (by simp; omega)]; exact Z0
        replace Z1 : w2.frozen? ⟨w.heap.size + 2, 1, none⟩ = false := by rw [hb2.frozen (p := ⟨w.heap.size + 2, 1, none⟩) (by simp; omega)]; exact Z1
        replace Z2 : w2.frozen? ⟨w.heap.size + 2, 2, none⟩ = false := by rw [hb2.frozen (p := ⟨w.heap.size + 2, 2, none⟩) (by simp; omega)]; exact Z2
        replace Z3 : w2.frozen? ⟨w.heap.size + 2, 3, none⟩ = false := by rw [hb2.frozen (p := ⟨w.heap.size + 2, 3, none⟩) (by simp; omega)]; exact Z3
        replace Z4 : w2.frozen? ⟨w.heap.size + 2, 4, none⟩ = false := by rw [hb2.frozen (p := ⟨w.heap.size + 2, 4, none⟩) (by simp; omega)]; exact Z4
        have b2 := b1.trans (hb2.mono b1.size)
        have hs2 : w1.heap.size ≤ w2.heap.size := hb2.size
        obtain ⟨bx, cx, rfl, hcx, _, x1, x2, hrow⟩ := own_row ox n8
        obtain ⟨ay, cy, rfl, hyc⟩ := own_room2 oy
        have x3 : bx < m := xm bx rfl
        have HX := hide hrow
        have HY := hide oy
        clear hrow oy ox xm hb2
        obtain ⟨ix, hix⟩ : ∃ ix : Nat, ix = Kr + X := ⟨_, rfl⟩
        have e1 : IntKind.i64.wrap (y * wd) = (Kr : Int) := by rw [EK.out]; exact wrap_small (by omega) (by omega)
        have e2 : IntKind.i64.wrap (ix : Int) = (ix : Int) := wrap_small (by omega) (by omega)
        have e3 : (Kr : Int) + (X : Int) = (ix : Int) := by omega
        have hlt : (ix : Int) < (cs.length : Int) := by omega
        have hltn : ix < cs.length := by omega
        have l0 : w.heap.size < w2.heap.size := by omega
        have l1 : w.heap.size + 1 < w2.heap.size := by omega
        have l2 : w.heap.size + 2 < w2.heap.size := by omega
        have HIX := hide hix
        clear hix
        obtain ⟨⟨o1, o2⟩, o3, o4⟩ := HX.out ix hltn
        rw [Nat.zero_add] at o1 o2 o3 o4
        generalize (cs.getD ix (0, 0)).1 = p1 at o1
        generalize (cs.getD ix (0, 0)).2 = p2 at o2
        have o5 : (w2.setCell ⟨bx, ix * 2, none⟩ (.int .i64 c)).cell? ⟨bx, ix * 2 + 1, none⟩ = some (.int .i64 p2) := by rw [World.cell?_setCell_other _ _ _ _ (addr_ne (by omega))]; exact o2
        have ht5 : Touch bx (ix * 2) (ix * 2 + 2) w2 ((w2.setCell ⟨bx, ix * 2, none⟩ (.int .i64 c)).setCell ⟨bx, ix * 2 + 1, none⟩ (.int .i64 g)) := ((Touch.refl _ _ _ _).setCell (by omega) (by omega) _).setCell (by omega) (by omega) _
        have hr5 : Row ((w2.setCell ⟨bx, ix * 2, none⟩ (.int .i64 c)).setCell ⟨bx, ix * 2 + 1, none⟩ (.int .i64 g)) bx 0 cs.length (fun i => if i = ix then (c, g) else cs.getD i (0, 0)) := by have h := HX.out.store (k := ix) hltn c g; rw [Nat.zero_add] at h; exact h
        have R0n := ht5.cellAt R0 (by omega)
        have R1n := ht5.cellAt R1 (by omega)
        have R2n := ht5.cellAt R2 (by omega)
        have R3n := ht5.cellAt R3 (by omega)
        have R4n := ht5.cellAt R4 (by omega)
        have Z0n := ht5.frozenAt (by omega) Z0
        have Z1n := ht5.frozenAt (by omega) Z1
        have Z2n := ht5.frozenAt (by omega) Z2
        have Z3n := ht5.frozenAt (by omega) Z3
        have Z4n := ht5.frozenAt (by omega) Z4
        have b5 : Below w.heap.size w ((w2.setCell ⟨bx, ix * 2, none⟩ (.int .i64 c)).setCell ⟨bx, ix * 2 + 1, none⟩ (.int .i64 g)) := b2.trans (ht5.below (by omega) (by omega))
        have hs5 : ((w2.setCell ⟨bx, ix * 2, none⟩ (.int .i64 c)).setCell ⟨bx, ix * 2 + 1, none⟩ (.int .i64 g)).heap.size = w2.heap.size := by simp [World.setCell]
        have l5 := HY.out.lt
        have HY5 := hide (own_touch HY.out ht5 (fun k hk => by have := (l5 k hk).1; omega))
        have HR5 := hide hr5
        have hr := hide (res5 (w := ((w2.setCell ⟨bx, ix * 2, none⟩ (.int .i64 c)).setCell ⟨bx, ix * 2 + 1, none⟩ (.int .i64 g))) (r := w.heap.size + 2) (.int .i64 0) (.int .i64 r) (.int .i64 wd) (.slice (some ⟨bx, 0, none⟩) cs.length cx) (.slice ay bs.length cy) R0n R1n R2n R3n R4n)
        clear ht5 hr5 l5 HX HY
        go_wp2
        generalize hw5 : ((w2.setCell ⟨bx, ix * 2, none⟩ (.int .i64 c)).setCell ⟨bx, ix * 2 + 1, none⟩ (.int .i64 g)) = w5 at *
        obtain ⟨r0, r1, r2, r3, r4⟩ := hr.out
        have lr : w.heap.size + 2 < w5.heap.size := by omega
        refine bodyPost_ret (v := .agg #[.int .i64 0, .int .i64 r, .int .i64 wd, .slice (some ⟨bx, 0, none⟩) cs.length cx, .slice ay bs.length cy]) (by simp only [results, Try.results15]; simp [go_sem, r0, r1, r2, r3, r4, lr]) rfl ⟨_, _, rfl, ?_, b5.trans (show Below w.heap.size w5 _ from (by repeat' (first | with_reducible exact Below.refl _ _ | with_reducible assumption | with_reducible refine Below.drew ?_ | with_reducible refine Below.alloc ?_ ?_ _ | with_reducible refine Below.setCell ?_ ?_ _ | (simp; done) | (simp; omega) | omega)))⟩
        rw [← HIX.out]
        refine (gown_of (w := w5) (base := w1.heap.size) (m := m) HR5.out (by omega) (by omega) HY5.out (by omega) (by omega) (by simp [World.setCell]) (fun k hkk => ?_) (by omega)).mono (by omega) (Nat.le_refl _)
        by_cases hk : k < w1.heap.size
        · exact .inr hk
        · left
          rw [Below.heap_alloc _ _ _ (by simpa [World.setCell] using hkk)]
          simp only [World.setCell, Array.getElem?_modify]
          repeat rw [if_neg (by omega)]
  · rw [putcRes_def, gres_fault hG]
    generalize gridCode r wd cs bs = code at *
    have hcb : (code != 0) = true := by simpa using hG
    simp only [gbad]
    go_enter Try.func15, Try.ntmps15
    go_wp2_with fail
    refine HF.mono ?_
    rintro e w1 ⟨rfl, hb1⟩
    have A0 : w1.cell? ⟨w.heap.size, 0, none⟩ = some (.int .i64 r) := cellb hb1 (by simp [go_sem])
    have A1 : w1.cell? ⟨w.heap.size, 1, none⟩ = some (.int .i64 wd) := cellb hb1 (by simp [go_sem])
    have A2 : w1.cell? ⟨w.heap.size, 2, none⟩ = some (.slice a1 cs.length c1) := cellb hb1 (by simp [go_sem])
    have A3 : w1.cell? ⟨w.heap.size, 3, none⟩ = some (.slice a2 bs.length c2) := cellb hb1 (by simp [go_sem])
    have P0 : w1.cell? ⟨w.heap.size + 1, 0, none⟩ = some (.int .i64 c) := cellb hb1 (by simp [go_sem])
    have P1 : w1.cell? ⟨w.heap.size + 1, 1, none⟩ = some (.int .i64 g) := cellb hb1 (by simp [go_sem])
    have R0 : w1.cell? ⟨w.heap.size + 2, 0, none⟩ = some (.int .i64 0) := cellb hb1 (by simp [go_sem])
    have Z0 : w1.frozen? ⟨w.heap.size + 2, 0, none⟩ = false := by rw [hb1.frozen (p := ⟨w.heap.size + 2, 0, none⟩) (by simp)]; simp [go_sem]
    have R1 : w1.cell? ⟨w.heap.size + 2, 1, none⟩ = some (.int .i64 0) := cellb hb1 (by simp [go_sem])
    have Z1 : w1.frozen? ⟨w.heap.size + 2, 1, none⟩ = false := by rw [hb1.frozen (p := ⟨w.heap.size + 2, 1, none⟩) (by simp)]; simp [go_sem]
    have R2 : w1.cell? ⟨w.heap.size + 2, 2, none⟩ = some (.int .i64 0) := cellb hb1 (by simp [go_sem])
    have Z2 : w1.frozen? ⟨w.heap.size + 2, 2, none⟩ = false := by rw [hb1.frozen (p := ⟨w.heap.size + 2, 2, none⟩) (by simp)]; simp [go_sem]
    have R3 : w1.cell? ⟨w.heap.size + 2, 3, none⟩ = some (.slice none 0 0) := cellb hb1 (by simp [go_sem])
    have Z3 : w1.frozen? ⟨w.heap.size + 2, 3, none⟩ = false := by rw [hb1.frozen (p := ⟨w.heap.size + 2, 3, none⟩) (by simp)]; simp [go_sem]
    have R4 : w1.cell? ⟨w.heap.size + 2, 4, none⟩ = some (.slice none 0 0) := cellb hb1 (by simp [go_sem])
    have Z4 : w1.frozen? ⟨w.heap.size + 2, 4, none⟩ = false := by rw [hb1.frozen (p := ⟨w.heap.size + 2, 4, none⟩) (by simp)]; simp [go_sem]
    have hs1 : w.heap.size + 3 ≤ w1.heap.size := by have := hb1.size; simp at this; omega
    have b1 : Below w.heap.size w w1 := hb0.trans (hb1.mono (by simp; omega))
    clear hb1 hb0 HF
    go_wp2_with fail
    refine (l3Bad_calls code _).mono ?_
    rintro e w9 ⟨rfl, hb9⟩
    replace R0 := cellb hb9 R0
    replace R1 := cellb hb9 R1
    replace R2 := cellb hb9 R2
    replace R3 := cellb hb9 R3
    replace R4 := cellb hb9 R4
    replace Z0 : w9.frozen? ⟨w.heap.size + 2, 0, none⟩ = false := by rw [hb9.frozen (p := ⟨w.heap.size + 2, 0, none⟩) (by simp; omega)]; exact Z0
    replace Z1 : w9.frozen? ⟨w.heap.size + 2, 1, none⟩ = false := by rw [hb9.frozen (p := ⟨w.heap.size + 2, 1, none⟩) (by simp; omega)]; exact Z1
    replace Z2 : w9.frozen? ⟨w.heap.size + 2, 2, none⟩ = false := by rw [hb9.frozen (p := ⟨w.heap.size + 2, 2, none⟩) (by simp; omega)]; exact Z2
    replace Z3 : w9.frozen? ⟨w.heap.size + 2, 3, none⟩ = false := by rw [hb9.frozen (p := ⟨w.heap.size + 2, 3, none⟩) (by simp; omega)]; exact Z3
    replace Z4 : w9.frozen? ⟨w.heap.size + 2, 4, none⟩ = false := by rw [hb9.frozen (p := ⟨w.heap.size + 2, 4, none⟩) (by simp; omega)]; exact Z4
    have b9 := b1.trans (hb9.mono b1.size)
    have hr := res5 (w := w9) (r := w.heap.size + 2) (.int .i64 code) (.int .i64 0) (.int .i64 0) (.slice none 0 0) (.slice none 0 0) R0 R1 R2 R3 R4
    go_wp2
    refine bodyPost_ret (v := .agg #[.int .i64 code, .int .i64 0, .int .i64 0, .slice none 0 0, .slice none 0 0]) (by simp only [results, Try.results15]; simp [go_sem, hr.1, hr.2.1, hr.2.2.1, hr.2.2.2.1, hr.2.2.2.2]) rfl ⟨_, _, rfl, ?_, b9.trans (show Below w.heap.size w9 _ from (by repeat' (first | with_reducible exact Below.refl _ _ | with_reducible assumption | with_reducible refine Below.drew ?_ | with_reducible refine Below.alloc ?_ ?_ _ | with_reducible refine Below.setCell ?_ ?_ _ | (simp; done) | (simp; omega) | omega)))⟩
    exact GOwn.nil _ _ _ (by have := b9.size; simp [World.setCell]; omega)

end Go.Proofs.Ytbndncfkkhjkoai
