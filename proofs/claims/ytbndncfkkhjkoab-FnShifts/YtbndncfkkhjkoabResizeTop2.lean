/-
  What ResizeGrid answers, of the model.
-/
import Derived.Test.YtbndncfkkhjkoabResizeSpec
namespace Go.Proofs.Ytbndncfkkhjkoab
set_option maxRecDepth 20000
open Go.ChangeShapes Go.WideShapes Go.ChangeAt Go.RowKit
set_option linter.unusedVariables false
set_option linter.unusedSimpArgs false
set_option maxRecDepth 20000

set_option maxHeartbeats 2000000 in
theorem specResizeGrid_calls (r wd : Int) (cs bs : List (Int × Int)) (rows width : Int) (v1 v2 : Value) (w : World) (hn1 : cs.length ≤ 1048576) (hn2 : bs.length ≤ 1048576) (hk1 : Capped v1) (hk2 : Capped v2) (h1 : PRead w v1 cs) (h2 : PRead w v2 bs) :
    Calls Try.prog 10 #[.agg #[.int .i64 r, .int .i64 wd, v1, v2], .int .i64 rows, .int .i64 width] w fun e w' => ∃ v5 v6, e = .returned (.agg #[.int .i64 (resizeRes r wd cs bs rows width).code, .int .i64 (resizeRes r wd cs bs rows width).rows, .int .i64 (resizeRes r wd cs bs rows width).wd, v5, v6]) ∧ GOwn w.heap.size w'.heap.size w' v5 v6 (resizeRes r wd cs bs rows width).cs (resizeRes r wd cs bs rows width).bs ∧ Below w.heap.size w w' := by
  have h1' := h1
  obtain ⟨a1, c1, rfl, hx1⟩ := h1'
  clear hx1
  have h2' := h2
  obtain ⟨a2, c2, rfl, hx2⟩ := h2'
  clear hx2
  have hb0 : Below w.heap.size w ((w.alloc (.cells #[.int .i64 r, .int .i64 wd, .slice a1 cs.length c1, .slice a2 bs.length c2] 26)).alloc (.cells #[.int .i64 0, .int .i64 0, .int .i64 0, .slice none 0 0, .slice none 0 0] 30)) := (by repeat' (first | with_reducible exact Below.refl _ _ | with_reducible assumption | with_reducible refine Below.drew ?_ | with_reducible refine Below.alloc ?_ ?_ _ | with_reducible refine Below.setCell ?_ ?_ _ | (simp; done) | (simp; omega) | omega))
  have HF := l3Fault_calls r wd cs bs _ _ w.heap.size ((w.alloc (.cells #[.int .i64 r, .int .i64 wd, .slice a1 cs.length c1, .slice a2 bs.length c2] 26)).alloc (.cells #[.int .i64 0, .int .i64 0, .int .i64 0, .slice none 0 0, .slice none 0 0] 30)) hn1 hn2 (h1.below hb0) (h2.below hb0) (by simp [go_sem]) (by simp [go_sem]) (by simp [go_sem]) (by simp [go_sem])
  by_cases hG : gridCode r wd cs bs = 0
  · cases k0 : sizeB rows width with
    | false =>
      rw [resizeRes_def, gres_bad hG (by exact k0)]
      rw [hG] at HF
      simp only [gbad]
      go_enter Try.func10, Try.ntmps10
      go_wp2_with fail
      refine HF.mono ?_
      rintro e w1 ⟨rfl, hb1⟩
      have A0 : w1.cell? ⟨w.heap.size, 0, none⟩ = some (.int .i64 r) := cellb hb1 (by simp [go_sem])
      have A1 : w1.cell? ⟨w.heap.size, 1, none⟩ = some (.int .i64 wd) := cellb hb1 (by simp [go_sem])
      have A2 : w1.cell? ⟨w.heap.size, 2, none⟩ = some (.slice a1 cs.length c1) := cellb hb1 (by simp [go_sem])
      have A3 : w1.cell? ⟨w.heap.size, 3, none⟩ = some (.slice a2 bs.length c2) := cellb hb1 (by simp [go_sem])
      have R0 : w1.cell? ⟨w.heap.size + 1, 0, none⟩ = some (.int .i64 0) := cellb hb1 (by simp [go_sem])
      have Z0 : w1.frozen? ⟨w.heap.size + 1, 0, none⟩ = false := by rw [hb1.frozen (p := ⟨w.heap.size + 1, 0, none⟩) (by simp)]; simp [go_sem]
      have R1 : w1.cell? ⟨w.heap.size + 1, 1, none⟩ = some (.int .i64 0) := cellb hb1 (by simp [go_sem])
      have Z1 : w1.frozen? ⟨w.heap.size + 1, 1, none⟩ = false := by rw [hb1.frozen (p := ⟨w.heap.size + 1, 1, none⟩) (by simp)]; simp [go_sem]
      have R2 : w1.cell? ⟨w.heap.size + 1, 2, none⟩ = some (.int .i64 0) := cellb hb1 (by simp [go_sem])
      have Z2 : w1.frozen? ⟨w.heap.size + 1, 2, none⟩ = false := by rw [hb1.frozen (p := ⟨w.heap.size + 1, 2, none⟩) (by simp)]; simp [go_sem]
      have R3 : w1.cell? ⟨w.heap.size + 1, 3, none⟩ = some (.slice none 0 0) := cellb hb1 (by simp [go_sem])
      have Z3 : w1.frozen? ⟨w.heap.size + 1, 3, none⟩ = false := by rw [hb1.frozen (p := ⟨w.heap.size + 1, 3, none⟩) (by simp)]; simp [go_sem]
      have R4 : w1.cell? ⟨w.heap.size + 1, 4, none⟩ = some (.slice none 0 0) := cellb hb1 (by simp [go_sem])
      have Z4 : w1.frozen? ⟨w.heap.size + 1, 4, none⟩ = false := by rw [hb1.frozen (p := ⟨w.heap.size + 1, 4, none⟩) (by simp)]; simp [go_sem]
      have hs1 : w.heap.size + 2 ≤ w1.heap.size := by have := hb1.size; simp at this; omega
      have b1 : Below w.heap.size w w1 := hb0.trans (hb1.mono (by simp; omega))
      clear hb1 hb0 HF
      go_wp2_with (first
        | (go_at_call 39; refine (l3Size_calls _ _ _).mono ?_; rintro e w' ⟨rfl, hw⟩; rw [hw, k0]; clear hw w'))
      go_wp2_with fail
      refine (l3Bad_calls 3 _).mono ?_
      rintro e w9 ⟨rfl, hb9⟩
      replace R0 := cellb hb9 R0
      replace R1 := cellb hb9 R1
      replace R2 := cellb hb9 R2
      replace R3 := cellb hb9 R3
      replace R4 := cellb hb9 R4
      replace Z0 : w9.frozen? ⟨w.heap.size + 1, 0, none⟩ = false := by rw [hb9.frozen (p := ⟨w.heap.size + 1, 0, none⟩) (by simp; omega)]; exact Z0
      replace Z1 : w9.frozen? ⟨w.heap.size + 1, 1, none⟩ = false := by rw [hb9.frozen (p := ⟨w.heap.size + 1, 1, none⟩) (by simp; omega)]; exact Z1
      replace Z2 : w9.frozen? ⟨w.heap.size + 1, 2, none⟩ = false := by rw [hb9.frozen (p := ⟨w.heap.size + 1, 2, none⟩) (by simp; omega)]; exact Z2
      replace Z3 : w9.frozen? ⟨w.heap.size + 1, 3, none⟩ = false := by rw [hb9.frozen (p := ⟨w.heap.size + 1, 3, none⟩) (by simp; omega)]; exact Z3
      replace Z4 : w9.frozen? ⟨w.heap.size + 1, 4, none⟩ = false := by rw [hb9.frozen (p := ⟨w.heap.size + 1, 4, none⟩) (by simp; omega)]; exact Z4
      have b9 := b1.trans (hb9.mono b1.size)
      have hr := res5 (w := w9) (r := w.heap.size + 1) (.int .i64 3) (.int .i64 0) (.int .i64 0) (.slice none 0 0) (.slice none 0 0) R0 R1 R2 R3 R4
      go_wp2
      refine bodyPost_ret (v := .agg #[.int .i64 3, .int .i64 0, .int .i64 0, .slice none 0 0, .slice none 0 0]) (by simp only [results, Try.results10]; simp [go_sem, hr.1, hr.2.1, hr.2.2.1, hr.2.2.2.1, hr.2.2.2.2]) rfl ⟨_, _, rfl, ?_, b9.trans (show Below w.heap.size w9 _ from (by repeat' (first | with_reducible exact Below.refl _ _ | with_reducible assumption | with_reducible refine Below.drew ?_ | with_reducible refine Below.alloc ?_ ?_ _ | with_reducible refine Below.setCell ?_ ?_ _ | (simp; done) | (simp; omega) | omega)))⟩
      exact GOwn.nil _ _ _ (by have := b9.size; simp [World.setCell]; omega)
    | true =>
      rw [resizeRes_def, gres_ok hG k0]
      rw [hG] at HF
      have hfine := gfine_of_code hG
      obtain ⟨n1, n2, hq, n8, n9, n10⟩ := hfine.short
      obtain ⟨R, W, R', W', Hb, N', M', eR, eW, rfl, rfl, p1, p2, p3, p4, p5, p6, p7, p8, p9, p10, p11, p12, e1, e2, e3, e4, e5⟩ := resize_nats hfine k0
      clear hfine hG
      have eW' : wd.toNat = W := by omega
      have eR' : r.toNat = R := by omega
      simp only [eW', eR', Int.toNat_natCast, e3, ← e4, ← e5]
      have HRZ := fun (w1 : World) (b1 : Below w.heap.size w w1) => l3Resize_calls R W R' W' Hb N' M' r wd cs bs _ _ w1 (h1.below b1) (h2.below b1) hk1 hk2 eR eW p1 p2 p3 p4 p5 p6 p7 p8 p9 p10 p11 p12 n9 n10 e1 e2 e4 e5
      clear eW eW' eR eR' e1 e2 e3 e4 e5
      go_enter Try.func10, Try.ntmps10
      go_wp2_with fail
      refine HF.mono ?_
      rintro e w1 ⟨rfl, hb1⟩
      have A0 : w1.cell? ⟨w.heap.size, 0, none⟩ = some (.int .i64 r) := cellb hb1 (by simp [go_sem])
      have A1 : w1.cell? ⟨w.heap.size, 1, none⟩ = some (.int .i64 wd) := cellb hb1 (by simp [go_sem])
      have A2 : w1.cell? ⟨w.heap.size, 2, none⟩ = some (.slice a1 cs.length c1) := cellb hb1 (by simp [go_sem])
      have A3 : w1.cell? ⟨w.heap.size, 3, none⟩ = some (.slice a2 bs.length c2) := cellb hb1 (by simp [go_sem])
      have R0 : w1.cell? ⟨w.heap.size + 1, 0, none⟩ = some (.int .i64 0) := cellb hb1 (by simp [go_sem])
      have Z0 : w1.frozen? ⟨w.heap.size + 1, 0, none⟩ = false := by rw [hb1.frozen (p := ⟨w.heap.size + 1, 0, none⟩) (by simp)]; simp [go_sem]
      have R1 : w1.cell? ⟨w.heap.size + 1, 1, none⟩ = some (.int .i64 0) := cellb hb1 (by simp [go_sem])
      have Z1 : w1.frozen? ⟨w.heap.size + 1, 1, none⟩ = false := by rw [hb1.frozen (p := ⟨w.heap.size + 1, 1, none⟩) (by simp)]; simp [go_sem]
      have R2 : w1.cell? ⟨w.heap.size + 1, 2, none⟩ = some (.int .i64 0) := cellb hb1 (by simp [go_sem])
      have Z2 : w1.frozen? ⟨w.heap.size + 1, 2, none⟩ = false := by rw [hb1.frozen (p := ⟨w.heap.size + 1, 2, none⟩) (by simp)]; simp [go_sem]
      have R3 : w1.cell? ⟨w.heap.size + 1, 3, none⟩ = some (.slice none 0 0) := cellb hb1 (by simp [go_sem])
      have Z3 : w1.frozen? ⟨w.heap.size + 1, 3, none⟩ = false := by rw [hb1.frozen (p := ⟨w.heap.size + 1, 3, none⟩) (by simp)]; simp [go_sem]
      have R4 : w1.cell? ⟨w.heap.size + 1, 4, none⟩ = some (.slice none 0 0) := cellb hb1 (by simp [go_sem])
      have Z4 : w1.frozen? ⟨w.heap.size + 1, 4, none⟩ = false := by rw [hb1.frozen (p := ⟨w.heap.size + 1, 4, none⟩) (by simp)]; simp [go_sem]
      have hs1 : w.heap.size + 2 ≤ w1.heap.size := by have := hb1.size; simp at this; omega
      have b1 : Below w.heap.size w w1 := hb0.trans (hb1.mono (by simp; omega))
      clear hb1 hb0 HF
      go_wp2_with (first
        | (go_at_call 39; refine (l3Size_calls _ _ _).mono ?_; rintro e w' ⟨rfl, hw⟩; rw [hw, k0]; clear hw w'))
      refine (HRZ w1 b1).mono ?_
      clear HRZ
      rintro e w2 ⟨v5, v6, rfl, hown, hb2⟩
      replace A0 := cellb hb2 A0
      replace A1 := cellb hb2 A1
      replace A2 := cellb hb2 A2
      replace A3 := cellb hb2 A3
      replace R0 := cellb hb2 R0
      replace R1 := cellb hb2 R1
      replace R2 := cellb hb2 R2
      replace R3 := cellb hb2 R3
      replace R4 := cellb hb2 R4
      replace Z0 : w2.frozen? ⟨w.heap.size + 1, 0, none⟩ = false := by rw [hb2.frozen (p := ⟨w.heap.size + 1, 0, none⟩) (by simp; omega)]; exact Z0
      replace Z1 : w2.frozen? ⟨w.heap.size + 1, 1, none⟩ = false := by rw [hb2.frozen (p := ⟨w.heap.size + 1, 1, none⟩) (by simp; omega)]; exact Z1
      replace Z2 : w2.frozen? ⟨w.heap.size + 1, 2, none⟩ = false := by rw [hb2.frozen (p := ⟨w.heap.size + 1, 2, none⟩) (by simp; omega)]; exact Z2
      replace Z3 : w2.frozen? ⟨w.heap.size + 1, 3, none⟩ = false := by rw [hb2.frozen (p := ⟨w.heap.size + 1, 3, none⟩) (by simp; omega)]; exact Z3
      replace Z4 : w2.frozen? ⟨w.heap.size + 1, 4, none⟩ = false := by rw [hb2.frozen (p := ⟨w.heap.size + 1, 4, none⟩) (by simp; omega)]; exact Z4
      have b2 := b1.trans (hb2.mono b1.size)
      have hs2 : w1.heap.size ≤ w2.heap.size := hb2.size
      clear hb2 b1
      have hf := hown.forms
      rw [mkL_length, mkL_length] at hf
      obtain ⟨a5, c5, a6, c6, rfl, rfl⟩ := hf
      have HO := hide hown
      clear hown
      have hr := res5 (w := w2) (r := w.heap.size + 1) (.int .i64 0) (.int .i64 (R' : Int)) (.int .i64 (W' : Int)) (.slice a5 N' c5) (.slice a6 M' c6) R0 R1 R2 R3 R4
      go_wp2
      refine bodyPost_ret (v := .agg #[.int .i64 0, .int .i64 (R' : Int), .int .i64 (W' : Int), .slice a5 N' c5, .slice a6 M' c6]) (by simp only [results, Try.results10]; simp [go_sem, hr.1, hr.2.1, hr.2.2.1, hr.2.2.2.1, hr.2.2.2.2]) rfl ⟨_, _, rfl, ?_, b2.trans (show Below w.heap.size w2 _ from (by repeat' (first | with_reducible exact Below.refl _ _ | with_reducible assumption | with_reducible refine Below.drew ?_ | with_reducible refine Below.alloc ?_ ?_ _ | with_reducible refine Below.setCell ?_ ?_ _ | (simp; done) | (simp; omega) | omega)))⟩
      refine (HO.out.of_blocks (fun i h1 h2 => ?_)).mono (by omega) (by simp [World.setCell])
      simp only [World.setCell, Array.getElem?_modify]
      repeat rw [if_neg (by omega)]
  · rw [resizeRes_def, gres_fault hG]
    generalize gridCode r wd cs bs = code at *
    have hcb : (code != 0) = true := by simpa using hG
    simp only [gbad]
    go_enter Try.func10, Try.ntmps10
    go_wp2_with fail
    refine HF.mono ?_
    rintro e w1 ⟨rfl, hb1⟩
    have A0 : w1.cell? ⟨w.heap.size, 0, none⟩ = some (.int .i64 r) := cellb hb1 (by simp [go_sem])
    have A1 : w1.cell? ⟨w.heap.size, 1, none⟩ = some (.int .i64 wd) := cellb hb1 (by simp [go_sem])
    have A2 : w1.cell? ⟨w.heap.size, 2, none⟩ = some (.slice a1 cs.length c1) := cellb hb1 (by simp [go_sem])
    have A3 : w1.cell? ⟨w.heap.size, 3, none⟩ = some (.slice a2 bs.length c2) := cellb hb1 (by simp [go_sem])
    have R0 : w1.cell? ⟨w.heap.size + 1, 0, none⟩ = some (.int .i64 0) := cellb hb1 (by simp [go_sem])
    have Z0 : w1.frozen? ⟨w.heap.size + 1, 0, none⟩ = false := by rw [hb1.frozen (p := ⟨w.heap.size + 1, 0, none⟩) (by simp)]; simp [go_sem]
    have R1 : w1.cell? ⟨w.heap.size + 1, 1, none⟩ = some (.int .i64 0) := cellb hb1 (by simp [go_sem])
    have Z1 : w1.frozen? ⟨w.heap.size + 1, 1, none⟩ = false := by rw [hb1.frozen (p := ⟨w.heap.size + 1, 1, none⟩) (by simp)]; simp [go_sem]
    have R2 : w1.cell? ⟨w.heap.size + 1, 2, none⟩ = some (.int .i64 0) := cellb hb1 (by simp [go_sem])
    have Z2 : w1.frozen? ⟨w.heap.size + 1, 2, none⟩ = false := by rw [hb1.frozen (p := ⟨w.heap.size + 1, 2, none⟩) (by simp)]; simp [go_sem]
    have R3 : w1.cell? ⟨w.heap.size + 1, 3, none⟩ = some (.slice none 0 0) := cellb hb1 (by simp [go_sem])
    have Z3 : w1.frozen? ⟨w.heap.size + 1, 3, none⟩ = false := by rw [hb1.frozen (p := ⟨w.heap.size + 1, 3, none⟩) (by simp)]; simp [go_sem]
    have R4 : w1.cell? ⟨w.heap.size + 1, 4, none⟩ = some (.slice none 0 0) := cellb hb1 (by simp [go_sem])
    have Z4 : w1.frozen? ⟨w.heap.size + 1, 4, none⟩ = false := by rw [hb1.frozen (p := ⟨w.heap.size + 1, 4, none⟩) (by simp)]; simp [go_sem]
    have hs1 : w.heap.size + 2 ≤ w1.heap.size := by have := hb1.size; simp at this; omega
    have b1 : Below w.heap.size w w1 := hb0.trans (hb1.mono (by simp; omega))
    clear hb1 hb0 HF
    go_wp2_with fail
    refine (l3Bad_calls code _).mono ?_
    rintro e w9 ⟨rfl, hb9⟩
    replace R0 := cellb hb9 R0
    replace R1 := cellb hb9 R1
    replace R2 := cellb hb9 R2
    replace R3 := cellb hb9 R3
    replace R4 := cellb hb9 R4
    replace Z0 : w9.frozen? ⟨w.heap.size + 1, 0, none⟩ = false := by rw [hb9.frozen (p := ⟨w.heap.size + 1, 0, none⟩) (by simp; omega)]; exact Z0
    replace Z1 : w9.frozen? ⟨w.heap.size + 1, 1, none⟩ = false := by rw [hb9.frozen (p := ⟨w.heap.size + 1, 1, none⟩) (by simp; omega)]; exact Z1
    replace Z2 : w9.frozen? ⟨w.heap.size + 1, 2, none⟩ = false := by rw [hb9.frozen (p := ⟨w.heap.size + 1, 2, none⟩) (by simp; omega)]; exact Z2
    replace Z3 : w9.frozen? ⟨w.heap.size + 1, 3, none⟩ = false := by rw [hb9.frozen (p := ⟨w.heap.size + 1, 3, none⟩) (by simp; omega)]; exact Z3
    replace Z4 : w9.frozen? ⟨w.heap.size + 1, 4, none⟩ = false := by rw [hb9.frozen (p := ⟨w.heap.size + 1, 4, none⟩) (by simp; omega)]; exact Z4
    have b9 := b1.trans (hb9.mono b1.size)
    have hr := res5 (w := w9) (r := w.heap.size + 1) (.int .i64 code) (.int .i64 0) (.int .i64 0) (.slice none 0 0) (.slice none 0 0) R0 R1 R2 R3 R4
    go_wp2
    refine bodyPost_ret (v := .agg #[.int .i64 code, .int .i64 0, .int .i64 0, .slice none 0 0, .slice none 0 0]) (by simp only [results, Try.results10]; simp [go_sem, hr.1, hr.2.1, hr.2.2.1, hr.2.2.2.1, hr.2.2.2.2]) rfl ⟨_, _, rfl, ?_, b9.trans (show Below w.heap.size w9 _ from (by repeat' (first | with_reducible exact Below.refl _ _ | with_reducible assumption | with_reducible refine Below.drew ?_ | with_reducible refine Below.alloc ?_ ?_ _ | with_reducible refine Below.setCell ?_ ?_ _ | (simp; done) | (simp; omega) | omega)))⟩
    exact GOwn.nil _ _ _ (by have := b9.size; simp [World.setCell]; omega)

end Go.Proofs.Ytbndncfkkhjkoab
