/-
  The last rows of a sheet: impl's last, walked.
-/
import Derived.Test.YtbndncfkkhjkoaiSheetFns
import Derived.Test.YtbndncfkkhjkoaiResMem
namespace Go.Proofs.Ytbndncfkkhjkoai
open Go.ChangeShapes Go.WideShapes Go.ChangeAt Go.RowKit
set_option linter.unusedVariables false
set_option linter.unusedSimpArgs false
set_option maxRecDepth 20000

set_option maxHeartbeats 2000000 in
theorem last_calls (wd : Int) (b off n cap H m : Nat) (v : Value) (hv : SlAt v b off n cap) (hn : n = H * m) (hm : wd = (m : Int)) (h1 : 1 ≤ m) (h2 : m ≤ 1000) (hH : H ≤ 1000) (hn1 : n ≤ 1048576) (w : World) :
    Calls Try.prog 57 #[.agg #[.int .i64 wd, v], .int .i64 5] w fun e w' => ∃ v', e = .returned (.agg #[.int .i64 wd, v']) ∧ SlAt v' b (off + ((H - 5) * m) * 2) (n - (H - 5) * m) (cap - (H - 5) * m) ∧ Below w.heap.size w w' := by
  have hv' := hv
  obtain ⟨hc, a, rfl, ha⟩ := hv'
  have hq : (n : Int) / wd = (H : Int) := by
    rw [hn, hm, Int.natCast_mul]
    exact Int.mul_ediv_cancel _ (by omega)
  have hle : (H - 5) * m ≤ n := by rw [hn]; exact Nat.mul_le_mul_right m (by omega)
  have HP := fun (f : Int) (hf : f = ((H - 5 : Nat) : Int)) (w : World) => part_calls wd f (H : Int) b off n cap ((H - 5) * m) n (.slice a n cap) hv (by rw [hm, hf, Int.natCast_mul]) (by rw [hm, hn, Int.natCast_mul]) hle (Nat.le_refl _) hn1 w
  have HH := fun w => height_calls wd (by omega) (by omega) a n cap hn1 w
  rw [hq] at HH
  have HN := hide hn
  have HM := hide hm
  clear hn hm ha hv hq
  have hb0 : Below w.heap.size w ((w.alloc (.cells #[.int .i64 wd, .slice a n cap] 53)).alloc (.cells #[.int .i64 0, .slice none 0 0] 53)) := (by repeat' (first | with_reducible exact Below.refl _ _ | with_reducible assumption | with_reducible refine Below.drew ?_ | with_reducible refine Below.alloc ?_ ?_ _ | with_reducible refine Below.setCell ?_ ?_ _ | (simp; done) | (simp; omega) | omega))
  have s5 : IntKind.i64.wrap ((H : Int) - 5) = (H : Int) - 5 := wrap_small (by omega) (by omega)
  go_enter Try.func57, Try.ntmps57
  go_wp2_with fail
  refine (HH _).mono ?_
  rintro e w1 ⟨rfl, hb1⟩
  have A0 : w1.cell? ⟨w.heap.size, 0, none⟩ = some (.int .i64 wd) := cellb hb1 (by simp [go_sem])
  have A1 : w1.cell? ⟨w.heap.size, 1, none⟩ = some (.slice a n cap) := cellb hb1 (by simp [go_sem])
  have R0 : w1.cell? ⟨w.heap.size + 1, 0, none⟩ = some (.int .i64 0) := cellb hb1 (by simp [go_sem])
  have R1 : w1.cell? ⟨w.heap.size + 1, 1, none⟩ = some (.slice none 0 0) := cellb hb1 (by simp [go_sem])
  have Z0 : w1.frozen? ⟨w.heap.size + 1, 0, none⟩ = false := by rw [hb1.frozen (p := ⟨w.heap.size + 1, 0, none⟩) (by simp)]; simp [go_sem]
  have Z1 : w1.frozen? ⟨w.heap.size + 1, 1, none⟩ = false := by rw [hb1.frozen (p := ⟨w.heap.size + 1, 1, none⟩) (by simp)]; simp [go_sem]
  have hs1 : w.heap.size + 2 ≤ w1.heap.size := by have := hb1.size; simp at this; omega
  have b1 : Below w.heap.size w w1 := hb0.trans (hb1.mono (by simp; omega))
  clear hb1 hb0 HH
  by_cases h5 : H ≤ 5
  · have h5I : (H : Int) - 5 ≤ 0 := by omega
    have h5J : ¬ (0 : Int) < (H : Int) - 5 := by omega
    go_wp2_with fail
    refine (HP 0 (by omega) _).mono ?_
    rintro e w2 ⟨v2, rfl, hs, hb2⟩
    have hs' := hs
    obtain ⟨_, a2, rfl, _⟩ := hs'
    obtain ⟨q, hq⟩ : ∃ q, q = (H - 5) * m := ⟨_, rfl⟩
    rw [← hq] at hs
    obtain ⟨nn, hnn⟩ : ∃ nn, nn = n - q := ⟨_, rfl⟩
    obtain ⟨cc, hcc⟩ : ∃ cc, cc = cap - q := ⟨_, rfl⟩
    rw [← hnn, ← hcc] at hs
    rw [← hq, ← hnn, ← hcc]
    have HQ := hide hq
    have HNN := hide hnn
    have HCC := hide hcc
    clear hq hnn hcc
    have HS := hide hs
    replace R0 := cellb hb2 R0
    replace R1 := cellb hb2 R1
    replace Z0 : w2.frozen? ⟨w.heap.size + 1, 0, none⟩ = false := by rw [hb2.frozen (p := ⟨w.heap.size + 1, 0, none⟩) (by simp; omega)]; exact Z0
    replace Z1 : w2.frozen? ⟨w.heap.size + 1, 1, none⟩ = false := by rw [hb2.frozen (p := ⟨w.heap.size + 1, 1, none⟩) (by simp; omega)]; exact Z1
    have b2 := b1.trans (hb2.mono b1.size)
    clear hs hb2 HP
    obtain ⟨t0, t1⟩ := res2 (w := w2) (r := w.heap.size + 1) (.int .i64 wd) (.slice a2 nn cc) R0 R1
    go_wp2
    refine bodyPost_ret (v := .agg #[.int .i64 wd, .slice a2 nn cc]) (by simp [results, Try.results57, go_sem, t0, t1]) rfl ⟨_, rfl, (by have e1 := HQ.out; have e2 := HNN.out; have e3 := HCC.out; subst e1 e2 e3; exact HS.out), b2.trans (show Below w.heap.size w2 _ from (by repeat' (first | with_reducible exact Below.refl _ _ | with_reducible assumption | with_reducible refine Below.drew ?_ | with_reducible refine Below.alloc ?_ ?_ _ | with_reducible refine Below.setCell ?_ ?_ _ | (simp; done) | (simp; omega) | omega)))⟩
  · have h5I : (0 : Int) ≤ (H : Int) - 5 := by omega
    have h5K : ¬ (H : Int) - 5 ≤ 0 := by omega
    have h5J : (0 : Int) < (H : Int) - 5 := by omega
    go_wp2_with fail
    refine (HP ((H : Int) - 5) (by omega) _).mono ?_
    rintro e w2 ⟨v2, rfl, hs, hb2⟩
    have hs' := hs
    obtain ⟨_, a2, rfl, _⟩ := hs'
    obtain ⟨q, hq⟩ : ∃ q, q = (H - 5) * m := ⟨_, rfl⟩
    rw [← hq] at hs
    obtain ⟨nn, hnn⟩ : ∃ nn, nn = n - q := ⟨_, rfl⟩
    obtain ⟨cc, hcc⟩ : ∃ cc, cc = cap - q := ⟨_, rfl⟩
    rw [← hnn, ← hcc] at hs
    rw [← hq, ← hnn, ← hcc]
    have HQ := hide hq
    have HNN := hide hnn
    have HCC := hide hcc
    clear hq hnn hcc
    have HS := hide hs
    replace R0 := cellb hb2 R0
    replace R1 := cellb hb2 R1
    replace Z0 : w2.frozen? ⟨w.heap.size + 1, 0, none⟩ = false := by rw [hb2.frozen (p := ⟨w.heap.size + 1, 0, none⟩) (by simp; omega)]; exact Z0
    replace Z1 : w2.frozen? ⟨w.heap.size + 1, 1, none⟩ = false := by rw [hb2.frozen (p := ⟨w.heap.size + 1, 1, none⟩) (by simp; omega)]; exact Z1
    have b2 := b1.trans (hb2.mono b1.size)
    clear hs hb2 HP
    obtain ⟨t0, t1⟩ := res2 (w := w2) (r := w.heap.size + 1) (.int .i64 wd) (.slice a2 nn cc) R0 R1
    go_wp2
    refine bodyPost_ret (v := .agg #[.int .i64 wd, .slice a2 nn cc]) (by simp [results, Try.results57, go_sem, t0, t1]) rfl ⟨_, rfl, (by have e1 := HQ.out; have e2 := HNN.out; have e3 := HCC.out; subst e1 e2 e3; exact HS.out), b2.trans (show Below w.heap.size w2 _ from (by repeat' (first | with_reducible exact Below.refl _ _ | with_reducible assumption | with_reducible refine Below.drew ?_ | with_reducible refine Below.alloc ?_ ?_ _ | with_reducible refine Below.setCell ?_ ?_ _ | (simp; done) | (simp; omega) | omega)))⟩

end Go.Proofs.Ytbndncfkkhjkoai
