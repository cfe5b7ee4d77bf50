/-
  The program's functions on sheets: blankOf, height, part, row, fill, slide, sheetsOf, gridOf.
-/
import Derived.Test.YtknkbihjboadjaaDoorRows
import Derived.Test.YtknkbihjboadjaaDoorGridFaults
import Derived.Test.YtknkbihjboadjaaDoorGridMem
import Derived.Laws.Small
import Derived.Deep.QuietTactic
import Derived.BigQuiet
import Derived.Deep.RegionHeld3
namespace Go.Proofs.YtknkbihjboadjaaDoor
set_option maxRecDepth 20000
open Go.ChangeShapes Go.WideShapes Go.ChangeAt Go.RowKit
set_option linter.unusedVariables false
set_option linter.unusedSimpArgs false

/-- The slice v has n elements from place off of block b on. -/
def SlAt (v : Value) (b off n cap : Nat) : Prop := n ≤ cap ∧ ∃ a, v = .slice a n cap ∧ (0 < n → a = some ⟨b, off, none⟩)

set_option maxHeartbeats 400000 in
theorem height_calls (wd : Int) (h1 : 1 ≤ wd) (h2 : wd ≤ 1000) (a : Option Addr) (n cap : Nat) (hn : n ≤ 1048576) (w : World) :
    Calls Tryd.prog 30 #[.agg #[.int .i64 wd, .slice a n cap]] w fun e w' => e = .returned (.int .i64 ((n : Int) / wd)) ∧ Below w.heap.size w w' := by
  have hq : wrap64 ((n : Int) / wd) = (n : Int) / wd := by
    have h0 := Int.ediv_nonneg (show (0 : Int) ≤ n by omega) (show 0 ≤ wd by omega)
    have h3 := Int.ediv_le_self wd (show (0 : Int) ≤ n by omega)
    generalize (n : Int) / wd = q at *
    unfold wrap64
    omega
  go_enter Tryd.func30, Tryd.ntmps30
  go_wp2
  go_ret
  refine ⟨?_, (by repeat' (first | with_reducible exact Below.refl _ _ | with_reducible assumption | with_reducible refine Below.drew ?_ | with_reducible refine Below.alloc ?_ ?_ _ | with_reducible refine Below.setCell ?_ ?_ _ | (simp; done) | (simp; omega) | omega))⟩
  show Ending.returned (.int .i64 (wrap64 ((n : Int) / wd))) = _
  rw [hq]

set_option maxHeartbeats 1000000 in
theorem part_calls (wd f t : Int) (b off n cap k u : Nat) (v : Value) (hv : SlAt v b off n cap) (hk : f * wd = (k : Int)) (hu : t * wd = (u : Int)) (hku : k ≤ u) (hun : u ≤ n) (hn : n ≤ 1048576) (w : World) :
    Calls Tryd.prog 86 #[.agg #[.int .i64 wd, v], .int .i64 f, .int .i64 t] w fun e w' => ∃ v', e = .returned (.agg #[.int .i64 wd, v']) ∧ SlAt v' b (off + k * 2) (u - k) (cap - k) ∧ Below w.heap.size w w' := by
  obtain ⟨hc, a, rfl, ha⟩ := hv
  have e1 : IntKind.i64.wrap (f * wd) = (k : Int) := by rw [hk]; exact wrap_small (by omega) (by omega)
  have e2 : IntKind.i64.wrap (t * wd) = (u : Int) := by rw [hu]; exact wrap_small (by omega) (by omega)
  have e4 : u ≤ cap := by omega
  have e5 : (k : Int) ≤ (u : Int) := by omega
  have e6 : (u : Int) ≤ (cap : Int) := by omega
  have HA := hide ha
  have HK := hide hk
  have HU := hide hu
  clear ha hk hu
  by_cases hck : cap = k
  · subst hck
    obtain rfl : u = cap := by omega
    go_enter Tryd.func86, Tryd.ntmps86
    go_wp2_with fail
    go_region_held3 (fun w' => Below w.heap.size w w' ∧ w'.cell? ⟨w.heap.size, 0, none⟩ = some (.int .i64 wd) ∧ w'.cell? ⟨w.heap.size, 1, none⟩ = some (.slice a n u))
      (first
        | exact ⟨(by repeat' (first | with_reducible exact Below.refl _ _ | with_reducible assumption | with_reducible refine Below.drew ?_ | with_reducible refine Below.alloc ?_ ?_ _ | with_reducible refine Below.setCell ?_ ?_ _ | (simp; done) | (simp; omega) | omega)), by simp [go_sem], by simp [go_sem]⟩)
      (fail)
    go_wp2
    refine bodyPost_ret (v := .agg #[.int .i64 wd, .slice a 0 0]) (by simp only [results, Tryd.results86]; simp [go_sem]) rfl ⟨_, rfl, ⟨by omega, a, by simp, fun h => by omega⟩, (by repeat' (first | with_reducible exact Below.refl _ _ | with_reducible assumption | with_reducible refine Below.drew ?_ | with_reducible refine Below.alloc ?_ ?_ _ | with_reducible refine Below.setCell ?_ ?_ _ | (simp; done) | (simp; omega) | omega))⟩
  · have hck' : ¬ k = cap := fun h => hck h.symm
    go_enter Tryd.func86, Tryd.ntmps86
    go_wp2_with fail
    go_region_held3 (fun w' => Below w.heap.size w w' ∧ w'.cell? ⟨w.heap.size, 0, none⟩ = some (.int .i64 wd) ∧ w'.cell? ⟨w.heap.size, 1, none⟩ = some (.slice a n cap))
      (first
        | exact ⟨(by repeat' (first | with_reducible exact Below.refl _ _ | with_reducible assumption | with_reducible refine Below.drew ?_ | with_reducible refine Below.alloc ?_ ?_ _ | with_reducible refine Below.setCell ?_ ?_ _ | (simp; done) | (simp; omega) | omega)), by simp [go_sem], by simp [go_sem]⟩)
      (fail)
    go_wp2
    refine bodyPost_ret (v := .agg #[.int .i64 wd, .slice (a.map (fun x => x.add (k * 2))) (u - k) (cap - k)]) (by simp only [results, Tryd.results86]; simp [go_sem]) rfl ⟨_, rfl, ⟨by omega, _, rfl, fun h => ?_⟩, (by repeat' (first | with_reducible exact Below.refl _ _ | with_reducible assumption | with_reducible refine Below.drew ?_ | with_reducible refine Below.alloc ?_ ?_ _ | with_reducible refine Below.setCell ?_ ?_ _ | (simp; done) | (simp; omega) | omega))⟩
    rw [HA.out (by omega)]
    simp [Addr.add]

theorem fld_sheet1 (x0 : Value) (a : Option Addr) (n m : Nat) (w : World) : (Instr.field 60 (.agg #[x0, .slice a n m]) 1).run Tryd.prog w = .ok (.slice a n m) w := by kernel_rfl

set_option maxHeartbeats 1000000 in
theorem row_calls (wd y : Int) (b off n cap k m : Nat) (v : Value) (hv : SlAt v b off n cap) (hk : y * wd = (k : Int)) (hm : wd = (m : Int)) (h0 : 0 ≤ y) (h1 : y ≤ 1000) (hkm : k + m ≤ n) (hn : n ≤ 1048576) (w : World) :
    Calls Tryd.prog 66 #[.agg #[.int .i64 wd, v], .int .i64 y] w fun e w' => ∃ v', e = .returned v' ∧ SlAt v' b (off + k * 2) m (cap - k) ∧ Below w.heap.size w w' := by
  have hv' := hv
  obtain ⟨hc, a, rfl, ha⟩ := hv'
  have hb0 : Below w.heap.size w (w.alloc (.cells #[.int .i64 wd, .slice a n cap] 60)) := (by repeat' (first | with_reducible exact Below.refl _ _ | with_reducible assumption | with_reducible refine Below.drew ?_ | with_reducible refine Below.alloc ?_ ?_ _ | with_reducible refine Below.setCell ?_ ?_ _ | (simp; done) | (simp; omega) | omega))
  have HP := part_calls wd y (y + 1) b off n cap k (k + m) (.slice a n cap) hv hk (by rw [Int.add_mul, hk, hm]; omega) (by omega) (by omega) hn (w.alloc (.cells #[.int .i64 wd, .slice a n cap] 60))
  have HA := hide ha
  have HK := hide hk
  have HM := hide hm
  clear ha hk hm hv
  have fs := fld_sheet1
  go_enter Tryd.func66, Tryd.ntmps66
  go_wp2_with fail
  refine HP.mono ?_
  rintro e w1 ⟨v', rfl, hs, hb1⟩
  rw [Nat.add_sub_cancel_left] at hs
  have hs' := hs
  obtain ⟨hc', a', rfl, ha'⟩ := hs'
  have HS := hide hs
  clear hs ha' HP
  go_wp2
  go_ret
  exact ⟨_, rfl, HS.out, hb0.trans (hb1.mono hb0.size)⟩

end Go.Proofs.YtknkbihjboadjaaDoor
