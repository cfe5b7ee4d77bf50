/-
  The result 'DecoderResult' (a code, a list, a decoder): compared, marked, held; what StepDecoder answers, of the program and of the model.
-/
import Derived.Test.YtoedmfflokknjaaRows
import Derived.Test.YtoedmfflokknjaaStepImpl
namespace Go.Proofs.Ytoedmfflokknjaa
open Go.ChangeShapes Go.WideShapes Go.ChangeAt Go.RowKit
set_option linter.unusedVariables false
set_option linter.unusedSimpArgs false


/-- What StepDecoder answers. -/
def sdT (l lo v b : Int) : List Int := if dfault l lo v = 0 then stepT l lo v b else []
def sdL (l lo v b : Int) : Int := if dfault l lo v = 0 then stepL l lo v b else 0
def sdLo (l lo v b : Int) : Int := if dfault l lo v = 0 then stepLo l lo v b else 0
def sdV (l lo v b : Int) : Int := if dfault l lo v = 0 then stepV l lo v b else 0
theorem sdT_length (l lo v b : Int) : (sdT l lo v b).length ≤ 2 := by unfold sdT; split <;> simp [stepT_length]

set_option maxHeartbeats 1000000 in
theorem specStep_calls (l lo v b : Int) (w : World) (h0 : 0 ≤ b) (h1 : b ≤ 255) :
    Calls Try.prog 17 #[.agg #[.int .i64 l, .int .i64 lo, .int .i64 v], .int .u8 b] w fun e w' => ∃ x, e = .returned (.agg #[.int .i64 (dfault l lo v), x, .int .i64 (sdL l lo v b), .int .i64 (sdLo l lo v b), .int .i64 (sdV l lo v b)]) ∧ IntsAt .i64 w.heap.size w'.heap.size w' x (sdT l lo v b) ∧ Below w.heap.size w w' := by
  rcases dfault_cases l lo v with hf | hf
  · have eT : sdT l lo v b = stepT l lo v b := by unfold sdT; rw [if_pos hf]
    have eL : sdL l lo v b = stepL l lo v b := by unfold sdL; rw [if_pos hf]
    have eLo : sdLo l lo v b = stepLo l lo v b := by unfold sdLo; rw [if_pos hf]
    have eV : sdV l lo v b = stepV l lo v b := by unfold sdV; rw [if_pos hf]
    rw [eT, eL, eLo, eV, hf]
    clear eT eL eLo eV
    go_enter Try.func17, Try.ntmps17
    go_wp2_with fail
    refine (l1Fault_calls l lo v _ _ _ (by simp) (by simp) (by simp)).mono ?_
    rintro e w' ⟨rfl, hw⟩
    rw [hw, hf]
    clear hw w'
    go_wp2_with fail
    refine (l1Step_calls l lo v b _ hf h0 h1).mono ?_
    rintro e w1 ⟨x, rfl, hx, hb, _⟩
    obtain ⟨hcl, hfz⟩ := bcell hb
    have hs : w.heap.size + 1 < w1.heap.size := by have := hb.size; simp at this; omega
    have hbw : Below w.heap.size w w1 := ((by repeat' (first | with_reducible exact Below.refl _ _ | with_reducible assumption | with_reducible refine Below.drew ?_ | with_reducible refine Below.alloc ?_ ?_ _ | with_reducible refine Below.setCell ?_ ?_ _ | (simp; done) | (simp; omega) | omega)) : Below w.heap.size w _).trans (hb.mono (by simp; try omega))
    have hx' := hx
    obtain ⟨a, cap, rfl, hxx⟩ := hx'
    clear hxx
    have f0 : w1.cell? ⟨w.heap.size + 1, 0, none⟩ = some (.int .i64 0) := by rw [hcl _ _ (by simp)]; simp
    have f1 : w1.cell? ⟨w.heap.size + 1, 1, none⟩ = some (.slice none 0 0) := by rw [hcl _ _ (by simp)]; simp
    have f2 : w1.cell? ⟨w.heap.size + 1, 2, none⟩ = some (.int .i64 0) := by rw [hcl _ _ (by simp)]; simp
    have f3 : w1.cell? ⟨w.heap.size + 1, 3, none⟩ = some (.int .i64 0) := by rw [hcl _ _ (by simp)]; simp
    have f4 : w1.cell? ⟨w.heap.size + 1, 4, none⟩ = some (.int .i64 0) := by rw [hcl _ _ (by simp)]; simp
    have f5 : ∀ o, w1.frozen? ⟨w.heap.size + 1, o, none⟩ = false := fun o => by rw [hfz _ _ (by simp)]; simp
    clear hcl hfz hb
    go_wp2
    refine bodyPost_ret (v := .agg #[.int .i64 0, .slice a (stepT l lo v b).length cap, .int .i64 (stepL l lo v b), .int .i64 (stepLo l lo v b), .int .i64 (stepV l lo v b)]) (by simp [results, Try.results17, go_sem, f0, f1, f2, f3, f4, hs]) rfl ⟨_, rfl, ?_, (by repeat' (first | with_reducible exact Below.refl _ _ | with_reducible assumption | with_reducible refine Below.drew ?_ | with_reducible refine Below.alloc ?_ ?_ _ | with_reducible refine Below.setCell ?_ ?_ _ | (simp; done) | (simp; omega) | omega))⟩
    refine (hx.mono (lo' := w.heap.size + 2) (by simp) (Nat.le_refl _)).of_blocks ?_ |>.mono (by omega) (by simp)
    intro i hi hi2
    rw [Below.heap_alloc _ _ _ (by simpa [World.setCell] using hi2)]
    simp only [World.setCell, Array.getElem?_modify]
    repeat rw [if_neg (by omega)]
  · have eT : sdT l lo v b = [] := by unfold sdT; rw [if_neg (by omega)]
    have eL : sdL l lo v b = 0 := by unfold sdL; rw [if_neg (by omega)]
    have eLo : sdLo l lo v b = 0 := by unfold sdLo; rw [if_neg (by omega)]
    have eV : sdV l lo v b = 0 := by unfold sdV; rw [if_neg (by omega)]
    rw [eT, eL, eLo, eV, hf]
    clear eT eL eLo eV
    go_enter Try.func17, Try.ntmps17
    go_wp2_with fail
    refine (l1Fault_calls l lo v _ _ _ (by simp) (by simp) (by simp)).mono ?_
    rintro e w' ⟨rfl, hw⟩
    rw [hw, hf]
    clear hw w'
    go_wp2
    exact bodyPost_ret (v := .agg #[.int .i64 3, .slice none 0 0, .int .i64 0, .int .i64 0, .int .i64 0]) (by simp [results, Try.results17, go_sem]) rfl ⟨_, rfl, IntsAt.nil _ _ _ _ _ _, (by repeat' (first | with_reducible exact Below.refl _ _ | with_reducible assumption | with_reducible refine Below.drew ?_ | with_reducible refine Below.alloc ?_ ?_ _ | with_reducible refine Below.setCell ?_ ?_ _ | (simp; done) | (simp; omega) | omega))⟩

end Go.Proofs.Ytoedmfflokknjaa
