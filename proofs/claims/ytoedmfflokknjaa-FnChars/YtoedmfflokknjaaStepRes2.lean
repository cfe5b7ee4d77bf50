/-
  What StepDecoder answers, of the program.
-/
import Derived.Test.YtoedmfflokknjaaRows
import Derived.Test.YtoedmfflokknjaaStepRes
namespace Go.Proofs.Ytoedmfflokknjaa
open Go.ChangeShapes Go.WideShapes Go.ChangeAt Go.RowKit
set_option linter.unusedVariables false
set_option linter.unusedSimpArgs false

set_option maxHeartbeats 2000000 in
theorem implStep_calls (l lo v b : Int) (w : World) (h0 : 0 ≤ b) (h1 : b ≤ 255) :
    Calls Try.prog 16 #[.agg #[.int .i64 l, .int .i64 lo, .int .i64 v], .int .u8 b] w fun e w' => ∃ x, e = .returned (.agg #[.int .i64 (dfault l lo v), x, .int .i64 (sdL l lo v b), .int .i64 (sdLo l lo v b), .int .i64 (sdV l lo v b)]) ∧ IntsAt .i64 w.heap.size w'.heap.size w' x (sdT l lo v b) ∧ Below w.heap.size w w' := by
  rcases dfault_cases l lo v with hf | hf
  · have eT : sdT l lo v b = stepT l lo v b := by unfold sdT; rw [if_pos hf]
    have eL : sdL l lo v b = stepL l lo v b := by unfold sdL; rw [if_pos hf]
    have eLo : sdLo l lo v b = stepLo l lo v b := by unfold sdLo; rw [if_pos hf]
    have eV : sdV l lo v b = stepV l lo v b := by unfold sdV; rw [if_pos hf]
    rw [eT, eL, eLo, eV, hf]
    clear eT eL eLo eV
    obtain ⟨p0, p1, p2, p3, p4, p5⟩ := dfault_pos l lo v hf
    obtain ⟨s0, s1, s2, s3, s4, s5⟩ := dfault_pos _ _ _ (step_fault l lo v b hf h0 h1)
    go_enter Try.func16, Try.ntmps16
    go_wp2_with fail
    refine (implFault_calls l lo v _).mono ?_
    rintro e w1 ⟨rfl, hb1⟩
    rw [hf]
    have z1 : w.heap.size + 2 ≤ w1.heap.size := by have := hb1.size; simp at this; omega
    have q1 : Below w.heap.size w w1 := ((by repeat' (first | with_reducible exact Below.refl _ _ | with_reducible assumption | with_reducible refine Below.drew ?_ | with_reducible refine Below.alloc ?_ ?_ _ | with_reducible refine Below.setCell ?_ ?_ _ | (simp; done) | (simp; omega) | omega)) : Below w.heap.size w _).trans (hb1.mono (by simp; try omega))
    have d0 : w1.cell? ⟨w.heap.size, 0, none⟩ = some (.int .i64 l) := cellb hb1 (by simp)
    have d1 : w1.cell? ⟨w.heap.size, 1, none⟩ = some (.int .i64 lo) := cellb hb1 (by simp)
    have d2 : w1.cell? ⟨w.heap.size, 2, none⟩ = some (.int .i64 v) := cellb hb1 (by simp)
    have f0 : w1.cell? ⟨w.heap.size + 1, 0, none⟩ = some (.int .i64 0) := cellb hb1 (by simp)
    have f1 : w1.cell? ⟨w.heap.size + 1, 1, none⟩ = some (.slice none 0 0) := cellb hb1 (by simp)
    have f2 : w1.cell? ⟨w.heap.size + 1, 2, none⟩ = some (.int .i64 0) := cellb hb1 (by simp)
    have f3 : w1.cell? ⟨w.heap.size + 1, 3, none⟩ = some (.int .i64 0) := cellb hb1 (by simp)
    have f4 : w1.cell? ⟨w.heap.size + 1, 4, none⟩ = some (.int .i64 0) := cellb hb1 (by simp)
    have f5 : ∀ o, w1.frozen? ⟨w.heap.size + 1, o, none⟩ = false := fun o => by rw [hb1.frozen (p := ⟨w.heap.size + 1, o, none⟩) (by simp)]; simp
    clear hb1
    go_wp2_with fail
    refine (stateOf_calls l lo v _ p0 (by omega) p2 (by omega) p4 (by omega)).mono ?_
    rintro e w2 ⟨rfl, hb2⟩
    have z2 : w.heap.size + 2 ≤ w2.heap.size := by have := hb2.size; omega
    have q2 : Below w.heap.size w w2 := q1.trans (hb2.mono (by omega))
    replace f0 := cellb hb2 f0
    replace f1 := cellb hb2 f1
    replace f2 := cellb hb2 f2
    replace f3 := cellb hb2 f3
    replace f4 := cellb hb2 f4
    replace f5 : ∀ o, w2.frozen? ⟨w.heap.size + 1, o, none⟩ = false := fun o => by rw [hb2.frozen (p := ⟨w.heap.size + 1, o, none⟩) (by simp; omega)]; exact f5 o
    clear hb2 q1 z1 d0 d1 d2
    go_wp2_with fail
    refine (hear_calls l lo v b w2.heap.size 0 _ [] _ hf h0 h1 (by omega) (Nat.le_refl _) (World.ownsRow_nil _ _ _ _)).mono ?_
    rintro e w3 ⟨t', rfl, hown, hgrow⟩
    have hb3 : Below w2.heap.size w2 w3 := hgrow.below (Nat.le_refl _) (fun k hk => by cases hk)
    have z3 : w2.heap.size ≤ w3.heap.size := hb3.size
    have hx : IntsAt .i64 w2.heap.size w3.heap.size w3 t' (stepT l lo v b) := own_ints (by simpa [intVs] using hown) (Nat.le_refl _)
    have q3 : Below w.heap.size w w3 := q2.trans (hb3.mono (by omega))
    replace f0 := cellb hb3 f0
    replace f1 := cellb hb3 f1
    replace f2 := cellb hb3 f2
    replace f3 := cellb hb3 f3
    replace f4 := cellb hb3 f4
    replace f5 : ∀ o, w3.frozen? ⟨w.heap.size + 1, o, none⟩ = false := fun o => by rw [hb3.frozen (p := ⟨w.heap.size + 1, o, none⟩) (by simp; omega)]; exact f5 o
    clear hb3 q2 hown hgrow
    obtain ⟨a, cap, rfl, hx'⟩ := hx
    have hx : IntsAt .i64 w2.heap.size w3.heap.size w3 (.slice a (stepT l lo v b).length cap) (stepT l lo v b) := ⟨a, cap, rfl, hx'⟩
    clear hx'
    have z4 : w.heap.size + 1 < w3.heap.size := by omega
    go_wp2_with fail
    have q4 : Below w3.heap.size w3 (w3.alloc (.cells #[.int .u32 (stepL l lo v b), .int .u32 (stepLo l lo v b), .int .u32 (stepV l lo v b)] 56)) := (by repeat' (first | with_reducible exact Below.refl _ _ | with_reducible assumption | with_reducible refine Below.drew ?_ | with_reducible refine Below.alloc ?_ ?_ _ | with_reducible refine Below.setCell ?_ ?_ _ | (simp; done) | (simp; omega) | omega))
    refine (decoder_calls (stepL l lo v b) (stepLo l lo v b) (stepV l lo v b) _ s0 (by omega) s2 (by omega) s4 (by omega)).mono ?_
    rintro e w5 ⟨rfl, hb5⟩
    have r5 : Below w3.heap.size w3 w5 := q4.trans (hb5.mono (by simp))
    have z5 : w3.heap.size ≤ w5.heap.size := r5.size
    have q5 : Below w.heap.size w w5 := q3.trans (r5.mono (by omega))
    replace f0 := cellb r5 f0
    replace f1 := cellb r5 f1
    replace f2 := cellb r5 f2
    replace f3 := cellb r5 f3
    replace f4 := cellb r5 f4
    replace f5 : ∀ o, w5.frozen? ⟨w.heap.size + 1, o, none⟩ = false := fun o => by rw [r5.frozen (p := ⟨w.heap.size + 1, o, none⟩) (by simp; omega)]; exact f5 o
    replace hx := hx.below r5 (Nat.le_refl _)
    clear q4 hb5 r5 q3 z4
    go_wp2
    refine bodyPost_ret (v := .agg #[.int .i64 0, .slice a (stepT l lo v b).length cap, .int .i64 (stepL l lo v b), .int .i64 (stepLo l lo v b), .int .i64 (stepV l lo v b)]) (by simp [results, Try.results16, go_sem, f0, f1, f2, f3, f4]) rfl ⟨_, rfl, ?_, (by repeat' (first | with_reducible exact Below.refl _ _ | with_reducible assumption | with_reducible refine Below.drew ?_ | with_reducible refine Below.alloc ?_ ?_ _ | with_reducible refine Below.setCell ?_ ?_ _ | (simp; done) | (simp; omega) | omega))⟩
    refine hx.of_blocks ?_ |>.mono (by omega) (by simp; omega)
    intro i hi hi2
    simp only [World.setCell, Array.getElem?_modify]
    repeat rw [if_neg (by omega)]
  · have eT : sdT l lo v b = [] := by unfold sdT; rw [if_neg (by omega)]
    have eL : sdL l lo v b = 0 := by unfold sdL; rw [if_neg (by omega)]
    have eLo : sdLo l lo v b = 0 := by unfold sdLo; rw [if_neg (by omega)]
    have eV : sdV l lo v b = 0 := by unfold sdV; rw [if_neg (by omega)]
    rw [eT, eL, eLo, eV, hf]
    clear eT eL eLo eV
    go_enter Try.func16, Try.ntmps16
    go_wp2_with fail
    refine (implFault_calls l lo v _).mono ?_
    rintro e w1 ⟨rfl, hb1⟩
    rw [hf]
    have z1 : w.heap.size + 2 ≤ w1.heap.size := by have := hb1.size; simp at this; omega
    have q1 : Below w.heap.size w w1 := ((by repeat' (first | with_reducible exact Below.refl _ _ | with_reducible assumption | with_reducible refine Below.drew ?_ | with_reducible refine Below.alloc ?_ ?_ _ | with_reducible refine Below.setCell ?_ ?_ _ | (simp; done) | (simp; omega) | omega)) : Below w.heap.size w _).trans (hb1.mono (by simp; try omega))
    have f0 : w1.cell? ⟨w.heap.size + 1, 0, none⟩ = some (.int .i64 0) := cellb hb1 (by simp)
    have f1 : w1.cell? ⟨w.heap.size + 1, 1, none⟩ = some (.slice none 0 0) := cellb hb1 (by simp)
    have f2 : w1.cell? ⟨w.heap.size + 1, 2, none⟩ = some (.int .i64 0) := cellb hb1 (by simp)
    have f3 : w1.cell? ⟨w.heap.size + 1, 3, none⟩ = some (.int .i64 0) := cellb hb1 (by simp)
    have f4 : w1.cell? ⟨w.heap.size + 1, 4, none⟩ = some (.int .i64 0) := cellb hb1 (by simp)
    have f5 : ∀ o, w1.frozen? ⟨w.heap.size + 1, o, none⟩ = false := fun o => by rw [hb1.frozen (p := ⟨w.heap.size + 1, o, none⟩) (by simp)]; simp
    clear hb1
    go_wp2
    exact bodyPost_ret (v := .agg #[.int .i64 3, .slice none 0 0, .int .i64 0, .int .i64 0, .int .i64 0]) (by simp [results, Try.results16, go_sem, f0, f1, f2, f3, f4]) rfl ⟨_, rfl, IntsAt.nil _ _ _ _ _ _, (by repeat' (first | with_reducible exact Below.refl _ _ | with_reducible assumption | with_reducible refine Below.drew ?_ | with_reducible refine Below.alloc ?_ ?_ _ | with_reducible refine Below.setCell ?_ ?_ _ | (simp; done) | (simp; omega) | omega))⟩

end Go.Proofs.Ytoedmfflokknjaa
