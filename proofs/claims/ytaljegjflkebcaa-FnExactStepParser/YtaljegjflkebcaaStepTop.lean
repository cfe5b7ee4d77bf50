/-
  What StepParser answers, in the program and in the model.
-/
import Derived.Test.YtaljegjflkebcaaRows
import Derived.Test.YtaljegjflkebcaaSpecStep2
import Derived.Test.YtaljegjflkebcaaHearFns
import Derived.Test.YtaljegjflkebcaaParMem
namespace Go.Proofs.Ytaljegjflkebcaa
open Go.ChangeShapes Go.WideShapes Go.ChangeAt Go.RowKit
set_option linter.unusedVariables false
set_option linter.unusedSimpArgs false

/-- The answer's code, its parser and its action. -/
def stepRes (p : Par) (c : Int) : Int × (Par × Axn) := if p.code = 0 then (if chB c = true then (0, stepPA p c) else (3, (Par.zero, Axn.zero))) else (p.code, (Par.zero, Axn.zero))
theorem stepRes_ok {p : Par} {c : Int} (h : p.code = 0) (hc : chB c = true) : stepRes p c = (0, stepPA p c) := by unfold stepRes; rw [if_pos h, if_pos hc]
theorem stepRes_char {p : Par} {c : Int} (h : p.code = 0) (hc : chB c = false) : stepRes p c = (3, (Par.zero, Axn.zero)) := by unfold stepRes; rw [if_pos h, if_neg (by rw [hc]; simp)]
theorem stepRes_code {p : Par} {c : Int} (h : ¬ p.code = 0) : stepRes p c = (p.code, (Par.zero, Axn.zero)) := by unfold stepRes; rw [if_neg h]
def resV (r : Int × (Par × Axn)) (u x : Value) : Value := .agg #[.int .i64 r.1, .int .i64 r.2.2.kd, .int .i64 r.2.2.ch, .int .i64 r.2.2.st, .bool r.2.2.pv, u, .int .i64 r.2.1.md, .int .i64 r.2.1.st, .bool r.2.1.pv, x]
def StepEnds (p : Par) (c : Int) (w : World) (e : Ending) (w' : World) : Prop :=
  ∃ u x, e = .returned (resV (stepRes p c) u x) ∧ TwoOwn w.heap.size w'.heap.size w' u x (stepRes p c).2.2.ns (stepRes p c).2.1.ns ∧ Below w.heap.size w w'
theorem two_none {lo hi : Nat} (w : World) (h : lo ≤ hi) : TwoOwn lo hi w (.slice none 0 0) (.slice none 0 0) [] [] := TwoOwn.first (IntsAt.nil _ _ _ _ _ _) h ⟨_, _, rfl⟩
/-- Two rows of the call's own, one of them none. -/
theorem two_of_own {w : World} {base : Nat} {e : TypeId} {u x : Value} {al ns : List Int} (hb : base ≤ w.heap.size) (hu : w.ownsRow base e 1 u al.length (intsV al)) (hx : w.ownsRow base e 1 x ns.length (intsV ns)) (h : u = .slice none 0 0 ∨ x = .slice none 0 0) : TwoOwn base w.heap.size w u x al ns := by
  rcases h with rfl | rfl
  · have h0 : al = [] := by
      rcases hu.2 with ⟨_, h0⟩ | ⟨g, cap, cur, h0, _⟩
      · exact List.length_eq_zero_iff.1 h0
      · cases h0
    subst h0
    exact TwoOwn.second (own_ints hx (Nat.le_refl _)) hb ⟨_, _, rfl⟩
  · have h0 : ns = [] := by
      rcases hx.2 with ⟨_, h0⟩ | ⟨g, cap, cur, h0, _⟩
      · exact List.length_eq_zero_iff.1 h0
      · cases h0
    subst h0
    exact TwoOwn.first (own_ints hu (Nat.le_refl _)) hb ⟨_, _, rfl⟩

set_option maxHeartbeats 1000000 in
theorem specStepParser_calls (md st : Int) (pv : Bool) (ns : List Int) (c : Int) (v : Value) (w : World) (hn : ns.length ≤ maxLen) (h1 : ReadAt .i64 w v ns) :
    Calls Try.prog 13 #[.agg #[.int .i64 md, .int .i64 st, .bool pv, v], .int .i64 c] w (StepEnds ⟨md, st, pv, ns⟩ c w) := by
  unfold StepEnds
  have h1' := h1
  obtain ⟨a1, c1, rfl, _⟩ := h1'
  have hb0 : Below w.heap.size w ((w.alloc (.cells #[.int .i64 md, .int .i64 st, .bool pv, .slice a1 ns.length c1] 27)).alloc (.cells #[.int .i64 0, .int .i64 0, .int .i64 0, .int .i64 0, .bool false, .slice none 0 0, .int .i64 0, .int .i64 0, .bool false, .slice none 0 0] 34)) := (by repeat' (first | with_reducible exact Below.refl _ _ | with_reducible assumption | with_reducible refine Below.drew ?_ | with_reducible refine Below.alloc ?_ ?_ _ | with_reducible refine Below.setCell ?_ ?_ _ | (simp; done) | (simp; omega) | omega))
  by_cases hp : (⟨md, st, pv, ns⟩ : Par).code = 0
  · cases hch : chB c with
    | true =>
      rw [stepRes_ok hp hch]
      unfold resV
      have HC := hide (fun (v : Value) (W : World) h1 => l4Step_calls ⟨md, st, pv, ns⟩ c v W hp h1)
      unfold StepPost at HC
      generalize stepPA ⟨md, st, pv, ns⟩ c = q at *
      obtain ⟨⟨md', st', pv', ns'⟩, ⟨kd, ch, st2, pv2, al⟩⟩ := q
      unfold parVal axnVal at HC
      dsimp only at *
      go_enter Try.func13, Try.ntmps13
      go_wp2_with fail
      refine (l4Fault_calls md st pv ns _ w.heap.size ((w.alloc (.cells #[.int .i64 md, .int .i64 st, .bool pv, .slice a1 ns.length c1] 27)).alloc (.cells #[.int .i64 0, .int .i64 0, .int .i64 0, .int .i64 0, .bool false, .slice none 0 0, .int .i64 0, .int .i64 0, .bool false, .slice none 0 0] 34)) hn (h1.below hb0) (by simp [go_sem]) (by simp [go_sem]) (by simp [go_sem]) (by simp [go_sem])).mono ?_
      rintro e w1 ⟨rfl, hw1⟩
      have hb1 : Below (((w.alloc (.cells #[.int .i64 md, .int .i64 st, .bool pv, .slice a1 ns.length c1] 27)).alloc (.cells #[.int .i64 0, .int .i64 0, .int .i64 0, .int .i64 0, .bool false, .slice none 0 0, .int .i64 0, .int .i64 0, .bool false, .slice none 0 0] 34))).heap.size ((w.alloc (.cells #[.int .i64 md, .int .i64 st, .bool pv, .slice a1 ns.length c1] 27)).alloc (.cells #[.int .i64 0, .int .i64 0, .int .i64 0, .int .i64 0, .bool false, .slice none 0 0, .int .i64 0, .int .i64 0, .bool false, .slice none 0 0] 34)) w1 := by rw [hw1]; exact Below.refl _ _
      have k0_0 : w1.cell? ⟨w.heap.size, 0, none⟩ = some (.int .i64 md) := cellb hb1 (by simp [go_sem])
      have k0_1 : w1.cell? ⟨w.heap.size, 1, none⟩ = some (.int .i64 st) := cellb hb1 (by simp [go_sem])
      have k0_2 : w1.cell? ⟨w.heap.size, 2, none⟩ = some (.bool pv) := cellb hb1 (by simp [go_sem])
      have k0_3 : w1.cell? ⟨w.heap.size, 3, none⟩ = some (.slice a1 ns.length c1) := cellb hb1 (by simp [go_sem])
      have k1_0 : w1.cell? ⟨w.heap.size + 1, 0, none⟩ = some (.int .i64 0) := cellb hb1 (by simp [go_sem])
      have k1_1 : w1.cell? ⟨w.heap.size + 1, 1, none⟩ = some (.int .i64 0) := cellb hb1 (by simp [go_sem])
      have k1_2 : w1.cell? ⟨w.heap.size + 1, 2, none⟩ = some (.int .i64 0) := cellb hb1 (by simp [go_sem])
      have k1_3 : w1.cell? ⟨w.heap.size + 1, 3, none⟩ = some (.int .i64 0) := cellb hb1 (by simp [go_sem])
      have k1_4 : w1.cell? ⟨w.heap.size + 1, 4, none⟩ = some (.bool false) := cellb hb1 (by simp [go_sem])
      have k1_5 : w1.cell? ⟨w.heap.size + 1, 5, none⟩ = some (.slice none 0 0) := cellb hb1 (by simp [go_sem])
      have k1_6 : w1.cell? ⟨w.heap.size + 1, 6, none⟩ = some (.int .i64 0) := cellb hb1 (by simp [go_sem])
      have k1_7 : w1.cell? ⟨w.heap.size + 1, 7, none⟩ = some (.int .i64 0) := cellb hb1 (by simp [go_sem])
      have k1_8 : w1.cell? ⟨w.heap.size + 1, 8, none⟩ = some (.bool false) := cellb hb1 (by simp [go_sem])
      have k1_9 : w1.cell? ⟨w.heap.size + 1, 9, none⟩ = some (.slice none 0 0) := cellb hb1 (by simp [go_sem])
      have f1 : ∀ o, w1.frozen? ⟨w.heap.size + 1, o, none⟩ = false := fun o => by rw [hb1.frozen (p := ⟨w.heap.size + 1, o, none⟩) (by simp)]; simp [go_sem]
      have hs1 : w.heap.size + 2 ≤ w1.heap.size := by have := hb1.size; simp at this; omega
      replace hb1 := hb0.trans (hb1.mono (by simp; omega))
      clear hw1
      clear hb0
      rw [show parCode md st pv ns = (⟨md, st, pv, ns⟩ : Par).code from rfl, hp]
      go_wp2_with fail
      refine (l1Char_calls c _).mono ?_
      rintro e w9 ⟨rfl, hw9⟩
      rw [hw9, hch]
      clear hw9 w9
      go_wp2_with fail
      refine (HC.out _ _ (h1.below hb1)).mono ?_
      rintro e w3 ⟨u, x, rfl, hu, hx2, hor, hb2⟩
      clear HC
      replace k0_0 := cellb hb2 k0_0
      replace k0_1 := cellb hb2 k0_1
      replace k0_2 := cellb hb2 k0_2
      replace k0_3 := cellb hb2 k0_3
      replace k1_0 := cellb hb2 k1_0
      replace k1_1 := cellb hb2 k1_1
      replace k1_2 := cellb hb2 k1_2
      replace k1_3 := cellb hb2 k1_3
      replace k1_4 := cellb hb2 k1_4
      replace k1_5 := cellb hb2 k1_5
      replace k1_6 := cellb hb2 k1_6
      replace k1_7 := cellb hb2 k1_7
      replace k1_8 := cellb hb2 k1_8
      replace k1_9 := cellb hb2 k1_9
      replace f1 : ∀ o, _ = _ := fun o => (hb2.frozen (p := ⟨w.heap.size + 1, o, none⟩) (by simp; try omega)).trans (f1 o)
      have hs3 := hb2.size
      have hb5 : Below w.heap.size w w3 := hb1.trans (hb2.mono (by omega))
      clear hb2 hb1
      obtain ⟨a3, c3, rfl⟩ := own_form hu
      obtain ⟨a4, c4, rfl⟩ := own_form hx2
      have HA : Hid (∀ b, b < w1.heap.size → some b ≠ (Value.slice a3 al.length c3).ownBlock) := hide (fun b h2 h => by have := (hu.lt b h.symm).1; omega)
      have HA2 : Hid (∀ b, b < w1.heap.size → some b ≠ (Value.slice a4 ns'.length c4).ownBlock) := hide (fun b h2 h => by have := (hx2.lt b h.symm).1; omega)
      have HLU := hide hu.lt
      have HLX := hide hx2.lt
      have HU := hide hu
      have HX := hide hx2
      have HOR := hide hor
      clear hu hx2 hor
      have lt0 : w.heap.size < w3.heap.size := by omega
      have lt1 : w.heap.size + 1 < w3.heap.size := by omega
      go_wp2
      all_goals try go_region
      all_goals try go_wp2
      all_goals refine bodyPost_ret (v := .agg #[.int .i64 0, .int .i64 kd, .int .i64 ch, .int .i64 st2, .bool pv2, .slice a3 al.length c3, .int .i64 md', .int .i64 st', .bool pv', .slice a4 ns'.length c4]) (by simp only [results, Try.results13]; simp [go_sem, k0_0, k0_1, k0_2, k0_3, k1_0, k1_1, k1_2, k1_3, k1_4, k1_5, k1_6, k1_7, k1_8, k1_9, lt0, lt1]) rfl ⟨.slice a3 al.length c3, .slice a4 ns'.length c4, rfl, two_of_own (e := 2) (by simp; omega) (by refine own_base (base := w1.heap.size) ?_ (by omega); repeat' (first | with_reducible exact HU.out | with_reducible refine own_alloc ?_ _ | with_reducible refine own_drewN ?_ | with_reducible refine own_drew ?_ | with_reducible refine own_setCell ?_ ?_ | exact HA.out _ (by omega))) (by refine own_base (base := w1.heap.size) ?_ (by omega); repeat' (first | with_reducible exact HX.out | with_reducible refine own_alloc ?_ _ | with_reducible refine own_drewN ?_ | with_reducible refine own_drew ?_ | with_reducible refine own_setCell ?_ ?_ | exact HA2.out _ (by omega))) HOR.out, (by repeat' (first | with_reducible exact Below.refl _ _ | with_reducible assumption | with_reducible refine Below.drew ?_ | with_reducible refine Below.alloc ?_ ?_ _ | with_reducible refine Below.setCell ?_ ?_ _ | (simp; done) | (simp; omega) | omega))⟩
    | false =>
      rw [stepRes_char hp hch]
      unfold resV
      dsimp only [Par.zero, Axn.zero]
      go_enter Try.func13, Try.ntmps13
      go_wp2_with fail
      refine (l4Fault_calls md st pv ns _ w.heap.size ((w.alloc (.cells #[.int .i64 md, .int .i64 st, .bool pv, .slice a1 ns.length c1] 27)).alloc (.cells #[.int .i64 0, .int .i64 0, .int .i64 0, .int .i64 0, .bool false, .slice none 0 0, .int .i64 0, .int .i64 0, .bool false, .slice none 0 0] 34)) hn (h1.below hb0) (by simp [go_sem]) (by simp [go_sem]) (by simp [go_sem]) (by simp [go_sem])).mono ?_
      rintro e w1 ⟨rfl, hw1⟩
      have hb1 : Below (((w.alloc (.cells #[.int .i64 md, .int .i64 st, .bool pv, .slice a1 ns.length c1] 27)).alloc (.cells #[.int .i64 0, .int .i64 0, .int .i64 0, .int .i64 0, .bool false, .slice none 0 0, .int .i64 0, .int .i64 0, .bool false, .slice none 0 0] 34))).heap.size ((w.alloc (.cells #[.int .i64 md, .int .i64 st, .bool pv, .slice a1 ns.length c1] 27)).alloc (.cells #[.int .i64 0, .int .i64 0, .int .i64 0, .int .i64 0, .bool false, .slice none 0 0, .int .i64 0, .int .i64 0, .bool false, .slice none 0 0] 34)) w1 := by rw [hw1]; exact Below.refl _ _
      have k0_0 : w1.cell? ⟨w.heap.size, 0, none⟩ = some (.int .i64 md) := cellb hb1 (by simp [go_sem])
      have k0_1 : w1.cell? ⟨w.heap.size, 1, none⟩ = some (.int .i64 st) := cellb hb1 (by simp [go_sem])
      have k0_2 : w1.cell? ⟨w.heap.size, 2, none⟩ = some (.bool pv) := cellb hb1 (by simp [go_sem])
      have k0_3 : w1.cell? ⟨w.heap.size, 3, none⟩ = some (.slice a1 ns.length c1) := cellb hb1 (by simp [go_sem])
      have k1_0 : w1.cell? ⟨w.heap.size + 1, 0, none⟩ = some (.int .i64 0) := cellb hb1 (by simp [go_sem])
      have k1_1 : w1.cell? ⟨w.heap.size + 1, 1, none⟩ = some (.int .i64 0) := cellb hb1 (by simp [go_sem])
      have k1_2 : w1.cell? ⟨w.heap.size + 1, 2, none⟩ = some (.int .i64 0) := cellb hb1 (by simp [go_sem])
      have k1_3 : w1.cell? ⟨w.heap.size + 1, 3, none⟩ = some (.int .i64 0) := cellb hb1 (by simp [go_sem])
      have k1_4 : w1.cell? ⟨w.heap.size + 1, 4, none⟩ = some (.bool false) := cellb hb1 (by simp [go_sem])
      have k1_5 : w1.cell? ⟨w.heap.size + 1, 5, none⟩ = some (.slice none 0 0) := cellb hb1 (by simp [go_sem])
      have k1_6 : w1.cell? ⟨w.heap.size + 1, 6, none⟩ = some (.int .i64 0) := cellb hb1 (by simp [go_sem])
      have k1_7 : w1.cell? ⟨w.heap.size + 1, 7, none⟩ = some (.int .i64 0) := cellb hb1 (by simp [go_sem])
      have k1_8 : w1.cell? ⟨w.heap.size + 1, 8, none⟩ = some (.bool false) := cellb hb1 (by simp [go_sem])
      have k1_9 : w1.cell? ⟨w.heap.size + 1, 9, none⟩ = some (.slice none 0 0) := cellb hb1 (by simp [go_sem])
      have f1 : ∀ o, w1.frozen? ⟨w.heap.size + 1, o, none⟩ = false := fun o => by rw [hb1.frozen (p := ⟨w.heap.size + 1, o, none⟩) (by simp)]; simp [go_sem]
      have hs1 : w.heap.size + 2 ≤ w1.heap.size := by have := hb1.size; simp at this; omega
      replace hb1 := hb0.trans (hb1.mono (by simp; omega))
      clear hw1
      clear hb0
      rw [show parCode md st pv ns = (⟨md, st, pv, ns⟩ : Par).code from rfl, hp]
      go_wp2_with fail
      refine (l1Char_calls c _).mono ?_
      rintro e w9 ⟨rfl, hw9⟩
      rw [hw9, hch]
      clear hw9 w9
      go_wp2
      refine bodyPost_ret (v := .agg #[.int .i64 3, .int .i64 0, .int .i64 0, .int .i64 0, .bool false, .slice none 0 0, .int .i64 0, .int .i64 0, .bool false, .slice none 0 0]) (by simp only [results, Try.results13]; simp [go_sem, k0_0, k0_1, k0_2, k0_3, k1_0, k1_1, k1_2, k1_3, k1_4, k1_5, k1_6, k1_7, k1_8, k1_9]) rfl ⟨_, _, rfl, two_none _ (by simp; omega), (by repeat' (first | with_reducible exact Below.refl _ _ | with_reducible assumption | with_reducible refine Below.drew ?_ | with_reducible refine Below.alloc ?_ ?_ _ | with_reducible refine Below.setCell ?_ ?_ _ | (simp; done) | (simp; omega) | omega))⟩
  · rw [stepRes_code hp]
    unfold resV
    dsimp only [Par.zero, Axn.zero]
    generalize hcd : (⟨md, st, pv, ns⟩ : Par).code = code at *
    have HCD := hide hcd
    clear hcd
    have hne : (code != 0) = true := by simpa using hp
    go_enter Try.func13, Try.ntmps13
    go_wp2_with fail
    refine (l4Fault_calls md st pv ns _ w.heap.size ((w.alloc (.cells #[.int .i64 md, .int .i64 st, .bool pv, .slice a1 ns.length c1] 27)).alloc (.cells #[.int .i64 0, .int .i64 0, .int .i64 0, .int .i64 0, .bool false, .slice none 0 0, .int .i64 0, .int .i64 0, .bool false, .slice none 0 0] 34)) hn (h1.below hb0) (by simp [go_sem]) (by simp [go_sem]) (by simp [go_sem]) (by simp [go_sem])).mono ?_
    rintro e w1 ⟨rfl, hw1⟩
    have hb1 : Below (((w.alloc (.cells #[.int .i64 md, .int .i64 st, .bool pv, .slice a1 ns.length c1] 27)).alloc (.cells #[.int .i64 0, .int .i64 0, .int .i64 0, .int .i64 0, .bool false, .slice none 0 0, .int .i64 0, .int .i64 0, .bool false, .slice none 0 0] 34))).heap.size ((w.alloc (.cells #[.int .i64 md, .int .i64 st, .bool pv, .slice a1 ns.length c1] 27)).alloc (.cells #[.int .i64 0, .int .i64 0, .int .i64 0, .int .i64 0, .bool false, .slice none 0 0, .int .i64 0, .int .i64 0, .bool false, .slice none 0 0] 34)) w1 := by rw [hw1]; exact Below.refl _ _
    have k0_0 : w1.cell? ⟨w.heap.size, 0, none⟩ = some (.int .i64 md) := cellb hb1 (by simp [go_sem])
    have k0_1 : w1.cell? ⟨w.heap.size, 1, none⟩ = some (.int .i64 st) := cellb hb1 (by simp [go_sem])
    have k0_2 : w1.cell? ⟨w.heap.size, 2, none⟩ = some (.bool pv) := cellb hb1 (by simp [go_sem])
    have k0_3 : w1.cell? ⟨w.heap.size, 3, none⟩ = some (.slice a1 ns.length c1) := cellb hb1 (by simp [go_sem])
    have k1_0 : w1.cell? ⟨w.heap.size + 1, 0, none⟩ = some (.int .i64 0) := cellb hb1 (by simp [go_sem])
    have k1_1 : w1.cell? ⟨w.heap.size + 1, 1, none⟩ = some (.int .i64 0) := cellb hb1 (by simp [go_sem])
    have k1_2 : w1.cell? ⟨w.heap.size + 1, 2, none⟩ = some (.int .i64 0) := cellb hb1 (by simp [go_sem])
    have k1_3 : w1.cell? ⟨w.heap.size + 1, 3, none⟩ = some (.int .i64 0) := cellb hb1 (by simp [go_sem])
    have k1_4 : w1.cell? ⟨w.heap.size + 1, 4, none⟩ = some (.bool false) := cellb hb1 (by simp [go_sem])
    have k1_5 : w1.cell? ⟨w.heap.size + 1, 5, none⟩ = some (.slice none 0 0) := cellb hb1 (by simp [go_sem])
    have k1_6 : w1.cell? ⟨w.heap.size + 1, 6, none⟩ = some (.int .i64 0) := cellb hb1 (by simp [go_sem])
    have k1_7 : w1.cell? ⟨w.heap.size + 1, 7, none⟩ = some (.int .i64 0) := cellb hb1 (by simp [go_sem])
    have k1_8 : w1.cell? ⟨w.heap.size + 1, 8, none⟩ = some (.bool false) := cellb hb1 (by simp [go_sem])
    have k1_9 : w1.cell? ⟨w.heap.size + 1, 9, none⟩ = some (.slice none 0 0) := cellb hb1 (by simp [go_sem])
    have f1 : ∀ o, w1.frozen? ⟨w.heap.size + 1, o, none⟩ = false := fun o => by rw [hb1.frozen (p := ⟨w.heap.size + 1, o, none⟩) (by simp)]; simp [go_sem]
    have hs1 : w.heap.size + 2 ≤ w1.heap.size := by have := hb1.size; simp at this; omega
    replace hb1 := hb0.trans (hb1.mono (by simp; omega))
    clear hw1
    clear hb0
    rw [show parCode md st pv ns = code from HCD.out]
    go_wp2
    refine bodyPost_ret (v := .agg #[.int .i64 code, .int .i64 0, .int .i64 0, .int .i64 0, .bool false, .slice none 0 0, .int .i64 0, .int .i64 0, .bool false, .slice none 0 0]) (by simp only [results, Try.results13]; simp [go_sem, k0_0, k0_1, k0_2, k0_3, k1_0, k1_1, k1_2, k1_3, k1_4, k1_5, k1_6, k1_7, k1_8, k1_9]) rfl ⟨_, _, rfl, two_none _ (by simp; omega), (by repeat' (first | with_reducible exact Below.refl _ _ | with_reducible assumption | with_reducible refine Below.drew ?_ | with_reducible refine Below.alloc ?_ ?_ _ | with_reducible refine Below.setCell ?_ ?_ _ | (simp; done) | (simp; omega) | omega))⟩

set_option maxHeartbeats 1000000 in
theorem implStepParser_calls (md st : Int) (pv : Bool) (ns : List Int) (c : Int) (v : Value) (w : World) (hn : ns.length ≤ maxLen) (h1 : ReadAt .i64 w v ns) :
    Calls Try.prog 14 #[.agg #[.int .i64 md, .int .i64 st, .bool pv, v], .int .i64 c] w (StepEnds ⟨md, st, pv, ns⟩ c w) := by
  unfold StepEnds
  have h1' := h1
  obtain ⟨a1, c1, rfl, _⟩ := h1'
  have hb0 : Below w.heap.size w ((w.alloc (.cells #[.int .i64 md, .int .i64 st, .bool pv, .slice a1 ns.length c1] 27)).alloc (.cells #[.int .i64 0, .int .i64 0, .int .i64 0, .int .i64 0, .bool false, .slice none 0 0, .int .i64 0, .int .i64 0, .bool false, .slice none 0 0] 34)) := (by repeat' (first | with_reducible exact Below.refl _ _ | with_reducible assumption | with_reducible refine Below.drew ?_ | with_reducible refine Below.alloc ?_ ?_ _ | with_reducible refine Below.setCell ?_ ?_ _ | (simp; done) | (simp; omega) | omega))
  by_cases hp : (⟨md, st, pv, ns⟩ : Par).code = 0
  · cases hch : chB c with
    | true =>
      rw [stepRes_ok hp hch]
      unfold resV
      have HC := hide (fun (base : Nat) (v : Value) (W : World) h1 h2 => hear_calls ⟨md, st, pv, ns⟩ c base v W hp h1 h2)
      unfold HearPost at HC
      have hlen : ns.length ≤ 6 := par_len hp
      generalize stepPA ⟨md, st, pv, ns⟩ c = q at *
      obtain ⟨⟨md', st', pv', ns'⟩, ⟨kd, ch, st2, pv2, al⟩⟩ := q
      unfold parV axnV at HC
      dsimp only at *
      go_enter Try.func14, Try.ntmps14
      go_wp2_with fail
      refine (implParserFault_calls md st pv ns _ ((w.alloc (.cells #[.int .i64 md, .int .i64 st, .bool pv, .slice a1 ns.length c1] 27)).alloc (.cells #[.int .i64 0, .int .i64 0, .int .i64 0, .int .i64 0, .bool false, .slice none 0 0, .int .i64 0, .int .i64 0, .bool false, .slice none 0 0] 34)) hn (h1.below hb0)).mono ?_
      rintro e w1 ⟨rfl, hb1⟩
      have k0_0 : w1.cell? ⟨w.heap.size, 0, none⟩ = some (.int .i64 md) := cellb hb1 (by simp [go_sem])
      have k0_1 : w1.cell? ⟨w.heap.size, 1, none⟩ = some (.int .i64 st) := cellb hb1 (by simp [go_sem])
      have k0_2 : w1.cell? ⟨w.heap.size, 2, none⟩ = some (.bool pv) := cellb hb1 (by simp [go_sem])
      have k0_3 : w1.cell? ⟨w.heap.size, 3, none⟩ = some (.slice a1 ns.length c1) := cellb hb1 (by simp [go_sem])
      have k1_0 : w1.cell? ⟨w.heap.size + 1, 0, none⟩ = some (.int .i64 0) := cellb hb1 (by simp [go_sem])
      have k1_1 : w1.cell? ⟨w.heap.size + 1, 1, none⟩ = some (.int .i64 0) := cellb hb1 (by simp [go_sem])
      have k1_2 : w1.cell? ⟨w.heap.size + 1, 2, none⟩ = some (.int .i64 0) := cellb hb1 (by simp [go_sem])
      have k1_3 : w1.cell? ⟨w.heap.size + 1, 3, none⟩ = some (.int .i64 0) := cellb hb1 (by simp [go_sem])
      have k1_4 : w1.cell? ⟨w.heap.size + 1, 4, none⟩ = some (.bool false) := cellb hb1 (by simp [go_sem])
      have k1_5 : w1.cell? ⟨w.heap.size + 1, 5, none⟩ = some (.slice none 0 0) := cellb hb1 (by simp [go_sem])
      have k1_6 : w1.cell? ⟨w.heap.size + 1, 6, none⟩ = some (.int .i64 0) := cellb hb1 (by simp [go_sem])
      have k1_7 : w1.cell? ⟨w.heap.size + 1, 7, none⟩ = some (.int .i64 0) := cellb hb1 (by simp [go_sem])
      have k1_8 : w1.cell? ⟨w.heap.size + 1, 8, none⟩ = some (.bool false) := cellb hb1 (by simp [go_sem])
      have k1_9 : w1.cell? ⟨w.heap.size + 1, 9, none⟩ = some (.slice none 0 0) := cellb hb1 (by simp [go_sem])
      have f1 : ∀ o, w1.frozen? ⟨w.heap.size + 1, o, none⟩ = false := fun o => by rw [hb1.frozen (p := ⟨w.heap.size + 1, o, none⟩) (by simp)]; simp [go_sem]
      have hs1 : w.heap.size + 2 ≤ w1.heap.size := by have := hb1.size; simp at this; omega
      replace hb1 := hb0.trans (hb1.mono (by simp; omega))
      clear hb0
      rw [show parCode md st pv ns = (⟨md, st, pv, ns⟩ : Par).code from rfl, hp]
      go_wp2_with fail
      refine (isChar_calls c _).mono ?_
      rintro e w9 ⟨rfl, hw9⟩
      rw [hw9, hch]
      clear hw9 w9
      go_wp2_with fail
      refine (ownParser_calls md st pv ns _ _ (by omega) (h1.below hb1)).mono ?_
      rintro e w2 ⟨v', rfl, hown, hb2⟩
      replace k0_0 := cellb hb2 k0_0
      replace k0_1 := cellb hb2 k0_1
      replace k0_2 := cellb hb2 k0_2
      replace k0_3 := cellb hb2 k0_3
      replace k1_0 := cellb hb2 k1_0
      replace k1_1 := cellb hb2 k1_1
      replace k1_2 := cellb hb2 k1_2
      replace k1_3 := cellb hb2 k1_3
      replace k1_4 := cellb hb2 k1_4
      replace k1_5 := cellb hb2 k1_5
      replace k1_6 := cellb hb2 k1_6
      replace k1_7 := cellb hb2 k1_7
      replace k1_8 := cellb hb2 k1_8
      replace k1_9 := cellb hb2 k1_9
      replace f1 : ∀ o, _ = _ := fun o => (hb2.frozen (p := ⟨w.heap.size + 1, o, none⟩) (by simp; try omega)).trans (f1 o)
      have hs2 := hb2.size
      have hb3 := hb1.trans (hb2.mono (by omega))
      clear hb2 h1
      go_wp2_with fail
      refine (HC.out w1.heap.size _ _ hs2 hown).mono ?_
      rintro e w3 ⟨x, u, rfl, hx2, hu, hgr, hfx, hfu, hor⟩
      clear HC hfx hfu
      have hlt : ∀ b, v'.ownBlock = some b → w1.heap.size ≤ b := fun b h => (hown.lt b h).1
      have hb4 : Below w1.heap.size w2 w3 := (Below.refl _ _).grown hgr hs2 hlt
      clear hgr hlt hown
      replace k0_0 := cellk hb4 (by omega) k0_0
      replace k0_1 := cellk hb4 (by omega) k0_1
      replace k0_2 := cellk hb4 (by omega) k0_2
      replace k0_3 := cellk hb4 (by omega) k0_3
      replace k1_0 := cellk hb4 (by omega) k1_0
      replace k1_1 := cellk hb4 (by omega) k1_1
      replace k1_2 := cellk hb4 (by omega) k1_2
      replace k1_3 := cellk hb4 (by omega) k1_3
      replace k1_4 := cellk hb4 (by omega) k1_4
      replace k1_5 := cellk hb4 (by omega) k1_5
      replace k1_6 := cellk hb4 (by omega) k1_6
      replace k1_7 := cellk hb4 (by omega) k1_7
      replace k1_8 := cellk hb4 (by omega) k1_8
      replace k1_9 := cellk hb4 (by omega) k1_9
      replace f1 : ∀ o, _ = _ := fun o => (hb4.frozen (p := ⟨w.heap.size + 1, o, none⟩) (show w.heap.size + 1 < w1.heap.size by omega)).trans (f1 o)
      have hs3 := hb4.size
      have hb5 : Below w.heap.size w w3 := hb3.trans (hb4.mono (by omega))
      clear hb4 hb3 hb1
      obtain ⟨a3, c3, rfl⟩ := own_form hu
      obtain ⟨a4, c4, rfl⟩ := own_form hx2
      replace hor := hor.symm
      have HA : Hid (∀ b, b < w1.heap.size → some b ≠ (Value.slice a3 al.length c3).ownBlock) := hide (fun b h2 h => by have := (hu.lt b h.symm).1; omega)
      have HA2 : Hid (∀ b, b < w1.heap.size → some b ≠ (Value.slice a4 ns'.length c4).ownBlock) := hide (fun b h2 h => by have := (hx2.lt b h.symm).1; omega)
      have HLU := hide hu.lt
      have HLX := hide hx2.lt
      have HU := hide hu
      have HX := hide hx2
      have HOR := hide hor
      clear hu hx2 hor
      have lt0 : w.heap.size < w3.heap.size := by omega
      have lt1 : w.heap.size + 1 < w3.heap.size := by omega
      go_wp2
      all_goals try go_region
      all_goals try go_wp2
      all_goals refine bodyPost_ret (v := .agg #[.int .i64 0, .int .i64 kd, .int .i64 ch, .int .i64 st2, .bool pv2, .slice a3 al.length c3, .int .i64 md', .int .i64 st', .bool pv', .slice a4 ns'.length c4]) (by simp only [results, Try.results14]; simp [go_sem, k0_0, k0_1, k0_2, k0_3, k1_0, k1_1, k1_2, k1_3, k1_4, k1_5, k1_6, k1_7, k1_8, k1_9, lt0, lt1]) rfl ⟨.slice a3 al.length c3, .slice a4 ns'.length c4, rfl, two_of_own (e := 2) (by simp; omega) (by refine own_base (base := w1.heap.size) ?_ (by omega); repeat' (first | with_reducible exact HU.out | with_reducible refine own_alloc ?_ _ | with_reducible refine own_drewN ?_ | with_reducible refine own_drew ?_ | with_reducible refine own_setCell ?_ ?_ | exact HA.out _ (by omega))) (by refine own_base (base := w1.heap.size) ?_ (by omega); repeat' (first | with_reducible exact HX.out | with_reducible refine own_alloc ?_ _ | with_reducible refine own_drewN ?_ | with_reducible refine own_drew ?_ | with_reducible refine own_setCell ?_ ?_ | exact HA2.out _ (by omega))) HOR.out, (by repeat' (first | with_reducible exact Below.refl _ _ | with_reducible assumption | with_reducible refine Below.drew ?_ | with_reducible refine Below.alloc ?_ ?_ _ | with_reducible refine Below.setCell ?_ ?_ _ | (simp; done) | (simp; omega) | omega))⟩
    | false =>
      rw [stepRes_char hp hch]
      unfold resV
      dsimp only [Par.zero, Axn.zero]
      go_enter Try.func14, Try.ntmps14
      go_wp2_with fail
      refine (implParserFault_calls md st pv ns _ ((w.alloc (.cells #[.int .i64 md, .int .i64 st, .bool pv, .slice a1 ns.length c1] 27)).alloc (.cells #[.int .i64 0, .int .i64 0, .int .i64 0, .int .i64 0, .bool false, .slice none 0 0, .int .i64 0, .int .i64 0, .bool false, .slice none 0 0] 34)) hn (h1.below hb0)).mono ?_
      rintro e w1 ⟨rfl, hb1⟩
      have k0_0 : w1.cell? ⟨w.heap.size, 0, none⟩ = some (.int .i64 md) := cellb hb1 (by simp [go_sem])
      have k0_1 : w1.cell? ⟨w.heap.size, 1, none⟩ = some (.int .i64 st) := cellb hb1 (by simp [go_sem])
      have k0_2 : w1.cell? ⟨w.heap.size, 2, none⟩ = some (.bool pv) := cellb hb1 (by simp [go_sem])
      have k0_3 : w1.cell? ⟨w.heap.size, 3, none⟩ = some (.slice a1 ns.length c1) := cellb hb1 (by simp [go_sem])
      have k1_0 : w1.cell? ⟨w.heap.size + 1, 0, none⟩ = some (.int .i64 0) := cellb hb1 (by simp [go_sem])
      have k1_1 : w1.cell? ⟨w.heap.size + 1, 1, none⟩ = some (.int .i64 0) := cellb hb1 (by simp [go_sem])
      have k1_2 : w1.cell? ⟨w.heap.size + 1, 2, none⟩ = some (.int .i64 0) := cellb hb1 (by simp [go_sem])
      have k1_3 : w1.cell? ⟨w.heap.size + 1, 3, none⟩ = some (.int .i64 0) := cellb hb1 (by simp [go_sem])
      have k1_4 : w1.cell? ⟨w.heap.size + 1, 4, none⟩ = some (.bool false) := cellb hb1 (by simp [go_sem])
      have k1_5 : w1.cell? ⟨w.heap.size + 1, 5, none⟩ = some (.slice none 0 0) := cellb hb1 (by simp [go_sem])
      have k1_6 : w1.cell? ⟨w.heap.size + 1, 6, none⟩ = some (.int .i64 0) := cellb hb1 (by simp [go_sem])
      have k1_7 : w1.cell? ⟨w.heap.size + 1, 7, none⟩ = some (.int .i64 0) := cellb hb1 (by simp [go_sem])
      have k1_8 : w1.cell? ⟨w.heap.size + 1, 8, none⟩ = some (.bool false) := cellb hb1 (by simp [go_sem])
      have k1_9 : w1.cell? ⟨w.heap.size + 1, 9, none⟩ = some (.slice none 0 0) := cellb hb1 (by simp [go_sem])
      have f1 : ∀ o, w1.frozen? ⟨w.heap.size + 1, o, none⟩ = false := fun o => by rw [hb1.frozen (p := ⟨w.heap.size + 1, o, none⟩) (by simp)]; simp [go_sem]
      have hs1 : w.heap.size + 2 ≤ w1.heap.size := by have := hb1.size; simp at this; omega
      replace hb1 := hb0.trans (hb1.mono (by simp; omega))
      clear hb0
      rw [show parCode md st pv ns = (⟨md, st, pv, ns⟩ : Par).code from rfl, hp]
      go_wp2_with fail
      refine (isChar_calls c _).mono ?_
      rintro e w9 ⟨rfl, hw9⟩
      rw [hw9, hch]
      clear hw9 w9
      go_wp2
      refine bodyPost_ret (v := .agg #[.int .i64 3, .int .i64 0, .int .i64 0, .int .i64 0, .bool false, .slice none 0 0, .int .i64 0, .int .i64 0, .bool false, .slice none 0 0]) (by simp only [results, Try.results14]; simp [go_sem, k0_0, k0_1, k0_2, k0_3, k1_0, k1_1, k1_2, k1_3, k1_4, k1_5, k1_6, k1_7, k1_8, k1_9]) rfl ⟨_, _, rfl, two_none _ (by simp; omega), (by repeat' (first | with_reducible exact Below.refl _ _ | with_reducible assumption | with_reducible refine Below.drew ?_ | with_reducible refine Below.alloc ?_ ?_ _ | with_reducible refine Below.setCell ?_ ?_ _ | (simp; done) | (simp; omega) | omega))⟩
  · rw [stepRes_code hp]
    unfold resV
    dsimp only [Par.zero, Axn.zero]
    generalize hcd : (⟨md, st, pv, ns⟩ : Par).code = code at *
    have HCD := hide hcd
    clear hcd
    have hne : (code != 0) = true := by simpa using hp
    go_enter Try.func14, Try.ntmps14
    go_wp2_with fail
    refine (implParserFault_calls md st pv ns _ ((w.alloc (.cells #[.int .i64 md, .int .i64 st, .bool pv, .slice a1 ns.length c1] 27)).alloc (.cells #[.int .i64 0, .int .i64 0, .int .i64 0, .int .i64 0, .bool false, .slice none 0 0, .int .i64 0, .int .i64 0, .bool false, .slice none 0 0] 34)) hn (h1.below hb0)).mono ?_
    rintro e w1 ⟨rfl, hb1⟩
    have k0_0 : w1.cell? ⟨w.heap.size, 0, none⟩ = some (.int .i64 md) := cellb hb1 (by simp [go_sem])
    have k0_1 : w1.cell? ⟨w.heap.size, 1, none⟩ = some (.int .i64 st) := cellb hb1 (by simp [go_sem])
    have k0_2 : w1.cell? ⟨w.heap.size, 2, none⟩ = some (.bool pv) := cellb hb1 (by simp [go_sem])
    have k0_3 : w1.cell? ⟨w.heap.size, 3, none⟩ = some (.slice a1 ns.length c1) := cellb hb1 (by simp [go_sem])
    have k1_0 : w1.cell? ⟨w.heap.size + 1, 0, none⟩ = some (.int .i64 0) := cellb hb1 (by simp [go_sem])
    have k1_1 : w1.cell? ⟨w.heap.size + 1, 1, none⟩ = some (.int .i64 0) := cellb hb1 (by simp [go_sem])
    have k1_2 : w1.cell? ⟨w.heap.size + 1, 2, none⟩ = some (.int .i64 0) := cellb hb1 (by simp [go_sem])
    have k1_3 : w1.cell? ⟨w.heap.size + 1, 3, none⟩ = some (.int .i64 0) := cellb hb1 (by simp [go_sem])
    have k1_4 : w1.cell? ⟨w.heap.size + 1, 4, none⟩ = some (.bool false) := cellb hb1 (by simp [go_sem])
    have k1_5 : w1.cell? ⟨w.heap.size + 1, 5, none⟩ = some (.slice none 0 0) := cellb hb1 (by simp [go_sem])
    have k1_6 : w1.cell? ⟨w.heap.size + 1, 6, none⟩ = some (.int .i64 0) := cellb hb1 (by simp [go_sem])
    have k1_7 : w1.cell? ⟨w.heap.size + 1, 7, none⟩ = some (.int .i64 0) := cellb hb1 (by simp [go_sem])
    have k1_8 : w1.cell? ⟨w.heap.size + 1, 8, none⟩ = some (.bool false) := cellb hb1 (by simp [go_sem])
    have k1_9 : w1.cell? ⟨w.heap.size + 1, 9, none⟩ = some (.slice none 0 0) := cellb hb1 (by simp [go_sem])
    have f1 : ∀ o, w1.frozen? ⟨w.heap.size + 1, o, none⟩ = false := fun o => by rw [hb1.frozen (p := ⟨w.heap.size + 1, o, none⟩) (by simp)]; simp [go_sem]
    have hs1 : w.heap.size + 2 ≤ w1.heap.size := by have := hb1.size; simp at this; omega
    replace hb1 := hb0.trans (hb1.mono (by simp; omega))
    clear hb0
    rw [show parCode md st pv ns = code from HCD.out]
    go_wp2
    refine bodyPost_ret (v := .agg #[.int .i64 code, .int .i64 0, .int .i64 0, .int .i64 0, .bool false, .slice none 0 0, .int .i64 0, .int .i64 0, .bool false, .slice none 0 0]) (by simp only [results, Try.results14]; simp [go_sem, k0_0, k0_1, k0_2, k0_3, k1_0, k1_1, k1_2, k1_3, k1_4, k1_5, k1_6, k1_7, k1_8, k1_9]) rfl ⟨_, _, rfl, two_none _ (by simp; omega), (by repeat' (first | with_reducible exact Below.refl _ _ | with_reducible assumption | with_reducible refine Below.drew ?_ | with_reducible refine Below.alloc ?_ ?_ _ | with_reducible refine Below.setCell ?_ ?_ _ | (simp; done) | (simp; omega) | omega))⟩

end Go.Proofs.Ytaljegjflkebcaa
