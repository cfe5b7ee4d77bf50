/-
  A parser without a fault has none behind a character; what ParseMany answers.
-/
import Derived.Test.YtaljegjflkebcaaActsMem
import Derived.Test.YtaljegjflkebcaaSpecStep2
namespace Go.Proofs.Ytaljegjflkebcaa
open Go.ChangeShapes Go.WideShapes Go.ChangeAt Go.RowKit
set_option linter.unusedVariables false
set_option linter.unusedSimpArgs false

theorem numsCode_ok {ns : List Int} (h1 : 0 < ns.length) (h2 : ns.length ≤ 6) (h3 : ∀ x ∈ ns, 0 ≤ x ∧ x ≤ 999) : numsCode ns = 0 := by
  unfold numsCode
  rw [if_neg (by omega), if_neg (by omega), if_neg]
  unfold numsB numB
  simpa [List.all_eq_true] using h3
theorem code_two {pv : Bool} {ns : List Int} (h1 : 0 < ns.length) (h2 : ns.length ≤ 6) (h3 : ∀ x ∈ ns, 0 ≤ x ∧ x ≤ 999) : (⟨2, 0, pv, ns⟩ : Par).code = 0 := by
  show parCode 2 0 pv ns = 0
  unfold parCode formB
  simp [numsCode_ok h1 h2 h3]
theorem par_st {p : Par} (h : p.code = 0) (hm : p.md = 2) : p.st = 0 := by
  obtain ⟨md, st, pv, ns⟩ := p
  dsimp only at hm ⊢
  subst hm
  cases hf : formB 2 st pv ns with
  | false => have := parCode_form hf; rw [show Par.code ⟨2, st, pv, ns⟩ = parCode 2 st pv ns from rfl, this] at h; omega
  | true => unfold formB at hf; simpa using hf
theorem param_code {p : Par} {c : Int} (h : p.code = 0) (hm : p.md = 2) : (paramP p c).code = 0 := by
  obtain ⟨h1, h2, h3⟩ := par_fine h hm
  have h4 := par_st h hm
  obtain ⟨md, st, pv, ns⟩ := p
  dsimp only at *
  subst hm h4
  unfold paramP
  dsimp only
  split
  · rename_i hc
    exact code_two (by unfold digitL; simpa using h1) (by unfold digitL; simpa using h2) (digitL_fine h3 hc.1)
  · split
    · split
      · rename_i hl
        exact code_two (by simp) (by simp; omega) (fun x hx => by
          rcases List.mem_append.1 hx with hx | hx
          · exact h3 x hx
          · obtain rfl : x = 0 := by simpa using hx
            omega)
      · exact h
    · split
      · exact code_two h1 h2 h3
      · exact h
theorem step_code {p : Par} {c : Int} (h : p.code = 0) : (stepPA p c).1.code = 0 := by
  unfold stepPA
  split
  · rfl
  split
  · rfl
  split
  · exact h
  split
  · exact h
  split
  · split
    · rfl
    split
    · rfl
    split
    · rfl
    split <;> rfl
  split
  · rename_i hm
    split
    · exact param_code h hm
    split <;> rfl
  split <;> rfl
theorem step_act {p : Par} {c : Int} (h : p.code = 0) : (stepPA p c).2.ns.length ≤ 6 := by
  have := par_len h
  have h2 : (stepPA p c).2.ns.length ≤ p.ns.length := by
    unfold stepPA paramP digitL Par.zero Axn.zero
    repeat' split
    all_goals simp
  omega
theorem hear_fine (p : Par) (cs : List Int) (h : p.code = 0) : ∀ k, k ≤ cs.length → (hearTo p cs k).1.code = 0 ∧ (hearTo p cs k).2.length ≤ k ∧ ∀ a ∈ (hearTo p cs k).2, a.ns.length ≤ 6 := by
  intro k
  induction k with
  | zero => intro _; exact ⟨h, by simp [hearTo], by simp [hearTo]⟩
  | succ k ih =>
    intro hk
    obtain ⟨i1, i2, i3⟩ := ih (by omega)
    rw [hearTo_succ _ _ _ (by omega)]
    unfold hear1
    dsimp only
    refine ⟨step_code i1, ?_, ?_⟩
    · split
      · omega
      · simp; omega
    · split
      · exact i3
      · intro a ha
        rcases List.mem_append.1 ha with ha | ha
        · exact i3 a ha
        · rw [show a = _ by simpa using ha]
          exact step_act i1

/-- The characters, each of them one. -/
def allB (cs : List Int) (k : Nat) : Bool := (cs.take k).all chB
theorem allB_succ (cs : List Int) (k : Nat) (h : k < cs.length) : allB cs (k + 1) = (allB cs k && chB (cs.getD k 0)) := by
  unfold allB
  rw [List.take_succ_eq_append_getElem h, List.all_append]
  simp [h]
theorem allB_more {cs : List Int} {k : Nat} (h : allB cs cs.length = true) (hk : k ≤ cs.length) : allB cs k = true := by
  unfold allB at *
  rw [List.all_eq_true] at *
  intro x hx
  refine h x ?_
  rw [List.take_length]
  exact List.mem_of_mem_take hx
theorem allB_no {cs : List Int} {k : Nat} (hk : k < cs.length) (h : chB (cs.getD k 0) = false) : allB cs cs.length = false := by
  cases h1 : allB cs cs.length with
  | false => rfl
  | true =>
    have := allB_more (k := k + 1) h1 (by omega)
    rw [allB_succ _ _ hk, h] at this
    simp at this
/-- The answer's code, its parser and its actions. -/
def manyRes (p : Par) (cs : List Int) : Int × (Par × List Axn) :=
  if p.code = 0 then (if 2000 < cs.length then (2, (Par.zero, [])) else if allB cs cs.length = true then (0, hearTo p cs cs.length) else (3, (Par.zero, []))) else (p.code, (Par.zero, []))
theorem manyRes_code {p : Par} {cs : List Int} (h : ¬ p.code = 0) : manyRes p cs = (p.code, (Par.zero, [])) := by unfold manyRes; rw [if_neg h]
theorem manyRes_many {p : Par} {cs : List Int} (h : p.code = 0) (hc : 2000 < cs.length) : manyRes p cs = (2, (Par.zero, [])) := by unfold manyRes; rw [if_pos h, if_pos hc]
theorem manyRes_char {p : Par} {cs : List Int} (h : p.code = 0) (hc : ¬ 2000 < cs.length) (ha : allB cs cs.length = false) : manyRes p cs = (3, (Par.zero, [])) := by unfold manyRes; rw [if_pos h, if_neg hc, if_neg (by rw [ha]; simp)]
theorem manyRes_ok {p : Par} {cs : List Int} (h : p.code = 0) (hc : ¬ 2000 < cs.length) (ha : allB cs cs.length = true) : manyRes p cs = (0, hearTo p cs cs.length) := by unfold manyRes; rw [if_pos h, if_neg hc, if_pos ha]
theorem manyRes_len (p : Par) (cs : List Int) : (manyRes p cs).2.1.ns.length ≤ 6 ∧ (manyRes p cs).2.2.length ≤ 2000 ∧ ∀ a ∈ (manyRes p cs).2.2, a.ns.length ≤ 6 := by
  unfold manyRes
  split
  · rename_i h
    split
    · simp [Par.zero]
    · rename_i hc
      split
      · have := hear_fine p cs h cs.length (Nat.le_refl _)
        exact ⟨par_len this.1, by dsimp only; omega, this.2.2⟩
      · simp [Par.zero]
  · simp [Par.zero]

end Go.Proofs.Ytaljegjflkebcaa
