/-
  A scope in which the run jumps a few times: what stands behind each jump is walked from its label on.
-/
import Derived.Scope
import Derived.WalkMore
import Derived.Test.YtaljegjflkebcaaMem
namespace Go.Proofs.Ytaljegjflkebcaa
open Go Go.ChangeShapes Go.WideShapes Go.ChangeAt Go.RowKit

/-- As Q; by a goto: the rest behind the label is walked, with one jump fewer; without a jump left: no way out by a goto. -/
def hops (P : Program) (c : Code) (Q : Exit → Act → World → Prop) : Nat → Exit → Act → World → Prop
  | 0, .goto _, _, _ => False
  | n + 1, .goto l, a, w => ∃ rest, findLabel c l = some rest ∧ rest.wp P (hops P c Q n) a w
  | _, e, a, w => Q e a w

theorem hops_ret (P : Program) (c : Code) (Q : Exit → Act → World → Prop) (n : Nat) (a : Act) (w : World) : hops P c Q n .ret a w = Q .ret a w := by cases n <;> rfl

theorem wp_scope_hops {P : Program} {a : Act} {w : World} {Q : Exit → Act → World → Prop} {c : Code} (c' : Code) (hc : c' = c) (n : Nat) (h : c.wp P (hops P c' Q n) a w) : (Code.scope c).wp P Q a w := by
  subst hc
  intro b k cs
  have key : ∀ n (rest : Code) a w, rest.wp P (hops P c' Q n) a w → ∃ e a' w', Q e a' w' ∧ Arrives P (lone (b.at a (.code rest :: .inScope c' :: k)) cs w) b k cs e a' w' := by
    intro n
    induction n with
    | zero =>
      intro rest a w h
      obtain ⟨e, a₁, w₁, hq, harr⟩ := h b (.inScope c' :: k) cs
      cases e with
      | normal => exact ⟨.normal, a₁, w₁, hq, Steps.trans harr (.one step_inScope)⟩
      | exit id => exact ⟨.exit id, a₁, w₁, hq, fun k' hk => harr k' (by simp [exitTo, hk])⟩
      | goto l => exact hq.elim
      | ret => exact ⟨_, a₁, w₁, hq, harr⟩
      | panic ch => exact ⟨_, a₁, w₁, hq, harr⟩
      | outgrown => exact ⟨_, a₁, w₁, hq, harr⟩
    | succ n ih =>
      intro rest a w h
      obtain ⟨e, a₁, w₁, hq, harr⟩ := h b (.inScope c' :: k) cs
      cases e with
      | normal => exact ⟨.normal, a₁, w₁, hq, Steps.trans harr (.one step_inScope)⟩
      | exit id => exact ⟨.exit id, a₁, w₁, hq, fun k' hk => harr k' (by simp [exitTo, hk])⟩
      | goto l =>
        obtain ⟨r2, hf, h2⟩ := hq
        have hg : gotoIn l (.inScope c' :: k) = some (.code r2 :: .inScope c' :: k) := by simp [gotoIn, hf]
        obtain ⟨e₂, a₂, w₂, hq₂, harr₂⟩ := ih r2 a₁ w₁ h2
        exact ⟨e₂, a₂, w₂, hq₂, .of_steps (harr _ hg) harr₂⟩
      | ret => exact ⟨_, a₁, w₁, hq, harr⟩
      | panic ch => exact ⟨_, a₁, w₁, hq, harr⟩
      | outgrown => exact ⟨_, a₁, w₁, hq, harr⟩
  obtain ⟨e, a₁, w₁, hq, harr⟩ := key n c' a w h
  exact ⟨e, a₁, w₁, hq, .of_steps (.one step_scope) harr⟩

/-- The same, the code in the jumps' own words behind a name. -/
theorem wp_scope_named {P : Program} {a : Act} {w : World} {Q : Exit → Act → World → Prop} {c : Code} (n : Nat) (h : ∀ c', Hid (c' = c) → c.wp P (hops P c' Q n) a w) : (Code.scope c).wp P Q a w :=
  wp_scope_hops c rfl n (h c (hide rfl))
theorem hop_to {P : Program} {a : Act} {w : World} {Q : Exit → Act → World → Prop} {c c' rest : Code} {l n : Nat} (hc : Hid (c' = c)) (hf : findLabel c l = some rest) (h : rest.wp P (hops P c' Q n) a w) : hops P c' Q (n + 1) (.goto l) a w := by
  have := hc.out
  subst this
  exact ⟨rest, hf, h⟩

end Go.Proofs.Ytaljegjflkebcaa
