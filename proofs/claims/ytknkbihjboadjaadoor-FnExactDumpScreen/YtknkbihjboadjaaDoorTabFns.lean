/-
  Tab stops: tabsOf of the program; l5Tabs of the model.
-/
import Derived.Test.YtknkbihjboadjaaDoorRows
import Derived.Test.YtknkbihjboadjaaDoorBoolMem
import Derived.Test.YtknkbihjboadjaaDoorRangeFns
import Derived.Laws.IdiomCopy
import Derived.OwnWalk
import Derived.Lib.SmallJoins
namespace Go.Proofs.YtknkbihjboadjaaDoor
set_option maxRecDepth 20000
open Go.ChangeShapes Go.WideShapes Go.ChangeAt Go.RowKit
set_option linter.unusedVariables false
set_option linter.unusedSimpArgs false
set_option maxRecDepth 20000

/-- The usual stop; those of n columns, where some were there. -/
def stopB (i : Nat) : Bool := decide (0 < i) && decide (i % 8 = 0)
def tabsL (n : Nat) (f : Nat → Bool) : List Bool := (List.range n).map f
theorem tabsL_length (n : Nat) (f : Nat → Bool) : (tabsL n f).length = n := by simp [tabsL]
theorem tabsL_get (n : Nat) (f : Nat → Bool) (i : Nat) (h : i < n) : (tabsL n f).getD i false = f i := by simp [tabsL, List.getD_eq_getElem?_getD, h]
theorem tabsL_congr {n : Nat} {f g : Nat → Bool} (h : ∀ i, i < n → f i = g i) : tabsL n f = tabsL n g := by
  unfold tabsL
  apply List.map_congr_left
  intro i hi
  exact h i (by simpa using hi)
def tabsW (tb : List Bool) (n : Nat) : List Bool := tabsL n (fun i => if i < tb.length then tb.getD i false else stopB i)
theorem tabsW_nil (n : Nat) : tabsW [] n = tabsL n stopB := by unfold tabsW; exact tabsL_congr (fun i _ => by simp)
theorem tabsW_length (tb : List Bool) (n : Nat) : (tabsW tb n).length = n := tabsL_length _ _
theorem boolsAt_congr {lo hi : Nat} {w : World} {v : Value} {n : Nat} {f g : Nat → Bool} (h : BoolsAt lo hi w v (tabsL n f)) (e : ∀ i, i < n → f i = g i) : BoolsAt lo hi w v (tabsL n g) := by
  rw [← tabsL_congr e]; exact h
theorem bools_vals (n : Nat) (f : Nat → Bool) : (tabsL n f).map Value.bool = (List.range n).map (fun i => Value.bool (f i)) := by simp [tabsL]
/-- A store into a list of booleans. -/
theorem BoolsAt.put {lo hi : Nat} {w : World} {b n cap : Nat} {f : Nat → Bool} (h : BoolsAt lo hi w (.slice (some ⟨b, 0, none⟩) n cap) (tabsL n f)) (i : Nat) (u : Bool) : BoolsAt lo hi (w.setCell ⟨b, i, none⟩ (.bool u)) (.slice (some ⟨b, 0, none⟩) n cap) (tabsL n (fun j => if j = i then u else f j)) := by
  obtain ⟨a, c, hv, h⟩ := h
  injection hv with e1 e2 e3
  subst e1 e3
  refine ⟨_, _, by rw [tabsL_length], ?_⟩
  rcases h with h | ⟨b', o', ha, hl, hh, hc⟩
  · left
    rw [tabsL_length] at e2
    have : n = 0 := by have := congrArg List.length h; simpa [tabsL_length] using this
    rw [this]; rfl
  · right
    injection ha with ha
    injection ha with e4 e5
    subst e4 e5
    refine ⟨b, 0, rfl, hl, hh, fun j hj => ?_⟩
    rw [tabsL_length] at hj
    have := hc j (by rw [tabsL_length]; exact hj)
    rw [tabsL_get _ _ _ hj] at this
    rw [tabsL_get _ _ _ hj, World.frozen?_setCell]
    refine ⟨?_, this.2⟩
    by_cases e : j = i
    · subst e
      rw [if_pos rfl, Nat.zero_add]
      rw [Nat.zero_add] at this
      exact World.cell?_setCell_same _ _ _ this.1
    · rw [if_neg e, World.cell?_setCell_other _ _ _ _ (addr_ne (by omega))]
      exact this.1
theorem BoolsAt.cell {lo hi : Nat} {w : World} {b n cap : Nat} {f : Nat → Bool} (h : BoolsAt lo hi w (.slice (some ⟨b, 0, none⟩) n cap) (tabsL n f)) (i : Nat) (hi' : i < n) : w.cell? ⟨b, i, none⟩ = some (.bool (f i)) ∧ w.frozen? ⟨b, i, none⟩ = false ∧ lo ≤ b ∧ b < hi := by
  obtain ⟨a, c, hv, h⟩ := h
  injection hv with e1 e2 e3
  subst e1 e3
  rcases h with h | ⟨b', o', ha, hl, hh, hc⟩
  · have : n = 0 := by have := congrArg List.length h; simpa [tabsL_length] using this
    omega
  · injection ha with ha
    injection ha with e4 e5
    subst e4 e5
    have := hc i (by rw [tabsL_length]; exact hi')
    rw [tabsL_get _ _ _ hi', Nat.zero_add] at this
    exact ⟨this.1, this.2, hl, hh⟩
theorem within_setCells {lo hi b : Nat} (h1 : lo ≤ b) (h2 : b < hi) : ∀ (vs : List Value) (o : Nat) (a w : World), Within lo hi a w → Within lo hi a (w.setCells b o vs)
  | [], _, _, _, h => h
  | v :: r, o, a, w, h => by rw [World.setCells]; exact within_setCells h1 h2 r (o + 1) a _ (h.setCell h1 h2 v)
/-- A copy of booleans. -/
theorem run_copyB {P : Program} {lo hi : Nat} (w : World) (dT sT ty elem : TypeId) (hu : P.underlying dT = some (.slice elem)) (hs : (P.info? elem).map (·.size) = some 1) (b n cap : Nat) (f : Nat → Bool)
    (hd : BoolsAt lo hi w (.slice (some ⟨b, 0, none⟩) n cap) (tabsL n f)) (sp : Option Addr) (sCap : Nat) (tb : List Bool) (h : BRead w (.slice sp tb.length sCap) tb) :
    ∃ w', (Builtin.copy_ #[dT, sT] ty #[.slice (some ⟨b, 0, none⟩) n cap, .slice sp tb.length sCap]).run P w = .ok (goInt (Nat.min tb.length n)) w' ∧ BoolsAt lo hi w' (.slice (some ⟨b, 0, none⟩) n cap) (tabsL n (fun i => if i < tb.length then tb.getD i false else f i)) ∧ Within lo hi w w' := by
  by_cases h0 : Nat.min tb.length n = 0
  · rw [h0]
    refine ⟨w, run_copy_none w dT sT ty elem _ _ _ _ _ _ hu hs h0, boolsAt_congr hd (fun i hi' => ?_), Within.refl _ _ _⟩
    have : tb.length = 0 := by have := h0; simp only [Nat.min_def] at this; split at this <;> omega
    rw [if_neg (by omega)]
  · have hn : 0 < n := by simp only [Nat.min_def] at h0; split at h0 <;> omega
    have ht : 0 < tb.length := by simp only [Nat.min_def] at h0; split at h0 <;> omega
    obtain ⟨b', o', rfl, hc0⟩ := h.spot 0 ht
    have hc : ∀ i, i < tb.length → w.cell? ⟨b', o' + i, none⟩ = some (.bool (tb.getD i false)) := by
      intro i hi'
      obtain ⟨b2, o2, e, hc⟩ := h.spot i hi'
      injection e with e
      injection e with e1 e2
      subst e1 e2
      exact hc
    have hlen : ((tb.take n).map Value.bool).length = Nat.min tb.length n := by simp [Nat.min_comm]
    have hB := hd.cell 0 hn
    have hle := Nat.min_le_right tb.length n
    have q1 : ∀ (j : Nat) (v : Value), ((tb.take n).map Value.bool)[j]? = some v → w.cell? ((⟨b', o', none⟩ : Addr).add j) = some v := by
      intro j v hj
      rw [show ((⟨b', o', none⟩ : Addr).add j) = ⟨b', o' + j, none⟩ from by simp [Addr.add]]
      simp only [List.getElem?_map, Option.map_eq_some_iff] at hj
      obtain ⟨x, hx, rfl⟩ := hj
      rw [List.getElem?_take] at hx
      split at hx
      · have hlt : j < tb.length := by
          rcases Nat.lt_or_ge j tb.length with h' | h'
          · exact h'
          · rw [List.getElem?_eq_none h'] at hx; cases hx
        rw [hc j hlt]
        simp [List.getD_eq_getElem?_getD, hx]
      · cases hx
    have q2 : ∀ j, j < ((tb.take n).map Value.bool).length → (w.cell? ⟨b, 0 + j, none⟩).isSome = true := fun j hj => by
      rw [hlen] at hj
      rw [Nat.zero_add, (hd.cell j (Nat.lt_of_lt_of_le hj hle)).1]; rfl
    have q3 : ∀ j, j < ((tb.take n).map Value.bool).length → w.frozen? ⟨b, 0 + j, none⟩ = false := fun j hj => by
      rw [hlen] at hj
      rw [Nat.zero_add]; exact (hd.cell j (Nat.lt_of_lt_of_le hj hle)).2.1
    have hrun := run_copy_cells (P := P) w dT sT ty elem b 0 n cap ⟨b', o', none⟩ tb.length sCap ((tb.take n).map Value.bool) hu hs hlen q1 q2 q3 (fun v hv => by obtain ⟨x, _, rfl⟩ := List.mem_map.1 hv; rfl)
    rw [hlen] at hrun
    refine ⟨_, hrun, ?_, within_setCells hB.2.2.1 hB.2.2.2 _ _ _ _ (Within.refl _ _ _)⟩
    · refine ⟨_, _, by rw [tabsL_length], .inr ⟨b, 0, rfl, hB.2.2.1, hB.2.2.2, fun i hi' => ?_⟩⟩
      rw [tabsL_length] at hi'
      rw [tabsL_get _ _ _ hi', World.frozen?_setCells]
      refine ⟨?_, by rw [Nat.zero_add]; exact (hd.cell i hi').2.1⟩
      by_cases e : i < tb.length
      · rw [if_pos e]
        have := World.cell?_setCells_in b ((tb.take n).map Value.bool) 0 w q2 i (by simp; omega)
        rw [this]
        simp [List.getD_eq_getElem?_getD, e]
      · rw [if_neg e, World.cell?_setCells_out b _ 0 w _ (fun _ _ => Or.inr (by simp; omega)), Nat.zero_add]
        exact (hd.cell i hi').1

end Go.Proofs.YtknkbihjboadjaaDoor
