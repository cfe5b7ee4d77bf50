/-
  What a parser does with a character: the parser then and what is to do (stepPA); rows of integers of the call's own, written in place.
-/
import Derived.Test.YtbeidafmnbjibabDoorMem
import Derived.Test.YtbeidafmnbjibabDoorGrow
import Derived.Test.YtbeidafmnbjibabDoorParFaults
import Derived.Lib.BufferMore
namespace Go.Proofs.YtbeidafmnbjibabDoor
open Go.ChangeShapes Go.WideShapes Go.ChangeAt Go.RowKit
set_option linter.unusedVariables false
set_option linter.unusedSimpArgs false

structure Par where
  md : Int
  st : Int
  pv : Bool
  ns : List Int
structure Axn where
  kd : Int
  ch : Int
  st : Int
  pv : Bool
  ns : List Int
def Par.zero : Par := ⟨0, 0, false, []⟩
def Axn.zero : Axn := ⟨0, 0, 0, false, []⟩
def Par.code (p : Par) : Int := parCode p.md p.st p.pv p.ns
/-- The last number, with one digit more. -/
def digitL (ns : List Int) (c : Int) : List Int := ns.set (ns.length - 1) (min (10 * ns.getD (ns.length - 1) 0 + c - 48) 999)
def paramP (p : Par) (c : Int) : Par :=
  if 48 ≤ c ∧ c ≤ 57 then { p with ns := digitL p.ns c } else if c = 59 then (if p.ns.length < 6 then { p with ns := p.ns ++ [0] } else p) else if c = 63 then { p with pv := true } else p
def stepPA (p : Par) (c : Int) : Par × Axn :=
  if c = 24 ∨ c = 26 then (Par.zero, Axn.zero)
  else if c = 27 then (⟨1, 0, false, []⟩, Axn.zero)
  else if c < 32 then (p, ⟨2, c, 0, false, []⟩)
  else if c = 127 then (p, Axn.zero)
  else if p.md = 1 then
    (if c = 91 then (⟨2, 0, false, [0]⟩, Axn.zero) else if c = 40 then (⟨3, 1, false, []⟩, Axn.zero) else if c = 41 then (⟨3, 2, false, []⟩, Axn.zero)
     else if 48 ≤ c ∧ c ≤ 126 then (Par.zero, ⟨3, c, 0, false, []⟩) else (Par.zero, Axn.zero))
  else if p.md = 2 then (if c < 64 then (paramP p c, Axn.zero) else if c ≤ 126 then (Par.zero, ⟨4, c, 0, p.pv, p.ns⟩) else (Par.zero, Axn.zero))
  else if p.md = 3 then (Par.zero, ⟨5, c, p.st, false, []⟩)
  else (Par.zero, ⟨1, c, 0, false, []⟩)

def intsV (xs : List Int) : List Value := xs.map (Value.int .i64)
theorem intsV_append (a b : List Int) : intsV (a ++ b) = intsV a ++ intsV b := by simp [intsV]
theorem intsV_set (a : List Int) (i : Nat) (x : Int) : intsV (a.set i x) = (intsV a).set i (.int .i64 x) := by simp [intsV]

/-- A row of the call's own, with one cell written. -/
theorem own_put {w : World} {base n cap g i : Nat} {e : TypeId} {u : Value} {xs : List Value} (h : w.ownsRow base e 1 (.slice (some ⟨g, 0, none⟩) n cap) n xs) (hi : i < n) : (w.setCell ⟨g, i, none⟩ u).ownsRow base e 1 (.slice (some ⟨g, 0, none⟩) n cap) n (xs.set i u) := by
  obtain ⟨h1, h2⟩ := h
  refine ⟨by simpa using h1, ?_⟩
  rcases h2 with ⟨h, _⟩ | ⟨g', cap', cur, hv, hg, hc, h3, h4, h5, h6⟩
  · cases h
  · injection hv with e1 e2 e3
    injection e1 with e1
    injection e1 with e1
    subst e1 e3
    refine .inr ⟨g, cap, cur.setIfInBounds i u, rfl, hg, Lib.heap_setCell_same hc u, h3, h4, by simpa using h5, ?_⟩
    simp only [Array.toList_setIfInBounds, List.take_set, h6]
theorem own_spot {w : World} {base n : Nat} {e : TypeId} {v : Value} {xs : List Int} (h : w.ownsRow base e 1 v n (intsV xs)) (hn : 0 < n) : ∃ g cap, v = .slice (some ⟨g, 0, none⟩) n cap ∧ base ≤ g ∧ g < w.heap.size ∧ (∀ i, i < n → w.cell? ⟨g, i, none⟩ = some (.int .i64 (xs.getD i 0))) ∧ ∀ i, w.frozen? ⟨g, i, none⟩ = false := by
  rcases h.2 with ⟨_, h0⟩ | ⟨g, cap, cur, rfl, hg, hc, _⟩
  · omega
  · have hlt := (h.lt g rfl).2
    have hl : xs.length = n := by have := h.1; simpa [intsV] using this
    refine ⟨g, cap, rfl, hg, hlt, fun i hi => ?_, fun i => h.frozenAt i⟩
    rw [h.cellAt i (by omega)]
    simp [intsV, hl, hi]
theorem own_form {w : World} {base n : Nat} {e : TypeId} {v : Value} {xs : List Int} (h : w.ownsRow base e 1 v n (intsV xs)) : ∃ a cap, v = .slice a n cap := by
  rcases h.2 with ⟨rfl, h0⟩ | ⟨g, cap, cur, rfl, _⟩
  · subst h0; exact ⟨none, 0, rfl⟩
  · exact ⟨_, cap, rfl⟩
theorem own_len {w : World} {base n : Nat} {e : TypeId} {v : Value} {xs : List Int} (h : w.ownsRow base e 1 v n (intsV xs)) : n = xs.length := by have := h.1; simpa [intsV] using this.symm
/-- The row r is v's own, or new. -/
def From (w : World) (v r : Value) : Prop := ∀ k, r.ownBlock = some k → v.ownBlock = some k ∨ w.heap.size ≤ k
theorem From.refl (w : World) (v : Value) : From w v v := fun k h => .inl h
theorem From.nil (w : World) (v : Value) : From w v (.slice none 0 0) := fun k h => by cases h
theorem GrowTo.from {w w' : World} {v v' : Value} (h : GrowTo w w' v v') : From w v v' := fun k hk => by
  rcases h.spot with e | ⟨q, e, hq⟩
  · exact .inl (e ▸ hk)
  · rw [e] at hk; injection hk with hk; exact .inr (by omega)
theorem GrowTo.put {w : World} {g n cap i : Nat} (u : Value) : GrowTo w (w.setCell ⟨g, i, none⟩ u) (.slice (some ⟨g, 0, none⟩) n cap) (.slice (some ⟨g, 0, none⟩) n cap) :=
  ⟨⟨rfl, rfl, rfl, by simp [World.setCell], fun k hk hne => Below.heap_setCell _ _ _ _ (fun e => hne (by rw [e]; rfl))⟩, .inl rfl⟩
theorem GrowTo.more {a w : World} {v v' : Value} (h : GrowTo a w v v') (o : Obj) : GrowTo a (w.alloc o) v v' := h.trans (GrowTo.alloc _ _ _)
theorem GrowTo.drewN {a w : World} {v v' : Value} (h : GrowTo a w v v') (n : Nat) : GrowTo a (w.drewN n) v v' := h.trans (GrowTo.of_below (below_drewN (Below.refl _ w) n) _)
theorem GrowTo.drew {a w : World} {v v' : Value} (h : GrowTo a w v v') : GrowTo a w.drew v v' := h.trans (GrowTo.of_below (Below.drew (Below.refl _ w)) _)
theorem own_alloc {w : World} {base size n : Nat} {e : TypeId} {v : Value} {xs : List Value} (h : w.ownsRow base e size v n xs) (o : Obj) : (w.alloc o).ownsRow base e size v n xs := h.alloc o
theorem own_drewN {w : World} {base size n m : Nat} {e : TypeId} {v : Value} {xs : List Value} (h : w.ownsRow base e size v n xs) : (w.drewN m).ownsRow base e size v n xs := h
theorem own_drew {w : World} {base size n : Nat} {e : TypeId} {v : Value} {xs : List Value} (h : w.ownsRow base e size v n xs) : w.drew.ownsRow base e size v n xs := h
theorem own_one {w : World} {base g : Nat} {e : TypeId} {x : Int} (hb : base ≤ w.heap.size) (hg : g = w.heap.size) : (w.alloc (.cells #[.int .i64 x] e)).ownsRow base e 1 (.slice (some ⟨g, 0, none⟩) 1 1) 1 (intsV [x]) := by
  subst hg
  exact World.ownsRow_lit w #[.int .i64 x] 1 hb (by unfold maxLen; omega) rfl
theorem grown_refl (w : World) (o : Option Nat) : w.grownBy w o := ⟨rfl, rfl, rfl, Nat.le_refl _, fun _ _ _ => rfl⟩
theorem grown_drew {w w' : World} {v : Option Nat} (h : w.grownBy w' v) : w.grownBy w'.drew v := ⟨h.os, h.tape, h.output, h.size, h.block⟩
theorem grown_drewN {w w' : World} {v : Option Nat} (h : w.grownBy w' v) (n : Nat) : w.grownBy (w'.drewN n) v := ⟨h.os, h.tape, h.output, h.size, h.block⟩
theorem grown_setCell {w w' : World} {v : Option Nat} (h : w.grownBy w' v) {p : Addr} (hp : w.heap.size ≤ p.block) (u : Value) : w.grownBy (w'.setCell p u) v :=
  ⟨h.os, h.tape, h.output, by have := h.size; simpa [World.setCell] using this, fun k hk hne => (Below.heap_setCell _ _ _ _ (by omega)).trans (h.block k hk hne)⟩
theorem grown_alloc {w w' : World} {v : Option Nat} (h : w.grownBy w' v) (o : Obj) : w.grownBy (w'.alloc o) v :=
  ⟨h.os, h.tape, h.output, by have := h.size; simp; omega, fun k hk hne => (Below.heap_alloc _ _ _ (by have := h.size; omega)).trans (h.block k hk hne)⟩

theorem numsB_all {ns : List Int} (h : numsB ns 0 = true) : ∀ x ∈ ns, 0 ≤ x ∧ x ≤ 999 := by
  unfold numsB at h
  simp only [List.drop_zero, List.all_eq_true] at h
  intro x hx
  have := h x hx
  unfold numB at this
  simpa using this
theorem numsCode_fine {ns : List Int} (h : numsCode ns = 0) : 0 < ns.length ∧ ns.length ≤ 6 ∧ ∀ x ∈ ns, 0 ≤ x ∧ x ≤ 999 := by
  unfold numsCode at h
  by_cases h1 : ns.length < 1
  · rw [if_pos h1] at h; omega
  rw [if_neg h1] at h
  by_cases h2 : 6 < ns.length
  · rw [if_pos h2] at h; omega
  rw [if_neg h2] at h
  cases h3 : numsB ns 0 with
  | false => rw [h3] at h; simp at h
  | true => exact ⟨by omega, by omega, numsB_all h3⟩
theorem par_fine {p : Par} (h : p.code = 0) (hm : p.md = 2) : 0 < p.ns.length ∧ p.ns.length ≤ 6 ∧ ∀ x ∈ p.ns, 0 ≤ x ∧ x ≤ 999 := by
  obtain ⟨md, st, pv, ns⟩ := p
  dsimp only at hm
  subst hm
  cases hf : formB 2 st pv ns with
  | false => have := parCode_form hf; rw [show Par.code ⟨2, st, pv, ns⟩ = parCode 2 st pv ns from rfl, this] at h; omega
  | true => have := parCode_par hf; rw [show Par.code ⟨2, st, pv, ns⟩ = parCode 2 st pv ns from rfl, this] at h; exact numsCode_fine h

theorem paramP_md (p : Par) (c : Int) : (paramP p c).md = p.md := by
  unfold paramP
  repeat' split
  all_goals rfl
theorem paramP_st (p : Par) (c : Int) : (paramP p c).st = p.st := by
  unfold paramP
  repeat' split
  all_goals rfl

end Go.Proofs.YtbeidafmnbjibabDoor
