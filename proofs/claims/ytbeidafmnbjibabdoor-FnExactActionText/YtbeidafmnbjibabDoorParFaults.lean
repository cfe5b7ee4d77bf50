/-
  What ParserFault answers, of the program and of the model: isParserForm, isSet, paramsFault, ParserFault; l4Params, l4Fault, ParserFault.
-/
import Derived.Test.YtbeidafmnbjibabDoorRows
import Derived.Test.YtbeidafmnbjibabDoorMem
import Derived.Test.YtbeidafmnbjibabDoorRangeFns
import Derived.WalkKit
import Derived.ProofKit
import Derived.OpenShut
import Derived.Below
import Derived.OwnWalk
import Derived.WalkSpells
import Derived.Deep.QuietTactic
import Derived.BigQuiet
import Derived.Deep.RegionHeld3
namespace Go.Proofs.YtbeidafmnbjibabDoor
open Go.ChangeShapes Go.WideShapes Go.ChangeAt Go.RowKit
set_option linter.unusedVariables false
set_option linter.unusedSimpArgs false

def numB (n : Int) : Bool := decide (0 ≤ n ∧ n ≤ 999)
def numsB (ns : List Int) (k : Nat) : Bool := (ns.drop k).all numB
/-- The numbers of a parser or of an action: how many, and each. -/
def numsCode (ns : List Int) : Int := if ns.length < 1 then 2 else if 6 < ns.length then 2 else if numsB ns 0 = false then 3 else 0
/-- A parser has nothing that its mode has not. -/
def formB (md st : Int) (pv : Bool) (ns : List Int) : Bool :=
  if md = 0 ∨ md = 1 then decide (st = 0) && (!pv && decide (ns.length = 0)) else if md = 3 then !pv && decide (ns.length = 0) else if md = 2 then decide (st = 0) else false
def setB (st : Int) : Bool := decide (1 ≤ st ∧ st ≤ 2)
def parCode (md st : Int) (pv : Bool) (ns : List Int) : Int :=
  if formB md st pv ns = false then 1 else if md = 3 ∧ setB st = false then 3 else if md = 2 then numsCode ns else 0

theorem numsB_end {ns : List Int} {k : Nat} (h : ¬ k < ns.length) : numsB ns k = true := by unfold numsB; rw [List.drop_eq_nil_of_le (by omega)]; rfl
theorem numsB_step {ns : List Int} {k : Nat} (h : k < ns.length) : numsB ns k = (numB (ns.getD k 0) && numsB ns (k + 1)) := by
  unfold numsB
  rw [List.drop_eq_getElem_cons h, List.all_cons]
  simp [List.getD_eq_getElem?_getD, h]

theorem numsCode_many {ns : List Int} (h : ¬ (1 ≤ ns.length ∧ ns.length ≤ 6)) : numsCode ns = 2 := by
  unfold numsCode
  by_cases h1 : ns.length < 1
  · rw [if_pos h1]
  · rw [if_neg h1, if_pos (by omega)]

set_option maxHeartbeats 400000 in
theorem isSet_calls (st : Int) (w : World) :
    Calls Tryd.prog 23 #[.int .i64 st] w fun e w' => e = .returned (.bool (setB st)) ∧ w' = w := by
  go_enter Tryd.func23, Tryd.ntmps23
  go_wp2_with (go_at_call 32; refine (isFromTo_calls st 1 2 _).mono ?_; rintro e w' ⟨rfl, hw⟩; rw [hw]; clear hw w')
  go_ret
  refine ⟨ret_bool ?_, rfl⟩
  simp [setB]

set_option maxHeartbeats 400000 in
theorem paramsFault_calls (ns : List Int) (v : Value) (w : World) (hn : ns.length ≤ maxLen) (h1 : ReadAt .i64 w v ns) :
    Calls Tryd.prog 24 #[v] w fun e w' => e = .returned (.int .i64 (numsCode ns)) ∧ w' = w := by
  unfold maxLen at hn
  obtain ⟨a1, c1, rfl, h1⟩ := h1
  by_cases hm : 1 ≤ ns.length ∧ ns.length ≤ 6
  · obtain ⟨hm1, hm2⟩ := hm
    have hd : decide ((1 : Int) ≤ (ns.length : Int) ∧ (ns.length : Int) ≤ 6) = true := by simp; omega
    have HN : Hid (numsCode ns = if numsB ns 0 = false then 3 else 0) := hide (by unfold numsCode; rw [if_neg (by omega), if_neg (by omega)])
    have H1 := hide h1
    clear h1
    go_enter Tryd.func24, Tryd.ntmps24
    go_wp2_with fail
    refine (isFromTo_calls (ns.length : Int) 1 6 _).mono ?_
    rintro e w' ⟨rfl, hw⟩
    rw [hw, hd]
    clear hw w' hd
    generalize hres : numsB ns 0 = res
    have HR := hide hres
    rw [hres] at HN
    clear hres
    go_wp2
    go_loop [4, 11] (fun q i => ∃ k : Nat, k ≤ ns.length ∧ i = .int .i64 k ∧ Hid (numsB ns k = res)) (fun _ i => ns.length - (intOf i).toNat)
    case atStart => exact ⟨0, Nat.zero_le _, rfl, HR⟩
    case round =>
      obtain ⟨k, hkk, rfl, hr⟩ := hrel
      by_cases hlt : k < ns.length
      · have hpos : ns ≠ [] := by intro h; rw [h] at hlt; simp at hlt
        rcases H1.out with h1 | ⟨b1, o1, rfl, h1⟩
        · exact absurd h1 hpos
        have g1 := h1 k hlt
        have hltI : (k : Int) < (ns.length : Int) := by omega
        have HS := hide (numsB_step hlt)
        clear h1 hpos H1
        generalize ns.getD k 0 = x at *
        go_wp2_with fail
        refine (isFromTo_calls x 0 999 _).mono ?_
        rintro e w' ⟨rfl, hw⟩
        have hx : decide ((0 : Int) ≤ x ∧ x ≤ 999) = numB x := rfl
        rw [hw, hx]
        clear hw w' hx
        cases hp : numB x with
        | false =>
          have e1 : res = false := by rw [← hr.out, HS.out, hp]; rfl
          subst e1
          go_wp2
          go_ret
          exact ⟨by rw [HN.out]; rfl, rfl⟩
        | true =>
          have e1 : numsB ns (k + 1) = res := by rw [← hr.out, HS.out, hp]; rfl
          have E1 := hide e1
          clear e1
          go_wp2
          go_round
          case rel => exact ⟨k + 1, by omega, by go_num, E1⟩
          case measure => simp [intOf]; omega
      · have e1 : res = true := by rw [← hr.out]; exact numsB_end hlt
        subst e1
        have hge : ¬ ((k : Int) < (ns.length : Int)) := by omega
        go_wp2
        go_ret
        exact ⟨by rw [HN.out]; rfl, rfl⟩
  · have hd : decide ((1 : Int) ≤ (ns.length : Int) ∧ (ns.length : Int) ≤ 6) = false := by simp; omega
    have HN : Hid (numsCode ns = 2) := hide (numsCode_many (by omega))
    go_enter Tryd.func24, Tryd.ntmps24
    go_wp2_with fail
    refine (isFromTo_calls (ns.length : Int) 1 6 _).mono ?_
    rintro e w' ⟨rfl, hw⟩
    rw [hw, hd]
    clear hw w' hd
    go_wp2
    go_ret
    exact ⟨by rw [HN.out]; rfl, rfl⟩

theorem formB_low {md st : Int} {pv : Bool} {ns : List Int} (h : md = 0 ∨ md = 1) : formB md st pv ns = (decide (st = 0) && (!pv && decide (ns.length = 0))) := by unfold formB; rw [if_pos h]
theorem formB_set {st : Int} {pv : Bool} {ns : List Int} : formB 3 st pv ns = (!pv && decide (ns.length = 0)) := rfl
theorem formB_par {st : Int} {pv : Bool} {ns : List Int} : formB 2 st pv ns = decide (st = 0) := rfl
theorem formB_not {md st : Int} {pv : Bool} {ns : List Int} (h0 : ¬ md = 0) (h1 : ¬ md = 1) (h3 : ¬ md = 3) (h2 : ¬ md = 2) : formB md st pv ns = false := by unfold formB; rw [if_neg (by omega), if_neg h3, if_neg h2]

theorem parCode_form {md st : Int} {pv : Bool} {ns : List Int} (h : formB md st pv ns = false) : parCode md st pv ns = 1 := by unfold parCode; rw [if_pos h]
theorem parCode_set {st : Int} {pv : Bool} {ns : List Int} (h : formB 3 st pv ns = true) : parCode 3 st pv ns = if setB st = false then 3 else 0 := by
  unfold parCode
  rw [if_neg (by rw [h]; simp)]
  by_cases c : setB st = false
  · rw [if_pos ⟨rfl, c⟩, if_pos c]
  · rw [if_neg (fun h => c h.2), if_neg c]; rfl
theorem parCode_par {st : Int} {pv : Bool} {ns : List Int} (h : formB 2 st pv ns = true) : parCode 2 st pv ns = numsCode ns := by
  unfold parCode
  rw [if_neg (by rw [h]; simp)]
  rfl
theorem parCode_low {md st : Int} {pv : Bool} {ns : List Int} (h : formB md st pv ns = true) (h3 : ¬ md = 3) (h2 : ¬ md = 2) : parCode md st pv ns = 0 := by
  unfold parCode
  rw [if_neg (by rw [h]; simp), if_neg (fun c => h3 c.1), if_neg h2]

set_option maxHeartbeats 400000 in
theorem l4Params_calls (ns : List Int) (v : Value) (w : World) (hn : ns.length ≤ maxLen) (h1 : ReadAt .i64 w v ns) :
    Calls Tryd.prog 20 #[v] w fun e w' => e = .returned (.int .i64 (numsCode ns)) ∧ w' = w := by
  unfold maxLen at hn
  obtain ⟨a1, c1, rfl, h1⟩ := h1
  by_cases hm : 1 ≤ ns.length ∧ ns.length ≤ 6
  · obtain ⟨hm1, hm2⟩ := hm
    have hd1 : ¬ ((ns.length : Int) < 1) := by omega
    have hd2 : ¬ ((6 : Int) < (ns.length : Int)) := by omega
    have HN : Hid (numsCode ns = if numsB ns 0 = false then 3 else 0) := hide (by unfold numsCode; rw [if_neg (by omega), if_neg (by omega)])
    have H1 := hide h1
    clear h1
    generalize hres : numsB ns 0 = res
    have HR := hide hres
    rw [hres] at HN
    clear hres
    go_enter Tryd.func20, Tryd.ntmps20
    go_wp2
    go_loop [3] (fun i => ∃ k : Nat, k ≤ ns.length ∧ i = .int .i64 k ∧ Hid (numsB ns k = res)) (fun i => ns.length - (intOf i).toNat)
    case atStart => exact ⟨0, Nat.zero_le _, rfl, HR⟩
    case round =>
      obtain ⟨k, hkk, rfl, hr⟩ := hrel
      by_cases hlt : k < ns.length
      · have hpos : ns ≠ [] := by intro h; rw [h] at hlt; simp at hlt
        rcases H1.out with h1 | ⟨b1, o1, rfl, h1⟩
        · exact absurd h1 hpos
        have g1 := h1 k hlt
        have hltI : (k : Int) < (ns.length : Int) := by omega
        have HS := hide (numsB_step hlt)
        clear h1 hpos H1
        generalize ns.getD k 0 = x at *
        go_wp2_with fail
        refine (l1In_calls x 0 999 _).mono ?_
        rintro e w' ⟨rfl, hw⟩
        have hx : decide ((0 : Int) ≤ x ∧ x ≤ 999) = numB x := rfl
        rw [hw, hx]
        clear hw w' hx
        cases hp : numB x with
        | false =>
          have e1 : res = false := by rw [← hr.out, HS.out, hp]; rfl
          subst e1
          go_wp2
          go_ret
          exact ⟨by rw [HN.out]; rfl, rfl⟩
        | true =>
          have e1 : numsB ns (k + 1) = res := by rw [← hr.out, HS.out, hp]; rfl
          have E1 := hide e1
          clear e1
          go_wp2
          go_round
          case rel => exact ⟨k + 1, by omega, by go_num, E1⟩
          case measure => simp [intOf]; omega
      · have e1 : res = true := by rw [← hr.out]; exact numsB_end hlt
        subst e1
        have hge : ¬ ((k : Int) < (ns.length : Int)) := by omega
        go_wp2
        go_ret
        exact ⟨by rw [HN.out]; rfl, rfl⟩
  · have HN : Hid (numsCode ns = 2) := hide (numsCode_many (by omega))
    by_cases hd1 : (ns.length : Int) < 1
    · go_enter Tryd.func20, Tryd.ntmps20
      go_wp2
      go_ret
      exact ⟨by rw [HN.out]; rfl, rfl⟩
    · have hd2 : (6 : Int) < (ns.length : Int) := by omega
      go_enter Tryd.func20, Tryd.ntmps20
      go_wp2
      go_ret
      exact ⟨by rw [HN.out]; rfl, rfl⟩

end Go.Proofs.YtbeidafmnbjibabDoor
