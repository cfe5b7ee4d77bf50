/-
  What ParserFault answers, of the program and of the model: isParserForm, isSet, paramsFault, ParserFault; l4Params, l4Fault, ParserFault.
-/
import Derived.Test.YtdekegjplegkeaaGreatRows
import Derived.Test.YtdekegjplegkeaaGreatMem
import Derived.Test.YtdekegjplegkeaaGreatRangeFns
import Derived.WalkKit
import Derived.ProofKit
import Derived.OpenShut
import Derived.Below
import Derived.OwnWalk
import Derived.WalkSpells
import Derived.Deep.QuietTactic
import Derived.BigQuiet
import Derived.Deep.RegionHeld3
namespace Go.Proofs.YtdekegjplegkeaaGreat
set_option maxRecDepth 20000
open Go.ChangeShapes Go.WideShapes Go.ChangeAt Go.RowKit
set_option linter.unusedVariables false
set_option linter.unusedSimpArgs false

def numB (n : Int) : Bool := decide (0 ≤ n ∧ n ≤ 999)
def numsB (ns : List Int) (k : Nat) : Bool := (ns.drop k).all numB
/-- The numbers of a parser or of an action: how many, and each. -/
def numsCode (ns : List Int) : Int := if ns.length < 1 then 2 else if 6 < ns.length then 2 else if numsB ns 0 = false then 3 else 0
/-- A parser has nothing that its mode has not. -/
def formB (md st : Int) (pv : Bool) (ns : List Int) : Bool :=
  if md = 0 ∨ md = 1 then decide (st = 0) && (!pv && decide (ns.length = 0)) else if md = 3 then !pv && decide (ns.length = 0) else if md = 2 then decide (st = 0) else false
def setB (st : Int) : Bool := decide (1 ≤ st ∧ st ≤ 2)
def parCode (md st : Int) (pv : Bool) (ns : List Int) : Int :=
  if formB md st pv ns = false then 1 else if md = 3 ∧ setB st = false then 3 else if md = 2 then numsCode ns else 0

theorem numsB_end {ns : List Int} {k : Nat} (h : ¬ k < ns.length) : numsB ns k = true := by unfold numsB; rw [List.drop_eq_nil_of_le (by omega)]; rfl
theorem numsB_step {ns : List Int} {k : Nat} (h : k < ns.length) : numsB ns k = (numB (ns.getD k 0) && numsB ns (k + 1)) := by
  unfold numsB
  rw [List.drop_eq_getElem_cons h, List.all_cons]
  simp [List.getD_eq_getElem?_getD, h]

theorem numsCode_many {ns : List Int} (h : ¬ (1 ≤ ns.length ∧ ns.length ≤ 6)) : numsCode ns = 2 := by
  unfold numsCode
  by_cases h1 : ns.length < 1
  · rw [if_pos h1]
  · rw [if_neg h1, if_pos (by omega)]

set_option maxHeartbeats 400000 in
theorem isSet_calls (st : Int) (w : World) :
    Calls Tryz.prog 111 #[.int .i64 st] w fun e w' => e = .returned (.bool (setB st)) ∧ w' = w := by
  go_enter Tryz.func111, Tryz.ntmps111
  go_wp2_with (go_at_call 105; refine (isFromTo_calls st 1 2 _).mono ?_; rintro e w' ⟨rfl, hw⟩; rw [hw]; clear hw w')
  go_ret
  refine ⟨ret_bool ?_, rfl⟩
  simp [setB]

set_option maxHeartbeats 400000 in
theorem paramsFault_calls (ns : List Int) (v : Value) (w : World) (hn : ns.length ≤ maxLen) (h1 : ReadAt .i64 w v ns) :
    Calls Tryz.prog 112 #[v] w fun e w' => e = .returned (.int .i64 (numsCode ns)) ∧ w' = w := by
  unfold maxLen at hn
  obtain ⟨a1, c1, rfl, h1⟩ := h1
  by_cases hm : 1 ≤ ns.length ∧ ns.length ≤ 6
  · obtain ⟨hm1, hm2⟩ := hm
    have hd : decide ((1 : Int) ≤ (ns.length : Int) ∧ (ns.length : Int) ≤ 6) = true := by simp; omega
    have HN : Hid (numsCode ns = if numsB ns 0 = false then 3 else 0) := hide (by unfold numsCode; rw [if_neg (by omega), if_neg (by omega)])
    have H1 := hide h1
    clear h1
    go_enter Tryz.func112, Tryz.ntmps112
    go_wp2_with fail
    refine (isFromTo_calls (ns.length : Int) 1 6 _).mono ?_
    rintro e w' ⟨rfl, hw⟩
    rw [hw, hd]
    clear hw w' hd
    generalize hres : numsB ns 0 = res
    have HR := hide hres
    rw [hres] at HN
    clear hres
    go_wp2
    go_loop [4, 11] (fun q i => ∃ k : Nat, k ≤ ns.length ∧ i = .int .i64 k ∧ Hid (numsB ns k = res)) (fun _ i => ns.length - (intOf i).toNat)
    case atStart => exact ⟨0, Nat.zero_le _, rfl, HR⟩
    case round =>
      obtain ⟨k, hkk, rfl, hr⟩ := hrel
      by_cases hlt : k < ns.length
      · have hpos : ns ≠ [] := by intro h; rw [h] at hlt; simp at hlt
        rcases H1.out with h1 | ⟨b1, o1, rfl, h1⟩
        · exact absurd h1 hpos
        have g1 := h1 k hlt
        have hltI : (k : Int) < (ns.length : Int) := by omega
        have HS := hide (numsB_step hlt)
        clear h1 hpos H1
        generalize ns.getD k 0 = x at *
        go_wp2_with fail
        refine (isFromTo_calls x 0 999 _).mono ?_
        rintro e w' ⟨rfl, hw⟩
        have hx : decide ((0 : Int) ≤ x ∧ x ≤ 999) = numB x := rfl
        rw [hw, hx]
        clear hw w' hx
        cases hp : numB x with
        | false =>
          have e1 : res = false := by rw [← hr.out, HS.out, hp]; rfl
          subst e1
          go_wp2
          go_ret
          exact ⟨by rw [HN.out]; rfl, rfl⟩
        | true =>
          have e1 : numsB ns (k + 1) = res := by rw [← hr.out, HS.out, hp]; rfl
          have E1 := hide e1
          clear e1
          go_wp2
          go_round
          case rel => exact ⟨k + 1, by omega, by go_num, E1⟩
          case measure => simp [intOf]; omega
      · have e1 : res = true := by rw [← hr.out]; exact numsB_end hlt
        subst e1
        have hge : ¬ ((k : Int) < (ns.length : Int)) := by omega
        go_wp2
        go_ret
        exact ⟨by rw [HN.out]; rfl, rfl⟩
  · have hd : decide ((1 : Int) ≤ (ns.length : Int) ∧ (ns.length : Int) ≤ 6) = false := by simp; omega
    have HN : Hid (numsCode ns = 2) := hide (numsCode_many (by omega))
    go_enter Tryz.func112, Tryz.ntmps112
    go_wp2_with fail
    refine (isFromTo_calls (ns.length : Int) 1 6 _).mono ?_
    rintro e w' ⟨rfl, hw⟩
    rw [hw, hd]
    clear hw w' hd
    go_wp2
    go_ret
    exact ⟨by rw [HN.out]; rfl, rfl⟩

theorem formB_low {md st : Int} {pv : Bool} {ns : List Int} (h : md = 0 ∨ md = 1) : formB md st pv ns = (decide (st = 0) && (!pv && decide (ns.length = 0))) := by unfold formB; rw [if_pos h]
theorem formB_set {st : Int} {pv : Bool} {ns : List Int} : formB 3 st pv ns = (!pv && decide (ns.length = 0)) := rfl
theorem formB_par {st : Int} {pv : Bool} {ns : List Int} : formB 2 st pv ns = decide (st = 0) := rfl
theorem formB_not {md st : Int} {pv : Bool} {ns : List Int} (h0 : ¬ md = 0) (h1 : ¬ md = 1) (h3 : ¬ md = 3) (h2 : ¬ md = 2) : formB md st pv ns = false := by unfold formB; rw [if_neg (by omega), if_neg h3, if_neg h2]

set_option maxHeartbeats 1000000 in
theorem isParserForm_calls (md st : Int) (pv : Bool) (ns : List Int) (v : Value) (w : World) (h1 : ReadAt .i64 w v ns) :
    Calls Tryz.prog 187 #[.agg #[.int .i64 md, .int .i64 st, .bool pv, v]] w fun e w' => e = .returned (.bool (formB md st pv ns)) ∧ Below w.heap.size w w' := by
  obtain ⟨a1, c1, rfl, _⟩ := h1
  have hlen : (((ns.length : Int)) == 0) = decide (ns.length = 0) := by rw [Bool.eq_iff_iff]; simp
  by_cases m0 : md = 0
  · subst m0
    rw [formB_low (.inl rfl)]
    by_cases s0 : st = 0
    · subst s0
      cases pv <;>
      · go_enter Tryz.func187, Tryz.ntmps187
        go_wp2
        go_ret
        refine ⟨ret_bool ?_, (by repeat' (first | with_reducible exact Below.refl _ _ | with_reducible assumption | with_reducible refine Below.drew ?_ | with_reducible refine Below.alloc ?_ ?_ _ | with_reducible refine Below.setCell ?_ ?_ _ | (simp; done) | (simp; omega) | omega))⟩
        simp
    · have s0' : (st != 0) = true := by simpa using s0
      go_enter Tryz.func187, Tryz.ntmps187
      go_wp2
      go_ret
      refine ⟨ret_bool ?_, (by repeat' (first | with_reducible exact Below.refl _ _ | with_reducible assumption | with_reducible refine Below.drew ?_ | with_reducible refine Below.alloc ?_ ?_ _ | with_reducible refine Below.setCell ?_ ?_ _ | (simp; done) | (simp; omega) | omega))⟩
      simp [s0]
  by_cases m1 : md = 1
  · subst m1
    rw [formB_low (.inr rfl)]
    by_cases s0 : st = 0
    · subst s0
      cases pv <;>
      · go_enter Tryz.func187, Tryz.ntmps187
        go_wp2
        go_ret
        refine ⟨ret_bool ?_, (by repeat' (first | with_reducible exact Below.refl _ _ | with_reducible assumption | with_reducible refine Below.drew ?_ | with_reducible refine Below.alloc ?_ ?_ _ | with_reducible refine Below.setCell ?_ ?_ _ | (simp; done) | (simp; omega) | omega))⟩
        simp
    · have s0' : (st != 0) = true := by simpa using s0
      go_enter Tryz.func187, Tryz.ntmps187
      go_wp2
      go_ret
      refine ⟨ret_bool ?_, (by repeat' (first | with_reducible exact Below.refl _ _ | with_reducible assumption | with_reducible refine Below.drew ?_ | with_reducible refine Below.alloc ?_ ?_ _ | with_reducible refine Below.setCell ?_ ?_ _ | (simp; done) | (simp; omega) | omega))⟩
      simp [s0]
  by_cases m3 : md = 3
  · subst m3
    rw [formB_set]
    cases pv <;>
    · go_enter Tryz.func187, Tryz.ntmps187
      go_wp2
      go_ret
      refine ⟨ret_bool ?_, (by repeat' (first | with_reducible exact Below.refl _ _ | with_reducible assumption | with_reducible refine Below.drew ?_ | with_reducible refine Below.alloc ?_ ?_ _ | with_reducible refine Below.setCell ?_ ?_ _ | (simp; done) | (simp; omega) | omega))⟩
      simp
  by_cases m2 : md = 2
  · subst m2
    rw [formB_par]
    go_enter Tryz.func187, Tryz.ntmps187
    go_wp2
    go_ret
    refine ⟨ret_bool ?_, (by repeat' (first | with_reducible exact Below.refl _ _ | with_reducible assumption | with_reducible refine Below.drew ?_ | with_reducible refine Below.alloc ?_ ?_ _ | with_reducible refine Below.setCell ?_ ?_ _ | (simp; done) | (simp; omega) | omega))⟩
    rw [Bool.eq_iff_iff]; simp
  rw [formB_not m0 m1 m3 m2]
  have e0 : (md == 0) = false := by simpa using m0
  have e1 : (md == 1) = false := by simpa using m1
  have e2 : (md == 2) = false := by simpa using m2
  have e3 : (md == 3) = false := by simpa using m3
  clear m0 m1 m2 m3
  go_enter Tryz.func187, Tryz.ntmps187
  go_wp2
  go_ret
  exact ⟨rfl, (by repeat' (first | with_reducible exact Below.refl _ _ | with_reducible assumption | with_reducible refine Below.drew ?_ | with_reducible refine Below.alloc ?_ ?_ _ | with_reducible refine Below.setCell ?_ ?_ _ | (simp; done) | (simp; omega) | omega))⟩

theorem parCode_form {md st : Int} {pv : Bool} {ns : List Int} (h : formB md st pv ns = false) : parCode md st pv ns = 1 := by unfold parCode; rw [if_pos h]
theorem parCode_set {st : Int} {pv : Bool} {ns : List Int} (h : formB 3 st pv ns = true) : parCode 3 st pv ns = if setB st = false then 3 else 0 := by
  unfold parCode
  rw [if_neg (by rw [h]; simp)]
  by_cases c : setB st = false
  · rw [if_pos ⟨rfl, c⟩, if_pos c]
  · rw [if_neg (fun h => c h.2), if_neg c]; rfl
theorem parCode_par {st : Int} {pv : Bool} {ns : List Int} (h : formB 2 st pv ns = true) : parCode 2 st pv ns = numsCode ns := by
  unfold parCode
  rw [if_neg (by rw [h]; simp)]
  rfl
theorem parCode_low {md st : Int} {pv : Bool} {ns : List Int} (h : formB md st pv ns = true) (h3 : ¬ md = 3) (h2 : ¬ md = 2) : parCode md st pv ns = 0 := by
  unfold parCode
  rw [if_neg (by rw [h]; simp), if_neg (fun c => h3 c.1), if_neg h2]

set_option maxHeartbeats 1000000 in
theorem implParserFault_calls (md st : Int) (pv : Bool) (ns : List Int) (v : Value) (w : World) (hn : ns.length ≤ maxLen) (h1 : ReadAt .i64 w v ns) :
    Calls Tryz.prog 125 #[.agg #[.int .i64 md, .int .i64 st, .bool pv, v]] w fun e w' => e = .returned (.int .i64 (parCode md st pv ns)) ∧ Below w.heap.size w w' := by
  have h1' := h1
  obtain ⟨a1, c1, rfl, _⟩ := h1'
  have hb0 : Below w.heap.size w (w.alloc (.cells #[.int .i64 md, .int .i64 st, .bool pv, .slice a1 ns.length c1] 68)) := (by repeat' (first | with_reducible exact Below.refl _ _ | with_reducible assumption | with_reducible refine Below.drew ?_ | with_reducible refine Below.alloc ?_ ?_ _ | with_reducible refine Below.setCell ?_ ?_ _ | (simp; done) | (simp; omega) | omega))
  cases hf : formB md st pv ns with
  | false =>
    rw [parCode_form hf]
    go_enter Tryz.func125, Tryz.ntmps125
    go_wp2_with fail
    refine (isParserForm_calls md st pv ns _ _ (h1.below hb0)).mono ?_
    rintro e w1 ⟨rfl, hb1⟩
    rw [hf]
    go_wp2
    go_ret
    exact ⟨rfl, hb0.trans (hb1.mono hb0.size)⟩
  | true =>
    by_cases m3 : md = 3
    · subst m3
      rw [parCode_set hf]
      generalize hres : (if setB st = false then (3 : Int) else 0) = res
      have HR := hide hres
      clear hres
      go_enter Tryz.func125, Tryz.ntmps125
      go_wp2_with fail
      refine (isParserForm_calls 3 st pv ns _ _ (h1.below hb0)).mono ?_
      rintro e w1 ⟨rfl, hb1⟩
      rw [hf]
      have A0 : w1.cell? ⟨w.heap.size, 0, none⟩ = some (.int .i64 3) := cellb hb1 (by simp)
      have A1 : w1.cell? ⟨w.heap.size, 1, none⟩ = some (.int .i64 st) := cellb hb1 (by simp)
      have hb2 := hb0.trans (hb1.mono hb0.size)
      clear hb1 hb0 hf
      go_wp2_with fail
      refine (isSet_calls st _).mono ?_
      rintro e w' ⟨rfl, hw⟩
      rw [hw]
      clear hw w'
      cases hs : setB st <;>
      · go_wp2
        go_ret
        exact ⟨by rw [← HR.out, hs]; rfl, hb2⟩
    by_cases m2 : md = 2
    · subst m2
      rw [parCode_par hf]
      go_enter Tryz.func125, Tryz.ntmps125
      go_wp2_with fail
      refine (isParserForm_calls 2 st pv ns _ _ (h1.below hb0)).mono ?_
      rintro e w1 ⟨rfl, hb1⟩
      rw [hf]
      have A0 : w1.cell? ⟨w.heap.size, 0, none⟩ = some (.int .i64 2) := cellb hb1 (by simp)
      have A3 : w1.cell? ⟨w.heap.size, 3, none⟩ = some (.slice a1 ns.length c1) := cellb hb1 (by simp)
      have hb2 := hb0.trans (hb1.mono hb0.size)
      clear hb1 hb0 hf
      go_wp2_with fail
      refine (paramsFault_calls ns _ _ hn (h1.below hb2)).mono ?_
      rintro e w' ⟨rfl, hw⟩
      rw [hw]
      clear hw w'
      go_wp2
      go_ret
      exact ⟨rfl, hb2⟩
    rw [parCode_low hf m3 m2]
    have e2 : (md == 2) = false := by simpa using m2
    have e3 : (md == 3) = false := by simpa using m3
    clear m2 m3
    go_enter Tryz.func125, Tryz.ntmps125
    go_wp2_with fail
    refine (isParserForm_calls md st pv ns _ _ (h1.below hb0)).mono ?_
    rintro e w1 ⟨rfl, hb1⟩
    rw [hf]
    have A0 : w1.cell? ⟨w.heap.size, 0, none⟩ = some (.int .i64 md) := cellb hb1 (by simp)
    have hb2 := hb0.trans (hb1.mono hb0.size)
    clear hb1 hb0 hf
    go_wp2
    go_ret
    exact ⟨rfl, hb2⟩

set_option maxHeartbeats 400000 in
theorem l4Params_calls (ns : List Int) (v : Value) (w : World) (hn : ns.length ≤ maxLen) (h1 : ReadAt .i64 w v ns) :
    Calls Tryz.prog 87 #[v] w fun e w' => e = .returned (.int .i64 (numsCode ns)) ∧ w' = w := by
  unfold maxLen at hn
  obtain ⟨a1, c1, rfl, h1⟩ := h1
  by_cases hm : 1 ≤ ns.length ∧ ns.length ≤ 6
  · obtain ⟨hm1, hm2⟩ := hm
    have hd1 : ¬ ((ns.length : Int) < 1) := by omega
    have hd2 : ¬ ((6 : Int) < (ns.length : Int)) := by omega
    have HN : Hid (numsCode ns = if numsB ns 0 = false then 3 else 0) := hide (by unfold numsCode; rw [if_neg (by omega), if_neg (by omega)])
    have H1 := hide h1
    clear h1
    generalize hres : numsB ns 0 = res
    have HR := hide hres
    rw [hres] at HN
    clear hres
    go_enter Tryz.func87, Tryz.ntmps87
    go_wp2
    go_loop [3] (fun i => ∃ k : Nat, k ≤ ns.length ∧ i = .int .i64 k ∧ Hid (numsB ns k = res)) (fun i => ns.length - (intOf i).toNat)
    case atStart => exact ⟨0, Nat.zero_le _, rfl, HR⟩
    case round =>
      obtain ⟨k, hkk, rfl, hr⟩ := hrel
      by_cases hlt : k < ns.length
      · have hpos : ns ≠ [] := by intro h; rw [h] at hlt; simp at hlt
        rcases H1.out with h1 | ⟨b1, o1, rfl, h1⟩
        · exact absurd h1 hpos
        have g1 := h1 k hlt
        have hltI : (k : Int) < (ns.length : Int) := by omega
        have HS := hide (numsB_step hlt)
        clear h1 hpos H1
        generalize ns.getD k 0 = x at *
        go_wp2_with fail
        refine (l1In_calls x 0 999 _).mono ?_
        rintro e w' ⟨rfl, hw⟩
        have hx : decide ((0 : Int) ≤ x ∧ x ≤ 999) = numB x := rfl
        rw [hw, hx]
        clear hw w' hx
        cases hp : numB x with
        | false =>
          have e1 : res = false := by rw [← hr.out, HS.out, hp]; rfl
          subst e1
          go_wp2
          go_ret
          exact ⟨by rw [HN.out]; rfl, rfl⟩
        | true =>
          have e1 : numsB ns (k + 1) = res := by rw [← hr.out, HS.out, hp]; rfl
          have E1 := hide e1
          clear e1
          go_wp2
          go_round
          case rel => exact ⟨k + 1, by omega, by go_num, E1⟩
          case measure => simp [intOf]; omega
      · have e1 : res = true := by rw [← hr.out]; exact numsB_end hlt
        subst e1
        have hge : ¬ ((k : Int) < (ns.length : Int)) := by omega
        go_wp2
        go_ret
        exact ⟨by rw [HN.out]; rfl, rfl⟩
  · have HN : Hid (numsCode ns = 2) := hide (numsCode_many (by omega))
    by_cases hd1 : (ns.length : Int) < 1
    · go_enter Tryz.func87, Tryz.ntmps87
      go_wp2
      go_ret
      exact ⟨by rw [HN.out]; rfl, rfl⟩
    · have hd2 : (6 : Int) < (ns.length : Int) := by omega
      go_enter Tryz.func87, Tryz.ntmps87
      go_wp2
      go_ret
      exact ⟨by rw [HN.out]; rfl, rfl⟩

set_option maxHeartbeats 2000000 in
theorem l4Fault_calls (md st : Int) (pv : Bool) (ns : List Int) (v : Value) (b : Nat) (w : World) (hn : ns.length ≤ maxLen) (h1 : ReadAt .i64 w v ns)
    (k0 : w.cell? ⟨b, 0, none⟩ = some (.int .i64 md)) (k1 : w.cell? ⟨b, 1, none⟩ = some (.int .i64 st)) (k2 : w.cell? ⟨b, 2, none⟩ = some (.bool pv)) (k3 : w.cell? ⟨b, 3, none⟩ = some v) :
    Calls Tryz.prog 120 #[.pointer (some ⟨b, 0, none⟩)] w fun e w' => e = .returned (.int .i64 (parCode md st pv ns)) ∧ w' = w := by
  have h1' := h1
  obtain ⟨a1, c1, rfl, _⟩ := h1'
  generalize hres : parCode md st pv ns = res
  have HR := hide hres
  clear hres
  have hin : md = 0 ∨ md = 1 ∨ md = 2 ∨ md = 3 ∨ (¬ md = 0 ∧ ¬ md = 1 ∧ ¬ md = 2 ∧ ¬ md = 3) := by omega
  by_cases m3 : md = 3
  · clear hin
    subst m3
    go_enter Tryz.func120, Tryz.ntmps120
    go_wp2_with fail
    refine (l1In_calls 3 0 3 _).mono ?_
    rintro e w' ⟨rfl, hw⟩
    rw [hw]
    clear hw w'
    cases pv with
    | true =>
      have e1 : res = 1 := by rw [← HR.out]; exact parCode_form rfl
      subst e1
      go_wp2
      go_ret
      exact ⟨rfl, rfl⟩
    | false =>
      by_cases hl : 0 < ns.length
      · have e1 : res = 1 := by rw [← HR.out]; exact parCode_form (by rw [formB_set]; simp; exact List.length_pos_iff.1 hl)
        have hlI : (0 : Int) < (ns.length : Int) := by omega
        subst e1
        go_wp2
        go_ret
        exact ⟨rfl, rfl⟩
      · have e1 : res = if setB st = false then 3 else 0 := by rw [← HR.out]; exact parCode_set (by rw [formB_set]; simp; exact List.length_eq_zero_iff.1 (by omega))
        have hlI : ¬ (0 : Int) < (ns.length : Int) := by omega
        have E1 := hide e1
        clear e1 HR
        go_wp2_with fail
        refine (l1In_calls st 1 2 _).mono ?_
        rintro e w' ⟨rfl, hw⟩
        have hx : decide ((1 : Int) ≤ st ∧ st ≤ 2) = setB st := rfl
        rw [hw, hx]
        clear hw w' hx
        cases hs : setB st <;>
        · go_wp2
          go_ret
          exact ⟨by rw [E1.out, hs]; rfl, rfl⟩
  by_cases m2 : md = 2
  · clear hin m3
    subst m2
    by_cases s0 : st = 0
    · have e1 : res = numsCode ns := by rw [← HR.out]; exact parCode_par (by rw [formB_par]; simpa using s0)
      subst e1
      subst s0
      go_enter Tryz.func120, Tryz.ntmps120
      go_wp2_with fail
      refine (l1In_calls 2 0 3 _).mono ?_
      rintro e w' ⟨rfl, hw⟩
      rw [hw]
      clear hw w'
      go_wp2_with fail
      refine (l4Params_calls ns _ _ hn h1).mono ?_
      rintro e w' ⟨rfl, hw⟩
      rw [hw]
      clear hw w'
      go_wp2
      go_ret
      exact ⟨rfl, rfl⟩
    · have e1 : res = 1 := by rw [← HR.out]; exact parCode_form (by rw [formB_par]; simpa using s0)
      have s0' : (st != 0) = true := by simpa using s0
      subst e1
      go_enter Tryz.func120, Tryz.ntmps120
      go_wp2_with fail
      refine (l1In_calls 2 0 3 _).mono ?_
      rintro e w' ⟨rfl, hw⟩
      rw [hw]
      clear hw w'
      go_wp2
      go_ret
      exact ⟨rfl, rfl⟩
  by_cases m1 : md = 0 ∨ md = 1
  · have hf := formB_low (st := st) (pv := pv) (ns := ns) m1
    have hd : decide ((0 : Int) ≤ md ∧ md ≤ 3) = true := by simp; omega
    have e2 : (md != 2) = true := by simpa using m2
    have e3 : (md != 3) = true := by simpa using m3
    have e2' : (md == 2) = false := by simpa using m2
    have e3' : (md == 3) = false := by simpa using m3
    have HF := hide hf
    clear m1 hin hf
    by_cases s0 : st = 0
    · subst s0
      cases pv with
      | true =>
        have e1 : res = 1 := by rw [← HR.out]; exact parCode_form (by rw [HF.out]; rfl)
        subst e1
        clear m2 m3 e2' e3' HF HR
        go_enter Tryz.func120, Tryz.ntmps120
        go_wp2_with fail
        refine (l1In_calls md 0 3 _).mono ?_
        rintro e w' ⟨rfl, hw⟩
        rw [hw, hd]
        clear hw w'
        go_wp2
        go_ret
        exact ⟨rfl, rfl⟩
      | false =>
        by_cases hl : 0 < ns.length
        · have e1 : res = 1 := by rw [← HR.out]; exact parCode_form (by rw [HF.out]; simp; exact List.length_pos_iff.1 hl)
          have hlI : (0 : Int) < (ns.length : Int) := by omega
          subst e1
          clear m2 m3 e2' e3' HF HR
          go_enter Tryz.func120, Tryz.ntmps120
          go_wp2_with fail
          refine (l1In_calls md 0 3 _).mono ?_
          rintro e w' ⟨rfl, hw⟩
          rw [hw, hd]
          clear hw w'
          go_wp2
          go_ret
          exact ⟨rfl, rfl⟩
        · have e1 : res = 0 := by rw [← HR.out]; exact parCode_low (by rw [HF.out]; simp; exact List.length_eq_zero_iff.1 (by omega)) m3 m2
          have hlI : ¬ (0 : Int) < (ns.length : Int) := by omega
          subst e1
          clear m2 m3 HF HR
          go_enter Tryz.func120, Tryz.ntmps120
          go_wp2_with fail
          refine (l1In_calls md 0 3 _).mono ?_
          rintro e w' ⟨rfl, hw⟩
          rw [hw, hd]
          clear hw w'
          go_wp2
          go_ret
          exact ⟨rfl, rfl⟩
    · have e1 : res = 1 := by rw [← HR.out]; exact parCode_form (by rw [HF.out]; simp [s0])
      have s0' : (st != 0) = true := by simpa using s0
      subst e1
      clear m2 m3 e2' e3' HF HR
      go_enter Tryz.func120, Tryz.ntmps120
      go_wp2_with fail
      refine (l1In_calls md 0 3 _).mono ?_
      rintro e w' ⟨rfl, hw⟩
      rw [hw, hd]
      clear hw w'
      go_wp2
      go_ret
      exact ⟨rfl, rfl⟩
  · have hd : decide ((0 : Int) ≤ md ∧ md ≤ 3) = false := by simp; omega
    have e1 : res = 1 := by rw [← HR.out]; exact parCode_form (formB_not (by omega) (by omega) m3 m2)
    subst e1
    clear m1 m2 m3 hin HR
    go_enter Tryz.func120, Tryz.ntmps120
    go_wp2_with fail
    refine (l1In_calls md 0 3 _).mono ?_
    rintro e w' ⟨rfl, hw⟩
    rw [hw, hd]
    clear hw w'
    go_wp2
    go_ret
    exact ⟨rfl, rfl⟩


end Go.Proofs.YtdekegjplegkeaaGreat
