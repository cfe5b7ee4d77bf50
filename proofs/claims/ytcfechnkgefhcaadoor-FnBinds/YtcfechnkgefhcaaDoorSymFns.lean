/-
  Syms: impl.isAccent, isSym (the table of few), SymFault; spec.l8Value, l8Sym, SymFault; laws.toSym; keys and mods: impl.isBound, spec.l8Key, impl.bindFault.
-/
import Derived.Test.YtcfechnkgefhcaaDoorRows
import Derived.Test.YtcfechnkgefhcaaDoorBindMem
import Derived.Test.YtcfechnkgefhcaaDoorRangeFns
import Derived.Test.YtcfechnkgefhcaaDoorBlk
import Derived.WalkKit
import Derived.ProofKit
import Derived.OpenShut
import Derived.Below
import Derived.OwnWalk
import Derived.WalkSpells
import Derived.Deep.QuietTactic
import Derived.BigQuiet
import Derived.Laws.StructEq
import Derived.Deep.RegionHeld
import Derived.Deep.RegionHeld3
namespace Go.Proofs.YtcfechnkgefhcaaDoor
set_option maxRecDepth 20000
open Go.ChangeShapes Go.WideShapes Go.ChangeAt Go.RowKit
set_option linter.unusedVariables false
set_option linter.unusedSimpArgs false
set_option maxRecDepth 20000

theorem ret_i64 {a b : Int} (h : a = b) : Ending.returned (.int .i64 a) = .returned (.int .i64 b) := by rw [h]
/-- Whether that value is one of that kind (0 to 6). -/
def symB (kd vl : Int) : Bool :=
  if kd = 1 then chB vl else if kd = 2 then decide (0 ≤ vl ∧ vl ≤ 3) else if kd = 5 then decide (1 ≤ vl ∧ vl ≤ 3) else if kd = 6 then decide (0 ≤ vl ∧ vl ≤ 2)
  else if kd = 3 then decide (vl = 1 ∨ vl = 2 ∨ vl = 4) else decide (vl = 0)
def symCode (kd vl : Int) : Int := if 0 ≤ kd ∧ kd ≤ 6 then if symB kd vl = true then 0 else 3 else 1
def keyB (k m : Int) : Bool := decide (1 ≤ k ∧ k ≤ 40) && decide (0 ≤ m ∧ m ≤ 7)
def bindCode (p : Bd) : Int := if keyB p.1 p.2.1 = true then symCode p.2.2.1 p.2.2.2 else 3
/-- The few syms of kinds that have few. -/
def fewL : List (Int × Int) := [(0, 0), (3, 1), (3, 2), (3, 4), (4, 0)]
def fewB (kd vl : Int) (k : Nat) : Bool := (fewL.drop k).any (fun p => decide (p.1 = kd) && decide (p.2 = vl))
theorem fewB_0 {kd vl : Int} (h : kd = 0 ∨ kd = 3 ∨ kd = 4) : fewB kd vl 0 = symB kd vl := by
  unfold fewB fewL symB
  rcases h with rfl | rfl | rfl
  all_goals (simp only [List.drop_zero, List.any_cons, List.any_nil]; rw [Bool.eq_iff_iff]; simp; try omega)
def fewCells : List Int := [0, 0, 3, 1, 3, 2, 3, 4, 4, 0]
/-- The program's table stands. -/
def FewAt (w : World) : Prop := ∀ i : Nat, i < 10 → w.cell? ⟨1, i, none⟩ = some (.int .i64 (fewCells.getD i 0))
theorem FewAt.below {w w' : World} (h : FewAt w) (hb : Below w.heap.size w w') : FewAt w' := fun i hi => cellb hb (h i hi)

theorem sym_fields : (Tryd.prog.fieldsOf 26).toList.map (fun f => (f.type, f.offset, decide (f.name = "_"))) = [(2, 0, false), (2, 1, false)] := by kernel_rfl
theorem eql_sym (p1 p2 q1 q2 : Int) (w : World) : (binOp .eql 26 (.agg #[.int .i64 p1, .int .i64 p2]) (.agg #[.int .i64 q1, .int .i64 q2])).run Tryd.prog w = .ok (.bool (p1 == q1 && p2 == q2)) w := by
  rw [run_eql_struct]
  rw [show (10000 : Nat) = 9999 + 1 from rfl, run_equalIn_struct w 9999 26 _ _ (by kernel_rfl) (by kernel_rfl)]
  generalize hf : (Tryd.prog.fieldsOf 26).toList = fs
  have h := sym_fields
  rw [hf] at h
  match fs, h with
  | [f0, f1], h =>
    simp at h
    obtain ⟨⟨t0, o0, n0⟩, t1, o1, n1⟩ := h
    have hu := Tryd.underlying2
    cases h1 : p1 == q1 <;> cases h2 : p2 == q2 <;> simp [Op.eqFields, t0, o0, n0, t1, o1, n1, go_sem, run_equalIn_int (P := Tryd.prog) w _ 2 .i64 .i64 _ _ hu, h1, h2]
theorem sym_guard : Tryd.prog.eqGuardType Tryd.prog.depth 26 = false := by kernel_rfl
theorem guard_sym (op : BinOp) (x y : Operand) (xs ys : Array Value) (w : World) : (eqGuard op 26 x y (.agg xs) (.agg ys)).run Tryd.prog w = .ok () w := run_eqGuard_agg w op 26 x y xs ys sym_guard

set_option maxHeartbeats 400000 in
theorem isAccent_calls (c : Int) (w : World) :
    Calls Tryd.prog 57 #[.int .i64 c] w fun e w' => e = .returned (.bool (decide (1 ≤ c ∧ c ≤ 3))) ∧ w' = w := by
  go_enter Tryd.func57, Tryd.ntmps57
  go_wp2_with (go_at_call 54; refine (isFromTo_calls c 1 3 _).mono ?_; rintro e w' ⟨rfl, hw⟩; rw [hw]; clear hw w')
  go_ret
  exact ⟨ret_bool (by simp), rfl⟩

theorem fewB_end (kd vl : Int) : fewB kd vl 5 = false := rfl
theorem fewB_step (kd vl : Int) (k : Nat) (a b : Int) (h : fewL[k]? = some (a, b)) : fewB kd vl k = ((kd == a && vl == b) || fewB kd vl (k + 1)) := by
  unfold fewB
  have hk : k < fewL.length := by
    rcases Nat.lt_or_ge k fewL.length with h' | h'
    · exact h'
    · rw [List.getElem?_eq_none h'] at h; cases h
  rw [List.drop_eq_getElem_cons hk, List.any_cons]
  have e : fewL[k] = (a, b) := by rw [List.getElem?_eq_getElem hk] at h; exact Option.some.inj h
  rw [e]
  congr 1
  rw [Bool.eq_iff_iff]; simp; omega
theorem few_at0 (w : World) : (Instr.index 109 (.agg #[.int .i64 0, .int .i64 0, .int .i64 3, .int .i64 1, .int .i64 3, .int .i64 2, .int .i64 3, .int .i64 4, .int .i64 4, .int .i64 0]) (.int .i64 0)).run Tryd.prog w = .ok (.agg #[.int .i64 0, .int .i64 0]) w := by kernel_rfl
theorem few_at1 (w : World) : (Instr.index 109 (.agg #[.int .i64 0, .int .i64 0, .int .i64 3, .int .i64 1, .int .i64 3, .int .i64 2, .int .i64 3, .int .i64 4, .int .i64 4, .int .i64 0]) (.int .i64 1)).run Tryd.prog w = .ok (.agg #[.int .i64 3, .int .i64 1]) w := by kernel_rfl
theorem few_at2 (w : World) : (Instr.index 109 (.agg #[.int .i64 0, .int .i64 0, .int .i64 3, .int .i64 1, .int .i64 3, .int .i64 2, .int .i64 3, .int .i64 4, .int .i64 4, .int .i64 0]) (.int .i64 2)).run Tryd.prog w = .ok (.agg #[.int .i64 3, .int .i64 2]) w := by kernel_rfl
theorem few_at3 (w : World) : (Instr.index 109 (.agg #[.int .i64 0, .int .i64 0, .int .i64 3, .int .i64 1, .int .i64 3, .int .i64 2, .int .i64 3, .int .i64 4, .int .i64 4, .int .i64 0]) (.int .i64 3)).run Tryd.prog w = .ok (.agg #[.int .i64 3, .int .i64 4]) w := by kernel_rfl
theorem few_at4 (w : World) : (Instr.index 109 (.agg #[.int .i64 0, .int .i64 0, .int .i64 3, .int .i64 1, .int .i64 3, .int .i64 2, .int .i64 3, .int .i64 4, .int .i64 4, .int .i64 0]) (.int .i64 4)).run Tryd.prog w = .ok (.agg #[.int .i64 4, .int .i64 0]) w := by kernel_rfl
set_option maxHeartbeats 1000000 in
theorem isSym_few (kd vl : Int) (w : World) (h : kd = 0 ∨ kd = 3 ∨ kd = 4) (hT : FewAt w) :
    Calls Tryd.prog 55 #[.agg #[.int .i64 kd, .int .i64 vl]] w fun e w' => e = .returned (.bool (symB kd vl)) ∧ Below w.heap.size w w' := by
  rw [← fewB_0 h]
  generalize hres : fewB kd vl 0 = res
  have HR := hide hres
  clear hres
  have n1 : (kd == 1) = false := by simp; omega
  have n2 : (kd == 2) = false := by simp; omega
  have n5 : (kd == 5) = false := by simp; omega
  have n6 : (kd == 6) = false := by simp; omega
  have hb0 : Below w.heap.size w (w.alloc (.cells #[.int .i64 kd, .int .i64 vl] 26)) := (by repeat' (first | with_reducible exact Below.refl _ _ | with_reducible assumption | with_reducible refine Below.drew ?_ | with_reducible refine Below.alloc ?_ ?_ _ | with_reducible refine Below.setCell ?_ ?_ _ | (simp; done) | (simp; omega) | omega))
  have c0 : (w.alloc (.cells #[.int .i64 kd, .int .i64 vl] 26)).cell? ⟨w.heap.size, 0, none⟩ = some (.int .i64 kd) := by simp
  have c1 : (w.alloc (.cells #[.int .i64 kd, .int .i64 vl] 26)).cell? ⟨w.heap.size, 1, none⟩ = some (.int .i64 vl) := by simp
  have hT1 := hT.below hb0
  have t0 := hT1 0 (by omega)
  have t1 := hT1 1 (by omega)
  have t2 := hT1 2 (by omega)
  have t3 := hT1 3 (by omega)
  have t4 := hT1 4 (by omega)
  have t5 := hT1 5 (by omega)
  have t6 := hT1 6 (by omega)
  have t7 := hT1 7 (by omega)
  have t8 := hT1 8 (by omega)
  have t9 := hT1 9 (by omega)
  simp only [fewCells, List.getD_cons_zero, List.getD_cons_succ] at t0 t1 t2 t3 t4 t5 t6 t7 t8 t9
  clear hT hT1 h
  go_enter Tryd.func55, Tryd.ntmps55
  go_wp2_with fail
  generalize (w.alloc (.cells #[.int .i64 kd, .int .i64 vl] 26)) = W at *
  clear t0 t1 t2 t3 t4 t5 t6 t7 t8 t9 n1 n2 n5 n6
  have heq := eql_sym
  have hgu := guard_sym
  go_loopw [28] (fun i wr => ∃ k : Nat, k ≤ 5 ∧ i = .int .i64 k ∧ Hid (fewB kd vl k = res) ∧ Below w.heap.size w wr ∧ wr.cell? ⟨w.heap.size, 0, none⟩ = some (.int .i64 kd) ∧ wr.cell? ⟨w.heap.size, 1, none⟩ = some (.int .i64 vl)) (fun i _ => 5 - (intOf i).toNat)
  case atStart => exact ⟨0, Nat.zero_le _, rfl, HR, hb0, c0, c1⟩
  case round =>
    obtain ⟨k, hkk, rfl, hr, hb, c0', c1'⟩ := hrel
    clear hb0 c0 c1
    by_cases h5 : k = 5
    · subst h5
      have e1 : res = false := by rw [← hr.out]; exact fewB_end kd vl
      subst e1
      go_wp2
      go_ret
      exact ⟨rfl, hb⟩
    · have hk : k = 0 ∨ k = 1 ∨ k = 2 ∨ k = 3 ∨ k = 4 := by omega
      clear hkk h5
      rcases hk with rfl | rfl | rfl | rfl | rfl
      · have hix := few_at0
        have q1 : Below wr.heap.size wr (wr.alloc (.cells #[.int .i64 0, .int .i64 0] 26)) := (by repeat' (first | with_reducible exact Below.refl _ _ | with_reducible assumption | with_reducible refine Below.drew ?_ | with_reducible refine Below.alloc ?_ ?_ _ | with_reducible refine Below.setCell ?_ ?_ _ | (simp; done) | (simp; omega) | omega))
        have q2 : Below w.heap.size w (wr.alloc (.cells #[.int .i64 0, .int .i64 0] 26)) := hb.trans (q1.mono hb.size)
        have d0 := cellb q1 c0'
        have d1 := cellb q1 c1'
        clear q1
        have HS := hide (fewB_step kd vl 0 0 0 rfl)
        cases hd : (kd == 0 && vl == 0) with
        | true =>
          have e1 : res = true := by rw [← hr.out, HS.out, hd]; rfl
          subst e1
          go_wp2
          go_ret
          exact ⟨rfl, q2⟩
        | false =>
          have E1 : Hid (fewB kd vl 1 = res) := by
            show _ = _
            rw [← hr.out, HS.out, hd, Bool.false_or]
          clear HS hr
          go_wp2
          go_roundw
          case rel =>
            exact ⟨1, by omega, rfl, E1, q2, d0, d1⟩
          case measure => simp [intOf]
      · have hix := few_at1
        have q1 : Below wr.heap.size wr (wr.alloc (.cells #[.int .i64 3, .int .i64 1] 26)) := (by repeat' (first | with_reducible exact Below.refl _ _ | with_reducible assumption | with_reducible refine Below.drew ?_ | with_reducible refine Below.alloc ?_ ?_ _ | with_reducible refine Below.setCell ?_ ?_ _ | (simp; done) | (simp; omega) | omega))
        have q2 : Below w.heap.size w (wr.alloc (.cells #[.int .i64 3, .int .i64 1] 26)) := hb.trans (q1.mono hb.size)
        have d0 := cellb q1 c0'
        have d1 := cellb q1 c1'
        clear q1
        have HS := hide (fewB_step kd vl 1 3 1 rfl)
        cases hd : (kd == 3 && vl == 1) with
        | true =>
          have e1 : res = true := by rw [← hr.out, HS.out, hd]; rfl
          subst e1
          go_wp2
          go_ret
          exact ⟨rfl, q2⟩
        | false =>
          have E1 : Hid (fewB kd vl 2 = res) := by
            show _ = _
            rw [← hr.out, HS.out, hd, Bool.false_or]
          clear HS hr
          go_wp2
          go_roundw
          case rel =>
            exact ⟨2, by omega, rfl, E1, q2, d0, d1⟩
          case measure => simp [intOf]
      · have hix := few_at2
        have q1 : Below wr.heap.size wr (wr.alloc (.cells #[.int .i64 3, .int .i64 2] 26)) := (by repeat' (first | with_reducible exact Below.refl _ _ | with_reducible assumption | with_reducible refine Below.drew ?_ | with_reducible refine Below.alloc ?_ ?_ _ | with_reducible refine Below.setCell ?_ ?_ _ | (simp; done) | (simp; omega) | omega))
        have q2 : Below w.heap.size w (wr.alloc (.cells #[.int .i64 3, .int .i64 2] 26)) := hb.trans (q1.mono hb.size)
        have d0 := cellb q1 c0'
        have d1 := cellb q1 c1'
        clear q1
        have HS := hide (fewB_step kd vl 2 3 2 rfl)
        cases hd : (kd == 3 && vl == 2) with
        | true =>
          have e1 : res = true := by rw [← hr.out, HS.out, hd]; rfl
          subst e1
          go_wp2
          go_ret
          exact ⟨rfl, q2⟩
        | false =>
          have E1 : Hid (fewB kd vl 3 = res) := by
            show _ = _
            rw [← hr.out, HS.out, hd, Bool.false_or]
          clear HS hr
          go_wp2
          go_roundw
          case rel =>
            exact ⟨3, by omega, rfl, E1, q2, d0, d1⟩
          case measure => simp [intOf]
      · have hix := few_at3
        have q1 : Below wr.heap.size wr (wr.alloc (.cells #[.int .i64 3, .int .i64 4] 26)) := (by repeat' (first | with_reducible exact Below.refl _ _ | with_reducible assumption | with_reducible refine Below.drew ?_ | with_reducible refine Below.alloc ?_ ?_ _ | with_reducible refine Below.setCell ?_ ?_ _ | (simp; done) | (simp; omega) | omega))
        have q2 : Below w.heap.size w (wr.alloc (.cells #[.int .i64 3, .int .i64 4] 26)) := hb.trans (q1.mono hb.size)
        have d0 := cellb q1 c0'
        have d1 := cellb q1 c1'
        clear q1
        have HS := hide (fewB_step kd vl 3 3 4 rfl)
        cases hd : (kd == 3 && vl == 4) with
        | true =>
          have e1 : res = true := by rw [← hr.out, HS.out, hd]; rfl
          subst e1
          go_wp2
          go_ret
          exact ⟨rfl, q2⟩
        | false =>
          have E1 : Hid (fewB kd vl 4 = res) := by
            show _ = _
            rw [← hr.out, HS.out, hd, Bool.false_or]
          clear HS hr
          go_wp2
          go_roundw
          case rel =>
            exact ⟨4, by omega, rfl, E1, q2, d0, d1⟩
          case measure => simp [intOf]
      · have hix := few_at4
        have q1 : Below wr.heap.size wr (wr.alloc (.cells #[.int .i64 4, .int .i64 0] 26)) := (by repeat' (first | with_reducible exact Below.refl _ _ | with_reducible assumption | with_reducible refine Below.drew ?_ | with_reducible refine Below.alloc ?_ ?_ _ | with_reducible refine Below.setCell ?_ ?_ _ | (simp; done) | (simp; omega) | omega))
        have q2 : Below w.heap.size w (wr.alloc (.cells #[.int .i64 4, .int .i64 0] 26)) := hb.trans (q1.mono hb.size)
        have d0 := cellb q1 c0'
        have d1 := cellb q1 c1'
        clear q1
        have HS := hide (fewB_step kd vl 4 4 0 rfl)
        cases hd : (kd == 4 && vl == 0) with
        | true =>
          have e1 : res = true := by rw [← hr.out, HS.out, hd]; rfl
          subst e1
          go_wp2
          go_ret
          exact ⟨rfl, q2⟩
        | false =>
          have E1 : Hid (fewB kd vl 5 = res) := by
            show _ = _
            rw [← hr.out, HS.out, hd, Bool.false_or]
          clear HS hr
          go_wp2
          go_roundw
          case rel =>
            exact ⟨5, by omega, rfl, E1, q2, d0, d1⟩
          case measure => simp [intOf]

set_option maxHeartbeats 1000000 in
theorem isSym_calls (kd vl : Int) (w : World) (h : 0 ≤ kd ∧ kd ≤ 6) (hT : FewAt w) :
    Calls Tryd.prog 55 #[.agg #[.int .i64 kd, .int .i64 vl]] w fun e w' => e = .returned (.bool (symB kd vl)) ∧ Below w.heap.size w w' := by
  by_cases h3 : kd = 0 ∨ kd = 3 ∨ kd = 4
  · exact isSym_few kd vl w h3 hT
  clear hT
  have h4 : kd = 1 ∨ kd = 2 ∨ kd = 5 ∨ kd = 6 := by omega
  clear h3 h
  rcases h4 with rfl | rfl | rfl | rfl
  · go_enter Tryd.func55, Tryd.ntmps55
    go_wp2_with (first | (go_at_call 58; refine (isChar_calls vl _).mono ?_; rintro e w' ⟨rfl, hw⟩; rw [hw]; clear hw w') | (go_at_call 54; refine (isFromTo_calls vl 0 3 _).mono ?_; rintro e w' ⟨rfl, hw⟩; rw [hw]; clear hw w') | (go_at_call 57; refine (isAccent_calls vl _).mono ?_; rintro e w' ⟨rfl, hw⟩; rw [hw]; clear hw w'))
    go_ret
    exact ⟨ret_bool (by simp [symB]), (by repeat' (first | with_reducible exact Below.refl _ _ | with_reducible assumption | with_reducible refine Below.drew ?_ | with_reducible refine Below.alloc ?_ ?_ _ | with_reducible refine Below.setCell ?_ ?_ _ | (simp; done) | (simp; omega) | omega))⟩
  · go_enter Tryd.func55, Tryd.ntmps55
    go_wp2_with (first | (go_at_call 58; refine (isChar_calls vl _).mono ?_; rintro e w' ⟨rfl, hw⟩; rw [hw]; clear hw w') | (go_at_call 54; refine (isFromTo_calls vl 0 3 _).mono ?_; rintro e w' ⟨rfl, hw⟩; rw [hw]; clear hw w') | (go_at_call 57; refine (isAccent_calls vl _).mono ?_; rintro e w' ⟨rfl, hw⟩; rw [hw]; clear hw w'))
    go_ret
    exact ⟨ret_bool (by simp [symB]), (by repeat' (first | with_reducible exact Below.refl _ _ | with_reducible assumption | with_reducible refine Below.drew ?_ | with_reducible refine Below.alloc ?_ ?_ _ | with_reducible refine Below.setCell ?_ ?_ _ | (simp; done) | (simp; omega) | omega))⟩
  · go_enter Tryd.func55, Tryd.ntmps55
    go_wp2_with (first | (go_at_call 58; refine (isChar_calls vl _).mono ?_; rintro e w' ⟨rfl, hw⟩; rw [hw]; clear hw w') | (go_at_call 54; refine (isFromTo_calls vl 0 3 _).mono ?_; rintro e w' ⟨rfl, hw⟩; rw [hw]; clear hw w') | (go_at_call 57; refine (isAccent_calls vl _).mono ?_; rintro e w' ⟨rfl, hw⟩; rw [hw]; clear hw w'))
    go_ret
    exact ⟨ret_bool (by simp [symB]), (by repeat' (first | with_reducible exact Below.refl _ _ | with_reducible assumption | with_reducible refine Below.drew ?_ | with_reducible refine Below.alloc ?_ ?_ _ | with_reducible refine Below.setCell ?_ ?_ _ | (simp; done) | (simp; omega) | omega))⟩
  · go_enter Tryd.func55, Tryd.ntmps55
    go_wp2_with (first | (go_at_call 58; refine (isChar_calls vl _).mono ?_; rintro e w' ⟨rfl, hw⟩; rw [hw]; clear hw w') | (go_at_call 54; refine (isFromTo_calls vl 0 2 _).mono ?_; rintro e w' ⟨rfl, hw⟩; rw [hw]; clear hw w') | (go_at_call 57; refine (isAccent_calls vl _).mono ?_; rintro e w' ⟨rfl, hw⟩; rw [hw]; clear hw w'))
    go_ret
    exact ⟨ret_bool (by simp [symB]), (by repeat' (first | with_reducible exact Below.refl _ _ | with_reducible assumption | with_reducible refine Below.drew ?_ | with_reducible refine Below.alloc ?_ ?_ _ | with_reducible refine Below.setCell ?_ ?_ _ | (simp; done) | (simp; omega) | omega))⟩

set_option maxHeartbeats 1000000 in
theorem implSymFault_calls (kd vl : Int) (w : World) (hT : FewAt w) :
    Calls Tryd.prog 18 #[.agg #[.int .i64 kd, .int .i64 vl]] w fun e w' => e = .returned (.int .i64 (symCode kd vl)) ∧ Below w.heap.size w w' := by
  have hb0 : Below w.heap.size w (w.alloc (.cells #[.int .i64 kd, .int .i64 vl] 26)) := (by repeat' (first | with_reducible exact Below.refl _ _ | with_reducible assumption | with_reducible refine Below.drew ?_ | with_reducible refine Below.alloc ?_ ?_ _ | with_reducible refine Below.setCell ?_ ?_ _ | (simp; done) | (simp; omega) | omega))
  have hT1 := hide (hT.below hb0)
  clear hT
  by_cases h : 0 ≤ kd ∧ kd ≤ 6
  · cases hs : symB kd vl with
    | false =>
      have e1 : symCode kd vl = 3 := by unfold symCode; rw [if_pos h, hs]; rfl
      rw [e1]
      have hd : decide (0 ≤ kd ∧ kd ≤ 6) = true := decide_eq_true h
      have H := hide h
      clear e1 h
      go_enter Tryd.func18, Tryd.ntmps18
      go_wp2_with fail
      refine (isFromTo_calls kd 0 6 _).mono ?_
      rintro e w' ⟨rfl, hw⟩
      rw [hw, hd]
      clear hw w'
      go_wp2_with fail
      refine (isSym_calls kd vl _ H.out hT1.out).mono ?_
      rintro e w' ⟨rfl, hb⟩
      rw [hs]
      have hb2 := hb0.trans (hb.mono hb0.size)
      clear hb
      go_wp2
      go_ret
      exact ⟨rfl, hb2⟩
    | true =>
      have e1 : symCode kd vl = 0 := by unfold symCode; rw [if_pos h, hs]; rfl
      rw [e1]
      have hd : decide (0 ≤ kd ∧ kd ≤ 6) = true := decide_eq_true h
      have H := hide h
      clear e1 h
      go_enter Tryd.func18, Tryd.ntmps18
      go_wp2_with fail
      refine (isFromTo_calls kd 0 6 _).mono ?_
      rintro e w' ⟨rfl, hw⟩
      rw [hw, hd]
      clear hw w'
      go_wp2_with fail
      refine (isSym_calls kd vl _ H.out hT1.out).mono ?_
      rintro e w' ⟨rfl, hb⟩
      rw [hs]
      have hb2 := hb0.trans (hb.mono hb0.size)
      clear hb
      go_wp2
      go_ret
      exact ⟨rfl, hb2⟩
  · have e1 : symCode kd vl = 1 := by unfold symCode; rw [if_neg h]
    rw [e1]
    have hd : decide (0 ≤ kd ∧ kd ≤ 6) = false := decide_eq_false h
    clear e1 h hT1
    go_enter Tryd.func18, Tryd.ntmps18
    go_wp2_with fail
    refine (isFromTo_calls kd 0 6 _).mono ?_
    rintro e w' ⟨rfl, hw⟩
    rw [hw, hd]
    clear hw w'
    go_wp2
    go_ret
    exact ⟨rfl, hb0⟩
set_option maxHeartbeats 1000000 in
theorem l8Value_calls (kd vl : Int) (b o : Nat) (w : World) (h : 0 ≤ kd ∧ kd ≤ 6) (c0 : w.cell? ⟨b, o, none⟩ = some (.int .i64 kd)) (c1 : w.cell? ⟨b, o + 1, none⟩ = some (.int .i64 vl)) :
    Calls Tryd.prog 72 #[.pointer (some ⟨b, o, none⟩)] w fun e w' => e = .returned (.bool (symB kd vl)) ∧ w' = w := by
  have h4 : kd = 0 ∨ kd = 1 ∨ kd = 2 ∨ kd = 3 ∨ kd = 4 ∨ kd = 5 ∨ kd = 6 := by omega
  clear h
  rcases h4 with rfl | rfl | rfl | rfl | rfl | rfl | rfl
  · go_enter Tryd.func72, Tryd.ntmps72
    go_wp2_with (first | (go_at_call 60; refine (l1Char_calls vl _).mono ?_; rintro e w' ⟨rfl, hw⟩; rw [hw]; clear hw w') | (go_at_call 59; refine (l1In_calls vl 0 0 _).mono ?_; rintro e w' ⟨rfl, hw⟩; rw [hw]; clear hw w'))
    go_ret
    exact ⟨ret_bool (by rw [Bool.eq_iff_iff]; simp [symB]), rfl⟩
  · go_enter Tryd.func72, Tryd.ntmps72
    go_wp2_with (first | (go_at_call 60; refine (l1Char_calls vl _).mono ?_; rintro e w' ⟨rfl, hw⟩; rw [hw]; clear hw w') | (go_at_call 59; refine (l1In_calls vl 0 0 _).mono ?_; rintro e w' ⟨rfl, hw⟩; rw [hw]; clear hw w'))
    go_ret
    exact ⟨ret_bool (by rw [Bool.eq_iff_iff]; simp [symB]), rfl⟩
  · go_enter Tryd.func72, Tryd.ntmps72
    go_wp2_with (first | (go_at_call 60; refine (l1Char_calls vl _).mono ?_; rintro e w' ⟨rfl, hw⟩; rw [hw]; clear hw w') | (go_at_call 59; refine (l1In_calls vl 0 3 _).mono ?_; rintro e w' ⟨rfl, hw⟩; rw [hw]; clear hw w'))
    go_ret
    exact ⟨ret_bool (by rw [Bool.eq_iff_iff]; simp [symB]), rfl⟩
  · go_enter Tryd.func72, Tryd.ntmps72
    by_cases v1 : vl = 1
    · subst v1
      go_wp2
      go_ret
      exact ⟨rfl, rfl⟩
    · by_cases v2 : vl = 2
      · subst v2
        go_wp2
        go_ret
        exact ⟨rfl, rfl⟩
      · have n1 : (vl == 1) = false := by simpa using v1
        have n2 : (vl == 2) = false := by simpa using v2
        have HV := hide (And.intro v1 v2)
        clear v1 v2
        go_wp2
        go_ret
        exact ⟨ret_bool (by rw [Bool.eq_iff_iff]; simp [symB, HV.out.1, HV.out.2]), rfl⟩
  · go_enter Tryd.func72, Tryd.ntmps72
    go_wp2_with (first | (go_at_call 60; refine (l1Char_calls vl _).mono ?_; rintro e w' ⟨rfl, hw⟩; rw [hw]; clear hw w') | (go_at_call 59; refine (l1In_calls vl 0 0 _).mono ?_; rintro e w' ⟨rfl, hw⟩; rw [hw]; clear hw w'))
    go_ret
    exact ⟨ret_bool (by rw [Bool.eq_iff_iff]; simp [symB]), rfl⟩
  · go_enter Tryd.func72, Tryd.ntmps72
    go_wp2_with (first | (go_at_call 60; refine (l1Char_calls vl _).mono ?_; rintro e w' ⟨rfl, hw⟩; rw [hw]; clear hw w') | (go_at_call 59; refine (l1In_calls vl 1 3 _).mono ?_; rintro e w' ⟨rfl, hw⟩; rw [hw]; clear hw w'))
    go_ret
    exact ⟨ret_bool (by rw [Bool.eq_iff_iff]; simp [symB]), rfl⟩
  · go_enter Tryd.func72, Tryd.ntmps72
    go_wp2_with (first | (go_at_call 60; refine (l1Char_calls vl _).mono ?_; rintro e w' ⟨rfl, hw⟩; rw [hw]; clear hw w') | (go_at_call 59; refine (l1In_calls vl 0 2 _).mono ?_; rintro e w' ⟨rfl, hw⟩; rw [hw]; clear hw w'))
    go_ret
    exact ⟨ret_bool (by rw [Bool.eq_iff_iff]; simp [symB]), rfl⟩

set_option maxHeartbeats 1000000 in
theorem l8Sym_calls (kd vl : Int) (b o : Nat) (w : World) (c0 : w.cell? ⟨b, o, none⟩ = some (.int .i64 kd)) (c1 : w.cell? ⟨b, o + 1, none⟩ = some (.int .i64 vl)) :
    Calls Tryd.prog 50 #[.pointer (some ⟨b, o, none⟩)] w fun e w' => e = .returned (.int .i64 (symCode kd vl)) ∧ w' = w := by
  by_cases h : 0 ≤ kd ∧ kd ≤ 6
  · have hd : decide (0 ≤ kd ∧ kd ≤ 6) = true := decide_eq_true h
    cases hs : symB kd vl with
    | false =>
      have e1 : symCode kd vl = 3 := by unfold symCode; rw [if_pos h, hs]; rfl
      rw [e1]
      have H := hide h
      clear e1 h
      go_enter Tryd.func50, Tryd.ntmps50
      go_wp2_with (first | (go_at_call 59; refine (l1In_calls kd 0 6 _).mono ?_; rintro e w' ⟨rfl, hw⟩; rw [hw, hd]; clear hw w') | (go_at_call 72; refine (l8Value_calls kd vl b o _ H.out c0 c1).mono ?_; rintro e w' ⟨rfl, hw⟩; rw [hw, hs]; clear hw w'))
      go_ret
      exact ⟨rfl, rfl⟩
    | true =>
      have e1 : symCode kd vl = 0 := by unfold symCode; rw [if_pos h, hs]; rfl
      rw [e1]
      have H := hide h
      clear e1 h
      go_enter Tryd.func50, Tryd.ntmps50
      go_wp2_with (first | (go_at_call 59; refine (l1In_calls kd 0 6 _).mono ?_; rintro e w' ⟨rfl, hw⟩; rw [hw, hd]; clear hw w') | (go_at_call 72; refine (l8Value_calls kd vl b o _ H.out c0 c1).mono ?_; rintro e w' ⟨rfl, hw⟩; rw [hw, hs]; clear hw w'))
      go_ret
      exact ⟨rfl, rfl⟩
  · have hd : decide (0 ≤ kd ∧ kd ≤ 6) = false := decide_eq_false h
    have e1 : symCode kd vl = 1 := by unfold symCode; rw [if_neg h]
    rw [e1]
    clear e1 h
    go_enter Tryd.func50, Tryd.ntmps50
    go_wp2_with (first | (go_at_call 59; refine (l1In_calls kd 0 6 _).mono ?_; rintro e w' ⟨rfl, hw⟩; rw [hw, hd]; clear hw w'))
    go_ret
    exact ⟨rfl, rfl⟩
set_option maxHeartbeats 400000 in
theorem specSymFault_calls (kd vl : Int) (w : World) :
    Calls Tryd.prog 19 #[.agg #[.int .i64 kd, .int .i64 vl]] w fun e w' => e = .returned (.int .i64 (symCode kd vl)) ∧ Below w.heap.size w w' := by
  go_enter Tryd.func19, Tryd.ntmps19
  go_wp2_with (go_at_call 50; refine (l8Sym_calls kd vl w.heap.size 0 _ (by simp) (by simp)).mono ?_; rintro e w' ⟨rfl, hw⟩; rw [hw]; clear hw w')
  go_ret
  exact ⟨rfl, (by repeat' (first | with_reducible exact Below.refl _ _ | with_reducible assumption | with_reducible refine Below.drew ?_ | with_reducible refine Below.alloc ?_ ?_ _ | with_reducible refine Below.setCell ?_ ?_ _ | (simp; done) | (simp; omega) | omega))⟩
set_option maxHeartbeats 400000 in
theorem toSym_calls (kd vl : Int) (w : World) :
    Calls Tryd.prog 28 #[.agg #[.int .i64 kd, .int .i64 vl]] w fun e w' => e = .returned (.agg #[.int .i64 kd, .int .i64 vl]) ∧ Below w.heap.size w w' := by
  go_enter Tryd.func28, Tryd.ntmps28
  go_wp2
  refine bodyPost_ret (v := .agg #[.int .i64 kd, .int .i64 vl]) (by simp [results, Tryd.results28, go_sem]) rfl ⟨rfl, ?_⟩
  exact (by repeat' (first | with_reducible exact Below.refl _ _ | with_reducible assumption | with_reducible refine Below.drew ?_ | with_reducible refine Below.alloc ?_ ?_ _ | with_reducible refine Below.setCell ?_ ?_ _ | (simp; done) | (simp; omega) | omega))
set_option maxHeartbeats 400000 in
theorem isBound_calls (k m : Int) (w : World) :
    Calls Tryd.prog 52 #[.int .i64 k, .int .i64 m] w fun e w' => e = .returned (.bool (keyB k m)) ∧ w' = w := by
  unfold keyB
  cases h1 : decide (1 ≤ k ∧ k ≤ 40) with
  | false =>
    go_enter Tryd.func52, Tryd.ntmps52
    go_wp2_with (go_at_call 54; refine (isFromTo_calls k 1 40 _).mono ?_; rintro e w' ⟨rfl, hw⟩; rw [hw, h1]; clear hw w')
    go_ret
    exact ⟨rfl, rfl⟩
  | true =>
    go_enter Tryd.func52, Tryd.ntmps52
    go_wp2_with fail
    refine (isFromTo_calls k 1 40 _).mono ?_
    rintro e w' ⟨rfl, hw⟩
    rw [hw, h1]
    clear hw w'
    go_wp2_with fail
    refine (isFromTo_calls m 0 7 _).mono ?_
    rintro e w' ⟨rfl, hw⟩
    rw [hw]
    clear hw w'
    go_wp2
    go_ret
    refine ⟨ret_bool ?_, rfl⟩
    simp
set_option maxHeartbeats 400000 in
theorem l8Key_calls (k m : Int) (w : World) :
    Calls Tryd.prog 49 #[.int .i64 k, .int .i64 m] w fun e w' => e = .returned (.bool (keyB k m)) ∧ w' = w := by
  unfold keyB
  cases h1 : decide (1 ≤ k ∧ k ≤ 40) with
  | false =>
    go_enter Tryd.func49, Tryd.ntmps49
    go_wp2_with (go_at_call 59; refine (l1In_calls k 1 40 _).mono ?_; rintro e w' ⟨rfl, hw⟩; rw [hw, h1]; clear hw w')
    go_ret
    exact ⟨rfl, rfl⟩
  | true =>
    go_enter Tryd.func49, Tryd.ntmps49
    go_wp2_with fail
    refine (l1In_calls k 1 40 _).mono ?_
    rintro e w' ⟨rfl, hw⟩
    rw [hw, h1]
    clear hw w'
    go_wp2_with fail
    refine (l1In_calls m 0 7 _).mono ?_
    rintro e w' ⟨rfl, hw⟩
    rw [hw]
    clear hw w'
    go_wp2
    go_ret
    refine ⟨ret_bool ?_, rfl⟩
    simp
set_option maxHeartbeats 1000000 in
theorem bindFault_calls (k m kd vl : Int) (w : World) (hT : FewAt w) :
    Calls Tryd.prog 43 #[.agg #[.int .i64 k, .int .i64 m, .int .i64 kd, .int .i64 vl]] w fun e w' => e = .returned (.int .i64 (bindCode (k, m, kd, vl))) ∧ Below w.heap.size w w' := by
  have hb0 : Below w.heap.size w (w.alloc (.cells #[.int .i64 k, .int .i64 m, .int .i64 kd, .int .i64 vl] 28)) := (by repeat' (first | with_reducible exact Below.refl _ _ | with_reducible assumption | with_reducible refine Below.drew ?_ | with_reducible refine Below.alloc ?_ ?_ _ | with_reducible refine Below.setCell ?_ ?_ _ | (simp; done) | (simp; omega) | omega))
  have hT1 := hide (hT.below hb0)
  clear hT
  cases hk : keyB k m with
  | false =>
    have e1 : bindCode (k, m, kd, vl) = 3 := by unfold bindCode; simp [hk]
    rw [e1]
    clear e1 hT1
    go_enter Tryd.func43, Tryd.ntmps43
    go_wp2_with (go_at_call 52; refine (isBound_calls k m _).mono ?_; rintro e w' ⟨rfl, hw⟩; rw [hw, hk]; clear hw w')
    go_ret
    exact ⟨rfl, hb0⟩
  | true =>
    have e1 : bindCode (k, m, kd, vl) = symCode kd vl := by unfold bindCode; simp [hk]
    rw [e1]
    clear e1
    go_enter Tryd.func43, Tryd.ntmps43
    go_wp2_with fail
    refine (isBound_calls k m _).mono ?_
    rintro e w' ⟨rfl, hw⟩
    rw [hw, hk]
    clear hw w'
    go_wp2_with fail
    refine (implSymFault_calls kd vl _ hT1.out).mono ?_
    rintro e w' ⟨rfl, hb⟩
    have hb2 := hb0.trans (hb.mono hb0.size)
    clear hb
    go_wp2
    go_ret
    exact ⟨rfl, hb2⟩
set_option maxHeartbeats 1000000 in
theorem toBind_calls (k m kd vl : Int) (w : World) :
    Calls Tryd.prog 32 #[.agg #[.int .i64 k, .int .i64 m, .int .i64 kd, .int .i64 vl]] w fun e w' => e = .returned (.agg #[.int .i64 k, .int .i64 m, .int .i64 kd, .int .i64 vl]) ∧ Below w.heap.size w w' := by
  have hb0 : Below w.heap.size w (((w.alloc (.cells #[.int .i64 k, .int .i64 m, .int .i64 kd, .int .i64 vl] 61)).alloc (.cells #[.int .i64 0, .int .i64 0, .int .i64 0, .int .i64 0] 28)).alloc (.cells #[.int .i64 k, .int .i64 m, .int .i64 0, .int .i64 0] 28)) := (by repeat' (first | with_reducible exact Below.refl _ _ | with_reducible assumption | with_reducible refine Below.drew ?_ | with_reducible refine Below.alloc ?_ ?_ _ | with_reducible refine Below.setCell ?_ ?_ _ | (simp; done) | (simp; omega) | omega))
  have A2 : Blk (((w.alloc (.cells #[.int .i64 k, .int .i64 m, .int .i64 kd, .int .i64 vl] 61)).alloc (.cells #[.int .i64 0, .int .i64 0, .int .i64 0, .int .i64 0] 28)).alloc (.cells #[.int .i64 k, .int .i64 m, .int .i64 0, .int .i64 0] 28)) (w.heap.size + 2) #[.int .i64 k, .int .i64 m, .int .i64 0, .int .i64 0] := Blk.new_at (by simp) _ _
  have A1 : Blk (((w.alloc (.cells #[.int .i64 k, .int .i64 m, .int .i64 kd, .int .i64 vl] 61)).alloc (.cells #[.int .i64 0, .int .i64 0, .int .i64 0, .int .i64 0] 28)).alloc (.cells #[.int .i64 k, .int .i64 m, .int .i64 0, .int .i64 0] 28)) (w.heap.size + 1) #[.int .i64 0, .int .i64 0, .int .i64 0, .int .i64 0] := (Blk.new_at (by simp) _ _).alloc _
  go_enter Tryd.func32, Tryd.ntmps32
  go_wp2_with fail
  generalize (((w.alloc (.cells #[.int .i64 k, .int .i64 m, .int .i64 kd, .int .i64 vl] 61)).alloc (.cells #[.int .i64 0, .int .i64 0, .int .i64 0, .int .i64 0] 28)).alloc (.cells #[.int .i64 k, .int .i64 m, .int .i64 0, .int .i64 0] 28)) = W at *
  refine (toSym_calls kd vl _).mono ?_
  rintro e w1 ⟨rfl, hb⟩
  have hb2 : Below w.heap.size w w1 := hb0.trans (hb.mono hb0.size)
  replace A1 := A1.belowb hb
  replace A2 := A2.belowb hb
  have c0 : w1.cell? ⟨w.heap.size + 2, 0, none⟩ = some (.int .i64 k) := A2.at 0 rfl
  have c1 : w1.cell? ⟨w.heap.size + 2, 1, none⟩ = some (.int .i64 m) := A2.at 1 rfl
  have c2 : w1.cell? ⟨w.heap.size + 2, 2, none⟩ = some (.int .i64 0) := A2.at 2 rfl
  have c3 : w1.cell? ⟨w.heap.size + 2, 3, none⟩ = some (.int .i64 0) := A2.at 3 rfl
  have d0 : w1.cell? ⟨w.heap.size + 1, 0, none⟩ = some (.int .i64 0) := A1.at 0 rfl
  have d1 : w1.cell? ⟨w.heap.size + 1, 1, none⟩ = some (.int .i64 0) := A1.at 1 rfl
  have d2 : w1.cell? ⟨w.heap.size + 1, 2, none⟩ = some (.int .i64 0) := A1.at 2 rfl
  have d3 : w1.cell? ⟨w.heap.size + 1, 3, none⟩ = some (.int .i64 0) := A1.at 3 rfl
  have z2 := A2.froz
  have z1 := A1.froz
  clear hb0 hb A1 A2
  go_wp2
  refine bodyPost_ret (v := .agg #[.int .i64 k, .int .i64 m, .int .i64 kd, .int .i64 vl]) (by simp [results, Tryd.results32, go_sem, c0, c1, c2, c3, d0, d1, d2, d3]) rfl ⟨rfl, ?_⟩
  exact (by repeat' (first | with_reducible exact Below.refl _ _ | with_reducible assumption | with_reducible refine Below.drew ?_ | with_reducible refine Below.alloc ?_ ?_ _ | with_reducible refine Below.setCell ?_ ?_ _ | (simp; done) | (simp; omega) | omega))
end Go.Proofs.YtcfechnkgefhcaaDoor
