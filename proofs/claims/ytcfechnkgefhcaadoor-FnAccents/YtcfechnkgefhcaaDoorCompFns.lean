/-
  Letters with accents: impl.ComposeChar (the table of letters), spec.l8Compose, ComposeChar.
-/
import Derived.Test.YtcfechnkgefhcaaDoorAccFns
namespace Go.Proofs.YtcfechnkgefhcaaDoor
set_option maxRecDepth 20000
open Go.ChangeShapes Go.WideShapes Go.ChangeAt Go.RowKit
set_option linter.unusedVariables false
set_option linter.unusedSimpArgs false
set_option maxRecDepth 20000

def lowF (c : Int) : List (Int × Int) → Int
  | [] => 0
  | (p, w) :: t => if p = c then w else lowF c t
def lowT (a : Int) : List (Int × Int) := if a = 1 then [(97, 224), (101, 232), (111, 242)] else if a = 2 then [(97, 225), (101, 233), (111, 243)] else [(97, 228), (111, 246), (117, 252)]
/-- A letter with an accent; 0: there is none. -/
def compV (a c : Int) : Int := if 65 ≤ c ∧ c ≤ 90 then (if lowF (c + 32) (lowT a) = 0 then 0 else lowF (c + 32) (lowT a) - 32) else lowF c (lowT a)
def compCd (a c : Int) : Int := if accB a = true ∧ chB c = true then (if compV a c = 0 then 4 else 0) else 3
def compRs (a c : Int) : Int := if accB a = true ∧ chB c = true then compV a c else 0
def letL : List (Int × Int × Int) := [(1, 97, 224), (1, 101, 232), (1, 111, 242), (2, 97, 225), (2, 101, 233), (2, 111, 243), (3, 97, 228), (3, 111, 246), (3, 117, 252)]
/-- What the program finds from place k of its table on. -/
def letF (a c : Int) : List (Int × Int × Int) → Int
  | [] => 0
  | (x, p, w) :: t => if x = a then (if c = p then w else if c = p - 32 then w - 32 else letF a c t) else letF a c t
theorem letF_all {a : Int} (c : Int) (h : accB a = true) : letF a c letL = compV a c := by
  have lows : ∀ (c p1 w1 p2 w2 p3 w3 : Int), lowF c [(p1, w1), (p2, w2), (p3, w3)] = if p1 = c then w1 else if p2 = c then w2 else if p3 = c then w3 else 0 := fun _ _ _ _ _ _ _ => rfl
  rcases acc_cases h with rfl | rfl | rfl
  · have e1 : letF 1 c letL = if c = 97 then 224 else if c = 65 then 192 else if c = 101 then 232 else if c = 69 then 200 else if c = 111 then 242 else if c = 79 then 210 else 0 := by simp [letF, letL]
    have e2 : lowT 1 = [(97, 224), (101, 232), (111, 242)] := by simp [lowT]
    rw [e1]
    unfold compV
    rw [e2, lows, lows]
    clear e1 e2 lows h
    by_cases h0 : c = 97
    · subst h0; rfl
    by_cases h1 : c = 65
    · subst h1; rfl
    by_cases h2 : c = 101
    · subst h2; rfl
    by_cases h3 : c = 69
    · subst h3; rfl
    by_cases h4 : c = 111
    · subst h4; rfl
    by_cases h5 : c = 79
    · subst h5; rfl
    rw [if_neg h0, if_neg h1, if_neg h2, if_neg h3, if_neg h4, if_neg h5]
    rw [if_neg (show ¬ (97 = c + 32) by omega), if_neg (show ¬ (101 = c + 32) by omega), if_neg (show ¬ (111 = c + 32) by omega), if_neg (show ¬ (97 = c) by omega), if_neg (show ¬ (101 = c) by omega), if_neg (show ¬ (111 = c) by omega)]
    split <;> simp
  · have e1 : letF 2 c letL = if c = 97 then 225 else if c = 65 then 193 else if c = 101 then 233 else if c = 69 then 201 else if c = 111 then 243 else if c = 79 then 211 else 0 := by simp [letF, letL]
    have e2 : lowT 2 = [(97, 225), (101, 233), (111, 243)] := by simp [lowT]
    rw [e1]
    unfold compV
    rw [e2, lows, lows]
    clear e1 e2 lows h
    by_cases h0 : c = 97
    · subst h0; rfl
    by_cases h1 : c = 65
    · subst h1; rfl
    by_cases h2 : c = 101
    · subst h2; rfl
    by_cases h3 : c = 69
    · subst h3; rfl
    by_cases h4 : c = 111
    · subst h4; rfl
    by_cases h5 : c = 79
    · subst h5; rfl
    rw [if_neg h0, if_neg h1, if_neg h2, if_neg h3, if_neg h4, if_neg h5]
    rw [if_neg (show ¬ (97 = c + 32) by omega), if_neg (show ¬ (101 = c + 32) by omega), if_neg (show ¬ (111 = c + 32) by omega), if_neg (show ¬ (97 = c) by omega), if_neg (show ¬ (101 = c) by omega), if_neg (show ¬ (111 = c) by omega)]
    split <;> simp
  · have e1 : letF 3 c letL = if c = 97 then 228 else if c = 65 then 196 else if c = 111 then 246 else if c = 79 then 214 else if c = 117 then 252 else if c = 85 then 220 else 0 := by simp [letF, letL]
    have e2 : lowT 3 = [(97, 228), (111, 246), (117, 252)] := by simp [lowT]
    rw [e1]
    unfold compV
    rw [e2, lows, lows]
    clear e1 e2 lows h
    by_cases h0 : c = 97
    · subst h0; rfl
    by_cases h1 : c = 65
    · subst h1; rfl
    by_cases h2 : c = 111
    · subst h2; rfl
    by_cases h3 : c = 79
    · subst h3; rfl
    by_cases h4 : c = 117
    · subst h4; rfl
    by_cases h5 : c = 85
    · subst h5; rfl
    rw [if_neg h0, if_neg h1, if_neg h2, if_neg h3, if_neg h4, if_neg h5]
    rw [if_neg (show ¬ (97 = c + 32) by omega), if_neg (show ¬ (111 = c + 32) by omega), if_neg (show ¬ (117 = c + 32) by omega), if_neg (show ¬ (97 = c) by omega), if_neg (show ¬ (111 = c) by omega), if_neg (show ¬ (117 = c) by omega)]
    split <;> simp
def letCells : List Int := [1, 97, 224, 1, 101, 232, 1, 111, 242, 2, 97, 225, 2, 101, 233, 2, 111, 243, 3, 97, 228, 3, 111, 246, 3, 117, 252]
def LetAt (w : World) : Prop := ∀ i : Nat, i < 27 → w.cell? ⟨0, i, none⟩ = some (.int .i64 (letCells.getD i 0))
theorem LetAt.below {w w' : World} (h : LetAt w) (hb : Below w.heap.size w w') : LetAt w' := fun i hi => cellb hb (h i hi)
/-- The table as a value. -/
def letArr : Array Value := (letCells.map (Value.int .i64)).toArray
theorem letArr_at (j : Nat) (h : j < 27) : letArr[j]? = some (.int .i64 (letCells.getD j 0)) := by
  have hl : letCells.length = 27 := rfl
  have hj : j < letCells.length := by omega
  simp [letArr, List.getD_eq_getElem?_getD, hj]
theorem wpList_load_cells {P : Program} {ops : Array Oper} {rest : List Oper} {o : Oper} {a : Act} {w : World} {Q : Exit → Act → World → Prop} (hw : Region.wanted o (yielded ops a.tmps) = true) (ty : TypeId) (x : Operand) (ho : o.op = .load ty x)
    (g off : Nat) (hx : a.eval x = .pointer (some ⟨g, off, none⟩)) (vs : Array Value) (hc : ∀ j, j < vs.size → w.cell? ⟨g, off + j, none⟩ = vs[j]?) (d : TypeDesc)
    (hu : P.underlying ty = some d) (hd : (match d with | .struct _ | .array _ _ => true | _ => false) = true) (hi : (P.info? ty).map (·.size) = some vs.size)
    (h : wpList P ops Q rest (a.put o.dst (.agg vs)) w) : wpList P ops Q (o :: rest) a w :=
  BigFrame.wpList_want hw fun K hK => by
    have hrun : (loadVar ty ⟨g, off, none⟩).run P w = .ok (.agg vs) w := by
      have hl : (loadCells ⟨g, off, none⟩ vs.toList.length).run P w = .ok vs.toList.toArray w :=
        run_loadCells_list (P := P) w ⟨g, off, none⟩ vs.toList (fun j v hj => by
          have hadd : (⟨g, off, none⟩ : Addr).add j = ⟨g, off + j, none⟩ := by unfold Addr.add; split <;> simp_all
          have hjl : j < vs.size := by
            rcases Nat.lt_or_ge j vs.size with h' | h'
            · exact h'
            · rw [List.getElem?_eq_none (by simpa using h')] at hj; cases hj
          rw [hadd, hc j hjl, ← Array.getElem?_toList]
          exact hj)
      cases hq : P.info? ty with
      | none => simp [hq] at hi
      | some i =>
        have hs : i.size = vs.size := by simpa [hq] using hi
        have hagg : (isAgg ty).run P w = .ok true w := by
          unfold isAgg
          rw [Sem.run_bind, run_underlying hu w]
          cases d <;> simp_all
        simp only [Array.length_toList, Array.toArray_toList] at hl
        simp [loadVar, Sem.run_bind, hagg, sizeOf, typeInfo, hq, hs, hl]
    unfold Oper.wp execOp
    simp only [ho, hx, Instr.loadAt, Instr.sureAddr, Sem.run_bind, Sem.run_pure, Result.andThen_ok, hrun]
    exact hK _ _ h
theorem let_at0 (w : World) : (Instr.index 93 (.agg letArr) (.int .i64 0)).run Tryd.prog w = .ok (.agg #[.int .i64 1, .int .i64 97, .int .i64 224]) w := by kernel_rfl
theorem let_at1 (w : World) : (Instr.index 93 (.agg letArr) (.int .i64 1)).run Tryd.prog w = .ok (.agg #[.int .i64 1, .int .i64 101, .int .i64 232]) w := by kernel_rfl
theorem let_at2 (w : World) : (Instr.index 93 (.agg letArr) (.int .i64 2)).run Tryd.prog w = .ok (.agg #[.int .i64 1, .int .i64 111, .int .i64 242]) w := by kernel_rfl
theorem let_at3 (w : World) : (Instr.index 93 (.agg letArr) (.int .i64 3)).run Tryd.prog w = .ok (.agg #[.int .i64 2, .int .i64 97, .int .i64 225]) w := by kernel_rfl
theorem let_at4 (w : World) : (Instr.index 93 (.agg letArr) (.int .i64 4)).run Tryd.prog w = .ok (.agg #[.int .i64 2, .int .i64 101, .int .i64 233]) w := by kernel_rfl
theorem let_at5 (w : World) : (Instr.index 93 (.agg letArr) (.int .i64 5)).run Tryd.prog w = .ok (.agg #[.int .i64 2, .int .i64 111, .int .i64 243]) w := by kernel_rfl
theorem let_at6 (w : World) : (Instr.index 93 (.agg letArr) (.int .i64 6)).run Tryd.prog w = .ok (.agg #[.int .i64 3, .int .i64 97, .int .i64 228]) w := by kernel_rfl
theorem let_at7 (w : World) : (Instr.index 93 (.agg letArr) (.int .i64 7)).run Tryd.prog w = .ok (.agg #[.int .i64 3, .int .i64 111, .int .i64 246]) w := by kernel_rfl
theorem let_at8 (w : World) : (Instr.index 93 (.agg letArr) (.int .i64 8)).run Tryd.prog w = .ok (.agg #[.int .i64 3, .int .i64 117, .int .i64 252]) w := by kernel_rfl
set_option maxHeartbeats 4000000 in
theorem implCompose_calls (a c : Int) (w : World) (hT : LetAt w) :
    Calls Tryd.prog 22 #[.int .i64 a, .int .i64 c] w fun e w' => e = .returned (.agg #[.int .i64 (compCd a c), .int .i64 (compRs a c)]) ∧ Below w.heap.size w w' := by
  generalize hcd : compCd a c = cd
  generalize hrs : compRs a c = rs
  have HCD := hide hcd
  have HRS := hide hrs
  clear hcd hrs
  have hb0 : Below w.heap.size w (w.alloc (.cells #[.int .i64 0, .int .i64 0] 45)) := (by repeat' (first | with_reducible exact Below.refl _ _ | with_reducible assumption | with_reducible refine Below.drew ?_ | with_reducible refine Below.alloc ?_ ?_ _ | with_reducible refine Below.setCell ?_ ?_ _ | (simp; done) | (simp; omega) | omega))
  have B : Blk (w.alloc (.cells #[.int .i64 0, .int .i64 0] 45)) w.heap.size #[.int .i64 0, .int .i64 0] := Blk.new_at (by simp) _ _
  cases ha : accB a with
  | false =>
    obtain rfl : cd = 3 := by rw [← HCD.out]; unfold compCd; rw [ha, if_neg (by simp)]
    obtain rfl : rs = 0 := by rw [← HRS.out]; unfold compRs; rw [ha, if_neg (by simp)]
    clear hb0 B hT
    go_enter Tryd.func22, Tryd.ntmps22
    go_wp2_with (go_at_call 57; refine (accent_calls a _).mono ?_; rintro e w' ⟨rfl, hw⟩; rw [hw, ha]; clear hw w')
    refine bodyPost_ret (v := .agg #[.int .i64 3, .int .i64 0]) (by simp [results, Tryd.results22, go_sem]) rfl ⟨rfl, ?_⟩
    exact (by repeat' (first | with_reducible exact Below.refl _ _ | with_reducible assumption | with_reducible refine Below.drew ?_ | with_reducible refine Below.alloc ?_ ?_ _ | with_reducible refine Below.setCell ?_ ?_ _ | (simp; done) | (simp; omega) | omega))
  | true =>
    cases hc : chB c with
    | false =>
      obtain rfl : cd = 3 := by rw [← HCD.out]; unfold compCd; rw [hc, if_neg (by simp)]
      obtain rfl : rs = 0 := by rw [← HRS.out]; unfold compRs; rw [hc, if_neg (by simp)]
      clear hb0 B hT
      go_enter Tryd.func22, Tryd.ntmps22
      go_wp2_with (first | (go_at_call 57; refine (accent_calls a _).mono ?_; rintro e w' ⟨rfl, hw⟩; rw [hw, ha]; clear hw w') | (go_at_call 58; refine (isChar_calls c _).mono ?_; rintro e w' ⟨rfl, hw⟩; rw [hw, hc]; clear hw w'))
      refine bodyPost_ret (v := .agg #[.int .i64 3, .int .i64 0]) (by simp [results, Tryd.results22, go_sem]) rfl ⟨rfl, ?_⟩
      exact (by repeat' (first | with_reducible exact Below.refl _ _ | with_reducible assumption | with_reducible refine Below.drew ?_ | with_reducible refine Below.alloc ?_ ?_ _ | with_reducible refine Below.setCell ?_ ?_ _ | (simp; done) | (simp; omega) | omega))
    | true =>
      have hv : letF a c letL = compV a c := letF_all c ha
      have HR : Hid (compV a c = rs) := hide (by rw [← HRS.out]; unfold compRs; rw [if_pos ⟨ha, hc⟩])
      have HZ : Hid (cd = if rs = 0 then 4 else 0) := hide (by rw [← HCD.out, ← HR.out]; unfold compCd; rw [if_pos ⟨ha, hc⟩])
      have H0 : Hid (letF a c (letL.drop 0) = rs) := hide (by rw [List.drop_zero, hv, HR.out])
      have HA := hide (acc_cases ha)
      clear hv
      have hT1 := hT.below hb0
      have hLC : Hid (∀ j, j < letArr.size → (w.alloc (.cells #[.int .i64 0, .int .i64 0] 45)).cell? ⟨0, 0 + j, none⟩ = letArr[j]?) := hide (fun j hj => by
        have hj' : j < 27 := hj
        rw [Nat.zero_add, letArr_at j hj']
        exact hT1 j hj')
      clear hT hT1
      have hcb : 0 ≤ c ∧ c ≤ 65535 := by unfold chB at hc; simp at hc; omega
      go_enter Tryd.func22, Tryd.ntmps22
      go_wp2_with fail
      refine (accent_calls a _).mono ?_
      rintro e w' ⟨rfl, hw⟩
      rw [hw, ha]
      clear hw w'
      go_wp2_with fail
      refine (isChar_calls c _).mono ?_
      rintro e w' ⟨rfl, hw⟩
      rw [hw, hc]
      clear hw w'
      generalize (w.alloc (.cells #[.int .i64 0, .int .i64 0] 45)) = W at *
      go_wp2_with (refine wpList_load_cells rfl 93 _ rfl 0 0 rfl letArr hLC.out _ Tryd.underlying93 rfl (by kernel_rfl) ?_; simp only [Act.put, List.setIfInBounds_toArray, List.set_cons_zero, List.set_cons_succ])
      clear hLC
      go_loopw [17] (fun i wr => ∃ k : Nat, k ≤ 9 ∧ i = .int .i64 k ∧ Hid (letF a c (letL.drop k) = rs) ∧ Below w.heap.size w wr ∧ Blk wr w.heap.size #[.int .i64 0, .int .i64 0]) (fun i _ => 9 - (intOf i).toNat)
      case atStart => exact ⟨0, by omega, rfl, H0, hb0, B⟩
      case round =>
        obtain ⟨k, hk, rfl, hr, hb, B1⟩ := hrel
        clear hb0 B H0
        have d0 : wr.cell? ⟨w.heap.size, 0, none⟩ = some (.int .i64 0) := B1.at 0 rfl
        have d1 : wr.cell? ⟨w.heap.size, 1, none⟩ = some (.int .i64 0) := B1.at 1 rfl
        have z := B1.froz
        have hlw := B1.lt
        have hk3 : k = 0 ∨ k = 1 ∨ k = 2 ∨ k = 3 ∨ k = 4 ∨ k = 5 ∨ k = 6 ∨ k = 7 ∨ k = 8 ∨ k = 9 := by omega
        clear hk
        rcases hk3 with rfl | rfl | rfl | rfl | rfl | rfl | rfl | rfl | rfl | rfl
        · have hix := let_at0
          have q : Below wr.heap.size wr (wr.alloc (.cells #[.int .i64 1, .int .i64 97, .int .i64 224] 92)) := (by repeat' (first | with_reducible exact Below.refl _ _ | with_reducible assumption | with_reducible refine Below.drew ?_ | with_reducible refine Below.alloc ?_ ?_ _ | with_reducible refine Below.setCell ?_ ?_ _ | (simp; done) | (simp; omega) | omega))
          have B2 := B1.belowb q
          have hb2 := hb.trans (q.mono hb.size)
          have d0' := B2.at 0 (v := .int .i64 0) rfl
          have d1' := B2.at 1 (v := .int .i64 0) rfl
          have z' := B2.froz
          clear q
          by_cases hx : a = 1
          · have hne : ((1 : Int) != a) = false := by simp [hx]
            by_cases h1 : c = 97
            · have he : (c == 97) = true := by simp [h1]
              obtain rfl : rs = 224 := by rw [← hr.out]; simp [letL, letF, hx, h1]
              obtain rfl : cd = 0 := by rw [HZ.out]; rfl
              clear hr HR HZ HCD HRS hx h1
              go_wp2
              refine bodyPost_ret (v := .agg #[.int .i64 0, .int .i64 224]) (by simp [results, Tryd.results22, go_sem, d0', d1', d0, d1, hlw]) rfl ⟨rfl, ?_⟩
              exact (by repeat' (first | with_reducible exact Below.refl _ _ | with_reducible assumption | with_reducible refine Below.drew ?_ | with_reducible refine Below.alloc ?_ ?_ _ | with_reducible refine Below.setCell ?_ ?_ _ | (simp; done) | (simp; omega) | omega))
            · have he : (c == 97) = false := by simp [h1]
              by_cases h2 : c = 65
              · have he2 : (c == 65) = true := by simp [h2]
                obtain rfl : rs = 192 := by rw [← hr.out]; simp [letL, letF, hx, h2]
                obtain rfl : cd = 0 := by rw [HZ.out]; rfl
                clear hr HR HZ HCD HRS hx h1 h2
                go_wp2
                refine bodyPost_ret (v := .agg #[.int .i64 0, .int .i64 192]) (by simp [results, Tryd.results22, go_sem, d0', d1', d0, d1, hlw]) rfl ⟨rfl, ?_⟩
                exact (by repeat' (first | with_reducible exact Below.refl _ _ | with_reducible assumption | with_reducible refine Below.drew ?_ | with_reducible refine Below.alloc ?_ ?_ _ | with_reducible refine Below.setCell ?_ ?_ _ | (simp; done) | (simp; omega) | omega))
              · have he2 : (c == 65) = false := by simp [h2]
                have E1 : Hid (letF a c (letL.drop 1) = rs) := by
                  show _ = _
                  rw [← hr.out]
                  show _ = letF a c ((1, 97, 224) :: letL.drop 1)
                  rw [letF, if_pos hx.symm, if_neg h1, if_neg (by omega)]
                clear hr hx h1 h2
                go_wp2
                go_roundw
                case rel => exact ⟨1, by omega, rfl, E1, hb2, B2⟩
                case measure => simp [intOf]
          · have hne : ((1 : Int) != a) = true := by simp; omega
            have E1 : Hid (letF a c (letL.drop 1) = rs) := by
              show _ = _
              rw [← hr.out]
              show _ = letF a c ((1, 97, 224) :: letL.drop 1)
              rw [letF, if_neg (fun h => hx h.symm)]
            clear hr hx
            go_wp2
            go_roundw
            case rel => exact ⟨1, by omega, rfl, E1, hb2, B2⟩
            case measure => simp [intOf]
        · have hix := let_at1
          have q : Below wr.heap.size wr (wr.alloc (.cells #[.int .i64 1, .int .i64 101, .int .i64 232] 92)) := (by repeat' (first | with_reducible exact Below.refl _ _ | with_reducible assumption | with_reducible refine Below.drew ?_ | with_reducible refine Below.alloc ?_ ?_ _ | with_reducible refine Below.setCell ?_ ?_ _ | (simp; done) | (simp; omega) | omega))
          have B2 := B1.belowb q
          have hb2 := hb.trans (q.mono hb.size)
          have d0' := B2.at 0 (v := .int .i64 0) rfl
          have d1' := B2.at 1 (v := .int .i64 0) rfl
          have z' := B2.froz
          clear q
          by_cases hx : a = 1
          · have hne : ((1 : Int) != a) = false := by simp [hx]
            by_cases h1 : c = 101
            · have he : (c == 101) = true := by simp [h1]
              obtain rfl : rs = 232 := by rw [← hr.out]; simp [letL, letF, hx, h1]
              obtain rfl : cd = 0 := by rw [HZ.out]; rfl
              clear hr HR HZ HCD HRS hx h1
              go_wp2
              refine bodyPost_ret (v := .agg #[.int .i64 0, .int .i64 232]) (by simp [results, Tryd.results22, go_sem, d0', d1', d0, d1, hlw]) rfl ⟨rfl, ?_⟩
              exact (by repeat' (first | with_reducible exact Below.refl _ _ | with_reducible assumption | with_reducible refine Below.drew ?_ | with_reducible refine Below.alloc ?_ ?_ _ | with_reducible refine Below.setCell ?_ ?_ _ | (simp; done) | (simp; omega) | omega))
            · have he : (c == 101) = false := by simp [h1]
              by_cases h2 : c = 69
              · have he2 : (c == 69) = true := by simp [h2]
                obtain rfl : rs = 200 := by rw [← hr.out]; simp [letL, letF, hx, h2]
                obtain rfl : cd = 0 := by rw [HZ.out]; rfl
                clear hr HR HZ HCD HRS hx h1 h2
                go_wp2
                refine bodyPost_ret (v := .agg #[.int .i64 0, .int .i64 200]) (by simp [results, Tryd.results22, go_sem, d0', d1', d0, d1, hlw]) rfl ⟨rfl, ?_⟩
                exact (by repeat' (first | with_reducible exact Below.refl _ _ | with_reducible assumption | with_reducible refine Below.drew ?_ | with_reducible refine Below.alloc ?_ ?_ _ | with_reducible refine Below.setCell ?_ ?_ _ | (simp; done) | (simp; omega) | omega))
              · have he2 : (c == 69) = false := by simp [h2]
                have E1 : Hid (letF a c (letL.drop 2) = rs) := by
                  show _ = _
                  rw [← hr.out]
                  show _ = letF a c ((1, 101, 232) :: letL.drop 2)
                  rw [letF, if_pos hx.symm, if_neg h1, if_neg (by omega)]
                clear hr hx h1 h2
                go_wp2
                go_roundw
                case rel => exact ⟨2, by omega, rfl, E1, hb2, B2⟩
                case measure => simp [intOf]
          · have hne : ((1 : Int) != a) = true := by simp; omega
            have E1 : Hid (letF a c (letL.drop 2) = rs) := by
              show _ = _
              rw [← hr.out]
              show _ = letF a c ((1, 101, 232) :: letL.drop 2)
              rw [letF, if_neg (fun h => hx h.symm)]
            clear hr hx
            go_wp2
            go_roundw
            case rel => exact ⟨2, by omega, rfl, E1, hb2, B2⟩
            case measure => simp [intOf]
        · have hix := let_at2
          have q : Below wr.heap.size wr (wr.alloc (.cells #[.int .i64 1, .int .i64 111, .int .i64 242] 92)) := (by repeat' (first | with_reducible exact Below.refl _ _ | with_reducible assumption | with_reducible refine Below.drew ?_ | with_reducible refine Below.alloc ?_ ?_ _ | with_reducible refine Below.setCell ?_ ?_ _ | (simp; done) | (simp; omega) | omega))
          have B2 := B1.belowb q
          have hb2 := hb.trans (q.mono hb.size)
          have d0' := B2.at 0 (v := .int .i64 0) rfl
          have d1' := B2.at 1 (v := .int .i64 0) rfl
          have z' := B2.froz
          clear q
          by_cases hx : a = 1
          · have hne : ((1 : Int) != a) = false := by simp [hx]
            by_cases h1 : c = 111
            · have he : (c == 111) = true := by simp [h1]
              obtain rfl : rs = 242 := by rw [← hr.out]; simp [letL, letF, hx, h1]
              obtain rfl : cd = 0 := by rw [HZ.out]; rfl
              clear hr HR HZ HCD HRS hx h1
              go_wp2
              refine bodyPost_ret (v := .agg #[.int .i64 0, .int .i64 242]) (by simp [results, Tryd.results22, go_sem, d0', d1', d0, d1, hlw]) rfl ⟨rfl, ?_⟩
              exact (by repeat' (first | with_reducible exact Below.refl _ _ | with_reducible assumption | with_reducible refine Below.drew ?_ | with_reducible refine Below.alloc ?_ ?_ _ | with_reducible refine Below.setCell ?_ ?_ _ | (simp; done) | (simp; omega) | omega))
            · have he : (c == 111) = false := by simp [h1]
              by_cases h2 : c = 79
              · have he2 : (c == 79) = true := by simp [h2]
                obtain rfl : rs = 210 := by rw [← hr.out]; simp [letL, letF, hx, h2]
                obtain rfl : cd = 0 := by rw [HZ.out]; rfl
                clear hr HR HZ HCD HRS hx h1 h2
                go_wp2
                refine bodyPost_ret (v := .agg #[.int .i64 0, .int .i64 210]) (by simp [results, Tryd.results22, go_sem, d0', d1', d0, d1, hlw]) rfl ⟨rfl, ?_⟩
                exact (by repeat' (first | with_reducible exact Below.refl _ _ | with_reducible assumption | with_reducible refine Below.drew ?_ | with_reducible refine Below.alloc ?_ ?_ _ | with_reducible refine Below.setCell ?_ ?_ _ | (simp; done) | (simp; omega) | omega))
              · have he2 : (c == 79) = false := by simp [h2]
                have E1 : Hid (letF a c (letL.drop 3) = rs) := by
                  show _ = _
                  rw [← hr.out]
                  show _ = letF a c ((1, 111, 242) :: letL.drop 3)
                  rw [letF, if_pos hx.symm, if_neg h1, if_neg (by omega)]
                clear hr hx h1 h2
                go_wp2
                go_roundw
                case rel => exact ⟨3, by omega, rfl, E1, hb2, B2⟩
                case measure => simp [intOf]
          · have hne : ((1 : Int) != a) = true := by simp; omega
            have E1 : Hid (letF a c (letL.drop 3) = rs) := by
              show _ = _
              rw [← hr.out]
              show _ = letF a c ((1, 111, 242) :: letL.drop 3)
              rw [letF, if_neg (fun h => hx h.symm)]
            clear hr hx
            go_wp2
            go_roundw
            case rel => exact ⟨3, by omega, rfl, E1, hb2, B2⟩
            case measure => simp [intOf]
        · have hix := let_at3
          have q : Below wr.heap.size wr (wr.alloc (.cells #[.int .i64 2, .int .i64 97, .int .i64 225] 92)) := (by repeat' (first | with_reducible exact Below.refl _ _ | with_reducible assumption | with_reducible refine Below.drew ?_ | with_reducible refine Below.alloc ?_ ?_ _ | with_reducible refine Below.setCell ?_ ?_ _ | (simp; done) | (simp; omega) | omega))
          have B2 := B1.belowb q
          have hb2 := hb.trans (q.mono hb.size)
          have d0' := B2.at 0 (v := .int .i64 0) rfl
          have d1' := B2.at 1 (v := .int .i64 0) rfl
          have z' := B2.froz
          clear q
          by_cases hx : a = 2
          · have hne : ((2 : Int) != a) = false := by simp [hx]
            by_cases h1 : c = 97
            · have he : (c == 97) = true := by simp [h1]
              obtain rfl : rs = 225 := by rw [← hr.out]; simp [letL, letF, hx, h1]
              obtain rfl : cd = 0 := by rw [HZ.out]; rfl
              clear hr HR HZ HCD HRS hx h1
              go_wp2
              refine bodyPost_ret (v := .agg #[.int .i64 0, .int .i64 225]) (by simp [results, Tryd.results22, go_sem, d0', d1', d0, d1, hlw]) rfl ⟨rfl, ?_⟩
              exact (by repeat' (first | with_reducible exact Below.refl _ _ | with_reducible assumption | with_reducible refine Below.drew ?_ | with_reducible refine Below.alloc ?_ ?_ _ | with_reducible refine Below.setCell ?_ ?_ _ | (simp; done) | (simp; omega) | omega))
            · have he : (c == 97) = false := by simp [h1]
              by_cases h2 : c = 65
              · have he2 : (c == 65) = true := by simp [h2]
                obtain rfl : rs = 193 := by rw [← hr.out]; simp [letL, letF, hx, h2]
                obtain rfl : cd = 0 := by rw [HZ.out]; rfl
                clear hr HR HZ HCD HRS hx h1 h2
                go_wp2
                refine bodyPost_ret (v := .agg #[.int .i64 0, .int .i64 193]) (by simp [results, Tryd.results22, go_sem, d0', d1', d0, d1, hlw]) rfl ⟨rfl, ?_⟩
                exact (by repeat' (first | with_reducible exact Below.refl _ _ | with_reducible assumption | with_reducible refine Below.drew ?_ | with_reducible refine Below.alloc ?_ ?_ _ | with_reducible refine Below.setCell ?_ ?_ _ | (simp; done) | (simp; omega) | omega))
              · have he2 : (c == 65) = false := by simp [h2]
                have E1 : Hid (letF a c (letL.drop 4) = rs) := by
                  show _ = _
                  rw [← hr.out]
                  show _ = letF a c ((2, 97, 225) :: letL.drop 4)
                  rw [letF, if_pos hx.symm, if_neg h1, if_neg (by omega)]
                clear hr hx h1 h2
                go_wp2
                go_roundw
                case rel => exact ⟨4, by omega, rfl, E1, hb2, B2⟩
                case measure => simp [intOf]
          · have hne : ((2 : Int) != a) = true := by simp; omega
            have E1 : Hid (letF a c (letL.drop 4) = rs) := by
              show _ = _
              rw [← hr.out]
              show _ = letF a c ((2, 97, 225) :: letL.drop 4)
              rw [letF, if_neg (fun h => hx h.symm)]
            clear hr hx
            go_wp2
            go_roundw
            case rel => exact ⟨4, by omega, rfl, E1, hb2, B2⟩
            case measure => simp [intOf]
        · have hix := let_at4
          have q : Below wr.heap.size wr (wr.alloc (.cells #[.int .i64 2, .int .i64 101, .int .i64 233] 92)) := (by repeat' (first | with_reducible exact Below.refl _ _ | with_reducible assumption | with_reducible refine Below.drew ?_ | with_reducible refine Below.alloc ?_ ?_ _ | with_reducible refine Below.setCell ?_ ?_ _ | (simp; done) | (simp; omega) | omega))
          have B2 := B1.belowb q
          have hb2 := hb.trans (q.mono hb.size)
          have d0' := B2.at 0 (v := .int .i64 0) rfl
          have d1' := B2.at 1 (v := .int .i64 0) rfl
          have z' := B2.froz
          clear q
          by_cases hx : a = 2
          · have hne : ((2 : Int) != a) = false := by simp [hx]
            by_cases h1 : c = 101
            · have he : (c == 101) = true := by simp [h1]
              obtain rfl : rs = 233 := by rw [← hr.out]; simp [letL, letF, hx, h1]
              obtain rfl : cd = 0 := by rw [HZ.out]; rfl
              clear hr HR HZ HCD HRS hx h1
              go_wp2
              refine bodyPost_ret (v := .agg #[.int .i64 0, .int .i64 233]) (by simp [results, Tryd.results22, go_sem, d0', d1', d0, d1, hlw]) rfl ⟨rfl, ?_⟩
              exact (by repeat' (first | with_reducible exact Below.refl _ _ | with_reducible assumption | with_reducible refine Below.drew ?_ | with_reducible refine Below.alloc ?_ ?_ _ | with_reducible refine Below.setCell ?_ ?_ _ | (simp; done) | (simp; omega) | omega))
            · have he : (c == 101) = false := by simp [h1]
              by_cases h2 : c = 69
              · have he2 : (c == 69) = true := by simp [h2]
                obtain rfl : rs = 201 := by rw [← hr.out]; simp [letL, letF, hx, h2]
                obtain rfl : cd = 0 := by rw [HZ.out]; rfl
                clear hr HR HZ HCD HRS hx h1 h2
                go_wp2
                refine bodyPost_ret (v := .agg #[.int .i64 0, .int .i64 201]) (by simp [results, Tryd.results22, go_sem, d0', d1', d0, d1, hlw]) rfl ⟨rfl, ?_⟩
                exact (by repeat' (first | with_reducible exact Below.refl _ _ | with_reducible assumption | with_reducible refine Below.drew ?_ | with_reducible refine Below.alloc ?_ ?_ _ | with_reducible refine Below.setCell ?_ ?_ _ | (simp; done) | (simp; omega) | omega))
              · have he2 : (c == 69) = false := by simp [h2]
                have E1 : Hid (letF a c (letL.drop 5) = rs) := by
                  show _ = _
                  rw [← hr.out]
                  show _ = letF a c ((2, 101, 233) :: letL.drop 5)
                  rw [letF, if_pos hx.symm, if_neg h1, if_neg (by omega)]
                clear hr hx h1 h2
                go_wp2
                go_roundw
                case rel => exact ⟨5, by omega, rfl, E1, hb2, B2⟩
                case measure => simp [intOf]
          · have hne : ((2 : Int) != a) = true := by simp; omega
            have E1 : Hid (letF a c (letL.drop 5) = rs) := by
              show _ = _
              rw [← hr.out]
              show _ = letF a c ((2, 101, 233) :: letL.drop 5)
              rw [letF, if_neg (fun h => hx h.symm)]
            clear hr hx
            go_wp2
            go_roundw
            case rel => exact ⟨5, by omega, rfl, E1, hb2, B2⟩
            case measure => simp [intOf]
        · have hix := let_at5
          have q : Below wr.heap.size wr (wr.alloc (.cells #[.int .i64 2, .int .i64 111, .int .i64 243] 92)) := (by repeat' (first | with_reducible exact Below.refl _ _ | with_reducible assumption | with_reducible refine Below.drew ?_ | with_reducible refine Below.alloc ?_ ?_ _ | with_reducible refine Below.setCell ?_ ?_ _ | (simp; done) | (simp; omega) | omega))
          have B2 := B1.belowb q
          have hb2 := hb.trans (q.mono hb.size)
          have d0' := B2.at 0 (v := .int .i64 0) rfl
          have d1' := B2.at 1 (v := .int .i64 0) rfl
          have z' := B2.froz
          clear q
          by_cases hx : a = 2
          · have hne : ((2 : Int) != a) = false := by simp [hx]
            by_cases h1 : c = 111
            · have he : (c == 111) = true := by simp [h1]
              obtain rfl : rs = 243 := by rw [← hr.out]; simp [letL, letF, hx, h1]
              obtain rfl : cd = 0 := by rw [HZ.out]; rfl
              clear hr HR HZ HCD HRS hx h1
              go_wp2
              refine bodyPost_ret (v := .agg #[.int .i64 0, .int .i64 243]) (by simp [results, Tryd.results22, go_sem, d0', d1', d0, d1, hlw]) rfl ⟨rfl, ?_⟩
              exact (by repeat' (first | with_reducible exact Below.refl _ _ | with_reducible assumption | with_reducible refine Below.drew ?_ | with_reducible refine Below.alloc ?_ ?_ _ | with_reducible refine Below.setCell ?_ ?_ _ | (simp; done) | (simp; omega) | omega))
            · have he : (c == 111) = false := by simp [h1]
              by_cases h2 : c = 79
              · have he2 : (c == 79) = true := by simp [h2]
                obtain rfl : rs = 211 := by rw [← hr.out]; simp [letL, letF, hx, h2]
                obtain rfl : cd = 0 := by rw [HZ.out]; rfl
                clear hr HR HZ HCD HRS hx h1 h2
                go_wp2
                refine bodyPost_ret (v := .agg #[.int .i64 0, .int .i64 211]) (by simp [results, Tryd.results22, go_sem, d0', d1', d0, d1, hlw]) rfl ⟨rfl, ?_⟩
                exact (by repeat' (first | with_reducible exact Below.refl _ _ | with_reducible assumption | with_reducible refine Below.drew ?_ | with_reducible refine Below.alloc ?_ ?_ _ | with_reducible refine Below.setCell ?_ ?_ _ | (simp; done) | (simp; omega) | omega))
              · have he2 : (c == 79) = false := by simp [h2]
                have E1 : Hid (letF a c (letL.drop 6) = rs) := by
                  show _ = _
                  rw [← hr.out]
                  show _ = letF a c ((2, 111, 243) :: letL.drop 6)
                  rw [letF, if_pos hx.symm, if_neg h1, if_neg (by omega)]
                clear hr hx h1 h2
                go_wp2
                go_roundw
                case rel => exact ⟨6, by omega, rfl, E1, hb2, B2⟩
                case measure => simp [intOf]
          · have hne : ((2 : Int) != a) = true := by simp; omega
            have E1 : Hid (letF a c (letL.drop 6) = rs) := by
              show _ = _
              rw [← hr.out]
              show _ = letF a c ((2, 111, 243) :: letL.drop 6)
              rw [letF, if_neg (fun h => hx h.symm)]
            clear hr hx
            go_wp2
            go_roundw
            case rel => exact ⟨6, by omega, rfl, E1, hb2, B2⟩
            case measure => simp [intOf]
        · have hix := let_at6
          have q : Below wr.heap.size wr (wr.alloc (.cells #[.int .i64 3, .int .i64 97, .int .i64 228] 92)) := (by repeat' (first | with_reducible exact Below.refl _ _ | with_reducible assumption | with_reducible refine Below.drew ?_ | with_reducible refine Below.alloc ?_ ?_ _ | with_reducible refine Below.setCell ?_ ?_ _ | (simp; done) | (simp; omega) | omega))
          have B2 := B1.belowb q
          have hb2 := hb.trans (q.mono hb.size)
          have d0' := B2.at 0 (v := .int .i64 0) rfl
          have d1' := B2.at 1 (v := .int .i64 0) rfl
          have z' := B2.froz
          clear q
          by_cases hx : a = 3
          · have hne : ((3 : Int) != a) = false := by simp [hx]
            by_cases h1 : c = 97
            · have he : (c == 97) = true := by simp [h1]
              obtain rfl : rs = 228 := by rw [← hr.out]; simp [letL, letF, hx, h1]
              obtain rfl : cd = 0 := by rw [HZ.out]; rfl
              clear hr HR HZ HCD HRS hx h1
              go_wp2
              refine bodyPost_ret (v := .agg #[.int .i64 0, .int .i64 228]) (by simp [results, Tryd.results22, go_sem, d0', d1', d0, d1, hlw]) rfl ⟨rfl, ?_⟩
              exact (by repeat' (first | with_reducible exact Below.refl _ _ | with_reducible assumption | with_reducible refine Below.drew ?_ | with_reducible refine Below.alloc ?_ ?_ _ | with_reducible refine Below.setCell ?_ ?_ _ | (simp; done) | (simp; omega) | omega))
            · have he : (c == 97) = false := by simp [h1]
              by_cases h2 : c = 65
              · have he2 : (c == 65) = true := by simp [h2]
                obtain rfl : rs = 196 := by rw [← hr.out]; simp [letL, letF, hx, h2]
                obtain rfl : cd = 0 := by rw [HZ.out]; rfl
                clear hr HR HZ HCD HRS hx h1 h2
                go_wp2
                refine bodyPost_ret (v := .agg #[.int .i64 0, .int .i64 196]) (by simp [results, Tryd.results22, go_sem, d0', d1', d0, d1, hlw]) rfl ⟨rfl, ?_⟩
                exact (by repeat' (first | with_reducible exact Below.refl _ _ | with_reducible assumption | with_reducible refine Below.drew ?_ | with_reducible refine Below.alloc ?_ ?_ _ | with_reducible refine Below.setCell ?_ ?_ _ | (simp; done) | (simp; omega) | omega))
              · have he2 : (c == 65) = false := by simp [h2]
                have E1 : Hid (letF a c (letL.drop 7) = rs) := by
                  show _ = _
                  rw [← hr.out]
                  show _ = letF a c ((3, 97, 228) :: letL.drop 7)
                  rw [letF, if_pos hx.symm, if_neg h1, if_neg (by omega)]
                clear hr hx h1 h2
                go_wp2
                go_roundw
                case rel => exact ⟨7, by omega, rfl, E1, hb2, B2⟩
                case measure => simp [intOf]
          · have hne : ((3 : Int) != a) = true := by simp; omega
            have E1 : Hid (letF a c (letL.drop 7) = rs) := by
              show _ = _
              rw [← hr.out]
              show _ = letF a c ((3, 97, 228) :: letL.drop 7)
              rw [letF, if_neg (fun h => hx h.symm)]
            clear hr hx
            go_wp2
            go_roundw
            case rel => exact ⟨7, by omega, rfl, E1, hb2, B2⟩
            case measure => simp [intOf]
        · have hix := let_at7
          have q : Below wr.heap.size wr (wr.alloc (.cells #[.int .i64 3, .int .i64 111, .int .i64 246] 92)) := (by repeat' (first | with_reducible exact Below.refl _ _ | with_reducible assumption | with_reducible refine Below.drew ?_ | with_reducible refine Below.alloc ?_ ?_ _ | with_reducible refine Below.setCell ?_ ?_ _ | (simp; done) | (simp; omega) | omega))
          have B2 := B1.belowb q
          have hb2 := hb.trans (q.mono hb.size)
          have d0' := B2.at 0 (v := .int .i64 0) rfl
          have d1' := B2.at 1 (v := .int .i64 0) rfl
          have z' := B2.froz
          clear q
          by_cases hx : a = 3
          · have hne : ((3 : Int) != a) = false := by simp [hx]
            by_cases h1 : c = 111
            · have he : (c == 111) = true := by simp [h1]
              obtain rfl : rs = 246 := by rw [← hr.out]; simp [letL, letF, hx, h1]
              obtain rfl : cd = 0 := by rw [HZ.out]; rfl
              clear hr HR HZ HCD HRS hx h1
              go_wp2
              refine bodyPost_ret (v := .agg #[.int .i64 0, .int .i64 246]) (by simp [results, Tryd.results22, go_sem, d0', d1', d0, d1, hlw]) rfl ⟨rfl, ?_⟩
              exact (by repeat' (first | with_reducible exact Below.refl _ _ | with_reducible assumption | with_reducible refine Below.drew ?_ | with_reducible refine Below.alloc ?_ ?_ _ | with_reducible refine Below.setCell ?_ ?_ _ | (simp; done) | (simp; omega) | omega))
            · have he : (c == 111) = false := by simp [h1]
              by_cases h2 : c = 79
              · have he2 : (c == 79) = true := by simp [h2]
                obtain rfl : rs = 214 := by rw [← hr.out]; simp [letL, letF, hx, h2]
                obtain rfl : cd = 0 := by rw [HZ.out]; rfl
                clear hr HR HZ HCD HRS hx h1 h2
                go_wp2
                refine bodyPost_ret (v := .agg #[.int .i64 0, .int .i64 214]) (by simp [results, Tryd.results22, go_sem, d0', d1', d0, d1, hlw]) rfl ⟨rfl, ?_⟩
                exact (by repeat' (first | with_reducible exact Below.refl _ _ | with_reducible assumption | with_reducible refine Below.drew ?_ | with_reducible refine Below.alloc ?_ ?_ _ | with_reducible refine Below.setCell ?_ ?_ _ | (simp; done) | (simp; omega) | omega))
              · have he2 : (c == 79) = false := by simp [h2]
                have E1 : Hid (letF a c (letL.drop 8) = rs) := by
                  show _ = _
                  rw [← hr.out]
                  show _ = letF a c ((3, 111, 246) :: letL.drop 8)
                  rw [letF, if_pos hx.symm, if_neg h1, if_neg (by omega)]
                clear hr hx h1 h2
                go_wp2
                go_roundw
                case rel => exact ⟨8, by omega, rfl, E1, hb2, B2⟩
                case measure => simp [intOf]
          · have hne : ((3 : Int) != a) = true := by simp; omega
            have E1 : Hid (letF a c (letL.drop 8) = rs) := by
              show _ = _
              rw [← hr.out]
              show _ = letF a c ((3, 111, 246) :: letL.drop 8)
              rw [letF, if_neg (fun h => hx h.symm)]
            clear hr hx
            go_wp2
            go_roundw
            case rel => exact ⟨8, by omega, rfl, E1, hb2, B2⟩
            case measure => simp [intOf]
        · have hix := let_at8
          have q : Below wr.heap.size wr (wr.alloc (.cells #[.int .i64 3, .int .i64 117, .int .i64 252] 92)) := (by repeat' (first | with_reducible exact Below.refl _ _ | with_reducible assumption | with_reducible refine Below.drew ?_ | with_reducible refine Below.alloc ?_ ?_ _ | with_reducible refine Below.setCell ?_ ?_ _ | (simp; done) | (simp; omega) | omega))
          have B2 := B1.belowb q
          have hb2 := hb.trans (q.mono hb.size)
          have d0' := B2.at 0 (v := .int .i64 0) rfl
          have d1' := B2.at 1 (v := .int .i64 0) rfl
          have z' := B2.froz
          clear q
          by_cases hx : a = 3
          · have hne : ((3 : Int) != a) = false := by simp [hx]
            by_cases h1 : c = 117
            · have he : (c == 117) = true := by simp [h1]
              obtain rfl : rs = 252 := by rw [← hr.out]; simp [letL, letF, hx, h1]
              obtain rfl : cd = 0 := by rw [HZ.out]; rfl
              clear hr HR HZ HCD HRS hx h1
              go_wp2
              refine bodyPost_ret (v := .agg #[.int .i64 0, .int .i64 252]) (by simp [results, Tryd.results22, go_sem, d0', d1', d0, d1, hlw]) rfl ⟨rfl, ?_⟩
              exact (by repeat' (first | with_reducible exact Below.refl _ _ | with_reducible assumption | with_reducible refine Below.drew ?_ | with_reducible refine Below.alloc ?_ ?_ _ | with_reducible refine Below.setCell ?_ ?_ _ | (simp; done) | (simp; omega) | omega))
            · have he : (c == 117) = false := by simp [h1]
              by_cases h2 : c = 85
              · have he2 : (c == 85) = true := by simp [h2]
                obtain rfl : rs = 220 := by rw [← hr.out]; simp [letL, letF, hx, h2]
                obtain rfl : cd = 0 := by rw [HZ.out]; rfl
                clear hr HR HZ HCD HRS hx h1 h2
                go_wp2
                refine bodyPost_ret (v := .agg #[.int .i64 0, .int .i64 220]) (by simp [results, Tryd.results22, go_sem, d0', d1', d0, d1, hlw]) rfl ⟨rfl, ?_⟩
                exact (by repeat' (first | with_reducible exact Below.refl _ _ | with_reducible assumption | with_reducible refine Below.drew ?_ | with_reducible refine Below.alloc ?_ ?_ _ | with_reducible refine Below.setCell ?_ ?_ _ | (simp; done) | (simp; omega) | omega))
              · have he2 : (c == 85) = false := by simp [h2]
                have E1 : Hid (letF a c (letL.drop 9) = rs) := by
                  show _ = _
                  rw [← hr.out]
                  show _ = letF a c ((3, 117, 252) :: letL.drop 9)
                  rw [letF, if_pos hx.symm, if_neg h1, if_neg (by omega)]
                clear hr hx h1 h2
                go_wp2
                go_roundw
                case rel => exact ⟨9, by omega, rfl, E1, hb2, B2⟩
                case measure => simp [intOf]
          · have hne : ((3 : Int) != a) = true := by simp; omega
            have E1 : Hid (letF a c (letL.drop 9) = rs) := by
              show _ = _
              rw [← hr.out]
              show _ = letF a c ((3, 117, 252) :: letL.drop 9)
              rw [letF, if_neg (fun h => hx h.symm)]
            clear hr hx
            go_wp2
            go_roundw
            case rel => exact ⟨9, by omega, rfl, E1, hb2, B2⟩
            case measure => simp [intOf]
        · obtain rfl : rs = 0 := by rw [← hr.out]; rfl
          obtain rfl : cd = 4 := by rw [HZ.out]; rfl
          clear hr HR HZ HCD HRS
          go_wp2
          refine bodyPost_ret (v := .agg #[.int .i64 4, .int .i64 0]) (by simp [results, Tryd.results22, go_sem, d0, d1]) rfl ⟨rfl, ?_⟩
          exact (by repeat' (first | with_reducible exact Below.refl _ _ | with_reducible assumption | with_reducible refine Below.drew ?_ | with_reducible refine Below.alloc ?_ ?_ _ | with_reducible refine Below.setCell ?_ ?_ _ | (simp; done) | (simp; omega) | omega))
end Go.Proofs.YtcfechnkgefhcaaDoor
