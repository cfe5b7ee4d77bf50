/-
  Where one may go on a screen that is pointed at: rowsToGo, goToRow, goToColumn of the program, l5Go of the model.
-/
import Derived.Test.YtknkbihjboadjaaScrFns
import Derived.Test.YtknkbihjboadjaaSegMem
import Derived.Test.YtknkbihjboadjaaScrollSpec
import Derived.Deep.QuietTactic
import Derived.BigQuiet
namespace Go.Proofs.Ytknkbihjboadjaa
set_option maxRecDepth 20000
open Go.ChangeShapes Go.WideShapes Go.ChangeAt Go.RowKit
set_option linter.unusedVariables false
set_option linter.unusedSimpArgs false
set_option maxRecDepth 20000

def rowLo (s : Scr) : Int := if s.org = true then s.top else 0
def rowHi (s : Scr) : Int := if s.org = true then s.bot else s.r - 1
def goRow (s : Scr) (y : Int) : Scr := { s with y := max (rowLo s) (min y (rowHi s)), wrap := false }
def goCol (s : Scr) (x : Int) : Scr := { s with x := max 0 (min x (s.wd - 1)), wrap := false }
theorem min_ite (a b : Int) : (if b < a then b else a) = min a b := by omega
theorem max_ite (a b : Int) : (if a < b then b else a) = max a b := by omega
theorem Turn.drewN {O : Nat → Prop} {b p q : Nat} {w w' : World} (h : Turn O b p q w w') (n : Nat) : Turn O b p q w (w'.drewN n) := ⟨h.os, h.tape, h.output, h.size, h.block, h.self⟩
set_option maxHeartbeats 400000 in
theorem lastRow_calls (s : Scr) (v1 v2 v3 v4 : Value) (b ob : Nat) (w : World) (s1 : 1 ≤ s.r) (s2 : s.r ≤ 6) (hB : Seg w b ob (scrA s v1 v2 v3 v4)) :
    Calls Try.prog 116 #[.pointer (some ⟨b, ob, none⟩)] w fun e w' => e = .returned (.int .i64 (s.r - 1)) ∧ w' = w := by
  have g0 := hB.at0 (scrA_0 s v1 v2 v3 v4)
  have hw : IntKind.i64.wrap (s.r - 1) = s.r - 1 := wrap_small (by omega) (by omega)
  clear hB
  go_enter Try.func116, Try.ntmps116
  go_wp2
  go_ret
  exact ⟨rfl, rfl⟩
set_option maxHeartbeats 400000 in
theorem lastColumn_calls (s : Scr) (v1 v2 v3 v4 : Value) (b ob : Nat) (w : World) (s3 : 2 ≤ s.wd) (s4 : s.wd ≤ 12) (hB : Seg w b ob (scrA s v1 v2 v3 v4)) :
    Calls Try.prog 92 #[.pointer (some ⟨b, ob, none⟩)] w fun e w' => e = .returned (.int .i64 (s.wd - 1)) ∧ w' = w := by
  have g0 := hB.at 1 (scrA_1 s v1 v2 v3 v4)
  have hw : IntKind.i64.wrap (s.wd - 1) = s.wd - 1 := wrap_small (by omega) (by omega)
  clear hB
  go_enter Try.func92, Try.ntmps92
  go_wp2
  go_ret
  exact ⟨rfl, rfl⟩
set_option maxHeartbeats 1000000 in
theorem rowsToGo_calls (s : Scr) (v1 v2 v3 v4 : Value) (b ob : Nat) (w : World) (s1 : 1 ≤ s.r) (s2 : s.r ≤ 6) (hB : Seg w b ob (scrA s v1 v2 v3 v4)) :
    Calls Try.prog 91 #[.pointer (some ⟨b, ob, none⟩)] w fun e w' => e = .returned (.tuple #[.int .i64 (rowLo s), .int .i64 (rowHi s)]) ∧ ∃ n, w' = w.drewN n := by
  have g8 := hB.at 8 (scrA_8 s v1 v2 v3 v4)
  have g9 := hB.at 9 (scrA_9 s v1 v2 v3 v4)
  have g10 := hB.at 10 (scrA_10 s v1 v2 v3 v4)
  unfold rowLo rowHi
  cases ho : s.org
  · rw [ho] at g10
    go_enter Try.func91, Try.ntmps91
    go_wp2_with (go_at_call 116; refine (lastRow_calls s v1 v2 v3 v4 b ob _ s1 s2 hB).mono ?_; rintro e w' ⟨rfl, hw⟩; rw [hw]; clear hw w')
    go_ret2
    exact ⟨rfl, 0, rfl⟩
  · rw [ho] at g10
    clear hB
    go_enter Try.func91, Try.ntmps91
    go_wp2_with fail
    go_quiet (fail)
    go_wp2
    go_ret2
    exact ⟨rfl, _, rfl⟩
set_option maxHeartbeats 1000000 in
theorem goToColumn_calls (s : Scr) (v1 v2 v3 v4 : Value) (b ob : Nat) (O : Nat → Prop) (x : Int) (w : World) (s3 : 2 ≤ s.wd) (s4 : s.wd ≤ 12) (hB : Seg w b ob (scrA s v1 v2 v3 v4)) :
    Calls Try.prog 41 #[.pointer (some ⟨b, ob, none⟩), .int .i64 x] w fun e w' => (∃ u, e = .returned u) ∧ Seg w' b ob (scrA (goCol s x) v1 v2 v3 v4) ∧ Turn O b ob (ob + 20) w w' := by
  obtain ⟨m, hm⟩ : ∃ m, min x (s.wd - 1) = m := ⟨_, rfl⟩
  obtain ⟨k, hk⟩ : ∃ k, max 0 m = k := ⟨_, rfl⟩
  have e1 : goCol s x = { s with x := k, wrap := false } := by unfold goCol; rw [hm, hk]
  rw [e1]
  have i1 : (if s.wd - 1 < x then s.wd - 1 else x) = m := by rw [min_ite, hm]
  have i2 : (if 0 < m then m else 0) = k := by rw [max_ite, hk]
  have hT := Turn.refl O b ob (ob + 20) w
  clear e1 hm hk
  go_enter Try.func41, Try.ntmps41
  go_wp2_with (first | (go_at_call 92; refine (lastColumn_calls s v1 v2 v3 v4 b ob _ s3 s4 hB).mono ?_; rintro e w' ⟨rfl, hw⟩; rw [hw]; clear hw w') | (refine wpList_store_seg rfl O 2 _ _ rfl b ob 5 (scrA s v1 v2 v3 v4) (.int .i64 k) hB rfl rfl rfl (by kernel_rfl) rfl ?_; (try simp only [Act.put, List.setIfInBounds_toArray, List.set_cons_zero, List.set_cons_succ]); intro w1 hB' tt; replace hT := hT.trans tt; clear hB tt; have hB : Seg w1 b ob (scrA { s with x := k } v1 v2 v3 v4) := hB'; clear hB') | (refine wpList_store_seg rfl O 4 _ _ rfl b ob 6 (scrA { s with x := k } v1 v2 v3 v4) (.bool false) hB rfl rfl rfl (by kernel_rfl) rfl ?_; (try simp only [Act.put, List.setIfInBounds_toArray, List.set_cons_zero, List.set_cons_succ]); intro w2 hB' tt; replace hT := hT.trans tt; clear hB tt; have hB : Seg w2 b ob (scrA { s with x := k, wrap := false } v1 v2 v3 v4) := hB'; clear hB'))
  go_end0
  exact ⟨⟨_, rfl⟩, hB, hT⟩
set_option maxHeartbeats 1000000 in
theorem goToRow_calls (s : Scr) (v1 v2 v3 v4 : Value) (b ob : Nat) (O : Nat → Prop) (y : Int) (w : World) (s1 : 1 ≤ s.r) (s2 : s.r ≤ 6) (hB : Seg w b ob (scrA s v1 v2 v3 v4)) :
    Calls Try.prog 40 #[.pointer (some ⟨b, ob, none⟩), .int .i64 y] w fun e w' => (∃ u, e = .returned u) ∧ Seg w' b ob (scrA (goRow s y) v1 v2 v3 v4) ∧ Turn O b ob (ob + 20) w w' := by
  obtain ⟨m, hm⟩ : ∃ m, min y (rowHi s) = m := ⟨_, rfl⟩
  obtain ⟨k, hk⟩ : ∃ k, max (rowLo s) m = k := ⟨_, rfl⟩
  have e1 : goRow s y = { s with y := k, wrap := false } := by unfold goRow; rw [hm, hk]
  rw [e1]
  have i1 : (if rowHi s < y then rowHi s else y) = m := by rw [min_ite, hm]
  have i2 : (if rowLo s < m then m else rowLo s) = k := by rw [max_ite, hk]
  have hT := Turn.refl O b ob (ob + 20) w
  clear e1 hm hk
  go_enter Try.func40, Try.ntmps40
  go_wp2_with (first | (go_at_call 91; refine (rowsToGo_calls s v1 v2 v3 v4 b ob _ s1 s2 hB).mono ?_; rintro e w' ⟨rfl, n, hw⟩; rw [hw]; clear hw w'; replace hB := hB.drewN n; replace hT := hT.drewN n) | (refine wpList_store_seg rfl O 2 _ _ rfl b ob 4 (scrA s v1 v2 v3 v4) (.int .i64 k) hB rfl rfl rfl (by kernel_rfl) rfl ?_; (try simp only [Act.put, List.setIfInBounds_toArray, List.set_cons_zero, List.set_cons_succ]); intro w1 hB' tt; replace hT := hT.trans tt; clear hB tt; have hB : Seg w1 b ob (scrA { s with y := k } v1 v2 v3 v4) := hB'; clear hB') | (refine wpList_store_seg rfl O 4 _ _ rfl b ob 6 (scrA { s with y := k } v1 v2 v3 v4) (.bool false) hB rfl rfl rfl (by kernel_rfl) rfl ?_; (try simp only [Act.put, List.setIfInBounds_toArray, List.set_cons_zero, List.set_cons_succ]); intro w2 hB' tt; replace hT := hT.trans tt; clear hB tt; have hB : Seg w2 b ob (scrA { s with y := k, wrap := false } v1 v2 v3 v4) := hB'; clear hB'))
  go_end0
  exact ⟨⟨_, rfl⟩, hB, hT⟩
end Go.Proofs.Ytknkbihjboadjaa
