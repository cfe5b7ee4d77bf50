/-
  The model's step: l1Min, l4Escape, l4Param walked.
-/
import Derived.Test.YtaljegjflkebcaaRows
import Derived.Test.YtaljegjflkebcaaStepMath
import Derived.Test.YtaljegjflkebcaaWithPar
import Derived.Test.YtaljegjflkebcaaCopyPar
import Derived.Test.YtaljegjflkebcaaUntil
import Derived.RegionTactic
import Derived.BigRegion
namespace Go.Proofs.Ytaljegjflkebcaa
open Go.ChangeShapes Go.WideShapes Go.ChangeAt Go.RowKit
set_option linter.unusedVariables false
set_option linter.unusedSimpArgs false

set_option maxHeartbeats 400000 in
theorem minOf_calls (a b : Int) (w : World) :
    Calls Try.prog 67 #[.int .i64 a, .int .i64 b] w fun e w' => e = .returned (.int .i64 (min b a)) ∧ w' = w := by
  by_cases h : a < b
  · rw [show min b a = a by omega]
    go_enter Try.func67, Try.ntmps67
    go_wp2
    go_ret
    exact ⟨rfl, rfl⟩
  · rw [show min b a = b by omega]
    go_enter Try.func67, Try.ntmps67
    go_wp2
    go_ret
    exact ⟨rfl, rfl⟩

/-- What comes of a character behind an escape. -/
def escPA (c : Int) : Par × Axn :=
  if c = 91 then (⟨2, 0, false, [0]⟩, Axn.zero) else if c = 40 then (⟨3, 1, false, []⟩, Axn.zero) else if c = 41 then (⟨3, 2, false, []⟩, Axn.zero)
  else if 48 ≤ c ∧ c ≤ 126 then (Par.zero, ⟨3, c, 0, false, []⟩) else (Par.zero, Axn.zero)
/-- .. and among numbers. -/
def numPA (p : Par) (c : Int) : Par × Axn := if c < 64 then (paramP p c, Axn.zero) else if c ≤ 126 then (Par.zero, ⟨4, c, 0, p.pv, p.ns⟩) else (Par.zero, Axn.zero)
def parVal (p : Par) (v : Value) : Value := .agg #[.int .i64 p.md, .int .i64 p.st, .bool p.pv, v]
def axnVal (a : Axn) (v : Value) : Value := .agg #[.int .i64 a.kd, .int .i64 a.ch, .int .i64 a.st, .bool a.pv, v]
/-- The model's answer: an action and a parser, their lists the call's own; at most one of them not nil. -/
def StepPost (base : Nat) (q : Par × Axn) (w : World) (e : Ending) (w' : World) : Prop :=
  ∃ u x, e = .returned (.tuple #[axnVal q.2 u, parVal q.1 x]) ∧ w'.ownsRow base 2 1 u q.2.ns.length (intsV q.2.ns) ∧ w'.ownsRow base 2 1 x q.1.ns.length (intsV q.1.ns) ∧ (u = .slice none 0 0 ∨ x = .slice none 0 0) ∧ Below base w w'

set_option maxHeartbeats 1000000 in
theorem l4Escape_open (c : Int) (w : World) (hc : c = 91) :
    Calls Try.prog 59 #[.int .i64 c] w (StepPost w.heap.size (escPA c) w) := by
  have hs : escPA c = (⟨2, 0, false, [0]⟩, Axn.zero) := by unfold escPA; rw [if_pos hc]
  rw [hs]
  clear hs
  unfold StepPost axnVal parVal
  dsimp only [Par.zero, Axn.zero]
  subst hc
  go_enter Try.func59, Try.ntmps59
  go_wp2
  all_goals refine bodyPost_ret (v := .tuple #[.agg #[.int .i64 0, .int .i64 0, .int .i64 0, .bool false, .slice none 0 0], .agg #[.int .i64 2, .int .i64 0, .bool false, .slice (some ⟨w.heap.size + 2, 0, none⟩) 1 1]]) (by simp only [results, Try.results59]; simp [go_sem]) rfl ⟨.slice none 0 0, .slice (some ⟨w.heap.size + 2, 0, none⟩) 1 1, rfl, World.ownsRow_nil _ _ _ _, (by repeat' (first | with_reducible exact own_one (by simp; omega) (by simp; done) | with_reducible refine own_alloc ?_ _ | with_reducible refine own_drew ?_ | with_reducible refine own_setCell ?_ ?_ | (simp [Value.ownBlock]; done) | (simp [Value.ownBlock]; omega) | omega)), .inl rfl, (by repeat' (first | with_reducible exact Below.refl _ _ | with_reducible assumption | with_reducible refine Below.drew ?_ | with_reducible refine Below.alloc ?_ ?_ _ | with_reducible refine Below.setCell ?_ ?_ _ | (simp; done) | (simp; omega) | omega))⟩

set_option maxHeartbeats 1000000 in
theorem l4Escape_first (c : Int) (w : World) (hc : c = 40) :
    Calls Try.prog 59 #[.int .i64 c] w (StepPost w.heap.size (escPA c) w) := by
  have hs : escPA c = (⟨3, 1, false, []⟩, Axn.zero) := by unfold escPA; rw [if_neg (by omega), if_pos hc]
  rw [hs]
  clear hs
  unfold StepPost axnVal parVal
  dsimp only [Par.zero, Axn.zero]
  subst hc
  go_enter Try.func59, Try.ntmps59
  go_wp2
  all_goals refine bodyPost_ret (v := .tuple #[.agg #[.int .i64 0, .int .i64 0, .int .i64 0, .bool false, .slice none 0 0], .agg #[.int .i64 3, .int .i64 1, .bool false, .slice none 0 0]]) (by simp only [results, Try.results59]; simp [go_sem]) rfl ⟨.slice none 0 0, .slice none 0 0, rfl, World.ownsRow_nil _ _ _ _, World.ownsRow_nil _ _ _ _, .inl rfl, (by repeat' (first | with_reducible exact Below.refl _ _ | with_reducible assumption | with_reducible refine Below.drew ?_ | with_reducible refine Below.alloc ?_ ?_ _ | with_reducible refine Below.setCell ?_ ?_ _ | (simp; done) | (simp; omega) | omega))⟩

set_option maxHeartbeats 1000000 in
theorem l4Escape_second (c : Int) (w : World) (hc : c = 41) :
    Calls Try.prog 59 #[.int .i64 c] w (StepPost w.heap.size (escPA c) w) := by
  have hs : escPA c = (⟨3, 2, false, []⟩, Axn.zero) := by unfold escPA; rw [if_neg (by omega), if_neg (by omega), if_pos hc]
  rw [hs]
  clear hs
  unfold StepPost axnVal parVal
  dsimp only [Par.zero, Axn.zero]
  subst hc
  go_enter Try.func59, Try.ntmps59
  go_wp2
  all_goals refine bodyPost_ret (v := .tuple #[.agg #[.int .i64 0, .int .i64 0, .int .i64 0, .bool false, .slice none 0 0], .agg #[.int .i64 3, .int .i64 2, .bool false, .slice none 0 0]]) (by simp only [results, Try.results59]; simp [go_sem]) rfl ⟨.slice none 0 0, .slice none 0 0, rfl, World.ownsRow_nil _ _ _ _, World.ownsRow_nil _ _ _ _, .inl rfl, (by repeat' (first | with_reducible exact Below.refl _ _ | with_reducible assumption | with_reducible refine Below.drew ?_ | with_reducible refine Below.alloc ?_ ?_ _ | with_reducible refine Below.setCell ?_ ?_ _ | (simp; done) | (simp; omega) | omega))⟩

set_option maxHeartbeats 1000000 in
theorem l4Escape_letter (c : Int) (w : World) (h91 : ¬ c = 91) (h40 : ¬ c = 40) (h41 : ¬ c = 41) (hl : 48 ≤ c) (hr : c ≤ 126) :
    Calls Try.prog 59 #[.int .i64 c] w (StepPost w.heap.size (escPA c) w) := by
  have hs : escPA c = (Par.zero, ⟨3, c, 0, false, []⟩) := by unfold escPA; rw [if_neg h91, if_neg h40, if_neg h41, if_pos ⟨hl, hr⟩]
  rw [hs]
  clear hs
  unfold StepPost axnVal parVal
  dsimp only [Par.zero, Axn.zero]
  have q91 : (c == 91) = false := by simp; omega
  have q40 : (c == 40) = false := by simp; omega
  have q41 : (c == 41) = false := by simp; omega
  have hd : decide ((48 : Int) ≤ c ∧ c ≤ 126) = true := by simp; omega
  clear h91 h40 h41
  go_enter Try.func59, Try.ntmps59
  go_wp2_with fail
  refine (l1In_calls c 48 126 _).mono ?_
  rintro e w' ⟨rfl, hw⟩
  rw [hw, hd]
  clear hw w'
  go_wp2
  all_goals refine bodyPost_ret (v := .tuple #[.agg #[.int .i64 3, .int .i64 c, .int .i64 0, .bool false, .slice none 0 0], .agg #[.int .i64 0, .int .i64 0, .bool false, .slice none 0 0]]) (by simp only [results, Try.results59]; simp [go_sem]) rfl ⟨.slice none 0 0, .slice none 0 0, rfl, World.ownsRow_nil _ _ _ _, World.ownsRow_nil _ _ _ _, .inl rfl, (by repeat' (first | with_reducible exact Below.refl _ _ | with_reducible assumption | with_reducible refine Below.drew ?_ | with_reducible refine Below.alloc ?_ ?_ _ | with_reducible refine Below.setCell ?_ ?_ _ | (simp; done) | (simp; omega) | omega))⟩

set_option maxHeartbeats 1000000 in
theorem l4Escape_none (c : Int) (w : World) (h91 : ¬ c = 91) (h40 : ¬ c = 40) (h41 : ¬ c = 41) (hl : ¬ (48 ≤ c ∧ c ≤ 126)) :
    Calls Try.prog 59 #[.int .i64 c] w (StepPost w.heap.size (escPA c) w) := by
  have hs : escPA c = (Par.zero, Axn.zero) := by unfold escPA; rw [if_neg h91, if_neg h40, if_neg h41, if_neg hl]
  rw [hs]
  clear hs
  unfold StepPost axnVal parVal
  dsimp only [Par.zero, Axn.zero]
  have q91 : (c == 91) = false := by simp; omega
  have q40 : (c == 40) = false := by simp; omega
  have q41 : (c == 41) = false := by simp; omega
  have hd : decide ((48 : Int) ≤ c ∧ c ≤ 126) = false := by simp; omega
  clear h91 h40 h41
  go_enter Try.func59, Try.ntmps59
  go_wp2_with fail
  refine (l1In_calls c 48 126 _).mono ?_
  rintro e w' ⟨rfl, hw⟩
  rw [hw, hd]
  clear hw w'
  go_wp2
  all_goals refine bodyPost_ret (v := .tuple #[.agg #[.int .i64 0, .int .i64 0, .int .i64 0, .bool false, .slice none 0 0], .agg #[.int .i64 0, .int .i64 0, .bool false, .slice none 0 0]]) (by simp only [results, Try.results59]; simp [go_sem]) rfl ⟨.slice none 0 0, .slice none 0 0, rfl, World.ownsRow_nil _ _ _ _, World.ownsRow_nil _ _ _ _, .inl rfl, (by repeat' (first | with_reducible exact Below.refl _ _ | with_reducible assumption | with_reducible refine Below.drew ?_ | with_reducible refine Below.alloc ?_ ?_ _ | with_reducible refine Below.setCell ?_ ?_ _ | (simp; done) | (simp; omega) | omega))⟩

theorem l4Escape_calls (c : Int) (w : World) : Calls Try.prog 59 #[.int .i64 c] w (StepPost w.heap.size (escPA c) w) := by
  by_cases h91 : c = 91
  · exact l4Escape_open c w h91
  by_cases h40 : c = 40
  · exact l4Escape_first c w h40
  by_cases h41 : c = 41
  · exact l4Escape_second c w h41
  by_cases hl : 48 ≤ c ∧ c ≤ 126
  · exact l4Escape_letter c w h91 h40 h41 hl.1 hl.2
  · exact l4Escape_none c w h91 h40 h41 hl

set_option maxHeartbeats 1000000 in
theorem l4Param_none (md st : Int) (pv : Bool) (ns : List Int) (c : Int) (base : Nat) (v : Value) (w : World) (hl : 0 < ns.length) (hl6 : ns.length ≤ 6) (hx : ∀ x ∈ ns, 0 ≤ x ∧ x ≤ 999) (hbase : base ≤ w.heap.size) (hown : w.ownsRow base 2 1 v ns.length (intsV ns)) (hc : c < 64) (hc1 : ¬ (48 ≤ c ∧ c ≤ 57)) (h59 : ¬ c = 59) (h63 : ¬ c = 63) :
    Calls Try.prog 60 #[.agg #[.int .i64 md, .int .i64 st, .bool pv, v], .int .i64 c] w (StepPost base (numPA ⟨md, st, pv, ns⟩ c) w) := by
  have hs : numPA ⟨md, st, pv, ns⟩ c = (⟨md, st, pv, ns⟩, Axn.zero) := by unfold numPA; rw [if_pos (by omega)]; unfold paramP; rw [if_neg hc1, if_neg h59, if_neg h63]
  rw [hs]
  clear hs
  unfold StepPost axnVal parVal
  dsimp only [Par.zero, Axn.zero]
  obtain ⟨g, cap, rfl, hgb, hgs, hgc, hgf⟩ := own_spot hown hl
  have HC := hide hgc
  clear hgc
  have hd : decide ((48 : Int) ≤ c ∧ c ≤ 57) = false := by simp; omega
  have hd2 : decide ((64 : Int) ≤ c ∧ c ≤ 126) = false := by simp; omega
  have q126 : ¬ 126 < c := by omega
  have q59 : (c == 59) = false := by simp; omega
  have q63 : (c == 63) = false := by simp; omega
  clear hc1 h59 h63
  go_enter Try.func60, Try.ntmps60
  go_wp2_with fail
  refine (l1In_calls c 48 57 _).mono ?_
  rintro e w' ⟨rfl, hw⟩
  rw [hw, hd]
  clear hw w'
  go_wp2_with fail
  refine (l1In_calls c 64 126 _).mono ?_
  rintro e w' ⟨rfl, hw⟩
  rw [hw, hd2]
  clear hw w'
  go_wp2
  go_region
  all_goals go_wp2
  all_goals refine bodyPost_ret (v := .tuple #[.agg #[.int .i64 0, .int .i64 0, .int .i64 0, .bool false, .slice none 0 0], .agg #[.int .i64 md, .int .i64 st, .bool pv, .slice (some ⟨g, 0, none⟩) ns.length cap]]) (by simp only [results, Try.results60]; simp [go_sem]) rfl ⟨.slice none 0 0, .slice (some ⟨g, 0, none⟩) ns.length cap, rfl, World.ownsRow_nil _ _ _ _, (by repeat' (first | with_reducible exact hown | with_reducible refine own_alloc ?_ _ | with_reducible refine own_drewN ?_ | with_reducible refine own_drew ?_ | with_reducible refine own_setCell ?_ ?_ | (simp [Value.ownBlock]; done) | (simp [Value.ownBlock]; omega) | omega)), .inl rfl, ((show Below w.heap.size w _ from (by repeat' (first | with_reducible exact Below.refl _ _ | with_reducible assumption | with_reducible refine Below.drew ?_ | with_reducible refine Below.alloc ?_ ?_ _ | with_reducible refine Below.setCell ?_ ?_ _ | (simp; done) | (simp; omega) | omega))).mono hbase)⟩

set_option maxHeartbeats 1000000 in
theorem l4Param_full (md st : Int) (pv : Bool) (ns : List Int) (c : Int) (base : Nat) (v : Value) (w : World) (hl : 0 < ns.length) (hl6 : ns.length ≤ 6) (hx : ∀ x ∈ ns, 0 ≤ x ∧ x ≤ 999) (hbase : base ≤ w.heap.size) (hown : w.ownsRow base 2 1 v ns.length (intsV ns)) (hc : c = 59) (hl5 : ¬ ns.length < 6) :
    Calls Try.prog 60 #[.agg #[.int .i64 md, .int .i64 st, .bool pv, v], .int .i64 c] w (StepPost base (numPA ⟨md, st, pv, ns⟩ c) w) := by
  have hs : numPA ⟨md, st, pv, ns⟩ c = (⟨md, st, pv, ns⟩, Axn.zero) := by unfold numPA; rw [if_pos (by omega)]; unfold paramP; rw [if_neg (by omega), if_pos hc, if_neg hl5]
  rw [hs]
  clear hs
  unfold StepPost axnVal parVal
  dsimp only [Par.zero, Axn.zero]
  obtain ⟨g, cap, rfl, hgb, hgs, hgc, hgf⟩ := own_spot hown hl
  have HC := hide hgc
  clear hgc
  subst hc
  have hd : decide ((48 : Int) ≤ 59 ∧ (59 : Int) ≤ 57) = false := rfl
  have q2 : ¬ ((ns.length : Int) < 6) := by omega
  go_enter Try.func60, Try.ntmps60
  go_wp2_with fail
  refine (l1In_calls 59 48 57 _).mono ?_
  rintro e w' ⟨rfl, hw⟩
  rw [hw, hd]
  clear hw w'
  go_wp2
  go_region
  all_goals go_wp2
  all_goals refine bodyPost_ret (v := .tuple #[.agg #[.int .i64 0, .int .i64 0, .int .i64 0, .bool false, .slice none 0 0], .agg #[.int .i64 md, .int .i64 st, .bool pv, .slice (some ⟨g, 0, none⟩) ns.length cap]]) (by simp only [results, Try.results60]; simp [go_sem]) rfl ⟨.slice none 0 0, .slice (some ⟨g, 0, none⟩) ns.length cap, rfl, World.ownsRow_nil _ _ _ _, (by repeat' (first | with_reducible exact hown | with_reducible refine own_alloc ?_ _ | with_reducible refine own_drewN ?_ | with_reducible refine own_drew ?_ | with_reducible refine own_setCell ?_ ?_ | (simp [Value.ownBlock]; done) | (simp [Value.ownBlock]; omega) | omega)), .inl rfl, ((show Below w.heap.size w _ from (by repeat' (first | with_reducible exact Below.refl _ _ | with_reducible assumption | with_reducible refine Below.drew ?_ | with_reducible refine Below.alloc ?_ ?_ _ | with_reducible refine Below.setCell ?_ ?_ _ | (simp; done) | (simp; omega) | omega))).mono hbase)⟩

set_option maxHeartbeats 1000000 in
theorem l4Param_priv (md st : Int) (pv : Bool) (ns : List Int) (c : Int) (base : Nat) (v : Value) (w : World) (hl : 0 < ns.length) (hl6 : ns.length ≤ 6) (hx : ∀ x ∈ ns, 0 ≤ x ∧ x ≤ 999) (hbase : base ≤ w.heap.size) (hown : w.ownsRow base 2 1 v ns.length (intsV ns)) (hc : c = 63) :
    Calls Try.prog 60 #[.agg #[.int .i64 md, .int .i64 st, .bool pv, v], .int .i64 c] w (StepPost base (numPA ⟨md, st, pv, ns⟩ c) w) := by
  have hs : numPA ⟨md, st, pv, ns⟩ c = (⟨md, st, true, ns⟩, Axn.zero) := by unfold numPA; rw [if_pos (by omega)]; unfold paramP; rw [if_neg (by omega), if_neg (by omega), if_pos hc]
  rw [hs]
  clear hs
  unfold StepPost axnVal parVal
  dsimp only [Par.zero, Axn.zero]
  obtain ⟨g, cap, rfl, hgb, hgs, hgc, hgf⟩ := own_spot hown hl
  have HC := hide hgc
  clear hgc
  subst hc
  have hd : decide ((48 : Int) ≤ 63 ∧ (63 : Int) ≤ 57) = false := rfl
  go_enter Try.func60, Try.ntmps60
  go_wp2_with fail
  refine (l1In_calls 63 48 57 _).mono ?_
  rintro e w' ⟨rfl, hw⟩
  rw [hw, hd]
  clear hw w'
  go_wp2
  go_region
  all_goals go_wp2
  all_goals refine bodyPost_ret (v := .tuple #[.agg #[.int .i64 0, .int .i64 0, .int .i64 0, .bool false, .slice none 0 0], .agg #[.int .i64 md, .int .i64 st, .bool true, .slice (some ⟨g, 0, none⟩) ns.length cap]]) (by simp only [results, Try.results60]; simp [go_sem]) rfl ⟨.slice none 0 0, .slice (some ⟨g, 0, none⟩) ns.length cap, rfl, World.ownsRow_nil _ _ _ _, (by repeat' (first | with_reducible exact hown | with_reducible refine own_alloc ?_ _ | with_reducible refine own_drewN ?_ | with_reducible refine own_drew ?_ | with_reducible refine own_setCell ?_ ?_ | (simp [Value.ownBlock]; done) | (simp [Value.ownBlock]; omega) | omega)), .inl rfl, ((show Below w.heap.size w _ from (by repeat' (first | with_reducible exact Below.refl _ _ | with_reducible assumption | with_reducible refine Below.drew ?_ | with_reducible refine Below.alloc ?_ ?_ _ | with_reducible refine Below.setCell ?_ ?_ _ | (simp; done) | (simp; omega) | omega))).mono hbase)⟩

set_option maxHeartbeats 1000000 in
theorem l4Param_final (md st : Int) (pv : Bool) (ns : List Int) (c : Int) (base : Nat) (v : Value) (w : World) (hl : 0 < ns.length) (hl6 : ns.length ≤ 6) (hx : ∀ x ∈ ns, 0 ≤ x ∧ x ≤ 999) (hbase : base ≤ w.heap.size) (hown : w.ownsRow base 2 1 v ns.length (intsV ns)) (hc1 : 64 ≤ c) (hc2 : c ≤ 126) :
    Calls Try.prog 60 #[.agg #[.int .i64 md, .int .i64 st, .bool pv, v], .int .i64 c] w (StepPost base (numPA ⟨md, st, pv, ns⟩ c) w) := by
  have hs : numPA ⟨md, st, pv, ns⟩ c = (Par.zero, ⟨4, c, 0, pv, ns⟩) := by unfold numPA; rw [if_neg (by omega), if_pos hc2]
  rw [hs]
  clear hs
  unfold StepPost axnVal parVal
  dsimp only [Par.zero, Axn.zero]
  obtain ⟨g, cap, rfl, hgb, hgs, hgc, hgf⟩ := own_spot hown hl
  have HC := hide hgc
  clear hgc
  have hd : decide ((48 : Int) ≤ c ∧ c ≤ 57) = false := by simp; omega
  have hd2 : decide ((64 : Int) ≤ c ∧ c ≤ 126) = true := by simp; omega
  have q59 : (c == 59) = false := by simp; omega
  have q63 : (c == 63) = false := by simp; omega
  clear hc1 hc2
  go_enter Try.func60, Try.ntmps60
  go_wp2_with fail
  refine (l1In_calls c 48 57 _).mono ?_
  rintro e w' ⟨rfl, hw⟩
  rw [hw, hd]
  clear hw w'
  go_wp2_with fail
  refine (l1In_calls c 64 126 _).mono ?_
  rintro e w' ⟨rfl, hw⟩
  rw [hw, hd2]
  clear hw w'
  go_wp2
  all_goals refine bodyPost_ret (v := .tuple #[.agg #[.int .i64 4, .int .i64 c, .int .i64 0, .bool pv, .slice (some ⟨g, 0, none⟩) ns.length cap], .agg #[.int .i64 0, .int .i64 0, .bool false, .slice none 0 0]]) (by simp only [results, Try.results60]; simp [go_sem]) rfl ⟨.slice (some ⟨g, 0, none⟩) ns.length cap, .slice none 0 0, rfl, (by repeat' (first | with_reducible exact hown | with_reducible refine own_alloc ?_ _ | with_reducible refine own_drewN ?_ | with_reducible refine own_drew ?_ | with_reducible refine own_setCell ?_ ?_ | (simp [Value.ownBlock]; done) | (simp [Value.ownBlock]; omega) | omega)), World.ownsRow_nil _ _ _ _, .inr rfl, ((show Below w.heap.size w _ from (by repeat' (first | with_reducible exact Below.refl _ _ | with_reducible assumption | with_reducible refine Below.drew ?_ | with_reducible refine Below.alloc ?_ ?_ _ | with_reducible refine Below.setCell ?_ ?_ _ | (simp; done) | (simp; omega) | omega))).mono hbase)⟩

set_option maxHeartbeats 1000000 in
theorem l4Param_beyond (md st : Int) (pv : Bool) (ns : List Int) (c : Int) (base : Nat) (v : Value) (w : World) (hl : 0 < ns.length) (hl6 : ns.length ≤ 6) (hx : ∀ x ∈ ns, 0 ≤ x ∧ x ≤ 999) (hbase : base ≤ w.heap.size) (hown : w.ownsRow base 2 1 v ns.length (intsV ns)) (hc : 126 < c) :
    Calls Try.prog 60 #[.agg #[.int .i64 md, .int .i64 st, .bool pv, v], .int .i64 c] w (StepPost base (numPA ⟨md, st, pv, ns⟩ c) w) := by
  have hs : numPA ⟨md, st, pv, ns⟩ c = (Par.zero, Axn.zero) := by unfold numPA; rw [if_neg (by omega), if_neg (by omega)]
  rw [hs]
  clear hs
  unfold StepPost axnVal parVal
  dsimp only [Par.zero, Axn.zero]
  obtain ⟨g, cap, rfl, hgb, hgs, hgc, hgf⟩ := own_spot hown hl
  have HC := hide hgc
  clear hgc
  have hd : decide ((48 : Int) ≤ c ∧ c ≤ 57) = false := by simp; omega
  have hd2 : decide ((64 : Int) ≤ c ∧ c ≤ 126) = false := by simp; omega
  have q59 : (c == 59) = false := by simp; omega
  have q63 : (c == 63) = false := by simp; omega
  go_enter Try.func60, Try.ntmps60
  go_wp2_with fail
  refine (l1In_calls c 48 57 _).mono ?_
  rintro e w' ⟨rfl, hw⟩
  rw [hw, hd]
  clear hw w'
  go_wp2_with fail
  refine (l1In_calls c 64 126 _).mono ?_
  rintro e w' ⟨rfl, hw⟩
  rw [hw, hd2]
  clear hw w'
  go_wp2
  all_goals refine bodyPost_ret (v := .tuple #[.agg #[.int .i64 0, .int .i64 0, .int .i64 0, .bool false, .slice none 0 0], .agg #[.int .i64 0, .int .i64 0, .bool false, .slice none 0 0]]) (by simp only [results, Try.results60]; simp [go_sem]) rfl ⟨.slice none 0 0, .slice none 0 0, rfl, World.ownsRow_nil _ _ _ _, World.ownsRow_nil _ _ _ _, .inl rfl, ((show Below w.heap.size w _ from (by repeat' (first | with_reducible exact Below.refl _ _ | with_reducible assumption | with_reducible refine Below.drew ?_ | with_reducible refine Below.alloc ?_ ?_ _ | with_reducible refine Below.setCell ?_ ?_ _ | (simp; done) | (simp; omega) | omega))).mono hbase)⟩

set_option maxHeartbeats 1000000 in
theorem l4Param_more (md st : Int) (pv : Bool) (ns : List Int) (c : Int) (base : Nat) (v : Value) (w : World) (hl : 0 < ns.length) (hl6 : ns.length ≤ 6) (hx : ∀ x ∈ ns, 0 ≤ x ∧ x ≤ 999) (hbase : base ≤ w.heap.size) (hown : w.ownsRow base 2 1 v ns.length (intsV ns)) (hc : c = 59) (hl5 : ns.length < 6) :
    Calls Try.prog 60 #[.agg #[.int .i64 md, .int .i64 st, .bool pv, v], .int .i64 c] w (StepPost base (numPA ⟨md, st, pv, ns⟩ c) w) := by
  have hs : numPA ⟨md, st, pv, ns⟩ c = (⟨md, st, pv, ns ++ [0]⟩, Axn.zero) := by unfold numPA; rw [if_pos (by omega)]; unfold paramP; rw [if_neg (by omega), if_pos hc, if_pos hl5]
  rw [hs]
  clear hs
  unfold StepPost axnVal parVal
  dsimp only [Par.zero, Axn.zero]
  obtain ⟨g, cap, rfl, hgb, hgs, hgc, hgf⟩ := own_spot hown hl
  have HC := hide hgc
  clear hgc
  have hd : decide ((48 : Int) ≤ 59 ∧ (59 : Int) ≤ 57) = false := rfl
  have q2 : ((ns.length : Int) < 6) := by omega
  obtain ⟨i0, hi, hz0, hz1, hz2⟩ := info_parts info_ints
  subst hc
  go_enter Try.func60, Try.ntmps60
  go_wp2_with fail
  refine (l1In_calls 59 48 57 _).mono ?_
  rintro e w' ⟨rfl, hw⟩
  rw [hw, hd]
  clear hw w'
  go_wp2_with (at_builtin; refine wpList_append_grow _ rfl (.tmp 36) (.tmp 37) 22 rfl base 2 i0 (.int .i64 0) 1 8 Try.underlying22 hi hz0 hz1 hz2 rfl (by decide) (.slice (some ⟨g, 0, none⟩) ns.length cap) ns.length (intsV ns) rfl ((((hown.alloc _).alloc _).alloc _).alloc _) ⟨w.heap.size + 3, 0, none⟩ 1 1 (intsV [0]) rfl rfl (new_row_at (by simp) rfl) (ints_one_cell _ _) (by unfold maxLen; omega) (by omega) (by simp; omega) ?_)
  intro v' w1 hown1 hgrow1
  rw [← intsV_append] at hown1
  have hown1' : w1.ownsRow base 2 1 v' (ns ++ [0]).length (intsV (ns ++ [0])) := by simpa using hown1
  obtain ⟨a3, c3, rfl⟩ := own_form hown1
  have hne0 : some (w.heap.size) ≠ (Value.slice (some ⟨g, 0, none⟩) ns.length cap).ownBlock := by simp [Value.ownBlock]; omega
  have k0_0 : w1.cell? ⟨w.heap.size, 0, none⟩ = some (.int .i64 md) := by rw [hgrow1.cell (by simp; try omega) hne0]; simp [go_sem]
  have k0_1 : w1.cell? ⟨w.heap.size, 1, none⟩ = some (.int .i64 st) := by rw [hgrow1.cell (by simp; try omega) hne0]; simp [go_sem]
  have k0_2 : w1.cell? ⟨w.heap.size, 2, none⟩ = some (.bool pv) := by rw [hgrow1.cell (by simp; try omega) hne0]; simp [go_sem]
  have k0_3 : w1.cell? ⟨w.heap.size, 3, none⟩ = some (.slice (some ⟨g, 0, none⟩) ns.length cap) := by rw [hgrow1.cell (by simp; try omega) hne0]; simp [go_sem]
  have f0 : ∀ o, w1.frozen? ⟨w.heap.size, o, none⟩ = false := fun o => by rw [hgrow1.frozen (by simp; try omega) hne0]; simp [go_sem]
  have HB0 := hide (hgrow1.apart (b := w.heap.size) (by simp; try omega) hne0)
  have hne1 : some (w.heap.size + 1) ≠ (Value.slice (some ⟨g, 0, none⟩) ns.length cap).ownBlock := by simp [Value.ownBlock]; omega
  have k1_0 : w1.cell? ⟨w.heap.size + 1, 0, none⟩ = some (.int .i64 0) := by rw [hgrow1.cell (by simp; try omega) hne1]; simp [go_sem]
  have k1_1 : w1.cell? ⟨w.heap.size + 1, 1, none⟩ = some (.int .i64 0) := by rw [hgrow1.cell (by simp; try omega) hne1]; simp [go_sem]
  have k1_2 : w1.cell? ⟨w.heap.size + 1, 2, none⟩ = some (.int .i64 0) := by rw [hgrow1.cell (by simp; try omega) hne1]; simp [go_sem]
  have k1_3 : w1.cell? ⟨w.heap.size + 1, 3, none⟩ = some (.bool false) := by rw [hgrow1.cell (by simp; try omega) hne1]; simp [go_sem]
  have k1_4 : w1.cell? ⟨w.heap.size + 1, 4, none⟩ = some (.slice none 0 0) := by rw [hgrow1.cell (by simp; try omega) hne1]; simp [go_sem]
  have f1 : ∀ o, w1.frozen? ⟨w.heap.size + 1, o, none⟩ = false := fun o => by rw [hgrow1.frozen (by simp; try omega) hne1]; simp [go_sem]
  have HB1 := hide (hgrow1.apart (b := w.heap.size + 1) (by simp; try omega) hne1)
  have hne2 : some (w.heap.size + 2) ≠ (Value.slice (some ⟨g, 0, none⟩) ns.length cap).ownBlock := by simp [Value.ownBlock]; omega
  have k2_0 : w1.cell? ⟨w.heap.size + 2, 0, none⟩ = some (.int .i64 0) := by rw [hgrow1.cell (by simp; try omega) hne2]; simp [go_sem]
  have k2_1 : w1.cell? ⟨w.heap.size + 2, 1, none⟩ = some (.int .i64 0) := by rw [hgrow1.cell (by simp; try omega) hne2]; simp [go_sem]
  have k2_2 : w1.cell? ⟨w.heap.size + 2, 2, none⟩ = some (.bool false) := by rw [hgrow1.cell (by simp; try omega) hne2]; simp [go_sem]
  have k2_3 : w1.cell? ⟨w.heap.size + 2, 3, none⟩ = some (.slice none 0 0) := by rw [hgrow1.cell (by simp; try omega) hne2]; simp [go_sem]
  have f2 : ∀ o, w1.frozen? ⟨w.heap.size + 2, o, none⟩ = false := fun o => by rw [hgrow1.frozen (by simp; try omega) hne2]; simp [go_sem]
  have HB2 := hide (hgrow1.apart (b := w.heap.size + 2) (by simp; try omega) hne2)
  have HG := hide (((((GrowTo.refl w (.slice (some ⟨g, 0, none⟩) ns.length cap)).more _).more _).more _).more _ |>.trans hgrow1 |>.below hbase hown.lt)
  have HO := hide hown1'
  clear hgrow1 hne0 hne1 hne2 hown1 hown1' HC
  go_wp2
  go_region
  all_goals go_wp2
  all_goals refine bodyPost_ret (v := .tuple #[.agg #[.int .i64 0, .int .i64 0, .int .i64 0, .bool false, .slice none 0 0], .agg #[.int .i64 md, .int .i64 st, .bool pv, .slice a3 (ns.length + 1) c3]]) (by simp only [results, Try.results60]; simp [go_sem, k0_0, k0_1, k0_2, k0_3, k1_0, k1_1, k1_2, k1_3, k1_4, k2_0, k2_1, k2_2, k2_3]) rfl ⟨.slice none 0 0, .slice a3 (ns.length + 1) c3, rfl, World.ownsRow_nil _ _ _ _, ?_, .inl rfl, ?_⟩
  all_goals (repeat' (first | with_reducible exact HO.out | with_reducible exact HB0.out | with_reducible exact HB1.out | with_reducible exact HB2.out | with_reducible refine own_drew ?_ | with_reducible refine own_setCell ?_ ?_ | with_reducible exact HG.out | with_reducible refine Below.drew ?_ | with_reducible refine Below.setCell ?_ ?_ _ | (simp; done) | (simp; omega) | omega))

set_option maxHeartbeats 1000000 in
theorem l4Param_digit (md st : Int) (pv : Bool) (ns : List Int) (c : Int) (base : Nat) (v : Value) (w : World) (hl : 0 < ns.length) (hl6 : ns.length ≤ 6) (hx : ∀ x ∈ ns, 0 ≤ x ∧ x ≤ 999) (hbase : base ≤ w.heap.size) (hown : w.ownsRow base 2 1 v ns.length (intsV ns)) (hc1 : 48 ≤ c) (hc2 : c ≤ 57) :
    Calls Try.prog 60 #[.agg #[.int .i64 md, .int .i64 st, .bool pv, v], .int .i64 c] w (StepPost base (numPA ⟨md, st, pv, ns⟩ c) w) := by
  have hs : numPA ⟨md, st, pv, ns⟩ c = (⟨md, st, pv, digitL ns c⟩, Axn.zero) := by unfold numPA; rw [if_pos (by omega)]; unfold paramP; rw [if_pos ⟨hc1, hc2⟩]
  rw [hs]
  clear hs
  unfold StepPost axnVal parVal
  dsimp only [Par.zero, Axn.zero]
  obtain ⟨g, cap, rfl, hgb, hgs, hgc, hgf⟩ := own_spot hown hl
  have HC := hide hgc
  clear hgc
  have hd : decide ((48 : Int) ≤ c ∧ c ≤ 57) = true := by simp; omega
  generalize hL : ns.length - 1 = L
  have hLl : L < ns.length := by omega
  have g1 := HC.out L hLl
  have f1 := hgf L
  have hX : 0 ≤ ns.getD L 0 ∧ ns.getD L 0 ≤ 999 := hx _ (by rw [show ns.getD L 0 = ns[L] from by simp [List.getD_eq_getElem?_getD, hLl]]; exact List.getElem_mem hLl)
  have HD : Hid (digitL ns c = ns.set L (min (10 * ns.getD L 0 + c - 48) 999)) := hide (by unfold digitL; rw [hL])
  generalize ns.getD L 0 = x at *
  obtain ⟨hX1, hX2⟩ := hX
  have hq : ((ns.length : Int) - 1) = (L : Int) := by omega
  have w1 : IntKind.i64.wrap (10 * x) = 10 * x := wrap_small (by omega) (by omega)
  have w2 : IntKind.i64.wrap (10 * x + c) = 10 * x + c := wrap_small (by omega) (by omega)
  have w3 : IntKind.i64.wrap (10 * x + c - 48) = 10 * x + c - 48 := wrap_small (by omega) (by omega)
  have hLn : ((L : Nat) : Int).toNat = L := by omega
  have hLI : ((L : Int) < (ns.length : Int)) := by omega
  clear HC hx hgf
  go_enter Try.func60, Try.ntmps60
  go_wp2_with fail
  refine (l1In_calls c 48 57 _).mono ?_
  rintro e w' ⟨rfl, hw⟩
  rw [hw, hd]
  clear hw w'
  go_wp2_with fail
  refine till_region [14] (S := (fun w' => Below w.heap.size w w' ∧ w'.cell? ⟨w.heap.size, 3, none⟩ = some (.slice (some ⟨g, 0, none⟩) ns.length cap) ∧ w'.cell? ⟨g, L, none⟩ = some (.int .i64 x) ∧ w'.frozen? ⟨g, L, none⟩ = false)) (by kernel_rfl) ?_ (fun hHeld => ?_)
  · (try dsimp only); exact ⟨(by repeat' (first | with_reducible exact Below.refl _ _ | with_reducible assumption | with_reducible refine Below.drew ?_ | with_reducible refine Below.alloc ?_ ?_ _ | with_reducible refine Below.setCell ?_ ?_ _ | (simp; done) | (simp; omega) | omega)), by simp [go_sem], cellb (show Below w.heap.size w _ from (by repeat' (first | with_reducible exact Below.refl _ _ | with_reducible assumption | with_reducible refine Below.drew ?_ | with_reducible refine Below.alloc ?_ ?_ _ | with_reducible refine Below.setCell ?_ ?_ _ | (simp; done) | (simp; omega) | omega))) g1, ((show Below w.heap.size w _ from (by repeat' (first | with_reducible exact Below.refl _ _ | with_reducible assumption | with_reducible refine Below.drew ?_ | with_reducible refine Below.alloc ?_ ?_ _ | with_reducible refine Below.setCell ?_ ?_ _ | (simp; done) | (simp; omega) | omega))).frozen (p := ⟨g, L, none⟩) hgs).trans f1⟩
  refine till_take (i := 0) (oi := ⟨_, _, _, _, _, _⟩) (v := ?_) rfl (by kernel_rfl) (by kernel_rfl) (by kernel_rfl) (by kernel_rfl) (fun _ _ _ h => h) (Or.inl ⟨by rfl, ?_⟩) hHeld ?_
  rotate_left
  · (intro w hSw; (try dsimp only at hSw); go_simp; try (with_reducible rfl))
  try simp only [Act.put, List.setIfInBounds_toArray, List.set_cons_zero, List.set_cons_succ]
  refine till_take (i := 1) (oi := ⟨_, _, _, _, _, _⟩) (v := ?_) rfl (by kernel_rfl) (by kernel_rfl) (by kernel_rfl) (by kernel_rfl) (fun _ _ _ h => h) (Or.inl ⟨by rfl, ?_⟩) hHeld ?_
  rotate_left
  · (intro w hSw; (try dsimp only at hSw); go_simp; try (with_reducible rfl))
  try simp only [Act.put, List.setIfInBounds_toArray, List.set_cons_zero, List.set_cons_succ]
  refine till_take (i := 2) (oi := ⟨_, _, _, _, _, _⟩) (v := ?_) rfl (by kernel_rfl) (by kernel_rfl) (by kernel_rfl) (by kernel_rfl) (fun _ _ _ h => h) (Or.inl ⟨by rfl, ?_⟩) hHeld ?_
  rotate_left
  · (intro w hSw; (try dsimp only at hSw); go_simp; try (with_reducible rfl))
  try simp only [Act.put, List.setIfInBounds_toArray, List.set_cons_zero, List.set_cons_succ]
  refine till_take (i := 3) (oi := ⟨_, _, _, _, _, _⟩) (v := ?_) rfl (by kernel_rfl) (by kernel_rfl) (by kernel_rfl) (by kernel_rfl) (fun _ _ _ h => h) (Or.inl ⟨by rfl, ?_⟩) hHeld ?_
  rotate_left
  · (intro w hSw; (try dsimp only at hSw); go_simp; try (with_reducible rfl))
  try simp only [Act.put, List.setIfInBounds_toArray, List.set_cons_zero, List.set_cons_succ]
  refine till_take (i := 4) (oi := ⟨_, _, _, _, _, _⟩) (v := ?_) rfl (by kernel_rfl) (by kernel_rfl) (by kernel_rfl) (by kernel_rfl) (fun _ _ _ h => h) (Or.inl ⟨by rfl, ?_⟩) hHeld ?_
  rotate_left
  · (intro w hSw; (try dsimp only at hSw); go_simp; try (with_reducible rfl))
  try simp only [Act.put, List.setIfInBounds_toArray, List.set_cons_zero, List.set_cons_succ]
  refine till_take (i := 5) (oi := ⟨_, _, _, _, _, _⟩) (v := ?_) rfl (by kernel_rfl) (by kernel_rfl) (by kernel_rfl) (by kernel_rfl) (fun _ _ _ h => h) (Or.inl ⟨by rfl, ?_⟩) hHeld ?_
  rotate_left
  · (intro w hSw; (try dsimp only at hSw); go_simp; try (with_reducible rfl))
  try simp only [Act.put, List.setIfInBounds_toArray, List.set_cons_zero, List.set_cons_succ]
  refine till_take (i := 6) (oi := ⟨_, _, _, _, _, _⟩) (v := ?_) rfl (by kernel_rfl) (by kernel_rfl) (by kernel_rfl) (by kernel_rfl) (fun _ _ _ h => h) (Or.inl ⟨by rfl, ?_⟩) hHeld ?_
  rotate_left
  · (intro w hSw; (try dsimp only at hSw); go_simp; try (with_reducible rfl))
  try simp only [Act.put, List.setIfInBounds_toArray, List.set_cons_zero, List.set_cons_succ]
  refine till_take (i := 7) (oi := ⟨_, _, _, _, _, _⟩) (v := ?_) rfl (by kernel_rfl) (by kernel_rfl) (by kernel_rfl) (by kernel_rfl) (fun _ _ _ h => h) (Or.inl ⟨by rfl, ?_⟩) hHeld ?_
  rotate_left
  · (intro w hSw; (try dsimp only at hSw); go_simp; try (with_reducible rfl))
  try simp only [Act.put, List.setIfInBounds_toArray, List.set_cons_zero, List.set_cons_succ]
  refine till_take (i := 8) (oi := ⟨_, _, _, _, _, _⟩) (v := ?_) rfl (by kernel_rfl) (by kernel_rfl) (by kernel_rfl) (by kernel_rfl) (fun _ _ _ h => h) (Or.inl ⟨by rfl, ?_⟩) hHeld ?_
  rotate_left
  · (intro w hSw; (try dsimp only at hSw); go_simp; try (with_reducible rfl))
  try simp only [Act.put, List.setIfInBounds_toArray, List.set_cons_zero, List.set_cons_succ]
  refine till_take (i := 9) (oi := ⟨_, _, _, _, _, _⟩) (v := ?_) rfl (by kernel_rfl) (by kernel_rfl) (by kernel_rfl) (by kernel_rfl) (fun _ _ _ h => h) (Or.inl ⟨by rfl, ?_⟩) hHeld ?_
  rotate_left
  · (intro w hSw; (try dsimp only at hSw); go_simp; try (with_reducible rfl))
  try simp only [Act.put, List.setIfInBounds_toArray, List.set_cons_zero, List.set_cons_succ]
  refine till_take (i := 10) (oi := ⟨_, _, _, _, _, _⟩) (v := ?_) rfl (by kernel_rfl) (by kernel_rfl) (by kernel_rfl) (by kernel_rfl) (fun _ _ _ h => h) (Or.inl ⟨by rfl, ?_⟩) hHeld ?_
  rotate_left
  · (intro w hSw; (try dsimp only at hSw); go_simp; try (with_reducible rfl))
  try simp only [Act.put, List.setIfInBounds_toArray, List.set_cons_zero, List.set_cons_succ]
  refine till_take (i := 11) (oi := ⟨_, _, _, _, _, _⟩) (v := ?_) rfl (by kernel_rfl) (by kernel_rfl) (by kernel_rfl) (by kernel_rfl) (fun _ _ _ h => h) (Or.inl ⟨by rfl, ?_⟩) hHeld ?_
  rotate_left
  · (intro w hSw; (try dsimp only at hSw); go_simp; try (with_reducible rfl))
  try simp only [Act.put, List.setIfInBounds_toArray, List.set_cons_zero, List.set_cons_succ]
  refine till_ready (rs := [12]) (by kernel_rfl) (by simp) ?_
  refine EachTill.cons (o := ⟨_, _, _, _, _, _⟩) rfl (fun K hK => ?_) EachTill.nil
  go_simp
  go_at_call 67
  refine (minOf_calls 999 (10 * x + c - 48) _).mono ?_
  rintro e w9 ⟨rfl, hw9⟩
  rw [hw9]
  clear hw9 w9
  try go_wp2_with fail
  refine hK.out _ _ ?_ ?_
  · (try dsimp only); exact hHeld
  clear hHeld hK K
  intro hHeld
  try simp only [Act.put, List.setIfInBounds_toArray, List.set_cons_zero, List.set_cons_succ]
  refine till_take (i := 13) (oi := ⟨_, _, _, _, _, _⟩) (v := ?_) rfl (by kernel_rfl) (by kernel_rfl) (by kernel_rfl) (by kernel_rfl) (fun _ _ _ h => h) (Or.inl ⟨by rfl, ?_⟩) hHeld ?_
  rotate_left
  · (intro w hSw; (try dsimp only at hSw); go_simp; try (with_reducible rfl))
  try simp only [Act.put, List.setIfInBounds_toArray, List.set_cons_zero, List.set_cons_succ]
  refine till_ready (rs := [14]) (by kernel_rfl) (by simp) ?_
  refine EachTill.last (o := ⟨_, _, _, _, _, _⟩) rfl rfl (fun K hK => ?_) EachTill.nil
  go_simp
  refine hK.out _ _ ?_ ?_
  · (try dsimp only); first | done | trivial
  clear hHeld hK K
  intro hHeld
  try simp only [Act.put, List.setIfInBounds_toArray, List.set_cons_zero, List.set_cons_succ]
  refine till_done (by kernel_rfl) ?_ _
  clear hHeld
  generalize min (10 * x + c - 48) 999 = m at *
  go_wp2
  go_region
  all_goals go_wp2
  all_goals refine bodyPost_ret (v := .tuple #[.agg #[.int .i64 0, .int .i64 0, .int .i64 0, .bool false, .slice none 0 0], .agg #[.int .i64 md, .int .i64 st, .bool pv, .slice (some ⟨g, 0, none⟩) ns.length cap]]) (by simp only [results, Try.results60]; simp [go_sem]) rfl ⟨.slice none 0 0, .slice (some ⟨g, 0, none⟩) ns.length cap, rfl, World.ownsRow_nil _ _ _ _, ?_, .inl rfl, ?_⟩
  all_goals first
    | (rw [HD.out, List.length_set, intsV_set]; repeat' (first | with_reducible exact hown | with_reducible refine own_put ?_ hLl | with_reducible refine own_alloc ?_ _ | with_reducible refine own_drewN ?_ | with_reducible refine own_drew ?_ | with_reducible refine own_setCell ?_ ?_ | (simp [Value.ownBlock]; done) | (simp [Value.ownBlock]; omega)))
    | (repeat' (first | with_reducible exact Below.refl _ _ | with_reducible refine Below.drew ?_ | with_reducible refine Below.alloc ?_ ?_ _ | with_reducible refine Below.setCell ?_ ?_ _ | (simp; done) | (simp; omega) | omega))

theorem l4Param_calls (md st : Int) (pv : Bool) (ns : List Int) (c : Int) (base : Nat) (v : Value) (w : World) (hl : 0 < ns.length) (hl6 : ns.length ≤ 6) (hx : ∀ x ∈ ns, 0 ≤ x ∧ x ≤ 999) (hbase : base ≤ w.heap.size) (hown : w.ownsRow base 2 1 v ns.length (intsV ns)) :
    Calls Try.prog 60 #[.agg #[.int .i64 md, .int .i64 st, .bool pv, v], .int .i64 c] w (StepPost base (numPA ⟨md, st, pv, ns⟩ c) w) := by
  by_cases h1 : 48 ≤ c ∧ c ≤ 57
  · exact l4Param_digit md st pv ns c base v w hl hl6 hx hbase hown h1.1 h1.2
  by_cases h2 : c = 59
  · by_cases h3 : ns.length < 6
    · exact l4Param_more md st pv ns c base v w hl hl6 hx hbase hown h2 h3
    · exact l4Param_full md st pv ns c base v w hl hl6 hx hbase hown h2 h3
  by_cases h3 : c = 63
  · exact l4Param_priv md st pv ns c base v w hl hl6 hx hbase hown h3
  by_cases h4 : 126 < c
  · exact l4Param_beyond md st pv ns c base v w hl hl6 hx hbase hown h4
  by_cases h5 : 64 ≤ c
  · exact l4Param_final md st pv ns c base v w hl hl6 hx hbase hown h5 (by omega)
  · exact l4Param_none md st pv ns c base v w hl hl6 hx hbase hown (by omega) h1 h2 h3

end Go.Proofs.Ytaljegjflkebcaa
