/-
  impl.ownParser, impl.hear walked: what a parser does with a character.
-/
import Derived.Test.YtaljegjflkebcaaRows
import Derived.Test.YtaljegjflkebcaaStepMath
import Derived.Test.YtaljegjflkebcaaActFaults
import Derived.Test.YtaljegjflkebcaaWithPar
import Derived.Test.YtaljegjflkebcaaHops
import Derived.RegionTactic
import Derived.BigRegion
namespace Go.Proofs.Ytaljegjflkebcaa
open Go.ChangeShapes Go.WideShapes Go.ChangeAt Go.RowKit
set_option linter.unusedVariables false
set_option linter.unusedSimpArgs false

def parV (p : Par) (v : Value) : Value := .agg #[.int .i64 p.md, .int .i64 p.st, .bool p.pv, v]
def axnV (a : Axn) (v : Value) : Value := .agg #[.int .i64 a.kd, .int .i64 a.ch, .int .i64 a.st, .bool a.pv, v]
/-- What hear answers: the parser and the action of stepPA; of the old blocks the row's own alone may have turned; the lists are the row's own, or new, and at most one of them is none. -/
def HearPost (base : Nat) (p : Par) (c : Int) (v : Value) (w : World) (e : Ending) (w' : World) : Prop :=
  ∃ x u, e = .returned (.tuple #[parV (stepPA p c).1 x, axnV (stepPA p c).2 u]) ∧ w'.ownsRow base 2 1 x (stepPA p c).1.ns.length (intsV (stepPA p c).1.ns) ∧ w'.ownsRow base 2 1 u (stepPA p c).2.ns.length (intsV (stepPA p c).2.ns) ∧
    w.grownBy w' v.ownBlock ∧ From w v x ∧ From w v u ∧ (x = .slice none 0 0 ∨ u = .slice none 0 0)

set_option maxRecDepth 20000 in
set_option maxHeartbeats 1000000 in
theorem hear_cancel24 (p : Par) (c : Int) (base : Nat) (v : Value) (w : World) (hbase : base ≤ w.heap.size) (hown : w.ownsRow base 2 1 v p.ns.length (intsV p.ns)) (hc : c = 24) :
    Calls Try.prog 42 #[parV p v, .int .i64 c] w (HearPost base p c v w) := by
  have hs : stepPA p c = (Par.zero, Axn.zero) := by unfold stepPA; rw [if_pos (by omega)]
  unfold HearPost
  rw [hs]
  clear hs
  obtain ⟨md, st, pv, ns⟩ := p
  obtain ⟨a1, c1, rfl⟩ := own_form hown
  have HLT := hide hown.lt
  unfold parV axnV
  dsimp only [Par.zero, Axn.zero] at *
  subst hc
  go_enter Try.func42, Try.ntmps42
  go_wp2
  refine wp_scope_named 2 fun cc HCC => ?_
  go_wp2
  go_step3
  refine hop_to HCC rfl ?_
  go_wp2
  clear HCC
  go_region
  all_goals go_wp2
  all_goals rw [hops_ret]
  all_goals refine bodyPost_ret (v := .tuple #[.agg #[.int .i64 0, .int .i64 0, .bool false, .slice none 0 0], .agg #[.int .i64 0, .int .i64 0, .int .i64 0, .bool false, .slice none 0 0]]) (by simp only [results, Try.results42]; simp [go_sem]) rfl ⟨.slice none 0 0, .slice none 0 0, rfl, World.ownsRow_nil _ _ _ _, World.ownsRow_nil _ _ _ _, (by repeat' (first | with_reducible exact grown_refl _ _ | with_reducible refine grown_alloc ?_ _ | with_reducible refine grown_drew ?_ | with_reducible refine grown_setCell ?_ ?_ _ | (simp; done) | (simp; omega) | omega)), From.nil _ _, From.nil _ _, .inl rfl⟩

set_option maxRecDepth 20000 in
set_option maxHeartbeats 1000000 in
theorem hear_cancel26 (p : Par) (c : Int) (base : Nat) (v : Value) (w : World) (hbase : base ≤ w.heap.size) (hown : w.ownsRow base 2 1 v p.ns.length (intsV p.ns)) (hc : c = 26) :
    Calls Try.prog 42 #[parV p v, .int .i64 c] w (HearPost base p c v w) := by
  have hs : stepPA p c = (Par.zero, Axn.zero) := by unfold stepPA; rw [if_pos (by omega)]
  unfold HearPost
  rw [hs]
  clear hs
  obtain ⟨md, st, pv, ns⟩ := p
  obtain ⟨a1, c1, rfl⟩ := own_form hown
  have HLT := hide hown.lt
  unfold parV axnV
  dsimp only [Par.zero, Axn.zero] at *
  subst hc
  go_enter Try.func42, Try.ntmps42
  go_wp2
  refine wp_scope_named 2 fun cc HCC => ?_
  go_wp2
  go_step3
  refine hop_to HCC rfl ?_
  go_wp2
  clear HCC
  go_region
  all_goals go_wp2
  all_goals rw [hops_ret]
  all_goals refine bodyPost_ret (v := .tuple #[.agg #[.int .i64 0, .int .i64 0, .bool false, .slice none 0 0], .agg #[.int .i64 0, .int .i64 0, .int .i64 0, .bool false, .slice none 0 0]]) (by simp only [results, Try.results42]; simp [go_sem]) rfl ⟨.slice none 0 0, .slice none 0 0, rfl, World.ownsRow_nil _ _ _ _, World.ownsRow_nil _ _ _ _, (by repeat' (first | with_reducible exact grown_refl _ _ | with_reducible refine grown_alloc ?_ _ | with_reducible refine grown_drew ?_ | with_reducible refine grown_setCell ?_ ?_ _ | (simp; done) | (simp; omega) | omega)), From.nil _ _, From.nil _ _, .inl rfl⟩

set_option maxRecDepth 20000 in
set_option maxHeartbeats 1000000 in
theorem hear_escape (p : Par) (c : Int) (base : Nat) (v : Value) (w : World) (hbase : base ≤ w.heap.size) (hown : w.ownsRow base 2 1 v p.ns.length (intsV p.ns)) (hc : c = 27) :
    Calls Try.prog 42 #[parV p v, .int .i64 c] w (HearPost base p c v w) := by
  have hs : stepPA p c = (⟨1, 0, false, []⟩, Axn.zero) := by unfold stepPA; rw [if_neg (by omega), if_pos hc]
  unfold HearPost
  rw [hs]
  clear hs
  obtain ⟨md, st, pv, ns⟩ := p
  obtain ⟨a1, c1, rfl⟩ := own_form hown
  have HLT := hide hown.lt
  unfold parV axnV
  dsimp only [Par.zero, Axn.zero] at *
  subst hc
  go_enter Try.func42, Try.ntmps42
  go_wp2
  refine wp_scope_named 2 fun cc HCC => ?_
  go_wp2
  go_step3
  refine hop_to HCC rfl ?_
  go_wp2
  clear HCC
  go_region
  all_goals go_wp2
  all_goals rw [hops_ret]
  all_goals refine bodyPost_ret (v := .tuple #[.agg #[.int .i64 1, .int .i64 0, .bool false, .slice none 0 0], .agg #[.int .i64 0, .int .i64 0, .int .i64 0, .bool false, .slice none 0 0]]) (by simp only [results, Try.results42]; simp [go_sem]) rfl ⟨.slice none 0 0, .slice none 0 0, rfl, World.ownsRow_nil _ _ _ _, World.ownsRow_nil _ _ _ _, (by repeat' (first | with_reducible exact grown_refl _ _ | with_reducible refine grown_alloc ?_ _ | with_reducible refine grown_drew ?_ | with_reducible refine grown_setCell ?_ ?_ _ | (simp; done) | (simp; omega) | omega)), From.nil _ _, From.nil _ _, .inl rfl⟩

set_option maxRecDepth 20000 in
set_option maxHeartbeats 1000000 in
theorem hear_control (p : Par) (c : Int) (base : Nat) (v : Value) (w : World) (hbase : base ≤ w.heap.size) (hown : w.ownsRow base 2 1 v p.ns.length (intsV p.ns)) (h24 : ¬ c = 24) (h26 : ¬ c = 26) (h27 : ¬ c = 27) (hc : c < 32) :
    Calls Try.prog 42 #[parV p v, .int .i64 c] w (HearPost base p c v w) := by
  have hs : stepPA p c = (p, ⟨2, c, 0, false, []⟩) := by unfold stepPA; rw [if_neg (by omega), if_neg h27, if_pos hc]
  unfold HearPost
  rw [hs]
  clear hs
  obtain ⟨md, st, pv, ns⟩ := p
  obtain ⟨a1, c1, rfl⟩ := own_form hown
  have HLT := hide hown.lt
  unfold parV axnV
  dsimp only [Par.zero, Axn.zero] at *
  have q24 : (c == 24) = false := by simp; omega
  have q26 : (c == 26) = false := by simp; omega
  have q27 : (c == 27) = false := by simp; omega
  clear h24 h26 h27
  go_enter Try.func42, Try.ntmps42
  go_wp2
  refine wp_scope_named 2 fun cc HCC => ?_
  go_wp2
  go_step3
  refine hop_to HCC rfl ?_
  go_wp2
  clear HCC
  go_region
  all_goals go_wp2
  all_goals rw [hops_ret]
  all_goals refine bodyPost_ret (v := .tuple #[.agg #[.int .i64 md, .int .i64 st, .bool pv, .slice a1 ns.length c1], .agg #[.int .i64 2, .int .i64 c, .int .i64 0, .bool false, .slice none 0 0]]) (by simp only [results, Try.results42]; simp [go_sem]) rfl ⟨.slice a1 ns.length c1, .slice none 0 0, rfl, (by repeat' (first | with_reducible exact hown | with_reducible refine own_alloc ?_ _ | with_reducible refine own_drewN ?_ | with_reducible refine own_drew ?_ | with_reducible refine own_setCell ?_ ?_ | (simp [Value.ownBlock]; done) | (simp [Value.ownBlock]; omega) | omega)), World.ownsRow_nil _ _ _ _, (by repeat' (first | with_reducible exact grown_refl _ _ | with_reducible refine grown_alloc ?_ _ | with_reducible refine grown_drew ?_ | with_reducible refine grown_setCell ?_ ?_ _ | (simp; done) | (simp; omega) | omega)), From.refl _ _, From.nil _ _, .inr rfl⟩

set_option maxRecDepth 20000 in
set_option maxHeartbeats 1000000 in
theorem hear_erase (p : Par) (c : Int) (base : Nat) (v : Value) (w : World) (hbase : base ≤ w.heap.size) (hown : w.ownsRow base 2 1 v p.ns.length (intsV p.ns)) (hc : c = 127) :
    Calls Try.prog 42 #[parV p v, .int .i64 c] w (HearPost base p c v w) := by
  have hs : stepPA p c = (p, Axn.zero) := by unfold stepPA; rw [if_neg (by omega), if_neg (by omega), if_neg (by omega), if_pos hc]
  unfold HearPost
  rw [hs]
  clear hs
  obtain ⟨md, st, pv, ns⟩ := p
  obtain ⟨a1, c1, rfl⟩ := own_form hown
  have HLT := hide hown.lt
  unfold parV axnV
  dsimp only [Par.zero, Axn.zero] at *
  subst hc
  go_enter Try.func42, Try.ntmps42
  go_wp2
  refine wp_scope_named 2 fun cc HCC => ?_
  go_wp2
  go_step3
  refine hop_to HCC rfl ?_
  go_wp2
  clear HCC
  go_region
  all_goals go_wp2
  all_goals rw [hops_ret]
  all_goals refine bodyPost_ret (v := .tuple #[.agg #[.int .i64 md, .int .i64 st, .bool pv, .slice a1 ns.length c1], .agg #[.int .i64 0, .int .i64 0, .int .i64 0, .bool false, .slice none 0 0]]) (by simp only [results, Try.results42]; simp [go_sem]) rfl ⟨.slice a1 ns.length c1, .slice none 0 0, rfl, (by repeat' (first | with_reducible exact hown | with_reducible refine own_alloc ?_ _ | with_reducible refine own_drewN ?_ | with_reducible refine own_drew ?_ | with_reducible refine own_setCell ?_ ?_ | (simp [Value.ownBlock]; done) | (simp [Value.ownBlock]; omega) | omega)), World.ownsRow_nil _ _ _ _, (by repeat' (first | with_reducible exact grown_refl _ _ | with_reducible refine grown_alloc ?_ _ | with_reducible refine grown_drew ?_ | with_reducible refine grown_setCell ?_ ?_ _ | (simp; done) | (simp; omega) | omega)), From.refl _ _, From.nil _ _, .inr rfl⟩

set_option maxRecDepth 20000 in
set_option maxHeartbeats 1000000 in
theorem hear_print (p : Par) (c : Int) (base : Nat) (v : Value) (w : World) (hbase : base ≤ w.heap.size) (hown : w.ownsRow base 2 1 v p.ns.length (intsV p.ns)) (hc : 32 ≤ c) (h127 : ¬ c = 127) (hm1 : ¬ p.md = 1) (hm2 : ¬ p.md = 2) (hm3 : ¬ p.md = 3) :
    Calls Try.prog 42 #[parV p v, .int .i64 c] w (HearPost base p c v w) := by
  have hs : stepPA p c = (Par.zero, ⟨1, c, 0, false, []⟩) := by unfold stepPA; rw [if_neg (by omega), if_neg (by omega), if_neg (by omega), if_neg h127, if_neg hm1, if_neg hm2, if_neg hm3]
  unfold HearPost
  rw [hs]
  clear hs
  obtain ⟨md, st, pv, ns⟩ := p
  obtain ⟨a1, c1, rfl⟩ := own_form hown
  have HLT := hide hown.lt
  unfold parV axnV
  dsimp only [Par.zero, Axn.zero] at *
  have q24 : (c == 24) = false := by simp; omega
  have q26 : (c == 26) = false := by simp; omega
  have q27 : (c == 27) = false := by simp; omega
  have q127 : (c == 127) = false := by simp; omega
  have q32 : ¬ c < 32 := by omega
  have m1 : (md == 1) = false := by simpa using hm1
  have m2 : (md == 2) = false := by simpa using hm2
  have m3 : (md == 3) = false := by simpa using hm3
  clear hm1 hm2 hm3 hc h127
  go_enter Try.func42, Try.ntmps42
  go_wp2
  refine wp_scope_named 2 fun cc HCC => ?_
  go_wp2
  go_step3
  refine hop_to HCC rfl ?_
  go_wp2
  clear HCC
  go_region
  all_goals go_wp2
  all_goals rw [hops_ret]
  all_goals refine bodyPost_ret (v := .tuple #[.agg #[.int .i64 0, .int .i64 0, .bool false, .slice none 0 0], .agg #[.int .i64 1, .int .i64 c, .int .i64 0, .bool false, .slice none 0 0]]) (by simp only [results, Try.results42]; simp [go_sem]) rfl ⟨.slice none 0 0, .slice none 0 0, rfl, World.ownsRow_nil _ _ _ _, World.ownsRow_nil _ _ _ _, (by repeat' (first | with_reducible exact grown_refl _ _ | with_reducible refine grown_alloc ?_ _ | with_reducible refine grown_drew ?_ | with_reducible refine grown_setCell ?_ ?_ _ | (simp; done) | (simp; omega) | omega)), From.nil _ _, From.nil _ _, .inl rfl⟩

set_option maxRecDepth 20000 in
set_option maxHeartbeats 1000000 in
theorem hear_set (p : Par) (c : Int) (base : Nat) (v : Value) (w : World) (hbase : base ≤ w.heap.size) (hown : w.ownsRow base 2 1 v p.ns.length (intsV p.ns)) (hc : 32 ≤ c) (h127 : ¬ c = 127) (hm : p.md = 3) :
    Calls Try.prog 42 #[parV p v, .int .i64 c] w (HearPost base p c v w) := by
  have hs : stepPA p c = (Par.zero, ⟨5, c, p.st, false, []⟩) := by unfold stepPA; rw [if_neg (by omega), if_neg (by omega), if_neg (by omega), if_neg h127, if_neg (by omega), if_neg (by omega), if_pos hm]
  unfold HearPost
  rw [hs]
  clear hs
  obtain ⟨md, st, pv, ns⟩ := p
  obtain ⟨a1, c1, rfl⟩ := own_form hown
  have HLT := hide hown.lt
  unfold parV axnV
  dsimp only [Par.zero, Axn.zero] at *
  have q24 : (c == 24) = false := by simp; omega
  have q26 : (c == 26) = false := by simp; omega
  have q27 : (c == 27) = false := by simp; omega
  have q127 : (c == 127) = false := by simp; omega
  have q32 : ¬ c < 32 := by omega
  subst hm
  clear hc h127
  go_enter Try.func42, Try.ntmps42
  go_wp2
  refine wp_scope_named 2 fun cc HCC => ?_
  go_wp2
  go_step3
  refine hop_to HCC rfl ?_
  go_wp2
  clear HCC
  go_region
  all_goals go_wp2
  all_goals rw [hops_ret]
  all_goals refine bodyPost_ret (v := .tuple #[.agg #[.int .i64 0, .int .i64 0, .bool false, .slice none 0 0], .agg #[.int .i64 5, .int .i64 c, .int .i64 st, .bool false, .slice none 0 0]]) (by simp only [results, Try.results42]; simp [go_sem]) rfl ⟨.slice none 0 0, .slice none 0 0, rfl, World.ownsRow_nil _ _ _ _, World.ownsRow_nil _ _ _ _, (by repeat' (first | with_reducible exact grown_refl _ _ | with_reducible refine grown_alloc ?_ _ | with_reducible refine grown_drew ?_ | with_reducible refine grown_setCell ?_ ?_ _ | (simp; done) | (simp; omega) | omega)), From.nil _ _, From.nil _ _, .inl rfl⟩

set_option maxRecDepth 20000 in
set_option maxHeartbeats 1000000 in
theorem hear_open (p : Par) (c : Int) (base : Nat) (v : Value) (w : World) (hbase : base ≤ w.heap.size) (hown : w.ownsRow base 2 1 v p.ns.length (intsV p.ns)) (hc : c = 91) (hm : p.md = 1) :
    Calls Try.prog 42 #[parV p v, .int .i64 c] w (HearPost base p c v w) := by
  have hs : stepPA p c = (⟨2, 0, false, [0]⟩, Axn.zero) := by unfold stepPA; subst hc; rw [if_neg (by omega), if_neg (by omega), if_neg (by omega), if_neg (by omega), if_pos hm, if_pos rfl]
  unfold HearPost
  rw [hs]
  clear hs
  obtain ⟨md, st, pv, ns⟩ := p
  obtain ⟨a1, c1, rfl⟩ := own_form hown
  have HLT := hide hown.lt
  unfold parV axnV
  dsimp only [Par.zero, Axn.zero] at *
  subst hc hm
  go_enter Try.func42, Try.ntmps42
  go_wp2
  refine wp_scope_named 2 fun cc HCC => ?_
  go_wp2
  go_step3
  refine hop_to HCC rfl ?_
  go_wp2
  clear HCC
  go_region
  all_goals go_wp2
  all_goals rw [hops_ret]
  all_goals refine bodyPost_ret (v := .tuple #[.agg #[.int .i64 2, .int .i64 0, .bool false, .slice (some ⟨w.heap.size + 4, 0, none⟩) 1 1], .agg #[.int .i64 0, .int .i64 0, .int .i64 0, .bool false, .slice none 0 0]]) (by simp only [results, Try.results42]; simp [go_sem]) rfl ⟨.slice (some ⟨w.heap.size + 4, 0, none⟩) 1 1, .slice none 0 0, rfl, (by repeat' (first | with_reducible exact own_one (by simp; omega) (by simp; done) | with_reducible refine own_alloc ?_ _ | with_reducible refine own_drew ?_ | with_reducible refine own_setCell ?_ ?_ | (simp [Value.ownBlock]; done) | (simp [Value.ownBlock]; omega) | omega)), World.ownsRow_nil _ _ _ _, (by repeat' (first | with_reducible exact grown_refl _ _ | with_reducible refine grown_alloc ?_ _ | with_reducible refine grown_drew ?_ | with_reducible refine grown_setCell ?_ ?_ _ | (simp; done) | (simp; omega) | omega)), (fun k hk => .inr (by simp [Value.ownBlock] at hk; omega)), From.nil _ _, .inr rfl⟩

set_option maxRecDepth 20000 in
set_option maxHeartbeats 1000000 in
theorem hear_first (p : Par) (c : Int) (base : Nat) (v : Value) (w : World) (hbase : base ≤ w.heap.size) (hown : w.ownsRow base 2 1 v p.ns.length (intsV p.ns)) (hc : c = 40) (hm : p.md = 1) :
    Calls Try.prog 42 #[parV p v, .int .i64 c] w (HearPost base p c v w) := by
  have hs : stepPA p c = (⟨3, 1, false, []⟩, Axn.zero) := by unfold stepPA; subst hc; rw [if_neg (by omega), if_neg (by omega), if_neg (by omega), if_neg (by omega), if_pos hm, if_neg (by omega), if_pos rfl]
  unfold HearPost
  rw [hs]
  clear hs
  obtain ⟨md, st, pv, ns⟩ := p
  obtain ⟨a1, c1, rfl⟩ := own_form hown
  have HLT := hide hown.lt
  unfold parV axnV
  dsimp only [Par.zero, Axn.zero] at *
  subst hc hm
  go_enter Try.func42, Try.ntmps42
  go_wp2
  refine wp_scope_named 2 fun cc HCC => ?_
  go_wp2
  go_step3
  refine hop_to HCC rfl ?_
  go_wp2
  clear HCC
  go_region
  all_goals go_wp2
  all_goals rw [hops_ret]
  all_goals refine bodyPost_ret (v := .tuple #[.agg #[.int .i64 3, .int .i64 1, .bool false, .slice none 0 0], .agg #[.int .i64 0, .int .i64 0, .int .i64 0, .bool false, .slice none 0 0]]) (by simp only [results, Try.results42]; simp [go_sem]) rfl ⟨.slice none 0 0, .slice none 0 0, rfl, World.ownsRow_nil _ _ _ _, World.ownsRow_nil _ _ _ _, (by repeat' (first | with_reducible exact grown_refl _ _ | with_reducible refine grown_alloc ?_ _ | with_reducible refine grown_drew ?_ | with_reducible refine grown_setCell ?_ ?_ _ | (simp; done) | (simp; omega) | omega)), From.nil _ _, From.nil _ _, .inl rfl⟩

set_option maxRecDepth 20000 in
set_option maxHeartbeats 1000000 in
theorem hear_second (p : Par) (c : Int) (base : Nat) (v : Value) (w : World) (hbase : base ≤ w.heap.size) (hown : w.ownsRow base 2 1 v p.ns.length (intsV p.ns)) (hc : c = 41) (hm : p.md = 1) :
    Calls Try.prog 42 #[parV p v, .int .i64 c] w (HearPost base p c v w) := by
  have hs : stepPA p c = (⟨3, 2, false, []⟩, Axn.zero) := by unfold stepPA; subst hc; rw [if_neg (by omega), if_neg (by omega), if_neg (by omega), if_neg (by omega), if_pos hm, if_neg (by omega), if_neg (by omega), if_pos rfl]
  unfold HearPost
  rw [hs]
  clear hs
  obtain ⟨md, st, pv, ns⟩ := p
  obtain ⟨a1, c1, rfl⟩ := own_form hown
  have HLT := hide hown.lt
  unfold parV axnV
  dsimp only [Par.zero, Axn.zero] at *
  subst hc hm
  go_enter Try.func42, Try.ntmps42
  go_wp2
  refine wp_scope_named 2 fun cc HCC => ?_
  go_wp2
  go_step3
  refine hop_to HCC rfl ?_
  go_wp2
  clear HCC
  go_region
  all_goals go_wp2
  all_goals rw [hops_ret]
  all_goals refine bodyPost_ret (v := .tuple #[.agg #[.int .i64 3, .int .i64 2, .bool false, .slice none 0 0], .agg #[.int .i64 0, .int .i64 0, .int .i64 0, .bool false, .slice none 0 0]]) (by simp only [results, Try.results42]; simp [go_sem]) rfl ⟨.slice none 0 0, .slice none 0 0, rfl, World.ownsRow_nil _ _ _ _, World.ownsRow_nil _ _ _ _, (by repeat' (first | with_reducible exact grown_refl _ _ | with_reducible refine grown_alloc ?_ _ | with_reducible refine grown_drew ?_ | with_reducible refine grown_setCell ?_ ?_ _ | (simp; done) | (simp; omega) | omega)), From.nil _ _, From.nil _ _, .inl rfl⟩

set_option maxRecDepth 20000 in
set_option maxHeartbeats 1000000 in
theorem hear_letter (p : Par) (c : Int) (base : Nat) (v : Value) (w : World) (hbase : base ≤ w.heap.size) (hown : w.ownsRow base 2 1 v p.ns.length (intsV p.ns)) (hc : 32 ≤ c) (h127 : ¬ c = 127) (h91 : ¬ c = 91) (h40 : ¬ c = 40) (h41 : ¬ c = 41) (hm : p.md = 1) (hl : 48 ≤ c) (hr : c ≤ 126) :
    Calls Try.prog 42 #[parV p v, .int .i64 c] w (HearPost base p c v w) := by
  have hs : stepPA p c = (Par.zero, ⟨3, c, 0, false, []⟩) := by unfold stepPA; rw [if_neg (by omega), if_neg (by omega), if_neg (by omega), if_neg h127, if_pos hm, if_neg h91, if_neg h40, if_neg h41, if_pos ⟨hl, hr⟩]
  unfold HearPost
  rw [hs]
  clear hs
  obtain ⟨md, st, pv, ns⟩ := p
  obtain ⟨a1, c1, rfl⟩ := own_form hown
  have HLT := hide hown.lt
  unfold parV axnV
  dsimp only [Par.zero, Axn.zero] at *
  have q24 : (c == 24) = false := by simp; omega
  have q26 : (c == 26) = false := by simp; omega
  have q27 : (c == 27) = false := by simp; omega
  have q127 : (c == 127) = false := by simp; omega
  have q32 : ¬ c < 32 := by omega
  have q91 : (c == 91) = false := by simp; omega
  have q40 : (c == 40) = false := by simp; omega
  have q41 : (c == 41) = false := by simp; omega
  have hk : kindB 3 c = true := by rw [kindB_3]; unfold escB; simp; omega
  subst hm
  clear hc h127 h91 h40 h41
  go_enter Try.func42, Try.ntmps42
  go_wp2
  refine wp_scope_named 2 fun cc HCC => ?_
  go_wp2
  go_step3
  refine hop_to HCC rfl ?_
  go_wp2_with fail
  refine (isCharOfKind_calls 3 c _).mono ?_
  rintro e w' ⟨rfl, hw⟩
  rw [hw, hk]
  clear hw w'
  go_wp2
  go_step3
  refine hop_to HCC rfl ?_
  go_wp2
  clear HCC
  go_region
  all_goals go_wp2
  all_goals rw [hops_ret]
  all_goals refine bodyPost_ret (v := .tuple #[.agg #[.int .i64 0, .int .i64 0, .bool false, .slice none 0 0], .agg #[.int .i64 3, .int .i64 c, .int .i64 0, .bool false, .slice none 0 0]]) (by simp only [results, Try.results42]; simp [go_sem]) rfl ⟨.slice none 0 0, .slice none 0 0, rfl, World.ownsRow_nil _ _ _ _, World.ownsRow_nil _ _ _ _, (by repeat' (first | with_reducible exact grown_refl _ _ | with_reducible refine grown_alloc ?_ _ | with_reducible refine grown_drew ?_ | with_reducible refine grown_setCell ?_ ?_ _ | (simp; done) | (simp; omega) | omega)), From.nil _ _, From.nil _ _, .inl rfl⟩

set_option maxRecDepth 20000 in
set_option maxHeartbeats 1000000 in
theorem hear_nothing (p : Par) (c : Int) (base : Nat) (v : Value) (w : World) (hbase : base ≤ w.heap.size) (hown : w.ownsRow base 2 1 v p.ns.length (intsV p.ns)) (hc : 32 ≤ c) (h127 : ¬ c = 127) (h91 : ¬ c = 91) (h40 : ¬ c = 40) (h41 : ¬ c = 41) (hm : p.md = 1) (hl : ¬ (48 ≤ c ∧ c ≤ 126)) :
    Calls Try.prog 42 #[parV p v, .int .i64 c] w (HearPost base p c v w) := by
  have hs : stepPA p c = (Par.zero, Axn.zero) := by unfold stepPA; rw [if_neg (by omega), if_neg (by omega), if_neg (by omega), if_neg h127, if_pos hm, if_neg h91, if_neg h40, if_neg h41, if_neg hl]
  unfold HearPost
  rw [hs]
  clear hs
  obtain ⟨md, st, pv, ns⟩ := p
  obtain ⟨a1, c1, rfl⟩ := own_form hown
  have HLT := hide hown.lt
  unfold parV axnV
  dsimp only [Par.zero, Axn.zero] at *
  have q24 : (c == 24) = false := by simp; omega
  have q26 : (c == 26) = false := by simp; omega
  have q27 : (c == 27) = false := by simp; omega
  have q127 : (c == 127) = false := by simp; omega
  have q32 : ¬ c < 32 := by omega
  have q91 : (c == 91) = false := by simp; omega
  have q40 : (c == 40) = false := by simp; omega
  have q41 : (c == 41) = false := by simp; omega
  have hk : kindB 3 c = false := by rw [kindB_3]; unfold escB; simp; omega
  subst hm
  clear hc h127 h91 h40 h41
  go_enter Try.func42, Try.ntmps42
  go_wp2
  refine wp_scope_named 2 fun cc HCC => ?_
  go_wp2
  go_step3
  refine hop_to HCC rfl ?_
  go_wp2_with fail
  refine (isCharOfKind_calls 3 c _).mono ?_
  rintro e w' ⟨rfl, hw⟩
  rw [hw, hk]
  clear hw w'
  go_wp2
  go_step3
  refine hop_to HCC rfl ?_
  go_wp2
  clear HCC
  go_region
  all_goals go_wp2
  all_goals rw [hops_ret]
  all_goals refine bodyPost_ret (v := .tuple #[.agg #[.int .i64 0, .int .i64 0, .bool false, .slice none 0 0], .agg #[.int .i64 0, .int .i64 0, .int .i64 0, .bool false, .slice none 0 0]]) (by simp only [results, Try.results42]; simp [go_sem]) rfl ⟨.slice none 0 0, .slice none 0 0, rfl, World.ownsRow_nil _ _ _ _, World.ownsRow_nil _ _ _ _, (by repeat' (first | with_reducible exact grown_refl _ _ | with_reducible refine grown_alloc ?_ _ | with_reducible refine grown_drew ?_ | with_reducible refine grown_setCell ?_ ?_ _ | (simp; done) | (simp; omega) | omega)), From.nil _ _, From.nil _ _, .inl rfl⟩

set_option maxRecDepth 20000 in
set_option maxHeartbeats 1000000 in
theorem hear_final (p : Par) (c : Int) (base : Nat) (v : Value) (w : World) (hbase : base ≤ w.heap.size) (hown : w.ownsRow base 2 1 v p.ns.length (intsV p.ns)) (hc : 32 ≤ c) (h127 : ¬ c = 127) (hm : p.md = 2) (hl : 64 ≤ c) (hr : c ≤ 126) :
    Calls Try.prog 42 #[parV p v, .int .i64 c] w (HearPost base p c v w) := by
  have hs : stepPA p c = (Par.zero, ⟨4, c, 0, p.pv, p.ns⟩) := by unfold stepPA; rw [if_neg (by omega), if_neg (by omega), if_neg (by omega), if_neg h127, if_neg (by omega), if_pos hm, if_neg (by omega), if_pos hr]
  unfold HearPost
  rw [hs]
  clear hs
  obtain ⟨md, st, pv, ns⟩ := p
  obtain ⟨a1, c1, rfl⟩ := own_form hown
  have HLT := hide hown.lt
  unfold parV axnV
  dsimp only [Par.zero, Axn.zero] at *
  have q24 : (c == 24) = false := by simp; omega
  have q26 : (c == 26) = false := by simp; omega
  have q27 : (c == 27) = false := by simp; omega
  have q127 : (c == 127) = false := by simp; omega
  have q32 : ¬ c < 32 := by omega
  have q64 : ¬ c < 64 := by omega
  have hk : kindB 4 c = true := by rw [kindB_4]; unfold finB; simp; omega
  subst hm
  clear hc h127
  go_enter Try.func42, Try.ntmps42
  go_wp2
  refine wp_scope_named 2 fun cc HCC => ?_
  go_wp2
  go_step3
  refine hop_to HCC rfl ?_
  go_wp2_with fail
  refine (isCharOfKind_calls 4 c _).mono ?_
  rintro e w' ⟨rfl, hw⟩
  rw [hw, hk]
  clear hw w'
  go_wp2
  try go_step3
  go_wp2
  clear HCC
  go_region
  all_goals go_wp2
  all_goals rw [hops_ret]
  all_goals refine bodyPost_ret (v := .tuple #[.agg #[.int .i64 0, .int .i64 0, .bool false, .slice none 0 0], .agg #[.int .i64 4, .int .i64 c, .int .i64 0, .bool pv, .slice a1 ns.length c1]]) (by simp only [results, Try.results42]; simp [go_sem]) rfl ⟨.slice none 0 0, .slice a1 ns.length c1, rfl, World.ownsRow_nil _ _ _ _, (by repeat' (first | with_reducible exact hown | with_reducible refine own_alloc ?_ _ | with_reducible refine own_drewN ?_ | with_reducible refine own_drew ?_ | with_reducible refine own_setCell ?_ ?_ | (simp [Value.ownBlock]; done) | (simp [Value.ownBlock]; omega) | omega)), (by repeat' (first | with_reducible exact grown_refl _ _ | with_reducible refine grown_alloc ?_ _ | with_reducible refine grown_drew ?_ | with_reducible refine grown_setCell ?_ ?_ _ | (simp; done) | (simp; omega) | omega)), From.nil _ _, From.refl _ _, .inl rfl⟩

set_option maxRecDepth 20000 in
set_option maxHeartbeats 1000000 in
theorem hear_beyond (p : Par) (c : Int) (base : Nat) (v : Value) (w : World) (hbase : base ≤ w.heap.size) (hown : w.ownsRow base 2 1 v p.ns.length (intsV p.ns)) (hc : 32 ≤ c) (h127 : ¬ c = 127) (hm : p.md = 2) (hr : 126 < c) :
    Calls Try.prog 42 #[parV p v, .int .i64 c] w (HearPost base p c v w) := by
  have hs : stepPA p c = (Par.zero, Axn.zero) := by unfold stepPA; rw [if_neg (by omega), if_neg (by omega), if_neg (by omega), if_neg h127, if_neg (by omega), if_pos hm, if_neg (by omega), if_neg (by omega)]
  unfold HearPost
  rw [hs]
  clear hs
  obtain ⟨md, st, pv, ns⟩ := p
  obtain ⟨a1, c1, rfl⟩ := own_form hown
  have HLT := hide hown.lt
  unfold parV axnV
  dsimp only [Par.zero, Axn.zero] at *
  have q24 : (c == 24) = false := by simp; omega
  have q26 : (c == 26) = false := by simp; omega
  have q27 : (c == 27) = false := by simp; omega
  have q127 : (c == 127) = false := by simp; omega
  have q32 : ¬ c < 32 := by omega
  have q64 : ¬ c < 64 := by omega
  have hk : kindB 4 c = false := by rw [kindB_4]; unfold finB; simp; omega
  subst hm
  clear hc h127
  go_enter Try.func42, Try.ntmps42
  go_wp2
  refine wp_scope_named 2 fun cc HCC => ?_
  go_wp2
  go_step3
  refine hop_to HCC rfl ?_
  go_wp2_with fail
  refine (isCharOfKind_calls 4 c _).mono ?_
  rintro e w' ⟨rfl, hw⟩
  rw [hw, hk]
  clear hw w'
  go_wp2
  try go_step3
  go_wp2
  clear HCC
  go_region
  all_goals go_wp2
  all_goals rw [hops_ret]
  all_goals refine bodyPost_ret (v := .tuple #[.agg #[.int .i64 0, .int .i64 0, .bool false, .slice none 0 0], .agg #[.int .i64 0, .int .i64 0, .int .i64 0, .bool false, .slice none 0 0]]) (by simp only [results, Try.results42]; simp [go_sem]) rfl ⟨.slice none 0 0, .slice none 0 0, rfl, World.ownsRow_nil _ _ _ _, World.ownsRow_nil _ _ _ _, (by repeat' (first | with_reducible exact grown_refl _ _ | with_reducible refine grown_alloc ?_ _ | with_reducible refine grown_drew ?_ | with_reducible refine grown_setCell ?_ ?_ _ | (simp; done) | (simp; omega) | omega)), From.nil _ _, From.nil _ _, .inl rfl⟩

set_option maxRecDepth 20000 in
set_option maxHeartbeats 1000000 in
theorem hear_within (p : Par) (c : Int) (base : Nat) (v : Value) (w : World) (hbase : base ≤ w.heap.size) (hown : w.ownsRow base 2 1 v p.ns.length (intsV p.ns)) (hc : 32 ≤ c) (h127 : ¬ c = 127) (hm : p.md = 2) (hr : c < 64) (hl : 0 < p.ns.length) (hl6 : p.ns.length ≤ 6) (hx : ∀ x ∈ p.ns, 0 ≤ x ∧ x ≤ 999) :
    Calls Try.prog 42 #[parV p v, .int .i64 c] w (HearPost base p c v w) := by
  have hs : stepPA p c = (paramP p c, Axn.zero) := by unfold stepPA; rw [if_neg (by omega), if_neg (by omega), if_neg (by omega), if_neg h127, if_neg (by omega), if_pos hm, if_pos hr]
  unfold HearPost
  rw [hs]
  clear hs
  obtain ⟨md, st, pv, ns⟩ := p
  obtain ⟨a1, c1, rfl⟩ := own_form hown
  have HLT := hide hown.lt
  unfold parV axnV
  dsimp only [Axn.zero] at *
  have q24 : (c == 24) = false := by simp; omega
  have q26 : (c == 26) = false := by simp; omega
  have q27 : (c == 27) = false := by simp; omega
  have q127 : (c == 127) = false := by simp; omega
  have q32 : ¬ c < 32 := by omega
  subst hm
  clear hc h127
  have HX := hide hx
  clear hx
  rw [paramP_md, paramP_st]
  dsimp only
  have hwp := fun (b : Nat) W h1 h2 => withParam_calls 2 st pv ns c b (.slice a1 ns.length c1) W hl hl6 HX.out h1 h2
  generalize (paramP ⟨2, st, pv, ns⟩ c).pv = pv2 at *
  generalize (paramP ⟨2, st, pv, ns⟩ c).ns = ns2 at *
  have HWP := hide hwp
  clear hwp
  go_enter Try.func42, Try.ntmps42
  go_wp2
  refine wp_scope_named 2 fun cc HCC => ?_
  go_wp2
  go_step3
  refine hop_to HCC rfl ?_
  go_wp2_with fail
  refine (HWP.out base _ (by simp; omega) (by repeat' (first | with_reducible exact hown | with_reducible refine own_alloc ?_ _ | with_reducible refine own_drewN ?_ | with_reducible refine own_drew ?_ | with_reducible refine own_setCell ?_ ?_ | (simp [Value.ownBlock]; done) | (simp [Value.ownBlock]; omega) | omega))).mono ?_
  rintro e w1 ⟨x, rfl, hown1, hgrow1⟩
  obtain ⟨a3, c3, rfl⟩ := own_form hown1
  have hne0 : some (w.heap.size) ≠ (Value.slice a1 ns.length c1).ownBlock := fun h => by have := (HLT.out _ h.symm).2; omega
  have k0_0 : w1.cell? ⟨w.heap.size, 0, none⟩ = some (.int .i64 2) := by rw [hgrow1.cell (by simp; try omega) hne0]; simp [go_sem]
  have k0_1 : w1.cell? ⟨w.heap.size, 1, none⟩ = some (.int .i64 st) := by rw [hgrow1.cell (by simp; try omega) hne0]; simp [go_sem]
  have k0_2 : w1.cell? ⟨w.heap.size, 2, none⟩ = some (.bool pv) := by rw [hgrow1.cell (by simp; try omega) hne0]; simp [go_sem]
  have k0_3 : w1.cell? ⟨w.heap.size, 3, none⟩ = some (.slice a1 ns.length c1) := by rw [hgrow1.cell (by simp; try omega) hne0]; simp [go_sem]
  have f0 : ∀ o, w1.frozen? ⟨w.heap.size, o, none⟩ = false := fun o => by rw [hgrow1.frozen (by simp; try omega) hne0]; simp [go_sem]
  have HB0 := hide (hgrow1.apart (b := w.heap.size) (by simp; try omega) hne0)
  have hne1 : some (w.heap.size + 1) ≠ (Value.slice a1 ns.length c1).ownBlock := fun h => by have := (HLT.out _ h.symm).2; omega
  have k1_0 : w1.cell? ⟨w.heap.size + 1, 0, none⟩ = some (.int .i64 0) := by rw [hgrow1.cell (by simp; try omega) hne1]; simp [go_sem]
  have k1_1 : w1.cell? ⟨w.heap.size + 1, 1, none⟩ = some (.int .i64 0) := by rw [hgrow1.cell (by simp; try omega) hne1]; simp [go_sem]
  have k1_2 : w1.cell? ⟨w.heap.size + 1, 2, none⟩ = some (.bool false) := by rw [hgrow1.cell (by simp; try omega) hne1]; simp [go_sem]
  have k1_3 : w1.cell? ⟨w.heap.size + 1, 3, none⟩ = some (.slice none 0 0) := by rw [hgrow1.cell (by simp; try omega) hne1]; simp [go_sem]
  have f1 : ∀ o, w1.frozen? ⟨w.heap.size + 1, o, none⟩ = false := fun o => by rw [hgrow1.frozen (by simp; try omega) hne1]; simp [go_sem]
  have HB1 := hide (hgrow1.apart (b := w.heap.size + 1) (by simp; try omega) hne1)
  have hne2 : some (w.heap.size + 2) ≠ (Value.slice a1 ns.length c1).ownBlock := fun h => by have := (HLT.out _ h.symm).2; omega
  have k2_0 : w1.cell? ⟨w.heap.size + 2, 0, none⟩ = some (.int .i64 0) := by rw [hgrow1.cell (by simp; try omega) hne2]; simp [go_sem]
  have k2_1 : w1.cell? ⟨w.heap.size + 2, 1, none⟩ = some (.int .i64 0) := by rw [hgrow1.cell (by simp; try omega) hne2]; simp [go_sem]
  have k2_2 : w1.cell? ⟨w.heap.size + 2, 2, none⟩ = some (.int .i64 0) := by rw [hgrow1.cell (by simp; try omega) hne2]; simp [go_sem]
  have k2_3 : w1.cell? ⟨w.heap.size + 2, 3, none⟩ = some (.bool false) := by rw [hgrow1.cell (by simp; try omega) hne2]; simp [go_sem]
  have k2_4 : w1.cell? ⟨w.heap.size + 2, 4, none⟩ = some (.slice none 0 0) := by rw [hgrow1.cell (by simp; try omega) hne2]; simp [go_sem]
  have f2 : ∀ o, w1.frozen? ⟨w.heap.size + 2, o, none⟩ = false := fun o => by rw [hgrow1.frozen (by simp; try omega) hne2]; simp [go_sem]
  have HB2 := hide (hgrow1.apart (b := w.heap.size + 2) (by simp; try omega) hne2)
  have hne3 : some (w.heap.size + 3) ≠ (Value.slice a1 ns.length c1).ownBlock := fun h => by have := (HLT.out _ h.symm).2; omega
  have k3_0 : w1.cell? ⟨w.heap.size + 3, 0, none⟩ = some (.int .i64 0) := by rw [hgrow1.cell (by simp; try omega) hne3]; simp [go_sem]
  have k3_1 : w1.cell? ⟨w.heap.size + 3, 1, none⟩ = some (.int .i64 0) := by rw [hgrow1.cell (by simp; try omega) hne3]; simp [go_sem]
  have k3_2 : w1.cell? ⟨w.heap.size + 3, 2, none⟩ = some (.int .i64 0) := by rw [hgrow1.cell (by simp; try omega) hne3]; simp [go_sem]
  have k3_3 : w1.cell? ⟨w.heap.size + 3, 3, none⟩ = some (.bool false) := by rw [hgrow1.cell (by simp; try omega) hne3]; simp [go_sem]
  have k3_4 : w1.cell? ⟨w.heap.size + 3, 4, none⟩ = some (.slice none 0 0) := by rw [hgrow1.cell (by simp; try omega) hne3]; simp [go_sem]
  have f3 : ∀ o, w1.frozen? ⟨w.heap.size + 3, o, none⟩ = false := fun o => by rw [hgrow1.frozen (by simp; try omega) hne3]; simp [go_sem]
  have HB3 := hide (hgrow1.apart (b := w.heap.size + 3) (by simp; try omega) hne3)
  have HG := hide ((((((GrowTo.refl w (.slice a1 ns.length c1)).more _).more _).more _).more _).trans hgrow1)
  have HO := hide hown1
  clear hgrow1 hne0 hne1 hne2 hne3 hown1 HWP
  go_wp2
  go_step3
  refine hop_to HCC rfl ?_
  clear HCC
  go_wp2
  go_region
  all_goals go_wp2
  all_goals rw [hops_ret]
  all_goals refine bodyPost_ret (v := .tuple #[.agg #[.int .i64 2, .int .i64 st, .bool pv2, .slice a3 ns2.length c3], .agg #[.int .i64 0, .int .i64 0, .int .i64 0, .bool false, .slice none 0 0]]) (by simp only [results, Try.results42]; simp [go_sem, k0_0, k0_1, k0_2, k0_3, k1_0, k1_1, k1_2, k1_3, k2_0, k2_1, k2_2, k2_3, k2_4, k3_0, k3_1, k3_2, k3_3, k3_4]) rfl ⟨.slice a3 ns2.length c3, .slice none 0 0, rfl, ?_, World.ownsRow_nil _ _ _ _, ?_, HG.out.from, From.nil _ _, .inr rfl⟩
  all_goals (repeat' (first | with_reducible exact HO.out | with_reducible exact HB0.out | with_reducible exact HB1.out | with_reducible exact HB2.out | with_reducible exact HB3.out | with_reducible refine own_drew ?_ | with_reducible refine own_setCell ?_ ?_ | with_reducible exact HG.out.grown | with_reducible refine grown_drew ?_ | with_reducible refine grown_setCell ?_ ?_ _ | (simp; done) | (simp; omega)))

/-- hear at any parser without a fault. -/
theorem hear_calls (p : Par) (c : Int) (base : Nat) (v : Value) (w : World) (hp : p.code = 0) (hbase : base ≤ w.heap.size) (hown : w.ownsRow base 2 1 v p.ns.length (intsV p.ns)) :
    Calls Try.prog 42 #[parV p v, .int .i64 c] w (HearPost base p c v w) := by
  by_cases h24 : c = 24
  · exact hear_cancel24 p c base v w hbase hown h24
  by_cases h26 : c = 26
  · exact hear_cancel26 p c base v w hbase hown h26
  by_cases h27 : c = 27
  · exact hear_escape p c base v w hbase hown h27
  by_cases h32 : c < 32
  · exact hear_control p c base v w hbase hown h24 h26 h27 h32
  by_cases h127 : c = 127
  · exact hear_erase p c base v w hbase hown h127
  have hc : 32 ≤ c := by omega
  by_cases m1 : p.md = 1
  · by_cases h91 : c = 91
    · exact hear_open p c base v w hbase hown h91 m1
    by_cases h40 : c = 40
    · exact hear_first p c base v w hbase hown h40 m1
    by_cases h41 : c = 41
    · exact hear_second p c base v w hbase hown h41 m1
    by_cases hl : 48 ≤ c ∧ c ≤ 126
    · exact hear_letter p c base v w hbase hown hc h127 h91 h40 h41 m1 hl.1 hl.2
    · exact hear_nothing p c base v w hbase hown hc h127 h91 h40 h41 m1 hl
  by_cases m2 : p.md = 2
  · by_cases h64 : c < 64
    · have hf := par_fine hp m2
      exact hear_within p c base v w hbase hown hc h127 m2 h64 hf.1 hf.2.1 hf.2.2
    by_cases h126 : c ≤ 126
    · exact hear_final p c base v w hbase hown hc h127 m2 (by omega) h126
    · exact hear_beyond p c base v w hbase hown hc h127 m2 (by omega)
  by_cases m3 : p.md = 3
  · exact hear_set p c base v w hbase hown hc h127 m3
  · exact hear_print p c base v w hbase hown hc h127 m1 m2 m3

end Go.Proofs.Ytaljegjflkebcaa
