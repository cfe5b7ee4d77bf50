/-
  The model's step: spec.l4Step walked.
-/
import Derived.Test.YtaljegjflkebcaaRows
import Derived.Test.YtaljegjflkebcaaSpecStep
namespace Go.Proofs.Ytaljegjflkebcaa
open Go.ChangeShapes Go.WideShapes Go.ChangeAt Go.RowKit
set_option linter.unusedVariables false
set_option linter.unusedSimpArgs false

theorem stepPA_esc {p : Par} {c : Int} (hc : 32 ≤ c) (h127 : ¬ c = 127) (hm : p.md = 1) : stepPA p c = escPA c := by
  unfold stepPA escPA; rw [if_neg (by omega), if_neg (by omega), if_neg (by omega), if_neg h127, if_pos hm]
theorem stepPA_num {p : Par} {c : Int} (hc : 32 ≤ c) (h127 : ¬ c = 127) (hm : p.md = 2) : stepPA p c = numPA p c := by
  unfold stepPA numPA; rw [if_neg (by omega), if_neg (by omega), if_neg (by omega), if_neg h127, if_neg (by omega), if_pos hm]

set_option maxHeartbeats 1000000 in
theorem l4Step_cancel24 (md st : Int) (pv : Bool) (ns : List Int) (c : Int) (v : Value) (w : World) (hn : ns.length ≤ 1048576) (h1 : ReadAt .i64 w v ns) (hc : c = 24) :
    Calls Try.prog 40 #[.agg #[.int .i64 md, .int .i64 st, .bool pv, v], .int .i64 c] w (StepPost w.heap.size (stepPA ⟨md, st, pv, ns⟩ c) w) := by
  have hs : stepPA ⟨md, st, pv, ns⟩ c = (Par.zero, Axn.zero) := by unfold stepPA; rw [if_pos (by omega)]
  rw [hs]
  clear hs
  have h1' := h1
  obtain ⟨a1, c1, rfl, _⟩ := h1'
  subst hc
  unfold StepPost axnVal parVal
  dsimp only [Par.zero, Axn.zero]
  go_enter Try.func40, Try.ntmps40
  go_wp2
  try go_region
  all_goals try go_wp2
  all_goals refine bodyPost_ret (v := .tuple #[.agg #[.int .i64 0, .int .i64 0, .int .i64 0, .bool false, .slice none 0 0], .agg #[.int .i64 0, .int .i64 0, .bool false, .slice none 0 0]]) (by simp only [results, Try.results40]; simp [go_sem]) rfl ⟨.slice none 0 0, .slice none 0 0, rfl, World.ownsRow_nil _ _ _ _, World.ownsRow_nil _ _ _ _, .inl rfl, (by repeat' (first | with_reducible exact Below.refl _ _ | with_reducible assumption | with_reducible refine Below.drew ?_ | with_reducible refine Below.alloc ?_ ?_ _ | with_reducible refine Below.setCell ?_ ?_ _ | (simp; done) | (simp; omega) | omega))⟩

set_option maxHeartbeats 1000000 in
theorem l4Step_cancel26 (md st : Int) (pv : Bool) (ns : List Int) (c : Int) (v : Value) (w : World) (hn : ns.length ≤ 1048576) (h1 : ReadAt .i64 w v ns) (hc : c = 26) :
    Calls Try.prog 40 #[.agg #[.int .i64 md, .int .i64 st, .bool pv, v], .int .i64 c] w (StepPost w.heap.size (stepPA ⟨md, st, pv, ns⟩ c) w) := by
  have hs : stepPA ⟨md, st, pv, ns⟩ c = (Par.zero, Axn.zero) := by unfold stepPA; rw [if_pos (by omega)]
  rw [hs]
  clear hs
  have h1' := h1
  obtain ⟨a1, c1, rfl, _⟩ := h1'
  subst hc
  unfold StepPost axnVal parVal
  dsimp only [Par.zero, Axn.zero]
  go_enter Try.func40, Try.ntmps40
  go_wp2
  try go_region
  all_goals try go_wp2
  all_goals refine bodyPost_ret (v := .tuple #[.agg #[.int .i64 0, .int .i64 0, .int .i64 0, .bool false, .slice none 0 0], .agg #[.int .i64 0, .int .i64 0, .bool false, .slice none 0 0]]) (by simp only [results, Try.results40]; simp [go_sem]) rfl ⟨.slice none 0 0, .slice none 0 0, rfl, World.ownsRow_nil _ _ _ _, World.ownsRow_nil _ _ _ _, .inl rfl, (by repeat' (first | with_reducible exact Below.refl _ _ | with_reducible assumption | with_reducible refine Below.drew ?_ | with_reducible refine Below.alloc ?_ ?_ _ | with_reducible refine Below.setCell ?_ ?_ _ | (simp; done) | (simp; omega) | omega))⟩

set_option maxHeartbeats 1000000 in
theorem l4Step_escape (md st : Int) (pv : Bool) (ns : List Int) (c : Int) (v : Value) (w : World) (hn : ns.length ≤ 1048576) (h1 : ReadAt .i64 w v ns) (hc : c = 27) :
    Calls Try.prog 40 #[.agg #[.int .i64 md, .int .i64 st, .bool pv, v], .int .i64 c] w (StepPost w.heap.size (stepPA ⟨md, st, pv, ns⟩ c) w) := by
  have hs : stepPA ⟨md, st, pv, ns⟩ c = (⟨1, 0, false, []⟩, Axn.zero) := by unfold stepPA; rw [if_neg (by omega), if_pos hc]
  rw [hs]
  clear hs
  have h1' := h1
  obtain ⟨a1, c1, rfl, _⟩ := h1'
  subst hc
  unfold StepPost axnVal parVal
  dsimp only [Par.zero, Axn.zero]
  go_enter Try.func40, Try.ntmps40
  go_wp2
  try go_region
  all_goals try go_wp2
  all_goals refine bodyPost_ret (v := .tuple #[.agg #[.int .i64 0, .int .i64 0, .int .i64 0, .bool false, .slice none 0 0], .agg #[.int .i64 1, .int .i64 0, .bool false, .slice none 0 0]]) (by simp only [results, Try.results40]; simp [go_sem]) rfl ⟨.slice none 0 0, .slice none 0 0, rfl, World.ownsRow_nil _ _ _ _, World.ownsRow_nil _ _ _ _, .inl rfl, (by repeat' (first | with_reducible exact Below.refl _ _ | with_reducible assumption | with_reducible refine Below.drew ?_ | with_reducible refine Below.alloc ?_ ?_ _ | with_reducible refine Below.setCell ?_ ?_ _ | (simp; done) | (simp; omega) | omega))⟩

set_option maxHeartbeats 1000000 in
theorem l4Step_control (md st : Int) (pv : Bool) (ns : List Int) (c : Int) (v : Value) (w : World) (hn : ns.length ≤ 1048576) (h1 : ReadAt .i64 w v ns) (h24 : ¬ c = 24) (h26 : ¬ c = 26) (h27 : ¬ c = 27) (hc : c < 32) :
    Calls Try.prog 40 #[.agg #[.int .i64 md, .int .i64 st, .bool pv, v], .int .i64 c] w (StepPost w.heap.size (stepPA ⟨md, st, pv, ns⟩ c) w) := by
  have hs : stepPA ⟨md, st, pv, ns⟩ c = (⟨md, st, pv, ns⟩, ⟨2, c, 0, false, []⟩) := by unfold stepPA; rw [if_neg (by omega), if_neg h27, if_pos hc]
  rw [hs]
  clear hs
  have h1' := h1
  obtain ⟨a1, c1, rfl, _⟩ := h1'
  have q24 : (c == 24) = false := by simp; omega
  have q26 : (c == 26) = false := by simp; omega
  have q27 : (c == 27) = false := by simp; omega
  clear h24 h26 h27
  unfold StepPost axnVal parVal
  dsimp only [Par.zero, Axn.zero]
  go_enter Try.func40, Try.ntmps40
  go_wp2_with fail
  refine (l4Copy_calls md st pv ns _ (((w.alloc (.cells #[.int .i64 md, .int .i64 st, .bool pv, .slice a1 ns.length c1] 27)).alloc (.cells #[.int .i64 0, .int .i64 0, .int .i64 0, .bool false, .slice none 0 0] 32)).alloc (.cells #[.int .i64 0, .int .i64 0, .bool false, .slice none 0 0] 27)) hn (h1.below (by repeat' (first | with_reducible exact Below.refl _ _ | with_reducible assumption | with_reducible refine Below.drew ?_ | with_reducible refine Below.alloc ?_ ?_ _ | with_reducible refine Below.setCell ?_ ?_ _ | (simp; done) | (simp; omega) | omega)))).mono ?_
  rintro e w1 ⟨v', rfl, hown, hb⟩
  obtain ⟨a3, c3, rfl⟩ := own_form hown
  replace hown : w1.ownsRow (w.heap.size + 3) 2 1 (.slice a3 ns.length c3) ns.length (intsV ns) := by simpa using hown
  have k0_0 : w1.cell? ⟨w.heap.size, 0, none⟩ = some (.int .i64 md) := cellb hb (by simp [go_sem])
  have k0_1 : w1.cell? ⟨w.heap.size, 1, none⟩ = some (.int .i64 st) := cellb hb (by simp [go_sem])
  have k0_2 : w1.cell? ⟨w.heap.size, 2, none⟩ = some (.bool pv) := cellb hb (by simp [go_sem])
  have k0_3 : w1.cell? ⟨w.heap.size, 3, none⟩ = some (.slice a1 ns.length c1) := cellb hb (by simp [go_sem])
  have f0 : ∀ o, w1.frozen? ⟨w.heap.size, o, none⟩ = false := fun o => by rw [hb.frozen (p := ⟨w.heap.size, o, none⟩) (by simp; try omega)]; simp [go_sem]
  have k1_0 : w1.cell? ⟨w.heap.size + 1, 0, none⟩ = some (.int .i64 0) := cellb hb (by simp [go_sem])
  have k1_1 : w1.cell? ⟨w.heap.size + 1, 1, none⟩ = some (.int .i64 0) := cellb hb (by simp [go_sem])
  have k1_2 : w1.cell? ⟨w.heap.size + 1, 2, none⟩ = some (.int .i64 0) := cellb hb (by simp [go_sem])
  have k1_3 : w1.cell? ⟨w.heap.size + 1, 3, none⟩ = some (.bool false) := cellb hb (by simp [go_sem])
  have k1_4 : w1.cell? ⟨w.heap.size + 1, 4, none⟩ = some (.slice none 0 0) := cellb hb (by simp [go_sem])
  have f1 : ∀ o, w1.frozen? ⟨w.heap.size + 1, o, none⟩ = false := fun o => by rw [hb.frozen (p := ⟨w.heap.size + 1, o, none⟩) (by simp; try omega)]; simp [go_sem]
  have k2_0 : w1.cell? ⟨w.heap.size + 2, 0, none⟩ = some (.int .i64 0) := cellb hb (by simp [go_sem])
  have k2_1 : w1.cell? ⟨w.heap.size + 2, 1, none⟩ = some (.int .i64 0) := cellb hb (by simp [go_sem])
  have k2_2 : w1.cell? ⟨w.heap.size + 2, 2, none⟩ = some (.bool false) := cellb hb (by simp [go_sem])
  have k2_3 : w1.cell? ⟨w.heap.size + 2, 3, none⟩ = some (.slice none 0 0) := cellb hb (by simp [go_sem])
  have f2 : ∀ o, w1.frozen? ⟨w.heap.size + 2, o, none⟩ = false := fun o => by rw [hb.frozen (p := ⟨w.heap.size + 2, o, none⟩) (by simp; try omega)]; simp [go_sem]
  have hs1 : w.heap.size + 3 ≤ w1.heap.size := by have := hb.size; simp at this; omega
  have HA : Hid (∀ b, b < w.heap.size + 3 → some b ≠ (Value.slice a3 ns.length c3).ownBlock) := hide (fun b h2 h => by have := (hown.lt b h.symm).1; omega)
  have HO := hide hown
  have hb1 : Below w.heap.size w w1 := (show Below w.heap.size w (((w.alloc (.cells #[.int .i64 md, .int .i64 st, .bool pv, .slice a1 ns.length c1] 27)).alloc (.cells #[.int .i64 0, .int .i64 0, .int .i64 0, .bool false, .slice none 0 0] 32)).alloc (.cells #[.int .i64 0, .int .i64 0, .bool false, .slice none 0 0] 27)) from (by repeat' (first | with_reducible exact Below.refl _ _ | with_reducible assumption | with_reducible refine Below.drew ?_ | with_reducible refine Below.alloc ?_ ?_ _ | with_reducible refine Below.setCell ?_ ?_ _ | (simp; done) | (simp; omega) | omega))).trans (hb.mono (by simp; omega))
  clear hb hown h1
  go_wp2
  try go_region
  all_goals try go_wp2
  all_goals refine bodyPost_ret (v := .tuple #[.agg #[.int .i64 2, .int .i64 c, .int .i64 0, .bool false, .slice none 0 0], .agg #[.int .i64 md, .int .i64 st, .bool pv, .slice a3 ns.length c3]]) (by simp only [results, Try.results40]; simp [go_sem, k0_0, k0_1, k0_2, k0_3, k1_0, k1_1, k1_2, k1_3, k1_4, k2_0, k2_1, k2_2, k2_3]) rfl ⟨.slice none 0 0, .slice a3 ns.length c3, rfl, World.ownsRow_nil _ _ _ _, (by refine own_base (base := w.heap.size + 3) ?_ (by omega); repeat' (first | with_reducible exact HO.out | with_reducible refine own_drewN ?_ | with_reducible refine own_drew ?_ | with_reducible refine own_setCell ?_ ?_ | exact HA.out _ (by omega))), .inl rfl, (by repeat' (first | with_reducible exact Below.refl _ _ | with_reducible assumption | with_reducible refine Below.drew ?_ | with_reducible refine Below.alloc ?_ ?_ _ | with_reducible refine Below.setCell ?_ ?_ _ | (simp; done) | (simp; omega) | omega))⟩

set_option maxHeartbeats 1000000 in
theorem l4Step_erase (md st : Int) (pv : Bool) (ns : List Int) (c : Int) (v : Value) (w : World) (hn : ns.length ≤ 1048576) (h1 : ReadAt .i64 w v ns) (hc : c = 127) :
    Calls Try.prog 40 #[.agg #[.int .i64 md, .int .i64 st, .bool pv, v], .int .i64 c] w (StepPost w.heap.size (stepPA ⟨md, st, pv, ns⟩ c) w) := by
  have hs : stepPA ⟨md, st, pv, ns⟩ c = (⟨md, st, pv, ns⟩, Axn.zero) := by unfold stepPA; rw [if_neg (by omega), if_neg (by omega), if_neg (by omega), if_pos hc]
  rw [hs]
  clear hs
  have h1' := h1
  obtain ⟨a1, c1, rfl, _⟩ := h1'
  subst hc
  unfold StepPost axnVal parVal
  dsimp only [Par.zero, Axn.zero]
  go_enter Try.func40, Try.ntmps40
  go_wp2_with fail
  refine (l4Copy_calls md st pv ns _ (((w.alloc (.cells #[.int .i64 md, .int .i64 st, .bool pv, .slice a1 ns.length c1] 27)).alloc (.cells #[.int .i64 0, .int .i64 0, .int .i64 0, .bool false, .slice none 0 0] 32)).alloc (.cells #[.int .i64 0, .int .i64 0, .bool false, .slice none 0 0] 27)) hn (h1.below (by repeat' (first | with_reducible exact Below.refl _ _ | with_reducible assumption | with_reducible refine Below.drew ?_ | with_reducible refine Below.alloc ?_ ?_ _ | with_reducible refine Below.setCell ?_ ?_ _ | (simp; done) | (simp; omega) | omega)))).mono ?_
  rintro e w1 ⟨v', rfl, hown, hb⟩
  obtain ⟨a3, c3, rfl⟩ := own_form hown
  replace hown : w1.ownsRow (w.heap.size + 3) 2 1 (.slice a3 ns.length c3) ns.length (intsV ns) := by simpa using hown
  have k0_0 : w1.cell? ⟨w.heap.size, 0, none⟩ = some (.int .i64 md) := cellb hb (by simp [go_sem])
  have k0_1 : w1.cell? ⟨w.heap.size, 1, none⟩ = some (.int .i64 st) := cellb hb (by simp [go_sem])
  have k0_2 : w1.cell? ⟨w.heap.size, 2, none⟩ = some (.bool pv) := cellb hb (by simp [go_sem])
  have k0_3 : w1.cell? ⟨w.heap.size, 3, none⟩ = some (.slice a1 ns.length c1) := cellb hb (by simp [go_sem])
  have f0 : ∀ o, w1.frozen? ⟨w.heap.size, o, none⟩ = false := fun o => by rw [hb.frozen (p := ⟨w.heap.size, o, none⟩) (by simp; try omega)]; simp [go_sem]
  have k1_0 : w1.cell? ⟨w.heap.size + 1, 0, none⟩ = some (.int .i64 0) := cellb hb (by simp [go_sem])
  have k1_1 : w1.cell? ⟨w.heap.size + 1, 1, none⟩ = some (.int .i64 0) := cellb hb (by simp [go_sem])
  have k1_2 : w1.cell? ⟨w.heap.size + 1, 2, none⟩ = some (.int .i64 0) := cellb hb (by simp [go_sem])
  have k1_3 : w1.cell? ⟨w.heap.size + 1, 3, none⟩ = some (.bool false) := cellb hb (by simp [go_sem])
  have k1_4 : w1.cell? ⟨w.heap.size + 1, 4, none⟩ = some (.slice none 0 0) := cellb hb (by simp [go_sem])
  have f1 : ∀ o, w1.frozen? ⟨w.heap.size + 1, o, none⟩ = false := fun o => by rw [hb.frozen (p := ⟨w.heap.size + 1, o, none⟩) (by simp; try omega)]; simp [go_sem]
  have k2_0 : w1.cell? ⟨w.heap.size + 2, 0, none⟩ = some (.int .i64 0) := cellb hb (by simp [go_sem])
  have k2_1 : w1.cell? ⟨w.heap.size + 2, 1, none⟩ = some (.int .i64 0) := cellb hb (by simp [go_sem])
  have k2_2 : w1.cell? ⟨w.heap.size + 2, 2, none⟩ = some (.bool false) := cellb hb (by simp [go_sem])
  have k2_3 : w1.cell? ⟨w.heap.size + 2, 3, none⟩ = some (.slice none 0 0) := cellb hb (by simp [go_sem])
  have f2 : ∀ o, w1.frozen? ⟨w.heap.size + 2, o, none⟩ = false := fun o => by rw [hb.frozen (p := ⟨w.heap.size + 2, o, none⟩) (by simp; try omega)]; simp [go_sem]
  have hs1 : w.heap.size + 3 ≤ w1.heap.size := by have := hb.size; simp at this; omega
  have HA : Hid (∀ b, b < w.heap.size + 3 → some b ≠ (Value.slice a3 ns.length c3).ownBlock) := hide (fun b h2 h => by have := (hown.lt b h.symm).1; omega)
  have HO := hide hown
  have hb1 : Below w.heap.size w w1 := (show Below w.heap.size w (((w.alloc (.cells #[.int .i64 md, .int .i64 st, .bool pv, .slice a1 ns.length c1] 27)).alloc (.cells #[.int .i64 0, .int .i64 0, .int .i64 0, .bool false, .slice none 0 0] 32)).alloc (.cells #[.int .i64 0, .int .i64 0, .bool false, .slice none 0 0] 27)) from (by repeat' (first | with_reducible exact Below.refl _ _ | with_reducible assumption | with_reducible refine Below.drew ?_ | with_reducible refine Below.alloc ?_ ?_ _ | with_reducible refine Below.setCell ?_ ?_ _ | (simp; done) | (simp; omega) | omega))).trans (hb.mono (by simp; omega))
  clear hb hown h1
  go_wp2
  try go_region
  all_goals try go_wp2
  all_goals refine bodyPost_ret (v := .tuple #[.agg #[.int .i64 0, .int .i64 0, .int .i64 0, .bool false, .slice none 0 0], .agg #[.int .i64 md, .int .i64 st, .bool pv, .slice a3 ns.length c3]]) (by simp only [results, Try.results40]; simp [go_sem, k0_0, k0_1, k0_2, k0_3, k1_0, k1_1, k1_2, k1_3, k1_4, k2_0, k2_1, k2_2, k2_3]) rfl ⟨.slice none 0 0, .slice a3 ns.length c3, rfl, World.ownsRow_nil _ _ _ _, (by refine own_base (base := w.heap.size + 3) ?_ (by omega); repeat' (first | with_reducible exact HO.out | with_reducible refine own_drewN ?_ | with_reducible refine own_drew ?_ | with_reducible refine own_setCell ?_ ?_ | exact HA.out _ (by omega))), .inl rfl, (by repeat' (first | with_reducible exact Below.refl _ _ | with_reducible assumption | with_reducible refine Below.drew ?_ | with_reducible refine Below.alloc ?_ ?_ _ | with_reducible refine Below.setCell ?_ ?_ _ | (simp; done) | (simp; omega) | omega))⟩

set_option maxHeartbeats 1000000 in
theorem l4Step_print (md st : Int) (pv : Bool) (ns : List Int) (c : Int) (v : Value) (w : World) (hn : ns.length ≤ 1048576) (h1 : ReadAt .i64 w v ns) (hc : 32 ≤ c) (h127 : ¬ c = 127) (hm1 : ¬ md = 1) (hm2 : ¬ md = 2) (hm3 : ¬ md = 3) :
    Calls Try.prog 40 #[.agg #[.int .i64 md, .int .i64 st, .bool pv, v], .int .i64 c] w (StepPost w.heap.size (stepPA ⟨md, st, pv, ns⟩ c) w) := by
  have hs : stepPA ⟨md, st, pv, ns⟩ c = (Par.zero, ⟨1, c, 0, false, []⟩) := by unfold stepPA; rw [if_neg (by omega), if_neg (by omega), if_neg (by omega), if_neg h127, if_neg hm1, if_neg hm2, if_neg hm3]
  rw [hs]
  clear hs
  have h1' := h1
  obtain ⟨a1, c1, rfl, _⟩ := h1'
  have q24 : (c == 24) = false := by simp; omega
  have q26 : (c == 26) = false := by simp; omega
  have q27 : (c == 27) = false := by simp; omega
  have q127 : (c == 127) = false := by simp; omega
  have q32 : ¬ c < 32 := by omega
  have m1 : (md == 1) = false := by simpa using hm1
  have m2 : (md == 2) = false := by simpa using hm2
  have m3 : (md == 3) = false := by simpa using hm3
  clear hm1 hm2 hm3 hc h127
  unfold StepPost axnVal parVal
  dsimp only [Par.zero, Axn.zero]
  go_enter Try.func40, Try.ntmps40
  go_wp2
  try go_region
  all_goals try go_wp2
  all_goals refine bodyPost_ret (v := .tuple #[.agg #[.int .i64 1, .int .i64 c, .int .i64 0, .bool false, .slice none 0 0], .agg #[.int .i64 0, .int .i64 0, .bool false, .slice none 0 0]]) (by simp only [results, Try.results40]; simp [go_sem]) rfl ⟨.slice none 0 0, .slice none 0 0, rfl, World.ownsRow_nil _ _ _ _, World.ownsRow_nil _ _ _ _, .inl rfl, (by repeat' (first | with_reducible exact Below.refl _ _ | with_reducible assumption | with_reducible refine Below.drew ?_ | with_reducible refine Below.alloc ?_ ?_ _ | with_reducible refine Below.setCell ?_ ?_ _ | (simp; done) | (simp; omega) | omega))⟩

set_option maxHeartbeats 1000000 in
theorem l4Step_set (md st : Int) (pv : Bool) (ns : List Int) (c : Int) (v : Value) (w : World) (hn : ns.length ≤ 1048576) (h1 : ReadAt .i64 w v ns) (hc : 32 ≤ c) (h127 : ¬ c = 127) (hm : md = 3) :
    Calls Try.prog 40 #[.agg #[.int .i64 md, .int .i64 st, .bool pv, v], .int .i64 c] w (StepPost w.heap.size (stepPA ⟨md, st, pv, ns⟩ c) w) := by
  have hs : stepPA ⟨md, st, pv, ns⟩ c = (Par.zero, ⟨5, c, st, false, []⟩) := by unfold stepPA; rw [if_neg (by omega), if_neg (by omega), if_neg (by omega), if_neg h127, if_neg (show ¬ md = 1 by omega), if_neg (show ¬ md = 2 by omega), if_pos hm]
  rw [hs]
  clear hs
  have h1' := h1
  obtain ⟨a1, c1, rfl, _⟩ := h1'
  have q24 : (c == 24) = false := by simp; omega
  have q26 : (c == 26) = false := by simp; omega
  have q27 : (c == 27) = false := by simp; omega
  have q127 : (c == 127) = false := by simp; omega
  have q32 : ¬ c < 32 := by omega
  subst hm
  clear hc h127
  unfold StepPost axnVal parVal
  dsimp only [Par.zero, Axn.zero]
  go_enter Try.func40, Try.ntmps40
  go_wp2
  try go_region
  all_goals try go_wp2
  all_goals refine bodyPost_ret (v := .tuple #[.agg #[.int .i64 5, .int .i64 c, .int .i64 st, .bool false, .slice none 0 0], .agg #[.int .i64 0, .int .i64 0, .bool false, .slice none 0 0]]) (by simp only [results, Try.results40]; simp [go_sem]) rfl ⟨.slice none 0 0, .slice none 0 0, rfl, World.ownsRow_nil _ _ _ _, World.ownsRow_nil _ _ _ _, .inl rfl, (by repeat' (first | with_reducible exact Below.refl _ _ | with_reducible assumption | with_reducible refine Below.drew ?_ | with_reducible refine Below.alloc ?_ ?_ _ | with_reducible refine Below.setCell ?_ ?_ _ | (simp; done) | (simp; omega) | omega))⟩

set_option maxHeartbeats 1000000 in
theorem l4Step_begun (md st : Int) (pv : Bool) (ns : List Int) (c : Int) (v : Value) (w : World) (hn : ns.length ≤ 1048576) (h1 : ReadAt .i64 w v ns) (hc : 32 ≤ c) (h127 : ¬ c = 127) (hm : md = 1) :
    Calls Try.prog 40 #[.agg #[.int .i64 md, .int .i64 st, .bool pv, v], .int .i64 c] w (StepPost w.heap.size (stepPA ⟨md, st, pv, ns⟩ c) w) := by
  have hs : stepPA ⟨md, st, pv, ns⟩ c = escPA c := by exact stepPA_esc hc h127 hm
  rw [hs]
  clear hs
  have h1' := h1
  obtain ⟨a1, c1, rfl, _⟩ := h1'
  have q24 : (c == 24) = false := by simp; omega
  have q26 : (c == 26) = false := by simp; omega
  have q27 : (c == 27) = false := by simp; omega
  have q127 : (c == 127) = false := by simp; omega
  have q32 : ¬ c < 32 := by omega
  subst hm
  clear hc h127
  have HC := hide (fun W => l4Escape_calls c W)
  generalize escPA c = q at *
  obtain ⟨⟨md', st', pv', ns'⟩, ⟨kd, ch, st2, pv2, al⟩⟩ := q
  unfold StepPost axnVal parVal
  dsimp only [Par.zero, Axn.zero]
  go_enter Try.func40, Try.ntmps40
  go_wp2_with fail
  refine (HC.out _).mono ?_
  rintro e w2 ⟨u, x, rfl, hu, hx2, hor, hb2⟩
  obtain ⟨a3, c3, rfl⟩ := own_form hu
  obtain ⟨a4, c4, rfl⟩ := own_form hx2
  unfold axnVal parVal
  dsimp only at *
  have k0_0 : w2.cell? ⟨w.heap.size, 0, none⟩ = some (.int .i64 1) := cellb hb2 (by simp [go_sem])
  have k0_1 : w2.cell? ⟨w.heap.size, 1, none⟩ = some (.int .i64 st) := cellb hb2 (by simp [go_sem])
  have k0_2 : w2.cell? ⟨w.heap.size, 2, none⟩ = some (.bool pv) := cellb hb2 (by simp [go_sem])
  have k0_3 : w2.cell? ⟨w.heap.size, 3, none⟩ = some (.slice a1 ns.length c1) := cellb hb2 (by simp [go_sem])
  have f0 : ∀ o, w2.frozen? ⟨w.heap.size, o, none⟩ = false := fun o => by rw [hb2.frozen (p := ⟨w.heap.size, o, none⟩) (by simp; try omega)]; simp [go_sem]
  have k1_0 : w2.cell? ⟨w.heap.size + 1, 0, none⟩ = some (.int .i64 0) := cellb hb2 (by simp [go_sem])
  have k1_1 : w2.cell? ⟨w.heap.size + 1, 1, none⟩ = some (.int .i64 0) := cellb hb2 (by simp [go_sem])
  have k1_2 : w2.cell? ⟨w.heap.size + 1, 2, none⟩ = some (.int .i64 0) := cellb hb2 (by simp [go_sem])
  have k1_3 : w2.cell? ⟨w.heap.size + 1, 3, none⟩ = some (.bool false) := cellb hb2 (by simp [go_sem])
  have k1_4 : w2.cell? ⟨w.heap.size + 1, 4, none⟩ = some (.slice none 0 0) := cellb hb2 (by simp [go_sem])
  have f1 : ∀ o, w2.frozen? ⟨w.heap.size + 1, o, none⟩ = false := fun o => by rw [hb2.frozen (p := ⟨w.heap.size + 1, o, none⟩) (by simp; try omega)]; simp [go_sem]
  have k2_0 : w2.cell? ⟨w.heap.size + 2, 0, none⟩ = some (.int .i64 0) := cellb hb2 (by simp [go_sem])
  have k2_1 : w2.cell? ⟨w.heap.size + 2, 1, none⟩ = some (.int .i64 0) := cellb hb2 (by simp [go_sem])
  have k2_2 : w2.cell? ⟨w.heap.size + 2, 2, none⟩ = some (.bool false) := cellb hb2 (by simp [go_sem])
  have k2_3 : w2.cell? ⟨w.heap.size + 2, 3, none⟩ = some (.slice none 0 0) := cellb hb2 (by simp [go_sem])
  have f2 : ∀ o, w2.frozen? ⟨w.heap.size + 2, o, none⟩ = false := fun o => by rw [hb2.frozen (p := ⟨w.heap.size + 2, o, none⟩) (by simp; try omega)]; simp [go_sem]
  have hs2 : w.heap.size + 3 ≤ w2.heap.size := by have := hb2.size; first | omega | (simp at this; omega)
  replace hu : w2.ownsRow (w.heap.size + 3) 2 1 (.slice a3 al.length c3) al.length (intsV al) := by simpa using hu
  replace hx2 : w2.ownsRow (w.heap.size + 3) 2 1 (.slice a4 ns'.length c4) ns'.length (intsV ns') := by simpa using hx2
  have HA : Hid (∀ b, b < w.heap.size + 3 → some b ≠ (Value.slice a3 al.length c3).ownBlock) := hide (fun b h2 h => by have := (hu.lt b h.symm).1; omega)
  have HA2 : Hid (∀ b, b < w.heap.size + 3 → some b ≠ (Value.slice a4 ns'.length c4).ownBlock) := hide (fun b h2 h => by have := (hx2.lt b h.symm).1; omega)
  have HU := hide hu
  have HX := hide hx2
  have HOR := hide hor
  have hb1 : Below w.heap.size w w2 := (show Below w.heap.size w (((w.alloc (.cells #[.int .i64 1, .int .i64 st, .bool pv, .slice a1 ns.length c1] 27)).alloc (.cells #[.int .i64 0, .int .i64 0, .int .i64 0, .bool false, .slice none 0 0] 32)).alloc (.cells #[.int .i64 0, .int .i64 0, .bool false, .slice none 0 0] 27)) from (by repeat' (first | with_reducible exact Below.refl _ _ | with_reducible assumption | with_reducible refine Below.drew ?_ | with_reducible refine Below.alloc ?_ ?_ _ | with_reducible refine Below.setCell ?_ ?_ _ | (simp; done) | (simp; omega) | omega))).trans (hb2.mono (by simp; omega))
  clear hb2 hu hx2 hor HC h1
  go_wp2
  try go_region
  all_goals try go_wp2
  all_goals refine bodyPost_ret (v := .tuple #[.agg #[.int .i64 kd, .int .i64 ch, .int .i64 st2, .bool pv2, .slice a3 al.length c3], .agg #[.int .i64 md', .int .i64 st', .bool pv', .slice a4 ns'.length c4]]) (by simp only [results, Try.results40]; simp [go_sem, k0_0, k0_1, k0_2, k0_3, k1_0, k1_1, k1_2, k1_3, k1_4, k2_0, k2_1, k2_2, k2_3]) rfl ⟨.slice a3 al.length c3, .slice a4 ns'.length c4, rfl, (by refine own_base (base := w.heap.size + 3) ?_ (by omega); repeat' (first | with_reducible exact HU.out | with_reducible refine own_drewN ?_ | with_reducible refine own_drew ?_ | with_reducible refine own_setCell ?_ ?_ | exact HA.out _ (by omega))), (by refine own_base (base := w.heap.size + 3) ?_ (by omega); repeat' (first | with_reducible exact HX.out | with_reducible refine own_drewN ?_ | with_reducible refine own_drew ?_ | with_reducible refine own_setCell ?_ ?_ | exact HA2.out _ (by omega))), HOR.out, (by repeat' (first | with_reducible exact Below.refl _ _ | with_reducible assumption | with_reducible refine Below.drew ?_ | with_reducible refine Below.alloc ?_ ?_ _ | with_reducible refine Below.setCell ?_ ?_ _ | (simp; done) | (simp; omega) | omega))⟩

set_option maxHeartbeats 1000000 in
theorem l4Step_params (md st : Int) (pv : Bool) (ns : List Int) (c : Int) (v : Value) (w : World) (hn : ns.length ≤ 1048576) (h1 : ReadAt .i64 w v ns) (hc : 32 ≤ c) (h127 : ¬ c = 127) (hm : md = 2) (hl : 0 < ns.length) (hl6 : ns.length ≤ 6) (hx : ∀ x ∈ ns, 0 ≤ x ∧ x ≤ 999) :
    Calls Try.prog 40 #[.agg #[.int .i64 md, .int .i64 st, .bool pv, v], .int .i64 c] w (StepPost w.heap.size (stepPA ⟨md, st, pv, ns⟩ c) w) := by
  have hs : stepPA ⟨md, st, pv, ns⟩ c = numPA ⟨md, st, pv, ns⟩ c := by exact stepPA_num hc h127 hm
  rw [hs]
  clear hs
  have h1' := h1
  obtain ⟨a1, c1, rfl, _⟩ := h1'
  have q24 : (c == 24) = false := by simp; omega
  have q26 : (c == 26) = false := by simp; omega
  have q27 : (c == 27) = false := by simp; omega
  have q127 : (c == 127) = false := by simp; omega
  have q32 : ¬ c < 32 := by omega
  clear hc h127
  have HC := hide (fun (base : Nat) (v : Value) (W : World) h1 h2 => l4Param_calls md st pv ns c base v W hl hl6 hx h1 h2)
  clear hx
  generalize numPA ⟨md, st, pv, ns⟩ c = q at *
  obtain ⟨⟨md', st', pv', ns'⟩, ⟨kd, ch, st2, pv2, al⟩⟩ := q
  have HM := hide hm
  have m1 : (md == 1) = false := by simp; omega
  have m2 : (md == 2) = true := by simp; omega
  have m3 : (md == 3) = false := by simp; omega
  clear hm
  unfold StepPost axnVal parVal
  dsimp only [Par.zero, Axn.zero]
  go_enter Try.func40, Try.ntmps40
  go_wp2_with fail
  refine (l4Copy_calls md st pv ns _ (((w.alloc (.cells #[.int .i64 md, .int .i64 st, .bool pv, .slice a1 ns.length c1] 27)).alloc (.cells #[.int .i64 0, .int .i64 0, .int .i64 0, .bool false, .slice none 0 0] 32)).alloc (.cells #[.int .i64 0, .int .i64 0, .bool false, .slice none 0 0] 27)) hn (h1.below (by repeat' (first | with_reducible exact Below.refl _ _ | with_reducible assumption | with_reducible refine Below.drew ?_ | with_reducible refine Below.alloc ?_ ?_ _ | with_reducible refine Below.setCell ?_ ?_ _ | (simp; done) | (simp; omega) | omega)))).mono ?_
  rintro e w1 ⟨v', rfl, hown, hb⟩
  obtain ⟨a3, c3, rfl⟩ := own_form hown
  replace hown : w1.ownsRow (w.heap.size + 3) 2 1 (.slice a3 ns.length c3) ns.length (intsV ns) := by simpa using hown
  have k0_0 : w1.cell? ⟨w.heap.size, 0, none⟩ = some (.int .i64 md) := cellb hb (by simp [go_sem])
  have k0_1 : w1.cell? ⟨w.heap.size, 1, none⟩ = some (.int .i64 st) := cellb hb (by simp [go_sem])
  have k0_2 : w1.cell? ⟨w.heap.size, 2, none⟩ = some (.bool pv) := cellb hb (by simp [go_sem])
  have k0_3 : w1.cell? ⟨w.heap.size, 3, none⟩ = some (.slice a1 ns.length c1) := cellb hb (by simp [go_sem])
  have f0 : ∀ o, w1.frozen? ⟨w.heap.size, o, none⟩ = false := fun o => by rw [hb.frozen (p := ⟨w.heap.size, o, none⟩) (by simp; try omega)]; simp [go_sem]
  have k1_0 : w1.cell? ⟨w.heap.size + 1, 0, none⟩ = some (.int .i64 0) := cellb hb (by simp [go_sem])
  have k1_1 : w1.cell? ⟨w.heap.size + 1, 1, none⟩ = some (.int .i64 0) := cellb hb (by simp [go_sem])
  have k1_2 : w1.cell? ⟨w.heap.size + 1, 2, none⟩ = some (.int .i64 0) := cellb hb (by simp [go_sem])
  have k1_3 : w1.cell? ⟨w.heap.size + 1, 3, none⟩ = some (.bool false) := cellb hb (by simp [go_sem])
  have k1_4 : w1.cell? ⟨w.heap.size + 1, 4, none⟩ = some (.slice none 0 0) := cellb hb (by simp [go_sem])
  have f1 : ∀ o, w1.frozen? ⟨w.heap.size + 1, o, none⟩ = false := fun o => by rw [hb.frozen (p := ⟨w.heap.size + 1, o, none⟩) (by simp; try omega)]; simp [go_sem]
  have k2_0 : w1.cell? ⟨w.heap.size + 2, 0, none⟩ = some (.int .i64 0) := cellb hb (by simp [go_sem])
  have k2_1 : w1.cell? ⟨w.heap.size + 2, 1, none⟩ = some (.int .i64 0) := cellb hb (by simp [go_sem])
  have k2_2 : w1.cell? ⟨w.heap.size + 2, 2, none⟩ = some (.bool false) := cellb hb (by simp [go_sem])
  have k2_3 : w1.cell? ⟨w.heap.size + 2, 3, none⟩ = some (.slice none 0 0) := cellb hb (by simp [go_sem])
  have f2 : ∀ o, w1.frozen? ⟨w.heap.size + 2, o, none⟩ = false := fun o => by rw [hb.frozen (p := ⟨w.heap.size + 2, o, none⟩) (by simp; try omega)]; simp [go_sem]
  have hs1 : w.heap.size + 3 ≤ w1.heap.size := by have := hb.size; simp at this; omega
  have HA : Hid (∀ b, b < w.heap.size + 3 → some b ≠ (Value.slice a3 ns.length c3).ownBlock) := hide (fun b h2 h => by have := (hown.lt b h.symm).1; omega)
  have HO := hide hown
  have hb1 : Below w.heap.size w w1 := (show Below w.heap.size w (((w.alloc (.cells #[.int .i64 md, .int .i64 st, .bool pv, .slice a1 ns.length c1] 27)).alloc (.cells #[.int .i64 0, .int .i64 0, .int .i64 0, .bool false, .slice none 0 0] 32)).alloc (.cells #[.int .i64 0, .int .i64 0, .bool false, .slice none 0 0] 27)) from (by repeat' (first | with_reducible exact Below.refl _ _ | with_reducible assumption | with_reducible refine Below.drew ?_ | with_reducible refine Below.alloc ?_ ?_ _ | with_reducible refine Below.setCell ?_ ?_ _ | (simp; done) | (simp; omega) | omega))).trans (hb.mono (by simp; omega))
  clear hb hown h1
  go_wp2_with fail
  refine (HC.out (w.heap.size + 3) _ _ hs1 HO.out).mono ?_
  rintro e w2 ⟨u, x, rfl, hu, hx2, hor, hb2⟩
  unfold axnVal parVal
  dsimp only at *
  obtain ⟨a3, c3, rfl⟩ := own_form hu
  obtain ⟨a4, c4, rfl⟩ := own_form hx2
  have j0_0 : w2.cell? ⟨w.heap.size, 0, none⟩ = some (.int .i64 md) := cellk hb2 (by simp; try omega) k0_0
  have j0_1 : w2.cell? ⟨w.heap.size, 1, none⟩ = some (.int .i64 st) := cellk hb2 (by simp; try omega) k0_1
  have j0_2 : w2.cell? ⟨w.heap.size, 2, none⟩ = some (.bool pv) := cellk hb2 (by simp; try omega) k0_2
  have j0_3 : w2.cell? ⟨w.heap.size, 3, none⟩ = some (.slice a1 ns.length c1) := cellk hb2 (by simp; try omega) k0_3
  have j1_0 : w2.cell? ⟨w.heap.size + 1, 0, none⟩ = some (.int .i64 0) := cellk hb2 (by simp; try omega) k1_0
  have j1_1 : w2.cell? ⟨w.heap.size + 1, 1, none⟩ = some (.int .i64 0) := cellk hb2 (by simp; try omega) k1_1
  have j1_2 : w2.cell? ⟨w.heap.size + 1, 2, none⟩ = some (.int .i64 0) := cellk hb2 (by simp; try omega) k1_2
  have j1_3 : w2.cell? ⟨w.heap.size + 1, 3, none⟩ = some (.bool false) := cellk hb2 (by simp; try omega) k1_3
  have j1_4 : w2.cell? ⟨w.heap.size + 1, 4, none⟩ = some (.slice none 0 0) := cellk hb2 (by simp; try omega) k1_4
  have j2_0 : w2.cell? ⟨w.heap.size + 2, 0, none⟩ = some (.int .i64 0) := cellk hb2 (by simp; try omega) k2_0
  have j2_1 : w2.cell? ⟨w.heap.size + 2, 1, none⟩ = some (.int .i64 0) := cellk hb2 (by simp; try omega) k2_1
  have j2_2 : w2.cell? ⟨w.heap.size + 2, 2, none⟩ = some (.bool false) := cellk hb2 (by simp; try omega) k2_2
  have j2_3 : w2.cell? ⟨w.heap.size + 2, 3, none⟩ = some (.slice none 0 0) := cellk hb2 (by simp; try omega) k2_3
  have g0 : ∀ o, w2.frozen? ⟨w.heap.size, o, none⟩ = false := fun o => by rw [hb2.frozen (p := ⟨w.heap.size, o, none⟩) (by simp; try omega)]; exact f0 o
  have g1 : ∀ o, w2.frozen? ⟨w.heap.size + 1, o, none⟩ = false := fun o => by rw [hb2.frozen (p := ⟨w.heap.size + 1, o, none⟩) (by simp; try omega)]; exact f1 o
  have g2 : ∀ o, w2.frozen? ⟨w.heap.size + 2, o, none⟩ = false := fun o => by rw [hb2.frozen (p := ⟨w.heap.size + 2, o, none⟩) (by simp; try omega)]; exact f2 o
  have hs2 : w.heap.size + 3 ≤ w2.heap.size := by have := hb2.size; first | omega | (simp at this; omega)
  replace hu : w2.ownsRow (w.heap.size + 3) 2 1 (.slice a3 al.length c3) al.length (intsV al) := by simpa using hu
  replace hx2 : w2.ownsRow (w.heap.size + 3) 2 1 (.slice a4 ns'.length c4) ns'.length (intsV ns') := by simpa using hx2
  have HA : Hid (∀ b, b < w.heap.size + 3 → some b ≠ (Value.slice a3 al.length c3).ownBlock) := hide (fun b h2 h => by have := (hu.lt b h.symm).1; omega)
  have HA2 : Hid (∀ b, b < w.heap.size + 3 → some b ≠ (Value.slice a4 ns'.length c4).ownBlock) := hide (fun b h2 h => by have := (hx2.lt b h.symm).1; omega)
  have HU := hide hu
  have HX := hide hx2
  have HOR := hide hor
  have hb3 : Below w.heap.size w w2 := hb1.trans (hb2.mono (by omega))
  clear hb2 hu hx2 hor HC hb1 HO k0_0 k0_1 k0_2 k0_3 k1_0 k1_1 k1_2 k1_3 k1_4 k2_0 k2_1 k2_2 k2_3 f0 f1 f2
  go_wp2
  try go_region
  all_goals try go_wp2
  all_goals refine bodyPost_ret (v := .tuple #[.agg #[.int .i64 kd, .int .i64 ch, .int .i64 st2, .bool pv2, .slice a3 al.length c3], .agg #[.int .i64 md', .int .i64 st', .bool pv', .slice a4 ns'.length c4]]) (by simp only [results, Try.results40]; simp [go_sem, j0_0, j0_1, j0_2, j0_3, j1_0, j1_1, j1_2, j1_3, j1_4, j2_0, j2_1, j2_2, j2_3]) rfl ⟨.slice a3 al.length c3, .slice a4 ns'.length c4, rfl, (by refine own_base (base := w.heap.size + 3) ?_ (by omega); repeat' (first | with_reducible exact HU.out | with_reducible refine own_drewN ?_ | with_reducible refine own_drew ?_ | with_reducible refine own_setCell ?_ ?_ | exact HA.out _ (by omega))), (by refine own_base (base := w.heap.size + 3) ?_ (by omega); repeat' (first | with_reducible exact HX.out | with_reducible refine own_drewN ?_ | with_reducible refine own_drew ?_ | with_reducible refine own_setCell ?_ ?_ | exact HA2.out _ (by omega))), HOR.out, (by repeat' (first | with_reducible exact Below.refl _ _ | with_reducible assumption | with_reducible refine Below.drew ?_ | with_reducible refine Below.alloc ?_ ?_ _ | with_reducible refine Below.setCell ?_ ?_ _ | (simp; done) | (simp; omega) | omega))⟩

theorem par_none {p : Par} (h : p.code = 0) (hm : ¬ p.md = 2) : p.ns = [] := by
  obtain ⟨md, st, pv, ns⟩ := p
  dsimp only at hm ⊢
  cases hf : formB md st pv ns with
  | false => have := parCode_form hf; rw [show Par.code ⟨md, st, pv, ns⟩ = parCode md st pv ns from rfl, this] at h; omega
  | true =>
    unfold formB at hf
    cases ns with
    | nil => rfl
    | cons x l => exfalso; revert hf; simp [hm]
theorem par_len {p : Par} (h : p.code = 0) : p.ns.length ≤ 6 := by
  by_cases hm : p.md = 2
  · exact (par_fine h hm).2.1
  · rw [par_none h hm]; simp
theorem l4Step_calls (p : Par) (c : Int) (v : Value) (w : World) (hp : p.code = 0) (h1 : ReadAt .i64 w v p.ns) :
    Calls Try.prog 40 #[parVal p v, .int .i64 c] w (StepPost w.heap.size (stepPA p c) w) := by
  have hn : p.ns.length ≤ 1048576 := by have := par_len hp; omega
  have hf := fun hm => par_fine hp hm
  obtain ⟨md, st, pv, ns⟩ := p
  dsimp only at *
  unfold parVal
  dsimp only
  by_cases h24 : c = 24
  · exact l4Step_cancel24 md st pv ns c v w hn h1 h24
  by_cases h26 : c = 26
  · exact l4Step_cancel26 md st pv ns c v w hn h1 h26
  by_cases h27 : c = 27
  · exact l4Step_escape md st pv ns c v w hn h1 h27
  by_cases h32 : c < 32
  · exact l4Step_control md st pv ns c v w hn h1 h24 h26 h27 h32
  by_cases h127 : c = 127
  · exact l4Step_erase md st pv ns c v w hn h1 h127
  have hc : 32 ≤ c := by omega
  by_cases m1 : md = 1
  · exact l4Step_begun md st pv ns c v w hn h1 hc h127 m1
  by_cases m2 : md = 2
  · have hf := hf m2
    exact l4Step_params md st pv ns c v w hn h1 hc h127 m2 hf.1 hf.2.1 hf.2.2
  by_cases m3 : md = 3
  · exact l4Step_set md st pv ns c v w hn h1 hc h127 m3
  · exact l4Step_print md st pv ns c v w hn h1 hc h127 m1 m2 m3

end Go.Proofs.Ytaljegjflkebcaa
