/-
  impl.withParam walked: a character among the numbers of a parser.
-/
import Derived.Test.YtaljegjflkebcaaRows
import Derived.Test.YtaljegjflkebcaaStepMath
import Derived.Test.YtaljegjflkebcaaUntil
import Derived.RegionTactic
namespace Go.Proofs.Ytaljegjflkebcaa
open Go.ChangeShapes Go.WideShapes Go.ChangeAt Go.RowKit
set_option linter.unusedVariables false
set_option linter.unusedSimpArgs false

theorem info_ints : (Try.prog.info? 2).map (fun i => (i.zero, i.size, i.bytes)) = some (some (.int .i64 0), 1, 8) := by kernel_rfl

set_option maxHeartbeats 400000 in
theorem withParam_none (md st : Int) (pv : Bool) (ns : List Int) (c : Int) (base : Nat) (v : Value) (w : World) (hl : 0 < ns.length) (hl6 : ns.length ≤ 6) (hx : ∀ x ∈ ns, 0 ≤ x ∧ x ≤ 999) (hbase : base ≤ w.heap.size) (hown : w.ownsRow base 2 1 v ns.length (intsV ns)) (hc1 : ¬ (48 ≤ c ∧ c ≤ 57)) (hc2 : c = 59 → ¬ ns.length < 6) (hc3 : ¬ c = 63) :
    Calls Try.prog 61 #[.agg #[.int .i64 md, .int .i64 st, .bool pv, v], .int .i64 c] w fun e w' => ∃ v', e = .returned (.agg #[.int .i64 md, .int .i64 st, .bool (paramP ⟨md, st, pv, ns⟩ c).pv, v']) ∧ w'.ownsRow base 2 1 v' (paramP ⟨md, st, pv, ns⟩ c).ns.length (intsV (paramP ⟨md, st, pv, ns⟩ c).ns) ∧ GrowTo w w' v v' := by
  have hp : paramP ⟨md, st, pv, ns⟩ c = ⟨md, st, pv, ns⟩ := by unfold paramP; rw [if_neg hc1]; by_cases h : c = 59 <;> simp [h, hc2, hc3]
  rw [hp]
  clear hp
  dsimp only
  obtain ⟨g, cap, rfl, hgb, hgs, hgc, hgf⟩ := own_spot hown hl
  have HC := hide hgc
  clear hgc
  have hd : decide ((48 : Int) ≤ c ∧ c ≤ 57) = false := by simp; omega
  have q3 : (c == 63) = false := by simpa using hc3
  by_cases h59 : c = 59
  · have q2 : ¬ ((ns.length : Int) < 6) := by have := hc2 h59; omega
    subst h59
    clear hc1 hc2 hc3 q3
    go_enter Try.func61, Try.ntmps61
    go_wp2_with fail
    refine (isFromTo_calls 59 48 57 _).mono ?_
    rintro e w' ⟨rfl, hw⟩
    rw [hw, hd]
    clear hw w'
    go_wp2
    refine bodyPost_ret (v := .agg #[.int .i64 md, .int .i64 st, .bool pv, .slice (some ⟨g, 0, none⟩) ns.length cap]) (by simp only [results, Try.results61]; simp [go_sem]) rfl ⟨_, rfl, ?_, ?_⟩
    · exact (by repeat' (first | with_reducible exact hown | with_reducible refine own_alloc ?_ _ | with_reducible refine own_drewN ?_ | with_reducible refine own_drew ?_ | with_reducible refine own_setCell ?_ ?_ | (simp [Value.ownBlock]; done) | (simp [Value.ownBlock]; omega) | omega))
    · exact (by repeat' (first | with_reducible exact GrowTo.refl _ _ | with_reducible refine GrowTo.more ?_ _ | with_reducible refine GrowTo.drewN ?_ _ | with_reducible refine GrowTo.drew ?_ | with_reducible refine GrowTo.setCell ?_ ?_ _ | (simp; done) | (simp; omega) | omega))
  · have q2 : (c == 59) = false := by simpa using h59
    clear hc1 hc2 hc3 h59
    go_enter Try.func61, Try.ntmps61
    go_wp2_with fail
    refine (isFromTo_calls c 48 57 _).mono ?_
    rintro e w' ⟨rfl, hw⟩
    rw [hw, hd]
    clear hw w'
    go_wp2
    refine bodyPost_ret (v := .agg #[.int .i64 md, .int .i64 st, .bool pv, .slice (some ⟨g, 0, none⟩) ns.length cap]) (by simp only [results, Try.results61]; simp [go_sem]) rfl ⟨_, rfl, ?_, ?_⟩
    · exact (by repeat' (first | with_reducible exact hown | with_reducible refine own_alloc ?_ _ | with_reducible refine own_drewN ?_ | with_reducible refine own_drew ?_ | with_reducible refine own_setCell ?_ ?_ | (simp [Value.ownBlock]; done) | (simp [Value.ownBlock]; omega) | omega))
    · exact (by repeat' (first | with_reducible exact GrowTo.refl _ _ | with_reducible refine GrowTo.more ?_ _ | with_reducible refine GrowTo.drewN ?_ _ | with_reducible refine GrowTo.drew ?_ | with_reducible refine GrowTo.setCell ?_ ?_ _ | (simp; done) | (simp; omega) | omega))

set_option maxHeartbeats 400000 in
theorem withParam_priv (md st : Int) (pv : Bool) (ns : List Int) (c : Int) (base : Nat) (v : Value) (w : World) (hl : 0 < ns.length) (hl6 : ns.length ≤ 6) (hx : ∀ x ∈ ns, 0 ≤ x ∧ x ≤ 999) (hbase : base ≤ w.heap.size) (hown : w.ownsRow base 2 1 v ns.length (intsV ns)) (hc : c = 63) :
    Calls Try.prog 61 #[.agg #[.int .i64 md, .int .i64 st, .bool pv, v], .int .i64 c] w fun e w' => ∃ v', e = .returned (.agg #[.int .i64 md, .int .i64 st, .bool (paramP ⟨md, st, pv, ns⟩ c).pv, v']) ∧ w'.ownsRow base 2 1 v' (paramP ⟨md, st, pv, ns⟩ c).ns.length (intsV (paramP ⟨md, st, pv, ns⟩ c).ns) ∧ GrowTo w w' v v' := by
  have hp : paramP ⟨md, st, pv, ns⟩ c = ⟨md, st, true, ns⟩ := by unfold paramP; subst hc; rfl
  rw [hp]
  clear hp
  dsimp only
  obtain ⟨g, cap, rfl, hgb, hgs, hgc, hgf⟩ := own_spot hown hl
  have HC := hide hgc
  clear hgc
  have hd : decide ((48 : Int) ≤ 63 ∧ (63 : Int) ≤ 57) = false := rfl
  subst hc
  go_enter Try.func61, Try.ntmps61
  go_wp2_with fail
  refine (isFromTo_calls 63 48 57 _).mono ?_
  rintro e w' ⟨rfl, hw⟩
  rw [hw, hd]
  clear hw w'
  go_wp2
  refine bodyPost_ret (v := .agg #[.int .i64 md, .int .i64 st, .bool true, .slice (some ⟨g, 0, none⟩) ns.length cap]) (by simp only [results, Try.results61]; simp [go_sem]) rfl ⟨_, rfl, ?_, ?_⟩
  · exact (by repeat' (first | with_reducible exact hown | with_reducible refine own_alloc ?_ _ | with_reducible refine own_drewN ?_ | with_reducible refine own_drew ?_ | with_reducible refine own_setCell ?_ ?_ | (simp [Value.ownBlock]; done) | (simp [Value.ownBlock]; omega) | omega))
  · exact (by repeat' (first | with_reducible exact GrowTo.refl _ _ | with_reducible refine GrowTo.more ?_ _ | with_reducible refine GrowTo.drewN ?_ _ | with_reducible refine GrowTo.drew ?_ | with_reducible refine GrowTo.setCell ?_ ?_ _ | (simp; done) | (simp; omega) | omega))

set_option maxHeartbeats 400000 in
theorem withParam_more (md st : Int) (pv : Bool) (ns : List Int) (c : Int) (base : Nat) (v : Value) (w : World) (hl : 0 < ns.length) (hl6 : ns.length ≤ 6) (hx : ∀ x ∈ ns, 0 ≤ x ∧ x ≤ 999) (hbase : base ≤ w.heap.size) (hown : w.ownsRow base 2 1 v ns.length (intsV ns)) (hc : c = 59) (hl5 : ns.length < 6) :
    Calls Try.prog 61 #[.agg #[.int .i64 md, .int .i64 st, .bool pv, v], .int .i64 c] w fun e w' => ∃ v', e = .returned (.agg #[.int .i64 md, .int .i64 st, .bool (paramP ⟨md, st, pv, ns⟩ c).pv, v']) ∧ w'.ownsRow base 2 1 v' (paramP ⟨md, st, pv, ns⟩ c).ns.length (intsV (paramP ⟨md, st, pv, ns⟩ c).ns) ∧ GrowTo w w' v v' := by
  have hp : paramP ⟨md, st, pv, ns⟩ c = ⟨md, st, pv, ns ++ [0]⟩ := by unfold paramP; subst hc; rw [if_neg (by omega), if_pos rfl, if_pos hl5]
  rw [hp]
  clear hp
  dsimp only
  obtain ⟨g, cap, rfl, hgb, hgs, hgc, hgf⟩ := own_spot hown hl
  have HC := hide hgc
  clear hgc
  have hd : decide ((48 : Int) ≤ 59 ∧ (59 : Int) ≤ 57) = false := rfl
  have q2 : ((ns.length : Int) < 6) := by omega
  obtain ⟨i0, hi, hz0, hz1, hz2⟩ := info_parts info_ints
  subst hc
  go_enter Try.func61, Try.ntmps61
  go_wp2_with fail
  refine (isFromTo_calls 59 48 57 _).mono ?_
  rintro e w' ⟨rfl, hw⟩
  rw [hw, hd]
  clear hw w'
  go_wp2_with (at_builtin; refine wpList_append_grow _ rfl (.tmp 37) (.tmp 38) 22 rfl base 2 i0 (.int .i64 0) 1 8 Try.underlying22 hi hz0 hz1 hz2 rfl (by decide) (.slice (some ⟨g, 0, none⟩) ns.length cap) ns.length (intsV ns) rfl (((hown.alloc _).alloc _).alloc _) ⟨w.heap.size + 2, 0, none⟩ 1 1 (intsV [0]) rfl rfl (new_row_at (by simp) rfl) (ints_one_cell _ _) (by unfold maxLen; omega) (by omega) (by simp; omega) ?_)
  intro v' w1 hown1 hgrow1
  rw [← intsV_append] at hown1
  have hown1' : w1.ownsRow base 2 1 v' (ns ++ [0]).length (intsV (ns ++ [0])) := by simpa using hown1
  obtain ⟨a3, c3, rfl⟩ := own_form hown1
  have hne0 : some w.heap.size ≠ (Value.slice (some ⟨g, 0, none⟩) ns.length cap).ownBlock := by simp [Value.ownBlock]; omega
  have hne1 : some (w.heap.size + 1) ≠ (Value.slice (some ⟨g, 0, none⟩) ns.length cap).ownBlock := by simp [Value.ownBlock]; omega
  have k0 : w1.cell? ⟨w.heap.size, 0, none⟩ = some (.int .i64 md) := by rw [hgrow1.cell (by simp; try omega) hne0]; simp [go_sem]
  have k1 : w1.cell? ⟨w.heap.size, 1, none⟩ = some (.int .i64 st) := by rw [hgrow1.cell (by simp; try omega) hne0]; simp [go_sem]
  have k2 : w1.cell? ⟨w.heap.size, 2, none⟩ = some (.bool pv) := by rw [hgrow1.cell (by simp; try omega) hne0]; simp [go_sem]
  have k3 : w1.cell? ⟨w.heap.size, 3, none⟩ = some (.slice (some ⟨g, 0, none⟩) ns.length cap) := by rw [hgrow1.cell (by simp; try omega) hne0]; simp [go_sem]
  have j0 : w1.cell? ⟨w.heap.size + 1, 0, none⟩ = some (.int .i64 0) := by rw [hgrow1.cell (by simp; try omega) hne1]; simp [go_sem]
  have j1 : w1.cell? ⟨w.heap.size + 1, 1, none⟩ = some (.int .i64 0) := by rw [hgrow1.cell (by simp; try omega) hne1]; simp [go_sem]
  have j2 : w1.cell? ⟨w.heap.size + 1, 2, none⟩ = some (.bool false) := by rw [hgrow1.cell (by simp; try omega) hne1]; simp [go_sem]
  have j3 : w1.cell? ⟨w.heap.size + 1, 3, none⟩ = some (.slice none 0 0) := by rw [hgrow1.cell (by simp; try omega) hne1]; simp [go_sem]
  have f0 : ∀ o, w1.frozen? ⟨w.heap.size, o, none⟩ = false := fun o => by rw [hgrow1.frozen (by simp; try omega) hne0]; simp [go_sem]
  have f1 : ∀ o, w1.frozen? ⟨w.heap.size + 1, o, none⟩ = false := fun o => by rw [hgrow1.frozen (by simp; try omega) hne1]; simp [go_sem]
  have HB0 := hide (hgrow1.apart (b := w.heap.size) (by simp; try omega) hne0)
  have HB1 := hide (hgrow1.apart (b := w.heap.size + 1) (by simp; try omega) hne1)
  have hg2 := hide ((((GrowTo.refl w (.slice (some ⟨g, 0, none⟩) ns.length cap)).more _).more _).more _ |>.trans hgrow1)
  have HO := hide hown1'
  clear hgrow1 hne0 hne1 hown1 hown1' HC
  go_wp2
  refine bodyPost_ret (v := .agg #[.int .i64 md, .int .i64 st, .bool pv, .slice a3 (ns.length + 1) c3]) (by simp only [results, Try.results61]; simp [go_sem, k0, j0, k1, j1, k2, j2, k3, j3]) rfl ⟨_, rfl, ?_, ?_⟩
  · exact own_setCell (own_setCell (own_setCell (own_setCell (own_setCell HO.out HB0.out) HB1.out) HB1.out) HB1.out) HB1.out
  · exact (by repeat' (first | with_reducible exact hg2.out | with_reducible refine GrowTo.more ?_ _ | with_reducible refine GrowTo.drewN ?_ _ | with_reducible refine GrowTo.drew ?_ | with_reducible refine GrowTo.setCell ?_ ?_ _ | (simp; done) | (simp; omega) | omega))

set_option maxHeartbeats 400000 in
theorem withParam_digit (md st : Int) (pv : Bool) (ns : List Int) (c : Int) (base : Nat) (v : Value) (w : World) (hl : 0 < ns.length) (hl6 : ns.length ≤ 6) (hx : ∀ x ∈ ns, 0 ≤ x ∧ x ≤ 999) (hbase : base ≤ w.heap.size) (hown : w.ownsRow base 2 1 v ns.length (intsV ns)) (hc1 : 48 ≤ c) (hc2 : c ≤ 57) :
    Calls Try.prog 61 #[.agg #[.int .i64 md, .int .i64 st, .bool pv, v], .int .i64 c] w fun e w' => ∃ v', e = .returned (.agg #[.int .i64 md, .int .i64 st, .bool (paramP ⟨md, st, pv, ns⟩ c).pv, v']) ∧ w'.ownsRow base 2 1 v' (paramP ⟨md, st, pv, ns⟩ c).ns.length (intsV (paramP ⟨md, st, pv, ns⟩ c).ns) ∧ GrowTo w w' v v' := by
  have hp : paramP ⟨md, st, pv, ns⟩ c = ⟨md, st, pv, digitL ns c⟩ := by unfold paramP; rw [if_pos ⟨hc1, hc2⟩]
  rw [hp]
  clear hp
  dsimp only
  obtain ⟨g, cap, rfl, hgb, hgs, hgc, hgf⟩ := own_spot hown hl
  have HC := hide hgc
  clear hgc
  have hd : decide ((48 : Int) ≤ c ∧ c ≤ 57) = true := by simp; omega
  generalize hL : ns.length - 1 = L
  have hLl : L < ns.length := by omega
  have g1 := HC.out L hLl
  have f1 := hgf L
  have hX : 0 ≤ ns.getD L 0 ∧ ns.getD L 0 ≤ 999 := hx _ (by rw [show ns.getD L 0 = ns[L] from by simp [List.getD_eq_getElem?_getD, hLl]]; exact List.getElem_mem hLl)
  have HD : Hid (digitL ns c = ns.set L (min (10 * ns.getD L 0 + c - 48) 999)) := hide (by unfold digitL; rw [hL])
  generalize ns.getD L 0 = x at *
  obtain ⟨hX1, hX2⟩ := hX
  have hq : ((ns.length : Int) - 1) = (L : Int) := by omega
  have w1 : IntKind.i64.wrap (10 * x) = 10 * x := wrap_small (by omega) (by omega)
  have w2 : IntKind.i64.wrap (10 * x + c) = 10 * x + c := wrap_small (by omega) (by omega)
  have w3 : IntKind.i64.wrap (10 * x + c - 48) = 10 * x + c - 48 := wrap_small (by omega) (by omega)
  have HM : Hid ((if 10 * x + c - 48 < 999 then 10 * x + c - 48 else 999) = min (10 * x + c - 48) 999) := hide (by split <;> omega)
  have hm1 : (if 999 < 10 * x + c - 48 then 999 else 10 * x + c - 48) = min (10 * x + c - 48) 999 := by split <;> omega
  generalize hM : min (10 * x + c - 48) 999 = m at *
  have hLn : ((L : Nat) : Int).toNat = L := by omega
  have hLI : ((L : Int) < (ns.length : Int)) := by omega
  clear HC hx hgf hM
  go_enter Try.func61, Try.ntmps61
  go_wp2_with fail
  refine (isFromTo_calls c 48 57 _).mono ?_
  rintro e w' ⟨rfl, hw⟩
  rw [hw, hd]
  clear hw w'
  go_wp2_with fail
  refine till_region [14] (S := (fun w' => Below w.heap.size w w' ∧ w'.cell? ⟨w.heap.size, 3, none⟩ = some (.slice (some ⟨g, 0, none⟩) ns.length cap) ∧ w'.cell? ⟨g, L, none⟩ = some (.int .i64 x) ∧ w'.frozen? ⟨g, L, none⟩ = false)) (by kernel_rfl) ?_ (fun hHeld => ?_)
  · (try dsimp only); exact ⟨(by repeat' (first | with_reducible exact Below.refl _ _ | with_reducible assumption | with_reducible refine Below.drew ?_ | with_reducible refine Below.alloc ?_ ?_ _ | with_reducible refine Below.setCell ?_ ?_ _ | (simp; done) | (simp; omega) | omega)), by simp [go_sem], cellb (show Below w.heap.size w _ from (by repeat' (first | with_reducible exact Below.refl _ _ | with_reducible assumption | with_reducible refine Below.drew ?_ | with_reducible refine Below.alloc ?_ ?_ _ | with_reducible refine Below.setCell ?_ ?_ _ | (simp; done) | (simp; omega) | omega))) g1, ((show Below w.heap.size w _ from (by repeat' (first | with_reducible exact Below.refl _ _ | with_reducible assumption | with_reducible refine Below.drew ?_ | with_reducible refine Below.alloc ?_ ?_ _ | with_reducible refine Below.setCell ?_ ?_ _ | (simp; done) | (simp; omega) | omega))).frozen (p := ⟨g, L, none⟩) hgs).trans f1⟩
  refine till_take (i := 0) (oi := ⟨_, _, _, _, _, _⟩) (v := ?_) rfl (by kernel_rfl) (by kernel_rfl) (by kernel_rfl) (by kernel_rfl) (fun _ _ _ h => h) (Or.inl ⟨by rfl, ?_⟩) hHeld ?_
  rotate_left
  · (intro w hSw; (try dsimp only at hSw); go_simp; try (with_reducible rfl))
  try simp only [Act.put, List.setIfInBounds_toArray, List.set_cons_zero, List.set_cons_succ]
  refine till_take (i := 1) (oi := ⟨_, _, _, _, _, _⟩) (v := ?_) rfl (by kernel_rfl) (by kernel_rfl) (by kernel_rfl) (by kernel_rfl) (fun _ _ _ h => h) (Or.inl ⟨by rfl, ?_⟩) hHeld ?_
  rotate_left
  · (intro w hSw; (try dsimp only at hSw); go_simp; try (with_reducible rfl))
  try simp only [Act.put, List.setIfInBounds_toArray, List.set_cons_zero, List.set_cons_succ]
  refine till_take (i := 2) (oi := ⟨_, _, _, _, _, _⟩) (v := ?_) rfl (by kernel_rfl) (by kernel_rfl) (by kernel_rfl) (by kernel_rfl) (fun _ _ _ h => h) (Or.inl ⟨by rfl, ?_⟩) hHeld ?_
  rotate_left
  · (intro w hSw; (try dsimp only at hSw); go_simp; try (with_reducible rfl))
  try simp only [Act.put, List.setIfInBounds_toArray, List.set_cons_zero, List.set_cons_succ]
  refine till_take (i := 3) (oi := ⟨_, _, _, _, _, _⟩) (v := ?_) rfl (by kernel_rfl) (by kernel_rfl) (by kernel_rfl) (by kernel_rfl) (fun _ _ _ h => h) (Or.inl ⟨by rfl, ?_⟩) hHeld ?_
  rotate_left
  · (intro w hSw; (try dsimp only at hSw); go_simp; try (with_reducible rfl))
  try simp only [Act.put, List.setIfInBounds_toArray, List.set_cons_zero, List.set_cons_succ]
  refine till_take (i := 4) (oi := ⟨_, _, _, _, _, _⟩) (v := ?_) rfl (by kernel_rfl) (by kernel_rfl) (by kernel_rfl) (by kernel_rfl) (fun _ _ _ h => h) (Or.inl ⟨by rfl, ?_⟩) hHeld ?_
  rotate_left
  · (intro w hSw; (try dsimp only at hSw); go_simp; try (with_reducible rfl))
  try simp only [Act.put, List.setIfInBounds_toArray, List.set_cons_zero, List.set_cons_succ]
  refine till_take (i := 5) (oi := ⟨_, _, _, _, _, _⟩) (v := ?_) rfl (by kernel_rfl) (by kernel_rfl) (by kernel_rfl) (by kernel_rfl) (fun _ _ _ h => h) (Or.inl ⟨by rfl, ?_⟩) hHeld ?_
  rotate_left
  · (intro w hSw; (try dsimp only at hSw); go_simp; try (with_reducible rfl))
  try simp only [Act.put, List.setIfInBounds_toArray, List.set_cons_zero, List.set_cons_succ]
  refine till_take (i := 6) (oi := ⟨_, _, _, _, _, _⟩) (v := ?_) rfl (by kernel_rfl) (by kernel_rfl) (by kernel_rfl) (by kernel_rfl) (fun _ _ _ h => h) (Or.inl ⟨by rfl, ?_⟩) hHeld ?_
  rotate_left
  · (intro w hSw; (try dsimp only at hSw); go_simp; try (with_reducible rfl))
  try simp only [Act.put, List.setIfInBounds_toArray, List.set_cons_zero, List.set_cons_succ]
  refine till_take (i := 7) (oi := ⟨_, _, _, _, _, _⟩) (v := ?_) rfl (by kernel_rfl) (by kernel_rfl) (by kernel_rfl) (by kernel_rfl) (fun _ _ _ h => h) (Or.inl ⟨by rfl, ?_⟩) hHeld ?_
  rotate_left
  · (intro w hSw; (try dsimp only at hSw); go_simp; try (with_reducible rfl))
  try simp only [Act.put, List.setIfInBounds_toArray, List.set_cons_zero, List.set_cons_succ]
  refine till_take (i := 8) (oi := ⟨_, _, _, _, _, _⟩) (v := ?_) rfl (by kernel_rfl) (by kernel_rfl) (by kernel_rfl) (by kernel_rfl) (fun _ _ _ h => h) (Or.inl ⟨by rfl, ?_⟩) hHeld ?_
  rotate_left
  · (intro w hSw; (try dsimp only at hSw); go_simp; try (with_reducible rfl))
  try simp only [Act.put, List.setIfInBounds_toArray, List.set_cons_zero, List.set_cons_succ]
  refine till_take (i := 9) (oi := ⟨_, _, _, _, _, _⟩) (v := ?_) rfl (by kernel_rfl) (by kernel_rfl) (by kernel_rfl) (by kernel_rfl) (fun _ _ _ h => h) (Or.inl ⟨by rfl, ?_⟩) hHeld ?_
  rotate_left
  · (intro w hSw; (try dsimp only at hSw); go_simp; try (with_reducible rfl))
  try simp only [Act.put, List.setIfInBounds_toArray, List.set_cons_zero, List.set_cons_succ]
  refine till_take (i := 10) (oi := ⟨_, _, _, _, _, _⟩) (v := ?_) rfl (by kernel_rfl) (by kernel_rfl) (by kernel_rfl) (by kernel_rfl) (fun _ _ _ h => h) (Or.inl ⟨by rfl, ?_⟩) hHeld ?_
  rotate_left
  · (intro w hSw; (try dsimp only at hSw); go_simp; try (with_reducible rfl))
  try simp only [Act.put, List.setIfInBounds_toArray, List.set_cons_zero, List.set_cons_succ]
  refine till_take (i := 11) (oi := ⟨_, _, _, _, _, _⟩) (v := ?_) rfl (by kernel_rfl) (by kernel_rfl) (by kernel_rfl) (by kernel_rfl) (fun _ _ _ h => h) (Or.inl ⟨by rfl, ?_⟩) hHeld ?_
  rotate_left
  · (intro w hSw; (try dsimp only at hSw); go_simp; try (with_reducible rfl))
  try simp only [Act.put, List.setIfInBounds_toArray, List.set_cons_zero, List.set_cons_succ]
  refine till_take (i := 12) (oi := ⟨_, _, _, _, _, _⟩) (v := ?_) rfl (by kernel_rfl) (by kernel_rfl) (by kernel_rfl) (by kernel_rfl) (fun _ _ _ h => h) (Or.inl ⟨by rfl, ?_⟩) hHeld ?_
  rotate_left
  · (intro w hSw; (try dsimp only at hSw); go_simp; try (with_reducible rfl))
  try simp only [Act.put, List.setIfInBounds_toArray, List.set_cons_zero, List.set_cons_succ]
  refine till_take (i := 13) (oi := ⟨_, _, _, _, _, _⟩) (v := ?_) rfl (by kernel_rfl) (by kernel_rfl) (by kernel_rfl) (by kernel_rfl) (fun _ _ _ h => h) (Or.inl ⟨by rfl, ?_⟩) hHeld ?_
  rotate_left
  · (intro w hSw; (try dsimp only at hSw); go_simp; try (with_reducible rfl))
  try simp only [Act.put, List.setIfInBounds_toArray, List.set_cons_zero, List.set_cons_succ]
  refine till_ready (rs := [14]) (by kernel_rfl) (by simp) ?_
  refine EachTill.last (o := ⟨_, _, _, _, _, _⟩) rfl rfl (fun K hK => ?_) EachTill.nil
  go_simp
  refine hK.out _ _ ?_ ?_
  · (try dsimp only); first | done | trivial
  clear hHeld hK K
  intro hHeld
  try simp only [Act.put, List.setIfInBounds_toArray, List.set_cons_zero, List.set_cons_succ]
  refine till_done (by kernel_rfl) ?_ _
  clear hHeld
  go_wp2
  refine bodyPost_ret (v := .agg #[.int .i64 md, .int .i64 st, .bool pv, .slice (some ⟨g, 0, none⟩) ns.length cap]) (by simp only [results, Try.results61]; simp [go_sem]) rfl ⟨_, rfl, ?_, ?_⟩
  · rw [HD.out, List.length_set, intsV_set]; exact (by repeat' (first | with_reducible exact own_put hown hLl | with_reducible refine own_alloc ?_ _ | with_reducible refine own_drewN ?_ | with_reducible refine own_drew ?_ | with_reducible refine own_setCell ?_ ?_ | (simp [Value.ownBlock]; done) | (simp [Value.ownBlock]; omega) | omega))
  · exact (by repeat' (first | with_reducible exact GrowTo.put _ | with_reducible refine GrowTo.more ?_ _ | with_reducible refine GrowTo.drewN ?_ _ | with_reducible refine GrowTo.drew ?_ | with_reducible refine GrowTo.setCell ?_ ?_ _ | (simp; done) | (simp; omega) | omega))

theorem withParam_calls (md st : Int) (pv : Bool) (ns : List Int) (c : Int) (base : Nat) (v : Value) (w : World) (hl : 0 < ns.length) (hl6 : ns.length ≤ 6) (hx : ∀ x ∈ ns, 0 ≤ x ∧ x ≤ 999) (hbase : base ≤ w.heap.size) (hown : w.ownsRow base 2 1 v ns.length (intsV ns)) :
    Calls Try.prog 61 #[.agg #[.int .i64 md, .int .i64 st, .bool pv, v], .int .i64 c] w fun e w' => ∃ v', e = .returned (.agg #[.int .i64 md, .int .i64 st, .bool (paramP ⟨md, st, pv, ns⟩ c).pv, v']) ∧ w'.ownsRow base 2 1 v' (paramP ⟨md, st, pv, ns⟩ c).ns.length (intsV (paramP ⟨md, st, pv, ns⟩ c).ns) ∧ GrowTo w w' v v' := by
  by_cases h1 : 48 ≤ c ∧ c ≤ 57
  · exact withParam_digit md st pv ns c base v w hl hl6 hx hbase hown h1.1 h1.2
  by_cases h2 : c = 59 ∧ ns.length < 6
  · exact withParam_more md st pv ns c base v w hl hl6 hx hbase hown h2.1 h2.2
  by_cases h3 : c = 63
  · exact withParam_priv md st pv ns c base v w hl hl6 hx hbase hown h3
  exact withParam_none md st pv ns c base v w hl hl6 hx hbase hown h1 (fun h h' => h2 ⟨h, h'⟩) h3

end Go.Proofs.Ytaljegjflkebcaa
