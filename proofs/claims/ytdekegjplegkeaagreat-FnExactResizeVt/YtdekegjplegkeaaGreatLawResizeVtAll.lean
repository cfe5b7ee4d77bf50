/-
  For every terminal and every two int64 the law FnExactResizeVt returns true: impl.ResizeVt answers at each terminal and each size what the model's ResizeVt answers, every field; its lists are memory of its own, and it turns no argument. No condition (the law itself passes terminals of more than 1048576 numbers, cells, tab stops and tables together by).
-/
import Derived.Test.YtdekegjplegkeaaGreatLawResizeVtP2
import Derived.Test.YtdekegjplegkeaaGreatRows
import Derived.Test.YtdekegjplegkeaaGreatStepMath
import Derived.Test.YtdekegjplegkeaaGreatUntil
import Derived.RegionTactic
import Derived.Test.YtdekegjplegkeaaGreatAppendRead
import Derived.Test.YtdekegjplegkeaaGreatVtNew
import Derived.Test.YtdekegjplegkeaaGreatVtFaults
import Derived.Test.YtdekegjplegkeaaGreatGridFns
import Derived.Test.YtdekegjplegkeaaGreatCellFns
import Derived.Test.YtdekegjplegkeaaGreatScrFns
import Derived.Test.YtdekegjplegkeaaGreatVtFns
import Derived.Test.YtdekegjplegkeaaGreatPairMem
import Derived.WalkKit
import Derived.ProofKit
import Derived.OpenShut
import Derived.Below
import Derived.Deep.SlicePairs
import Derived.Lib.SmallJoins
import Derived.Test.YtdekegjplegkeaaGreatScrMem
import Derived.ChangeSlices
import Derived.Deep.Grids
import Derived.Test.YtdekegjplegkeaaGreatVtMem
import Derived.Deep.RegionHeld
import Derived.ShutString
import Derived.ChangeOld
/- How long the lists of ResizeScreen's answer are. -/
namespace Go.Proofs.YtdekegjplegkeaaGreat
set_option maxRecDepth 20000
open Go.ChangeShapes Go.WideShapes Go.ChangeAt Go.RowKit
set_option linter.unusedVariables false
set_option linter.unusedSimpArgs false
set_option maxRecDepth 20000

theorem rzRes_len (s : Scr) (rows width : Int) (h4 : s.sets.length ≤ 1048576) : (rzRes s rows width).s.cs.length ≤ 1048576 ∧ (rzRes s rows width).s.bs.length ≤ 1048576 ∧ (rzRes s rows width).s.tabs.length ≤ 1048576 ∧ (rzRes s rows width).s.sets.length ≤ 1048576 := by
  unfold rzRes
  split
  · rename_i hc
    split
    · rename_i hz
      have hG := rz_grid_code hc
      obtain ⟨R, W, R', W', Hb, N', M', eR, eW, rfl, rfl, p1, p2, p3, p4, p5, p6, p7, p8, p9, p10, p11, p12, e1, e2, e3, e4, e5⟩ := resize_nats (gfine_of_code hG) hz
      have eW' : s.wd.toNat = W := by omega
      have eR' : s.r.toNat = R := by omega
      have e' : rzGrid s (R' : Int) (W' : Int) = ⟨0, (R' : Int), (W' : Int), mkL N' (fitF W W' (min R' R) (fun i => s.cs.getD i (0, 0)) (32, 0)), mkL M' (fitF W W' Hb (fun i => s.bs.getD i (0, 0)) (32, 0))⟩ := by
        unfold rzGrid
        rw [resizeRes_def, gres_ok hG hz]
        simp only [eW', eR', Int.toNat_natCast, e3, ← e4, ← e5]
      refine ⟨?_, ?_, ?_, h4⟩
      · show (rzGrid s (R' : Int) (W' : Int)).cs.length ≤ _
        rw [e', mkL_length]; omega
      · show (rzGrid s (R' : Int) (W' : Int)).bs.length ≤ _
        rw [e', mkL_length]; omega
      · show (tabsW s.tabs (W' : Int).toNat).length ≤ _
        rw [tabsW_length, Int.toNat_natCast]; omega
    · simp [sbad, scr0]
  · simp [sbad, scr0]
end Go.Proofs.YtdekegjplegkeaaGreat

/- impl.withParam walked: a character among the numbers of a parser. -/
namespace Go.Proofs.YtdekegjplegkeaaGreat
set_option maxRecDepth 20000
open Go.ChangeShapes Go.WideShapes Go.ChangeAt Go.RowKit
set_option linter.unusedVariables false
set_option linter.unusedSimpArgs false

theorem info_ints : (Tryz.prog.info? 2).map (fun i => (i.zero, i.size, i.bytes)) = some (some (.int .i64 0), 1, 8) := by kernel_rfl

set_option maxHeartbeats 400000 in
theorem withParam_none (md st : Int) (pv : Bool) (ns : List Int) (c : Int) (base : Nat) (v : Value) (w : World) (hl : 0 < ns.length) (hl6 : ns.length ≤ 6) (hx : ∀ x ∈ ns, 0 ≤ x ∧ x ≤ 999) (hbase : base ≤ w.heap.size) (hown : w.ownsRow base 2 1 v ns.length (intsV ns)) (hc1 : ¬ (48 ≤ c ∧ c ≤ 57)) (hc2 : c = 59 → ¬ ns.length < 6) (hc3 : ¬ c = 63) :
    Calls Tryz.prog 188 #[.agg #[.int .i64 md, .int .i64 st, .bool pv, v], .int .i64 c] w fun e w' => ∃ v', e = .returned (.agg #[.int .i64 md, .int .i64 st, .bool (paramP ⟨md, st, pv, ns⟩ c).pv, v']) ∧ w'.ownsRow base 2 1 v' (paramP ⟨md, st, pv, ns⟩ c).ns.length (intsV (paramP ⟨md, st, pv, ns⟩ c).ns) ∧ GrowTo w w' v v' := by
  have hp : paramP ⟨md, st, pv, ns⟩ c = ⟨md, st, pv, ns⟩ := by unfold paramP; rw [if_neg hc1]; by_cases h : c = 59 <;> simp [h, hc2, hc3]
  rw [hp]
  clear hp
  dsimp only
  obtain ⟨g, cap, rfl, hgb, hgs, hgc, hgf⟩ := own_spot hown hl
  have HC := hide hgc
  clear hgc
  have hd : decide ((48 : Int) ≤ c ∧ c ≤ 57) = false := by simp; omega
  have q3 : (c == 63) = false := by simpa using hc3
  by_cases h59 : c = 59
  · have q2 : ¬ ((ns.length : Int) < 6) := by have := hc2 h59; omega
    subst h59
    clear hc1 hc2 hc3 q3
    go_enter Tryz.func188, Tryz.ntmps188
    go_wp2_with fail
    refine (isFromTo_calls 59 48 57 _).mono ?_
    rintro e w' ⟨rfl, hw⟩
    rw [hw, hd]
    clear hw w'
    go_wp2
    refine bodyPost_ret (v := .agg #[.int .i64 md, .int .i64 st, .bool pv, .slice (some ⟨g, 0, none⟩) ns.length cap]) (by simp only [results, Tryz.results188]; simp [go_sem]) rfl ⟨_, rfl, ?_, ?_⟩
    · exact (by repeat' (first | with_reducible exact hown | with_reducible refine own_alloc ?_ _ | with_reducible refine own_drewN ?_ | with_reducible refine own_drew ?_ | with_reducible refine own_setCell ?_ ?_ | (simp [Value.ownBlock]; done) | (simp [Value.ownBlock]; omega) | omega))
    · exact (by repeat' (first | with_reducible exact GrowTo.refl _ _ | with_reducible refine GrowTo.more ?_ _ | with_reducible refine GrowTo.drewN ?_ _ | with_reducible refine GrowTo.drew ?_ | with_reducible refine GrowTo.setCell ?_ ?_ _ | (simp; done) | (simp; omega) | omega))
  · have q2 : (c == 59) = false := by simpa using h59
    clear hc1 hc2 hc3 h59
    go_enter Tryz.func188, Tryz.ntmps188
    go_wp2_with fail
    refine (isFromTo_calls c 48 57 _).mono ?_
    rintro e w' ⟨rfl, hw⟩
    rw [hw, hd]
    clear hw w'
    go_wp2
    refine bodyPost_ret (v := .agg #[.int .i64 md, .int .i64 st, .bool pv, .slice (some ⟨g, 0, none⟩) ns.length cap]) (by simp only [results, Tryz.results188]; simp [go_sem]) rfl ⟨_, rfl, ?_, ?_⟩
    · exact (by repeat' (first | with_reducible exact hown | with_reducible refine own_alloc ?_ _ | with_reducible refine own_drewN ?_ | with_reducible refine own_drew ?_ | with_reducible refine own_setCell ?_ ?_ | (simp [Value.ownBlock]; done) | (simp [Value.ownBlock]; omega) | omega))
    · exact (by repeat' (first | with_reducible exact GrowTo.refl _ _ | with_reducible refine GrowTo.more ?_ _ | with_reducible refine GrowTo.drewN ?_ _ | with_reducible refine GrowTo.drew ?_ | with_reducible refine GrowTo.setCell ?_ ?_ _ | (simp; done) | (simp; omega) | omega))

set_option maxHeartbeats 400000 in
theorem withParam_priv (md st : Int) (pv : Bool) (ns : List Int) (c : Int) (base : Nat) (v : Value) (w : World) (hl : 0 < ns.length) (hl6 : ns.length ≤ 6) (hx : ∀ x ∈ ns, 0 ≤ x ∧ x ≤ 999) (hbase : base ≤ w.heap.size) (hown : w.ownsRow base 2 1 v ns.length (intsV ns)) (hc : c = 63) :
    Calls Tryz.prog 188 #[.agg #[.int .i64 md, .int .i64 st, .bool pv, v], .int .i64 c] w fun e w' => ∃ v', e = .returned (.agg #[.int .i64 md, .int .i64 st, .bool (paramP ⟨md, st, pv, ns⟩ c).pv, v']) ∧ w'.ownsRow base 2 1 v' (paramP ⟨md, st, pv, ns⟩ c).ns.length (intsV (paramP ⟨md, st, pv, ns⟩ c).ns) ∧ GrowTo w w' v v' := by
  have hp : paramP ⟨md, st, pv, ns⟩ c = ⟨md, st, true, ns⟩ := by unfold paramP; subst hc; rfl
  rw [hp]
  clear hp
  dsimp only
  obtain ⟨g, cap, rfl, hgb, hgs, hgc, hgf⟩ := own_spot hown hl
  have HC := hide hgc
  clear hgc
  have hd : decide ((48 : Int) ≤ 63 ∧ (63 : Int) ≤ 57) = false := rfl
  subst hc
  go_enter Tryz.func188, Tryz.ntmps188
  go_wp2_with fail
  refine (isFromTo_calls 63 48 57 _).mono ?_
  rintro e w' ⟨rfl, hw⟩
  rw [hw, hd]
  clear hw w'
  go_wp2
  refine bodyPost_ret (v := .agg #[.int .i64 md, .int .i64 st, .bool true, .slice (some ⟨g, 0, none⟩) ns.length cap]) (by simp only [results, Tryz.results188]; simp [go_sem]) rfl ⟨_, rfl, ?_, ?_⟩
  · exact (by repeat' (first | with_reducible exact hown | with_reducible refine own_alloc ?_ _ | with_reducible refine own_drewN ?_ | with_reducible refine own_drew ?_ | with_reducible refine own_setCell ?_ ?_ | (simp [Value.ownBlock]; done) | (simp [Value.ownBlock]; omega) | omega))
  · exact (by repeat' (first | with_reducible exact GrowTo.refl _ _ | with_reducible refine GrowTo.more ?_ _ | with_reducible refine GrowTo.drewN ?_ _ | with_reducible refine GrowTo.drew ?_ | with_reducible refine GrowTo.setCell ?_ ?_ _ | (simp; done) | (simp; omega) | omega))

set_option maxHeartbeats 400000 in
theorem withParam_more (md st : Int) (pv : Bool) (ns : List Int) (c : Int) (base : Nat) (v : Value) (w : World) (hl : 0 < ns.length) (hl6 : ns.length ≤ 6) (hx : ∀ x ∈ ns, 0 ≤ x ∧ x ≤ 999) (hbase : base ≤ w.heap.size) (hown : w.ownsRow base 2 1 v ns.length (intsV ns)) (hc : c = 59) (hl5 : ns.length < 6) :
    Calls Tryz.prog 188 #[.agg #[.int .i64 md, .int .i64 st, .bool pv, v], .int .i64 c] w fun e w' => ∃ v', e = .returned (.agg #[.int .i64 md, .int .i64 st, .bool (paramP ⟨md, st, pv, ns⟩ c).pv, v']) ∧ w'.ownsRow base 2 1 v' (paramP ⟨md, st, pv, ns⟩ c).ns.length (intsV (paramP ⟨md, st, pv, ns⟩ c).ns) ∧ GrowTo w w' v v' := by
  have hp : paramP ⟨md, st, pv, ns⟩ c = ⟨md, st, pv, ns ++ [0]⟩ := by unfold paramP; subst hc; rw [if_neg (by omega), if_pos rfl, if_pos hl5]
  rw [hp]
  clear hp
  dsimp only
  obtain ⟨g, cap, rfl, hgb, hgs, hgc, hgf⟩ := own_spot hown hl
  have HC := hide hgc
  clear hgc
  have hd : decide ((48 : Int) ≤ 59 ∧ (59 : Int) ≤ 57) = false := rfl
  have q2 : ((ns.length : Int) < 6) := by omega
  obtain ⟨i0, hi, hz0, hz1, hz2⟩ := info_parts info_ints
  subst hc
  go_enter Tryz.func188, Tryz.ntmps188
  go_wp2_with fail
  refine (isFromTo_calls 59 48 57 _).mono ?_
  rintro e w' ⟨rfl, hw⟩
  rw [hw, hd]
  clear hw w'
  go_wp2_with (at_builtin; refine wpList_append_grow _ rfl (.tmp 37) (.tmp 38) 26 rfl base 2 i0 (.int .i64 0) 1 8 Tryz.underlying26 hi hz0 hz1 hz2 rfl (by decide) (.slice (some ⟨g, 0, none⟩) ns.length cap) ns.length (intsV ns) rfl (((hown.alloc _).alloc _).alloc _) ⟨w.heap.size + 2, 0, none⟩ 1 1 (intsV [0]) rfl rfl (new_row_at (by simp) rfl) (ints_one_cell _ _) (by unfold maxLen; omega) (by omega) (by simp; omega) ?_)
  intro v' w1 hown1 hgrow1
  rw [← intsV_append] at hown1
  have hown1' : w1.ownsRow base 2 1 v' (ns ++ [0]).length (intsV (ns ++ [0])) := by simpa using hown1
  obtain ⟨a3, c3, rfl⟩ := own_form hown1
  have hne0 : some w.heap.size ≠ (Value.slice (some ⟨g, 0, none⟩) ns.length cap).ownBlock := by simp [Value.ownBlock]; omega
  have hne1 : some (w.heap.size + 1) ≠ (Value.slice (some ⟨g, 0, none⟩) ns.length cap).ownBlock := by simp [Value.ownBlock]; omega
  have k0 : w1.cell? ⟨w.heap.size, 0, none⟩ = some (.int .i64 md) := by rw [hgrow1.cell (by simp; try omega) hne0]; simp [go_sem]
  have k1 : w1.cell? ⟨w.heap.size, 1, none⟩ = some (.int .i64 st) := by rw [hgrow1.cell (by simp; try omega) hne0]; simp [go_sem]
  have k2 : w1.cell? ⟨w.heap.size, 2, none⟩ = some (.bool pv) := by rw [hgrow1.cell (by simp; try omega) hne0]; simp [go_sem]
  have k3 : w1.cell? ⟨w.heap.size, 3, none⟩ = some (.slice (some ⟨g, 0, none⟩) ns.length cap) := by rw [hgrow1.cell (by simp; try omega) hne0]; simp [go_sem]
  have j0 : w1.cell? ⟨w.heap.size + 1, 0, none⟩ = some (.int .i64 0) := by rw [hgrow1.cell (by simp; try omega) hne1]; simp [go_sem]
  have j1 : w1.cell? ⟨w.heap.size + 1, 1, none⟩ = some (.int .i64 0) := by rw [hgrow1.cell (by simp; try omega) hne1]; simp [go_sem]
  have j2 : w1.cell? ⟨w.heap.size + 1, 2, none⟩ = some (.bool false) := by rw [hgrow1.cell (by simp; try omega) hne1]; simp [go_sem]
  have j3 : w1.cell? ⟨w.heap.size + 1, 3, none⟩ = some (.slice none 0 0) := by rw [hgrow1.cell (by simp; try omega) hne1]; simp [go_sem]
  have f0 : ∀ o, w1.frozen? ⟨w.heap.size, o, none⟩ = false := fun o => by rw [hgrow1.frozen (by simp; try omega) hne0]; simp [go_sem]
  have f1 : ∀ o, w1.frozen? ⟨w.heap.size + 1, o, none⟩ = false := fun o => by rw [hgrow1.frozen (by simp; try omega) hne1]; simp [go_sem]
  have HB0 := hide (hgrow1.apart (b := w.heap.size) (by simp; try omega) hne0)
  have HB1 := hide (hgrow1.apart (b := w.heap.size + 1) (by simp; try omega) hne1)
  have hg2 := hide ((((GrowTo.refl w (.slice (some ⟨g, 0, none⟩) ns.length cap)).more _).more _).more _ |>.trans hgrow1)
  have HO := hide hown1'
  clear hgrow1 hne0 hne1 hown1 hown1' HC
  go_wp2
  refine bodyPost_ret (v := .agg #[.int .i64 md, .int .i64 st, .bool pv, .slice a3 (ns.length + 1) c3]) (by simp only [results, Tryz.results188]; simp [go_sem, k0, j0, k1, j1, k2, j2, k3, j3]) rfl ⟨_, rfl, ?_, ?_⟩
  · exact own_setCell (own_setCell (own_setCell (own_setCell (own_setCell HO.out HB0.out) HB1.out) HB1.out) HB1.out) HB1.out
  · exact (by repeat' (first | with_reducible exact hg2.out | with_reducible refine GrowTo.more ?_ _ | with_reducible refine GrowTo.drewN ?_ _ | with_reducible refine GrowTo.drew ?_ | with_reducible refine GrowTo.setCell ?_ ?_ _ | (simp; done) | (simp; omega) | omega))

set_option maxHeartbeats 400000 in
theorem withParam_digit (md st : Int) (pv : Bool) (ns : List Int) (c : Int) (base : Nat) (v : Value) (w : World) (hl : 0 < ns.length) (hl6 : ns.length ≤ 6) (hx : ∀ x ∈ ns, 0 ≤ x ∧ x ≤ 999) (hbase : base ≤ w.heap.size) (hown : w.ownsRow base 2 1 v ns.length (intsV ns)) (hc1 : 48 ≤ c) (hc2 : c ≤ 57) :
    Calls Tryz.prog 188 #[.agg #[.int .i64 md, .int .i64 st, .bool pv, v], .int .i64 c] w fun e w' => ∃ v', e = .returned (.agg #[.int .i64 md, .int .i64 st, .bool (paramP ⟨md, st, pv, ns⟩ c).pv, v']) ∧ w'.ownsRow base 2 1 v' (paramP ⟨md, st, pv, ns⟩ c).ns.length (intsV (paramP ⟨md, st, pv, ns⟩ c).ns) ∧ GrowTo w w' v v' := by
  have hp : paramP ⟨md, st, pv, ns⟩ c = ⟨md, st, pv, digitL ns c⟩ := by unfold paramP; rw [if_pos ⟨hc1, hc2⟩]
  rw [hp]
  clear hp
  dsimp only
  obtain ⟨g, cap, rfl, hgb, hgs, hgc, hgf⟩ := own_spot hown hl
  have HC := hide hgc
  clear hgc
  have hd : decide ((48 : Int) ≤ c ∧ c ≤ 57) = true := by simp; omega
  generalize hL : ns.length - 1 = L
  have hLl : L < ns.length := by omega
  have g1 := HC.out L hLl
  have f1 := hgf L
  have hX : 0 ≤ ns.getD L 0 ∧ ns.getD L 0 ≤ 999 := hx _ (by rw [show ns.getD L 0 = ns[L] from by simp [List.getD_eq_getElem?_getD, hLl]]; exact List.getElem_mem hLl)
  have HD : Hid (digitL ns c = ns.set L (min (10 * ns.getD L 0 + c - 48) 999)) := hide (by unfold digitL; rw [hL])
  generalize ns.getD L 0 = x at *
  obtain ⟨hX1, hX2⟩ := hX
  have hq : ((ns.length : Int) - 1) = (L : Int) := by omega
  have w1 : IntKind.i64.wrap (10 * x) = 10 * x := wrap_small (by omega) (by omega)
  have w2 : IntKind.i64.wrap (10 * x + c) = 10 * x + c := wrap_small (by omega) (by omega)
  have w3 : IntKind.i64.wrap (10 * x + c - 48) = 10 * x + c - 48 := wrap_small (by omega) (by omega)
  have HM : Hid ((if 10 * x + c - 48 < 999 then 10 * x + c - 48 else 999) = min (10 * x + c - 48) 999) := hide (by split <;> omega)
  have hm1 : (if 999 < 10 * x + c - 48 then 999 else 10 * x + c - 48) = min (10 * x + c - 48) 999 := by split <;> omega
  generalize hM : min (10 * x + c - 48) 999 = m at *
  have hLn : ((L : Nat) : Int).toNat = L := by omega
  have hLI : ((L : Int) < (ns.length : Int)) := by omega
  clear HC hx hgf hM
  go_enter Tryz.func188, Tryz.ntmps188
  go_wp2_with fail
  refine (isFromTo_calls c 48 57 _).mono ?_
  rintro e w' ⟨rfl, hw⟩
  rw [hw, hd]
  clear hw w'
  go_wp2_with fail
  refine till_region [14] (S := (fun w' => Below w.heap.size w w' ∧ w'.cell? ⟨w.heap.size, 3, none⟩ = some (.slice (some ⟨g, 0, none⟩) ns.length cap) ∧ w'.cell? ⟨g, L, none⟩ = some (.int .i64 x) ∧ w'.frozen? ⟨g, L, none⟩ = false)) (by kernel_rfl) ?_ (fun hHeld => ?_)
  · (try dsimp only); exact ⟨(by repeat' (first | with_reducible exact Below.refl _ _ | with_reducible assumption | with_reducible refine Below.drew ?_ | with_reducible refine Below.alloc ?_ ?_ _ | with_reducible refine Below.setCell ?_ ?_ _ | (simp; done) | (simp; omega) | omega)), by simp [go_sem], cellb (show Below w.heap.size w _ from (by repeat' (first | with_reducible exact Below.refl _ _ | with_reducible assumption | with_reducible refine Below.drew ?_ | with_reducible refine Below.alloc ?_ ?_ _ | with_reducible refine Below.setCell ?_ ?_ _ | (simp; done) | (simp; omega) | omega))) g1, ((show Below w.heap.size w _ from (by repeat' (first | with_reducible exact Below.refl _ _ | with_reducible assumption | with_reducible refine Below.drew ?_ | with_reducible refine Below.alloc ?_ ?_ _ | with_reducible refine Below.setCell ?_ ?_ _ | (simp; done) | (simp; omega) | omega))).frozen (p := ⟨g, L, none⟩) hgs).trans f1⟩
  refine till_take (i := 0) (oi := ⟨_, _, _, _, _, _⟩) (v := ?_) rfl (by kernel_rfl) (by kernel_rfl) (by kernel_rfl) (by kernel_rfl) (fun _ _ _ h => h) (Or.inl ⟨by rfl, ?_⟩) hHeld ?_
  rotate_left
  · (intro w hSw; (try dsimp only at hSw); go_simp; try (with_reducible rfl))
  try simp only [Act.put, List.setIfInBounds_toArray, List.set_cons_zero, List.set_cons_succ]
  refine till_take (i := 1) (oi := ⟨_, _, _, _, _, _⟩) (v := ?_) rfl (by kernel_rfl) (by kernel_rfl) (by kernel_rfl) (by kernel_rfl) (fun _ _ _ h => h) (Or.inl ⟨by rfl, ?_⟩) hHeld ?_
  rotate_left
  · (intro w hSw; (try dsimp only at hSw); go_simp; try (with_reducible rfl))
  try simp only [Act.put, List.setIfInBounds_toArray, List.set_cons_zero, List.set_cons_succ]
  refine till_take (i := 2) (oi := ⟨_, _, _, _, _, _⟩) (v := ?_) rfl (by kernel_rfl) (by kernel_rfl) (by kernel_rfl) (by kernel_rfl) (fun _ _ _ h => h) (Or.inl ⟨by rfl, ?_⟩) hHeld ?_
  rotate_left
  · (intro w hSw; (try dsimp only at hSw); go_simp; try (with_reducible rfl))
  try simp only [Act.put, List.setIfInBounds_toArray, List.set_cons_zero, List.set_cons_succ]
  refine till_take (i := 3) (oi := ⟨_, _, _, _, _, _⟩) (v := ?_) rfl (by kernel_rfl) (by kernel_rfl) (by kernel_rfl) (by kernel_rfl) (fun _ _ _ h => h) (Or.inl ⟨by rfl, ?_⟩) hHeld ?_
  rotate_left
  · (intro w hSw; (try dsimp only at hSw); go_simp; try (with_reducible rfl))
  try simp only [Act.put, List.setIfInBounds_toArray, List.set_cons_zero, List.set_cons_succ]
  refine till_take (i := 4) (oi := ⟨_, _, _, _, _, _⟩) (v := ?_) rfl (by kernel_rfl) (by kernel_rfl) (by kernel_rfl) (by kernel_rfl) (fun _ _ _ h => h) (Or.inl ⟨by rfl, ?_⟩) hHeld ?_
  rotate_left
  · (intro w hSw; (try dsimp only at hSw); go_simp; try (with_reducible rfl))
  try simp only [Act.put, List.setIfInBounds_toArray, List.set_cons_zero, List.set_cons_succ]
  refine till_take (i := 5) (oi := ⟨_, _, _, _, _, _⟩) (v := ?_) rfl (by kernel_rfl) (by kernel_rfl) (by kernel_rfl) (by kernel_rfl) (fun _ _ _ h => h) (Or.inl ⟨by rfl, ?_⟩) hHeld ?_
  rotate_left
  · (intro w hSw; (try dsimp only at hSw); go_simp; try (with_reducible rfl))
  try simp only [Act.put, List.setIfInBounds_toArray, List.set_cons_zero, List.set_cons_succ]
  refine till_take (i := 6) (oi := ⟨_, _, _, _, _, _⟩) (v := ?_) rfl (by kernel_rfl) (by kernel_rfl) (by kernel_rfl) (by kernel_rfl) (fun _ _ _ h => h) (Or.inl ⟨by rfl, ?_⟩) hHeld ?_
  rotate_left
  · (intro w hSw; (try dsimp only at hSw); go_simp; try (with_reducible rfl))
  try simp only [Act.put, List.setIfInBounds_toArray, List.set_cons_zero, List.set_cons_succ]
  refine till_take (i := 7) (oi := ⟨_, _, _, _, _, _⟩) (v := ?_) rfl (by kernel_rfl) (by kernel_rfl) (by kernel_rfl) (by kernel_rfl) (fun _ _ _ h => h) (Or.inl ⟨by rfl, ?_⟩) hHeld ?_
  rotate_left
  · (intro w hSw; (try dsimp only at hSw); go_simp; try (with_reducible rfl))
  try simp only [Act.put, List.setIfInBounds_toArray, List.set_cons_zero, List.set_cons_succ]
  refine till_take (i := 8) (oi := ⟨_, _, _, _, _, _⟩) (v := ?_) rfl (by kernel_rfl) (by kernel_rfl) (by kernel_rfl) (by kernel_rfl) (fun _ _ _ h => h) (Or.inl ⟨by rfl, ?_⟩) hHeld ?_
  rotate_left
  · (intro w hSw; (try dsimp only at hSw); go_simp; try (with_reducible rfl))
  try simp only [Act.put, List.setIfInBounds_toArray, List.set_cons_zero, List.set_cons_succ]
  refine till_take (i := 9) (oi := ⟨_, _, _, _, _, _⟩) (v := ?_) rfl (by kernel_rfl) (by kernel_rfl) (by kernel_rfl) (by kernel_rfl) (fun _ _ _ h => h) (Or.inl ⟨by rfl, ?_⟩) hHeld ?_
  rotate_left
  · (intro w hSw; (try dsimp only at hSw); go_simp; try (with_reducible rfl))
  try simp only [Act.put, List.setIfInBounds_toArray, List.set_cons_zero, List.set_cons_succ]
  refine till_take (i := 10) (oi := ⟨_, _, _, _, _, _⟩) (v := ?_) rfl (by kernel_rfl) (by kernel_rfl) (by kernel_rfl) (by kernel_rfl) (fun _ _ _ h => h) (Or.inl ⟨by rfl, ?_⟩) hHeld ?_
  rotate_left
  · (intro w hSw; (try dsimp only at hSw); go_simp; try (with_reducible rfl))
  try simp only [Act.put, List.setIfInBounds_toArray, List.set_cons_zero, List.set_cons_succ]
  refine till_take (i := 11) (oi := ⟨_, _, _, _, _, _⟩) (v := ?_) rfl (by kernel_rfl) (by kernel_rfl) (by kernel_rfl) (by kernel_rfl) (fun _ _ _ h => h) (Or.inl ⟨by rfl, ?_⟩) hHeld ?_
  rotate_left
  · (intro w hSw; (try dsimp only at hSw); go_simp; try (with_reducible rfl))
  try simp only [Act.put, List.setIfInBounds_toArray, List.set_cons_zero, List.set_cons_succ]
  refine till_take (i := 12) (oi := ⟨_, _, _, _, _, _⟩) (v := ?_) rfl (by kernel_rfl) (by kernel_rfl) (by kernel_rfl) (by kernel_rfl) (fun _ _ _ h => h) (Or.inl ⟨by rfl, ?_⟩) hHeld ?_
  rotate_left
  · (intro w hSw; (try dsimp only at hSw); go_simp; try (with_reducible rfl))
  try simp only [Act.put, List.setIfInBounds_toArray, List.set_cons_zero, List.set_cons_succ]
  refine till_take (i := 13) (oi := ⟨_, _, _, _, _, _⟩) (v := ?_) rfl (by kernel_rfl) (by kernel_rfl) (by kernel_rfl) (by kernel_rfl) (fun _ _ _ h => h) (Or.inl ⟨by rfl, ?_⟩) hHeld ?_
  rotate_left
  · (intro w hSw; (try dsimp only at hSw); go_simp; try (with_reducible rfl))
  try simp only [Act.put, List.setIfInBounds_toArray, List.set_cons_zero, List.set_cons_succ]
  refine till_ready (rs := [14]) (by kernel_rfl) (by simp) ?_
  refine EachTill.last (o := ⟨_, _, _, _, _, _⟩) rfl rfl (fun K hK => ?_) EachTill.nil
  go_simp
  refine hK.out _ _ ?_ ?_
  · (try dsimp only); first | done | trivial
  clear hHeld hK K
  intro hHeld
  try simp only [Act.put, List.setIfInBounds_toArray, List.set_cons_zero, List.set_cons_succ]
  refine till_done (by kernel_rfl) ?_ _
  clear hHeld
  go_wp2
  refine bodyPost_ret (v := .agg #[.int .i64 md, .int .i64 st, .bool pv, .slice (some ⟨g, 0, none⟩) ns.length cap]) (by simp only [results, Tryz.results188]; simp [go_sem]) rfl ⟨_, rfl, ?_, ?_⟩
  · rw [HD.out, List.length_set, intsV_set]; exact (by repeat' (first | with_reducible exact own_put hown hLl | with_reducible refine own_alloc ?_ _ | with_reducible refine own_drewN ?_ | with_reducible refine own_drew ?_ | with_reducible refine own_setCell ?_ ?_ | (simp [Value.ownBlock]; done) | (simp [Value.ownBlock]; omega) | omega))
  · exact (by repeat' (first | with_reducible exact GrowTo.put _ | with_reducible refine GrowTo.more ?_ _ | with_reducible refine GrowTo.drewN ?_ _ | with_reducible refine GrowTo.drew ?_ | with_reducible refine GrowTo.setCell ?_ ?_ _ | (simp; done) | (simp; omega) | omega))

theorem withParam_calls (md st : Int) (pv : Bool) (ns : List Int) (c : Int) (base : Nat) (v : Value) (w : World) (hl : 0 < ns.length) (hl6 : ns.length ≤ 6) (hx : ∀ x ∈ ns, 0 ≤ x ∧ x ≤ 999) (hbase : base ≤ w.heap.size) (hown : w.ownsRow base 2 1 v ns.length (intsV ns)) :
    Calls Tryz.prog 188 #[.agg #[.int .i64 md, .int .i64 st, .bool pv, v], .int .i64 c] w fun e w' => ∃ v', e = .returned (.agg #[.int .i64 md, .int .i64 st, .bool (paramP ⟨md, st, pv, ns⟩ c).pv, v']) ∧ w'.ownsRow base 2 1 v' (paramP ⟨md, st, pv, ns⟩ c).ns.length (intsV (paramP ⟨md, st, pv, ns⟩ c).ns) ∧ GrowTo w w' v v' := by
  by_cases h1 : 48 ≤ c ∧ c ≤ 57
  · exact withParam_digit md st pv ns c base v w hl hl6 hx hbase hown h1.1 h1.2
  by_cases h2 : c = 59 ∧ ns.length < 6
  · exact withParam_more md st pv ns c base v w hl hl6 hx hbase hown h2.1 h2.2
  by_cases h3 : c = 63
  · exact withParam_priv md st pv ns c base v w hl hl6 hx hbase hown h3
  exact withParam_none md st pv ns c base v w hl hl6 hx hbase hown h1 (fun h h' => h2 ⟨h, h'⟩) h3

end Go.Proofs.YtdekegjplegkeaaGreat

/- A parser whose numbers are copied: impl.ownParser, spec.l4Copy walked. -/
namespace Go.Proofs.YtdekegjplegkeaaGreat
set_option maxRecDepth 20000
open Go.ChangeShapes Go.WideShapes Go.ChangeAt Go.RowKit
set_option linter.unusedVariables false
set_option linter.unusedSimpArgs false

set_option maxHeartbeats 1000000 in
theorem ownParser_calls (md st : Int) (pv : Bool) (ns : List Int) (v : Value) (w : World) (hn : ns.length ≤ 1048576) (h1 : ReadAt .i64 w v ns) :
    Calls Tryz.prog 80 #[.agg #[.int .i64 md, .int .i64 st, .bool pv, v]] w fun e w' => ∃ v', e = .returned (.agg #[.int .i64 md, .int .i64 st, .bool pv, v']) ∧ w'.ownsRow w.heap.size 2 1 v' ns.length (intsV ns) ∧ Below w.heap.size w w' := by
  obtain ⟨i0, hi, hz0, hz1, hz2⟩ := info_parts info_ints
  have h1' := h1
  obtain ⟨a1, c1, rfl, _⟩ := h1'
  have hb0 : Below w.heap.size w ((w.alloc (.cells #[.int .i64 md, .int .i64 st, .bool pv, .slice a1 ns.length c1] 68)).alloc (.cells #[.int .i64 0, .int .i64 0, .bool false, .slice none 0 0] 68)) := (by repeat' (first | with_reducible exact Below.refl _ _ | with_reducible assumption | with_reducible refine Below.drew ?_ | with_reducible refine Below.alloc ?_ ?_ _ | with_reducible refine Below.setCell ?_ ?_ _ | (simp; done) | (simp; omega) | omega))
  have HO : ((w.alloc (.cells #[.int .i64 md, .int .i64 st, .bool pv, .slice a1 ns.length c1] 68)).alloc (.cells #[.int .i64 0, .int .i64 0, .bool false, .slice none 0 0] 68)).ownsRow (w.heap.size + 2) 2 1 (.slice none 0 0) 0 (intsV []) := World.ownsRow_nil _ _ _ _
  have HR := h1.below hb0
  go_enter Tryz.func80, Tryz.ntmps80
  go_wp2_with (at_builtin; refine wpList_append_ints _ rfl (.const (.slice none 0 0)) (.tmp 4) 26 rfl (w.heap.size + 2) 2 i0 (.int .i64 0) 8 Tryz.underlying26 hi hz0 hz1 hz2 rfl (.slice none 0 0) 0 [] rfl HO a1 ns ns.length c1 rfl rfl HR (by unfold maxLen; omega) (by omega) (by simp; try omega) ?_)
  intro v' w1 hown1 hgr1
  replace hown1 : w1.ownsRow (w.heap.size + 2) 2 1 v' ns.length (intsV ns) := by simpa using hown1
  obtain ⟨a3, c3, rfl⟩ := own_form hown1
  have hs1 : w.heap.size + 2 ≤ w1.heap.size := by have := hgr1.size; simp at this; omega
  have hcell : ∀ b o, b < w.heap.size + 2 → w1.cell? ⟨b, o, none⟩ = ((w.alloc (.cells #[.int .i64 md, .int .i64 st, .bool pv, .slice a1 ns.length c1] 68)).alloc (.cells #[.int .i64 0, .int .i64 0, .bool false, .slice none 0 0] 68)).cell? ⟨b, o, none⟩ := fun b o hb => World.cell?_of_block (w := ((w.alloc (.cells #[.int .i64 md, .int .i64 st, .bool pv, .slice a1 ns.length c1] 68)).alloc (.cells #[.int .i64 0, .int .i64 0, .bool false, .slice none 0 0] 68))) (a := ⟨b, o, none⟩) (hgr1.block b (by simp; omega) (by simp [Value.ownBlock]))
  have hfz : ∀ b o, b < w.heap.size + 2 → w1.frozen? ⟨b, o, none⟩ = ((w.alloc (.cells #[.int .i64 md, .int .i64 st, .bool pv, .slice a1 ns.length c1] 68)).alloc (.cells #[.int .i64 0, .int .i64 0, .bool false, .slice none 0 0] 68)).frozen? ⟨b, o, none⟩ := fun b o hb => World.frozen?_of_block (w := ((w.alloc (.cells #[.int .i64 md, .int .i64 st, .bool pv, .slice a1 ns.length c1] 68)).alloc (.cells #[.int .i64 0, .int .i64 0, .bool false, .slice none 0 0] 68))) (a := ⟨b, o, none⟩) (hgr1.block b (by simp; omega) (by simp [Value.ownBlock]))
  have k0 : w1.cell? ⟨w.heap.size, 0, none⟩ = some (.int .i64 md) := by rw [hcell _ _ (by omega)]; simp [go_sem]
  have k1 : w1.cell? ⟨w.heap.size, 1, none⟩ = some (.int .i64 st) := by rw [hcell _ _ (by omega)]; simp [go_sem]
  have k2 : w1.cell? ⟨w.heap.size, 2, none⟩ = some (.bool pv) := by rw [hcell _ _ (by omega)]; simp [go_sem]
  have k3 : w1.cell? ⟨w.heap.size, 3, none⟩ = some (.slice a1 ns.length c1) := by rw [hcell _ _ (by omega)]; simp [go_sem]
  have j0 : w1.cell? ⟨w.heap.size + 1, 0, none⟩ = some (.int .i64 0) := by rw [hcell _ _ (by omega)]; simp [go_sem]
  have j1 : w1.cell? ⟨w.heap.size + 1, 1, none⟩ = some (.int .i64 0) := by rw [hcell _ _ (by omega)]; simp [go_sem]
  have j2 : w1.cell? ⟨w.heap.size + 1, 2, none⟩ = some (.bool false) := by rw [hcell _ _ (by omega)]; simp [go_sem]
  have j3 : w1.cell? ⟨w.heap.size + 1, 3, none⟩ = some (.slice none 0 0) := by rw [hcell _ _ (by omega)]; simp [go_sem]
  have f0 : ∀ o, w1.frozen? ⟨w.heap.size, o, none⟩ = false := fun o => by rw [hfz _ _ (by omega)]; simp [go_sem]
  have f1 : ∀ o, w1.frozen? ⟨w.heap.size + 1, o, none⟩ = false := fun o => by rw [hfz _ _ (by omega)]; simp [go_sem]
  have hb1 : Below w.heap.size w w1 := hb0.trans ((Below.refl _ _).grown hgr1 (by simp; omega) (fun q hq => by simp [Value.ownBlock] at hq))
  have HB : Hid (∀ b, w.heap.size ≤ b → b < w.heap.size + 2 → some b ≠ (Value.slice a3 ns.length c3).ownBlock) := hide (fun b h1 h2 h => by have := (hown1.lt b h.symm).1; omega)
  have HW := hide hown1
  clear hgr1 hcell hfz hown1 HR HO hb0
  go_wp2
  refine bodyPost_ret (v := .agg #[.int .i64 md, .int .i64 st, .bool pv, .slice a3 ns.length c3]) (by simp only [results, Tryz.results80]; simp [go_sem, k0, k1, k2, k3, j0, j1, j2, j3]) rfl ⟨_, rfl, ?_, ?_⟩
  · refine own_base (base := w.heap.size + 2) ?_ (by omega)
    repeat' (first | with_reducible exact HW.out | with_reducible refine own_setCell ?_ ?_ | exact HB.out _ (by omega) (by omega))
  · exact (by repeat' (first | with_reducible exact Below.refl _ _ | with_reducible assumption | with_reducible refine Below.drew ?_ | with_reducible refine Below.alloc ?_ ?_ _ | with_reducible refine Below.setCell ?_ ?_ _ | (simp; done) | (simp; omega) | omega))

set_option maxHeartbeats 1000000 in
theorem l4Copy_calls (md st : Int) (pv : Bool) (ns : List Int) (v : Value) (w : World) (hn : ns.length ≤ 1048576) (h1 : ReadAt .i64 w v ns) :
    Calls Tryz.prog 121 #[.agg #[.int .i64 md, .int .i64 st, .bool pv, v]] w fun e w' => ∃ v', e = .returned (.agg #[.int .i64 md, .int .i64 st, .bool pv, v']) ∧ w'.ownsRow w.heap.size 2 1 v' ns.length (intsV ns) ∧ Below w.heap.size w w' := by
  obtain ⟨i0, hi, hz0, hz1, hz2⟩ := info_parts info_ints
  have h1' := h1
  obtain ⟨a1, c1, rfl, _⟩ := h1'
  have hb0 : Below w.heap.size w (((w.alloc (.cells #[.int .i64 md, .int .i64 st, .bool pv, .slice a1 ns.length c1] 68)).alloc (.cells #[.int .i64 0, .int .i64 0, .bool false, .slice none 0 0] 68)).alloc (.cells #[] 2)) := (by repeat' (first | with_reducible exact Below.refl _ _ | with_reducible assumption | with_reducible refine Below.drew ?_ | with_reducible refine Below.alloc ?_ ?_ _ | with_reducible refine Below.setCell ?_ ?_ _ | (simp; done) | (simp; omega) | omega))
  have HO : (((w.alloc (.cells #[.int .i64 md, .int .i64 st, .bool pv, .slice a1 ns.length c1] 68)).alloc (.cells #[.int .i64 0, .int .i64 0, .bool false, .slice none 0 0] 68)).alloc (.cells #[] 2)).ownsRow (w.heap.size + 2) 2 1 (.slice (some ⟨w.heap.size + 2, 0, none⟩) 0 0) 0 (intsV []) := by have h := World.ownsRow_lit (base := w.heap.size + 2) (e := 2) (size := 1) ((w.alloc (.cells #[.int .i64 md, .int .i64 st, .bool pv, .slice a1 ns.length c1] 68)).alloc (.cells #[.int .i64 0, .int .i64 0, .bool false, .slice none 0 0] 68)) #[] 0 (by simp) (by simp) rfl; simpa [intsV] using h
  have HR := h1.below hb0
  go_enter Tryz.func121, Tryz.ntmps121
  go_wp2_with (at_builtin; refine wpList_append_ints _ rfl (.tmp 3) (.tmp 5) 26 rfl (w.heap.size + 2) 2 i0 (.int .i64 0) 8 Tryz.underlying26 hi hz0 hz1 hz2 rfl (.slice (some ⟨w.heap.size + 2, 0, none⟩) 0 0) 0 [] rfl HO a1 ns ns.length c1 rfl rfl HR (by unfold maxLen; omega) (by omega) (by simp; try omega) ?_)
  intro v' w1 hown1 hgr1
  replace hown1 : w1.ownsRow (w.heap.size + 2) 2 1 v' ns.length (intsV ns) := by simpa using hown1
  obtain ⟨a3, c3, rfl⟩ := own_form hown1
  have hs1 : w.heap.size + 2 ≤ w1.heap.size := by have := hgr1.size; simp at this; omega
  have hcell : ∀ b o, b < w.heap.size + 2 → w1.cell? ⟨b, o, none⟩ = (((w.alloc (.cells #[.int .i64 md, .int .i64 st, .bool pv, .slice a1 ns.length c1] 68)).alloc (.cells #[.int .i64 0, .int .i64 0, .bool false, .slice none 0 0] 68)).alloc (.cells #[] 2)).cell? ⟨b, o, none⟩ := fun b o hb => World.cell?_of_block (w := (((w.alloc (.cells #[.int .i64 md, .int .i64 st, .bool pv, .slice a1 ns.length c1] 68)).alloc (.cells #[.int .i64 0, .int .i64 0, .bool false, .slice none 0 0] 68)).alloc (.cells #[] 2))) (a := ⟨b, o, none⟩) (hgr1.block b (by simp; omega) (by simp [Value.ownBlock]; omega))
  have hfz : ∀ b o, b < w.heap.size + 2 → w1.frozen? ⟨b, o, none⟩ = (((w.alloc (.cells #[.int .i64 md, .int .i64 st, .bool pv, .slice a1 ns.length c1] 68)).alloc (.cells #[.int .i64 0, .int .i64 0, .bool false, .slice none 0 0] 68)).alloc (.cells #[] 2)).frozen? ⟨b, o, none⟩ := fun b o hb => World.frozen?_of_block (w := (((w.alloc (.cells #[.int .i64 md, .int .i64 st, .bool pv, .slice a1 ns.length c1] 68)).alloc (.cells #[.int .i64 0, .int .i64 0, .bool false, .slice none 0 0] 68)).alloc (.cells #[] 2))) (a := ⟨b, o, none⟩) (hgr1.block b (by simp; omega) (by simp [Value.ownBlock]; omega))
  have k0 : w1.cell? ⟨w.heap.size, 0, none⟩ = some (.int .i64 md) := by rw [hcell _ _ (by omega)]; simp [go_sem]
  have k1 : w1.cell? ⟨w.heap.size, 1, none⟩ = some (.int .i64 st) := by rw [hcell _ _ (by omega)]; simp [go_sem]
  have k2 : w1.cell? ⟨w.heap.size, 2, none⟩ = some (.bool pv) := by rw [hcell _ _ (by omega)]; simp [go_sem]
  have k3 : w1.cell? ⟨w.heap.size, 3, none⟩ = some (.slice a1 ns.length c1) := by rw [hcell _ _ (by omega)]; simp [go_sem]
  have j0 : w1.cell? ⟨w.heap.size + 1, 0, none⟩ = some (.int .i64 0) := by rw [hcell _ _ (by omega)]; simp [go_sem]
  have j1 : w1.cell? ⟨w.heap.size + 1, 1, none⟩ = some (.int .i64 0) := by rw [hcell _ _ (by omega)]; simp [go_sem]
  have j2 : w1.cell? ⟨w.heap.size + 1, 2, none⟩ = some (.bool false) := by rw [hcell _ _ (by omega)]; simp [go_sem]
  have j3 : w1.cell? ⟨w.heap.size + 1, 3, none⟩ = some (.slice none 0 0) := by rw [hcell _ _ (by omega)]; simp [go_sem]
  have f0 : ∀ o, w1.frozen? ⟨w.heap.size, o, none⟩ = false := fun o => by rw [hfz _ _ (by omega)]; simp [go_sem]
  have f1 : ∀ o, w1.frozen? ⟨w.heap.size + 1, o, none⟩ = false := fun o => by rw [hfz _ _ (by omega)]; simp [go_sem]
  have hb1 : Below w.heap.size w w1 := hb0.trans ((Below.refl _ _).grown hgr1 (by simp; omega) (fun q hq => by simp [Value.ownBlock] at hq; omega))
  have HB : Hid (∀ b, w.heap.size ≤ b → b < w.heap.size + 2 → some b ≠ (Value.slice a3 ns.length c3).ownBlock) := hide (fun b h1 h2 h => by have := (hown1.lt b h.symm).1; omega)
  have HW := hide hown1
  clear hgr1 hcell hfz hown1 HR HO hb0
  go_wp2
  refine bodyPost_ret (v := .agg #[.int .i64 md, .int .i64 st, .bool pv, .slice a3 ns.length c3]) (by simp only [results, Tryz.results121]; simp [go_sem, k0, k1, k2, k3, j0, j1, j2, j3]) rfl ⟨_, rfl, ?_, ?_⟩
  · refine own_base (base := w.heap.size + 2) ?_ (by omega)
    repeat' (first | with_reducible exact HW.out | with_reducible refine own_setCell ?_ ?_ | exact HB.out _ (by omega) (by omega))
  · exact (by repeat' (first | with_reducible exact Below.refl _ _ | with_reducible assumption | with_reducible refine Below.drew ?_ | with_reducible refine Below.alloc ?_ ?_ _ | with_reducible refine Below.setCell ?_ ?_ _ | (simp; done) | (simp; omega) | omega))

end Go.Proofs.YtdekegjplegkeaaGreat

/- What ResizeVt answers, of the program and of the model. -/
namespace Go.Proofs.YtdekegjplegkeaaGreat
set_option maxRecDepth 20000
open Go.ChangeShapes Go.WideShapes Go.ChangeAt Go.RowKit
set_option linter.unusedVariables false
set_option linter.unusedSimpArgs false
set_option maxRecDepth 20000

/-- A screen that is read, whose lists lie from block lo on. -/
structure SHigh (lo : Nat) (w : World) (v1 v2 v3 v4 : Value) (s : Scr) : Prop where
  rd : SRead w s v1 v2 v3 v4
  o1 : w.ownsRow lo 193 2 v1 s.cs.length (pvs s.cs)
  o2 : w.ownsRow lo 193 2 v2 s.bs.length (pvs s.bs)
  o3 : BoolsAt lo w.heap.size w v3 s.tabs
  o4 : IntsAt .i64 lo w.heap.size w v4 s.sets
theorem SHigh.upd {lo g : Nat} {w w' : World} {v1 v2 v3 v4 : Value} {s : Scr} (h : SHigh lo w v1 v2 v3 v4 s) (hu : Upd g w w') (hg : g < lo) (_ : g < lo) : SRead w' s v1 v2 v3 v4 :=
  ⟨(own_pairs (own_upd h.o1 hu (fun k hk => by have := (h.o1.lt k hk).1; omega)) (Nat.le_refl _)).read, (own_pairs (own_upd h.o2 hu (fun k hk => by have := (h.o2.lt k hk).1; omega)) (Nat.le_refl _)).read, (h.o3.of_blocks (fun q q1 q2 => hu.block q (by omega))).read, (h.o4.of_blocks (fun q q1 q2 => hu.block q (by omega))).read⟩
theorem sread_of {lo : Nat} {w : World} {s : Scr} {v1 v2 v3 v4 : Value} (h : ∃ p1 p2 p3 p4, lo ≤ p1 ∧ p1 ≤ p2 ∧ p2 ≤ p3 ∧ p3 ≤ p4 ∧ p4 ≤ w.heap.size ∧ w.ownsRow p1 193 2 v1 s.cs.length (pvs s.cs) ∧ (∀ k, v1.ownBlock = some k → k < p2) ∧ w.ownsRow p2 193 2 v2 s.bs.length (pvs s.bs) ∧ (∀ k, v2.ownBlock = some k → k < p3) ∧ BoolsAt p3 p4 w v3 s.tabs ∧ IntsAt .i64 p4 w.heap.size w v4 s.sets) : SHigh lo w v1 v2 v3 v4 s := by
  obtain ⟨p1, p2, p3, p4, q1, q2, q3, q4, q5, oc1, -, oc2, -, oT, oS⟩ := h
  have lower : ∀ (B : Nat) (v : Value) (n : Nat) (xs : List Value), lo ≤ B → w.ownsRow B 193 2 v n xs → w.ownsRow lo 193 2 v n xs := fun B v n xs hB h => by
    refine ⟨h.1, ?_⟩
    rcases h.2 with h | ⟨g, cap, cur, rfl, hb, rest⟩
    · exact .inl h
    · exact .inr ⟨g, cap, cur, rfl, by omega, rest⟩
  exact ⟨⟨(own_pairs oc1 (Nat.le_refl _)).read, (own_pairs oc2 (Nat.le_refl _)).read, oT.read, oS.read⟩, lower _ _ _ _ q1 oc1, lower _ _ _ _ (by omega) oc2, oT.mono (by omega) (by omega), oS.mono (by omega) (Nat.le_refl _)⟩
def rvCode (t : VtS) (rows width : Int) : Int := if vtCode t = 0 then (rzRes t.s rows width).code else vtCode t
def rvVt (t : VtS) (rows width : Int) : VtS := if vtCode t = 0 then (if (rzRes t.s rows width).code = 0 then { t with s := (rzRes t.s rows width).s } else vt0) else vt0
theorem resA_scr (c : Int) (s : Scr) (v1 v2 v3 v4 : Value) : ((resA c s v1 v2 v3 v4).toList.drop 1).take (scrA s v1 v2 v3 v4).size = (scrA s v1 v2 v3 v4).toList := rfl
theorem vown_zero (lo hi : Nat) (h : lo ≤ hi) (w : World) : VOwn lo hi w (.slice none 0 0) (.slice none 0 0) (.slice none 0 0) (.slice none 0 0) (.slice none 0 0) vt0 := vown_of h (sown_zero lo hi h w)
set_option maxHeartbeats 8000000 in
theorem l6Copy_calls (t : VtS) (u v1 v2 v3 v4 : Value) (w : World) (hn0 : t.ns.length ≤ 1048576) (hn1 : t.s.cs.length ≤ 1048576) (hn2 : t.s.bs.length ≤ 1048576) (hn3 : t.s.tabs.length ≤ 1048576) (hn4 : t.s.sets.length ≤ 1048576) (h : VRead w t u v1 v2 v3 v4) :
    Calls Tryz.prog 65 #[.agg (vtA t u v1 v2 v3 v4)] w fun e w' => ∃ x y1 y2 y3 y4, e = .returned (.agg (vtA t x y1 y2 y3 y4)) ∧ VRead w' t x y1 y2 y3 y4 ∧ IntsAt .i64 w.heap.size w'.heap.size w' x t.ns ∧ Below w.heap.size w w' := by
  have bel0 : Below w.heap.size w ((w.alloc (.cells (vtA t u v1 v2 v3 v4) 70)).alloc (.cells #[.int .i64 0, .int .i64 0, .int .i64 0, .int .i64 0, .int .i64 0, .bool false, .slice none 0 0, .int .i64 0, .int .i64 0, .slice none 0 0, .slice none 0 0, .int .i64 0, .int .i64 0, .bool false, .int .i64 0, .int .i64 0, .int .i64 0, .bool false, .bool false, .bool false, .slice none 0 0, .int .i64 0, .int .i64 0, .int .i64 0, .slice none 0 0, .int .i64 0, .int .i64 0] 70)) := (by repeat' (first | with_reducible exact Below.refl _ _ | with_reducible assumption | with_reducible refine Below.drew ?_ | with_reducible refine Below.alloc ?_ ?_ _ | with_reducible refine Below.setCell ?_ ?_ _ | (simp; done) | (simp; omega) | omega))
  have hA := (Blk.new w (vtA t u v1 v2 v3 v4) 70).alloc (.cells #[.int .i64 0, .int .i64 0, .int .i64 0, .int .i64 0, .int .i64 0, .bool false, .slice none 0 0, .int .i64 0, .int .i64 0, .slice none 0 0, .slice none 0 0, .int .i64 0, .int .i64 0, .bool false, .int .i64 0, .int .i64 0, .int .i64 0, .bool false, .bool false, .bool false, .slice none 0 0, .int .i64 0, .int .i64 0, .int .i64 0, .slice none 0 0, .int .i64 0, .int .i64 0] 70)
  have hR : Blk ((w.alloc (.cells (vtA t u v1 v2 v3 v4) 70)).alloc (.cells #[.int .i64 0, .int .i64 0, .int .i64 0, .int .i64 0, .int .i64 0, .bool false, .slice none 0 0, .int .i64 0, .int .i64 0, .slice none 0 0, .slice none 0 0, .int .i64 0, .int .i64 0, .bool false, .int .i64 0, .int .i64 0, .int .i64 0, .bool false, .bool false, .bool false, .slice none 0 0, .int .i64 0, .int .i64 0, .int .i64 0, .slice none 0 0, .int .i64 0, .int .i64 0] 70)) (w.heap.size + 1) (vtA vt0 (.slice none 0 0) (.slice none 0 0) (.slice none 0 0) (.slice none 0 0) (.slice none 0 0)) := Blk.new_at (by simp) _ _
  obtain ⟨W, hW⟩ : ∃ W, Hid ((w.alloc (.cells (vtA t u v1 v2 v3 v4) 70)).alloc (.cells #[.int .i64 0, .int .i64 0, .int .i64 0, .int .i64 0, .int .i64 0, .bool false, .slice none 0 0, .int .i64 0, .int .i64 0, .slice none 0 0, .slice none 0 0, .int .i64 0, .int .i64 0, .bool false, .int .i64 0, .int .i64 0, .int .i64 0, .bool false, .bool false, .bool false, .slice none 0 0, .int .i64 0, .int .i64 0, .int .i64 0, .slice none 0 0, .int .i64 0, .int .i64 0] 70) = W) := ⟨_, hide rfl⟩
  have hsz : w.heap.size + 2 ≤ ((w.alloc (.cells (vtA t u v1 v2 v3 v4) 70)).alloc (.cells #[.int .i64 0, .int .i64 0, .int .i64 0, .int .i64 0, .int .i64 0, .bool false, .slice none 0 0, .int .i64 0, .int .i64 0, .slice none 0 0, .slice none 0 0, .int .i64 0, .int .i64 0, .bool false, .int .i64 0, .int .i64 0, .int .i64 0, .bool false, .bool false, .bool false, .slice none 0 0, .int .i64 0, .int .i64 0, .int .i64 0, .slice none 0 0, .int .i64 0, .int .i64 0] 70)).heap.size := by simp
  rw [hW.out] at bel0 hA hR hsz
  go_enter Tryz.func65, Tryz.ntmps65
  go_wp2_with fail
  rw [hW.out]
  refine till_region [9] (S := (fun w' => Below W.heap.size W w')) (by kernel_rfl) ?_ (fun hHeld => ?_)
  · (try dsimp only); exact Below.drew (Below.refl _ W)
  refine till_take (i := 0) (oi := ⟨_, _, _, _, _, _⟩) (v := ?_) rfl (by kernel_rfl) (by kernel_rfl) (by kernel_rfl) (by kernel_rfl) (fun _ _ _ h => h) (Or.inl ⟨by rfl, ?_⟩) hHeld ?_
  rotate_left
  · (intro w hSw; (try dsimp only at hSw); go_simp; try (with_reducible rfl))
  try simp only [Act.put, List.setIfInBounds_toArray, List.set_cons_zero, List.set_cons_succ]
  refine till_take (i := 1) (oi := ⟨_, _, _, _, _, _⟩) (v := .agg (decA t)) rfl (by kernel_rfl) (by kernel_rfl) (by kernel_rfl) (by kernel_rfl) (fun _ _ _ h => h) (Or.inl ⟨by rfl, ?_⟩) hHeld ?_
  · intro w hSw
    (try dsimp only at hSw)
    exact run_exLd _ _ rfl _ _ rfl _ (run_loadVar_at (P := Tryz.prog) (o := 0) (vs := (decA t)) (hA.belowb hSw) (vtA_dec t u v1 v2 v3 v4) Tryz.underlying67 rfl (by kernel_rfl))
  try simp only [Act.put, List.setIfInBounds_toArray, List.set_cons_zero, List.set_cons_succ]
  refine till_take (i := 2) (oi := ⟨_, _, _, _, _, _⟩) (v := ?_) rfl (by kernel_rfl) (by kernel_rfl) (by kernel_rfl) (by kernel_rfl) (fun _ _ _ h => h) (Or.inl ⟨by rfl, ?_⟩) hHeld ?_
  rotate_left
  · (intro w hSw; (try dsimp only at hSw); go_simp; try (with_reducible rfl))
  try simp only [Act.put, List.setIfInBounds_toArray, List.set_cons_zero, List.set_cons_succ]
  refine till_take (i := 3) (oi := ⟨_, _, _, _, _, _⟩) (v := .agg (parA t u)) rfl (by kernel_rfl) (by kernel_rfl) (by kernel_rfl) (by kernel_rfl) (fun _ _ _ h => h) (Or.inl ⟨by rfl, ?_⟩) hHeld ?_
  · intro w hSw
    (try dsimp only at hSw)
    exact run_exLd _ _ rfl _ _ rfl _ (run_loadVar_at (P := Tryz.prog) (o := 3) (vs := (parA t u)) (hA.belowb hSw) (vtA_par t u v1 v2 v3 v4) Tryz.underlying68 rfl (by kernel_rfl))
  try simp only [Act.put, List.setIfInBounds_toArray, List.set_cons_zero, List.set_cons_succ]
  refine till_take (i := 5) (oi := ⟨_, _, _, _, _, _⟩) (v := ?_) rfl (by kernel_rfl) (by kernel_rfl) (by kernel_rfl) (by kernel_rfl) (fun _ _ _ h => h) (Or.inl ⟨by rfl, ?_⟩) hHeld ?_
  rotate_left
  · (intro w hSw; (try dsimp only at hSw); go_simp; try (with_reducible rfl))
  try simp only [Act.put, List.setIfInBounds_toArray, List.set_cons_zero, List.set_cons_succ]
  refine till_take (i := 6) (oi := ⟨_, _, _, _, _, _⟩) (v := .agg (scrA t.s v1 v2 v3 v4)) rfl (by kernel_rfl) (by kernel_rfl) (by kernel_rfl) (by kernel_rfl) (fun _ _ _ h => h) (Or.inl ⟨by rfl, ?_⟩) hHeld ?_
  · intro w hSw
    (try dsimp only at hSw)
    exact run_exLd _ _ rfl _ _ rfl _ (run_loadVar_at (P := Tryz.prog) (o := 7) (vs := (scrA t.s v1 v2 v3 v4)) (hA.belowb hSw) (vtA_scr t u v1 v2 v3 v4) Tryz.underlying37 rfl (by kernel_rfl))
  try simp only [Act.put, List.setIfInBounds_toArray, List.set_cons_zero, List.set_cons_succ]
  refine till_ready (rs := [4]) (by kernel_rfl) (by simp) ?_
  refine (EachTill.cons (o := ⟨_, _, _, _, _, _⟩) rfl (fun K hK => ?_) EachTill.nil)
  go_simp
  go_at_call 121
  refine (l4Copy_calls t.md t.st t.pv t.ns u _ hn0 ((h.p.below bel0).below (Below.drew (Below.refl _ W)))).mono ?_
  rintro e w2 ⟨x, rfl, hx', hb'⟩
  have hb2 : Below W.heap.size W w2 := hHeld.trans hb'
  have hx : IntsAt .i64 W.heap.size w2.heap.size w2 x t.ns := own_ints hx' (Nat.le_refl _)
  obtain ⟨ax, cx, rfl, _⟩ := id hx
  have zx : W.heap.size ≤ w2.heap.size := hb2.size
  clear hb' hx'
  refine hK.out _ _ ?_ ?_
  · (try dsimp only); exact hb2
  clear hHeld hK K
  intro hHeld
  try simp only [Act.put, List.setIfInBounds_toArray, List.set_cons_zero, List.set_cons_succ]
  refine till_ready (rs := [7]) (by kernel_rfl) (by simp) ?_
  refine (EachTill.cons (o := ⟨_, _, _, _, _, _⟩) rfl (fun K hK => ?_) EachTill.nil)
  go_simp
  go_at_call 46
  refine (l5Copy_calls t.s v1 v2 v3 v4 _ hn1 hn2 hn3 hn4 (h.s.below (bel0.trans (hb2.mono (by omega))))).mono ?_
  rintro e w3 ⟨y1, y2, y3, y4, rfl, hq, hb3⟩
  have hy := sread_of hq
  obtain ⟨e1, k1, e2, k2, e3, k3, e4, k4, rfl, rfl, rfl, rfl⟩ := hy.rd.forms
  have hb4 : Below W.heap.size W w3 := hb2.trans (hb3.mono zx)
  replace hx := hx.below hb3 (Nat.le_refl _)
  have z3 : w2.heap.size ≤ w3.heap.size := hb3.size
  clear hb3 hq
  refine hK.out _ _ ?_ ?_
  · (try dsimp only); exact hb4
  clear hHeld hK K
  intro hHeld
  try simp only [Act.put, List.setIfInBounds_toArray, List.set_cons_zero, List.set_cons_succ]
  refine till_ready (rs := [8]) (by kernel_rfl) (by simp) ?_
  refine (EachTill.cons (o := ⟨_, _, _, _, _, _⟩) rfl (fun K hK => ?_) EachTill.nil)
  refine wp_build_at 70 _ rfl (vtA t (.slice ax t.ns.length cx) (.slice e1 t.s.cs.length k1) (.slice e2 t.s.bs.length k2) (.slice e3 t.s.tabs.length k3) (.slice e4 t.s.sets.length k4)) (by first | rfl | kernel_rfl) ?_
  refine hK.out _ _ ?_ ?_
  · (try dsimp only); exact hHeld
  clear hHeld hK K
  intro hHeld
  try simp only [Act.put, List.setIfInBounds_toArray, List.set_cons_zero, List.set_cons_succ]
  refine till_ready (rs := [9]) (by kernel_rfl) (by simp) ?_
  refine (EachTill.last (o := ⟨_, _, _, _, _, _⟩) rfl rfl (fun K hK => ?_) EachTill.nil)
  have hR9 := hR.belowb hHeld
  have hW9 := hHeld
  refine wp_store_any _ _ _ rfl (w.heap.size + 1) 0 (vtA vt0 (.slice none 0 0) (.slice none 0 0) (.slice none 0 0) (.slice none 0 0) (.slice none 0 0)) (vtA t (.slice ax t.ns.length cx) (.slice e1 t.s.cs.length k1) (.slice e2 t.s.bs.length k2) (.slice e3 t.s.tabs.length k3) (.slice e4 t.s.sets.length k4)) (.agg (vtA t (.slice ax t.ns.length cx) (.slice e1 t.s.cs.length k1) (.slice e2 t.s.bs.length k2) (.slice e3 t.s.tabs.length k3) (.slice e4 t.s.sets.length k4))) rfl rfl hR9 rfl (by kernel_rfl) rfl rfl ?_
  intro w9 hR' hu
  refine hK.out _ _ ?_ ?_
  · first | trivial | (dsimp only)
  clear hHeld hK K
  intro hHeld
  try simp only [Act.put, List.setIfInBounds_toArray, List.set_cons_zero, List.set_cons_succ]
  refine till_done (by kernel_rfl) ?_ _
  clear hHeld
  go_wp2
  refine bodyPost_ret (results_blk hR' _ _ rfl rfl Tryz.underlying70 rfl (by kernel_rfl)) rfl ⟨_, _, _, _, _, rfl, ⟨?_, ?_⟩, ?_, ?_⟩
  · have := hx.of_blocks (w' := w9) (fun q q1 q2 => hu.block q (by omega))
    exact this.read
  · exact (hy.upd hu (by omega) (by omega))
  · exact (hx.of_blocks (w' := w9) (fun q q1 q2 => hu.block q (by omega))).mono (by omega) (by have := hu.size; have := hW9.size; omega)
  · exact (bel0.trans (hW9.mono (by omega))).trans (hu.below (by omega))
set_option maxHeartbeats 8000000 in
theorem specResizeVt_calls (t : VtS) (u v1 v2 v3 v4 : Value) (rows width : Int) (w : World) (hn0 : t.ns.length ≤ 1048576) (hn1 : t.s.cs.length ≤ 1048576) (hn2 : t.s.bs.length ≤ 1048576) (hn3 : t.s.tabs.length ≤ 1048576) (hn4 : t.s.sets.length ≤ 1048576) (k1 : Capped v1) (k2 : Capped v2) (k3 : Capped v3) (h : VRead w t u v1 v2 v3 v4) :
    Calls Tryz.prog 38 #[.agg (vtA t u v1 v2 v3 v4), .int .i64 rows, .int .i64 width] w fun e w' => ∃ x y1 y2 y3 y4, e = .returned (.agg (resVA (rvCode t rows width) (rvVt t rows width) x y1 y2 y3 y4)) ∧ VOwn w.heap.size w'.heap.size w' x y1 y2 y3 y4 (rvVt t rows width) ∧ Below w.heap.size w w' := by
  have bel0 : Below w.heap.size w ((w.alloc (.cells (vtA t u v1 v2 v3 v4) 70)).alloc (.cells #[.int .i64 0, .int .i64 0, .int .i64 0, .int .i64 0, .int .i64 0, .int .i64 0, .bool false, .slice none 0 0, .int .i64 0, .int .i64 0, .slice none 0 0, .slice none 0 0, .int .i64 0, .int .i64 0, .bool false, .int .i64 0, .int .i64 0, .int .i64 0, .bool false, .bool false, .bool false, .slice none 0 0, .int .i64 0, .int .i64 0, .int .i64 0, .slice none 0 0, .int .i64 0, .int .i64 0] 72)) := (by repeat' (first | with_reducible exact Below.refl _ _ | with_reducible assumption | with_reducible refine Below.drew ?_ | with_reducible refine Below.alloc ?_ ?_ _ | with_reducible refine Below.setCell ?_ ?_ _ | (simp; done) | (simp; omega) | omega))
  have hA := (Blk.new w (vtA t u v1 v2 v3 v4) 70).alloc (.cells #[.int .i64 0, .int .i64 0, .int .i64 0, .int .i64 0, .int .i64 0, .int .i64 0, .bool false, .slice none 0 0, .int .i64 0, .int .i64 0, .slice none 0 0, .slice none 0 0, .int .i64 0, .int .i64 0, .bool false, .int .i64 0, .int .i64 0, .int .i64 0, .bool false, .bool false, .bool false, .slice none 0 0, .int .i64 0, .int .i64 0, .int .i64 0, .slice none 0 0, .int .i64 0, .int .i64 0] 72)
  have hR : Blk ((w.alloc (.cells (vtA t u v1 v2 v3 v4) 70)).alloc (.cells #[.int .i64 0, .int .i64 0, .int .i64 0, .int .i64 0, .int .i64 0, .int .i64 0, .bool false, .slice none 0 0, .int .i64 0, .int .i64 0, .slice none 0 0, .slice none 0 0, .int .i64 0, .int .i64 0, .bool false, .int .i64 0, .int .i64 0, .int .i64 0, .bool false, .bool false, .bool false, .slice none 0 0, .int .i64 0, .int .i64 0, .int .i64 0, .slice none 0 0, .int .i64 0, .int .i64 0] 72)) (w.heap.size + 1) (resVA 0 vt0 (.slice none 0 0) (.slice none 0 0) (.slice none 0 0) (.slice none 0 0) (.slice none 0 0)) := Blk.new_at (by simp) _ _
  unfold rvCode rvVt
  by_cases hc : vtCode t = 0
  · rw [if_pos hc, if_pos hc]
    obtain ⟨c, hC⟩ : ∃ c, (rzRes t.s rows width).code = c := ⟨_, rfl⟩
    obtain ⟨S, hS⟩ : ∃ S, (rzRes t.s rows width).s = S := ⟨_, rfl⟩
    rw [hC, hS]
    have HC := hide hC
    have HS := hide hS
    clear hC hS
    by_cases hz : c = 0
    · rw [if_pos hz]
      subst hz
      go_enter Tryz.func38, Tryz.ntmps38
      go_wp2_with fail
      go_at_call 64
      refine (l6Fault_o t u v1 v2 v3 v4 w.heap.size 0 _ hn0 hn1 hn2 hn3 hn4 hA.seg (h.below bel0)).mono ?_
      rintro e w1 ⟨rfl, hb⟩
      replace hA := hA.belowb hb
      replace hR := hR.belowb hb
      have bel1 := bel0.trans (hb.mono bel0.size)
      have z1 : w.heap.size + 2 ≤ w1.heap.size := by have := hb.size; simp at this; omega
      clear hb bel0
      rw [hc]
      go_wp2_with (first | fail | (refine wpList_load_at rfl 37 _ rfl (w.heap.size) 7 rfl _ (scrA t.s v1 v2 v3 v4) hA (vtA_scr t u v1 v2 v3 v4) _ Tryz.underlying37 rfl (by kernel_rfl) ?_; (try simp only [Act.put, List.setIfInBounds_toArray, List.set_cons_zero, List.set_cons_succ])))
      go_at_call 78
      have HRS := specResizeScreen_calls t.s v1 v2 v3 v4 rows width w1 hn1 hn2 hn3 hn4 k1 k2 k3 (h.s.below bel1)
      rw [HC.out, HS.out] at HRS
      refine HRS.mono ?_
      clear HRS
      rintro e w2 ⟨u1, u2, u3, u4, rfl, hs, hb⟩
      replace hA := hA.belowb hb
      replace hR := hR.belowb hb
      have bel2 := bel1.trans (hb.mono bel1.size)
      have z2 : w1.heap.size ≤ w2.heap.size := hb.size
      obtain ⟨q1, d1, q2, d2, q3, d3, q4, d4, rfl, rfl, rfl, rfl⟩ := hs.forms
      clear hb
      have e0 := resA_0 0 S (.slice q1 S.cs.length d1) (.slice q2 S.bs.length d2) (.slice q3 S.tabs.length d3) (.slice q4 S.sets.length d4)
      go_wp2_with (first | fail | (refine wpList_store_blk rfl _ _ _ rfl (w2.heap.size) 0 (resA 0 scr0 (.slice none 0 0) (.slice none 0 0) (.slice none 0 0) (.slice none 0 0)) (resA 0 S (.slice q1 S.cs.length d1) (.slice q2 S.bs.length d2) (.slice q3 S.tabs.length d3) (.slice q4 S.sets.length d4)) (.agg (resA 0 S (.slice q1 S.cs.length d1) (.slice q2 S.bs.length d2) (.slice q3 S.tabs.length d3) (.slice q4 S.sets.length d4))) rfl rfl (Blk.new w2 _ _) rfl (by kernel_rfl) rfl rfl ?_; (try simp only [Act.put, List.setIfInBounds_toArray, List.set_cons_zero, List.set_cons_succ]); intro w3 hB hu; replace hA := (hA.alloc (.cells #[.int .i64 0, .int .i64 0, .int .i64 0, .slice none 0 0, .slice none 0 0, .int .i64 0, .int .i64 0, .bool false, .int .i64 0, .int .i64 0, .int .i64 0, .bool false, .bool false, .bool false, .slice none 0 0, .int .i64 0, .int .i64 0, .int .i64 0, .slice none 0 0, .int .i64 0, .int .i64 0] 39)).upd hu (by omega); replace hR := (hR.alloc (.cells #[.int .i64 0, .int .i64 0, .int .i64 0, .slice none 0 0, .slice none 0 0, .int .i64 0, .int .i64 0, .bool false, .int .i64 0, .int .i64 0, .int .i64 0, .bool false, .bool false, .bool false, .slice none 0 0, .int .i64 0, .int .i64 0, .int .i64 0, .slice none 0 0, .int .i64 0, .int .i64 0] 39)).upd hu (by omega); replace hs := hs.of_blocks (w' := w3) (fun q q1 q2 => (hu.block q (by omega)).trans (Below.heap_alloc _ _ _ (by omega))); have bel3 := (bel2.trans ((Below.refl _ w2).alloc (by omega) (.cells #[.int .i64 0, .int .i64 0, .int .i64 0, .slice none 0 0, .slice none 0 0, .int .i64 0, .int .i64 0, .bool false, .int .i64 0, .int .i64 0, .int .i64 0, .bool false, .bool false, .bool false, .slice none 0 0, .int .i64 0, .int .i64 0, .int .i64 0, .slice none 0 0, .int .i64 0, .int .i64 0] 39))).trans (hu.below (by omega)); have z3 : w2.heap.size + 1 ≤ w3.heap.size := (by have := hu.size; simp at this; omega); clear hu bel2; have cB := hB.cells) | (refine wpList_load_at rfl 70 _ rfl (w.heap.size) 0 rfl _ (vtA t u v1 v2 v3 v4) hA rfl _ Tryz.underlying70 rfl (by kernel_rfl) ?_; (try simp only [Act.put, List.setIfInBounds_toArray, List.set_cons_zero, List.set_cons_succ])))
      go_at_call 65
      refine (l6Copy_calls t u v1 v2 v3 v4 _ hn0 hn1 hn2 hn3 hn4 (h.below bel3)).mono ?_
      rintro e w4 ⟨x, y1, y2, y3, y4, rfl, hy, hx, hb⟩
      obtain ⟨ax, cx, g1, k1', g2, k2', g3, k3', g4, k4', rfl, rfl, rfl, rfl, rfl⟩ := hy.forms
      replace hR := hR.belowb hb
      replace hB := hB.belowb hb
      replace hs := hs.below hb (by omega)
      have bel4 := bel3.trans (hb.mono (by omega))
      have z4 : w3.heap.size ≤ w4.heap.size := hb.size
      clear hb bel3 cB hA hy
      go_wp2_with (first | fail | (refine wpList_store_blk rfl _ _ _ rfl (w4.heap.size) 0 (vtA vt0 (.slice none 0 0) (.slice none 0 0) (.slice none 0 0) (.slice none 0 0) (.slice none 0 0)) (vtA t (.slice ax t.ns.length cx) (.slice g1 t.s.cs.length k1') (.slice g2 t.s.bs.length k2') (.slice g3 t.s.tabs.length k3') (.slice g4 t.s.sets.length k4')) (.agg (vtA t (.slice ax t.ns.length cx) (.slice g1 t.s.cs.length k1') (.slice g2 t.s.bs.length k2') (.slice g3 t.s.tabs.length k3') (.slice g4 t.s.sets.length k4'))) rfl rfl (Blk.new w4 _ _) rfl (by kernel_rfl) rfl rfl ?_; (try simp only [Act.put, List.setIfInBounds_toArray, List.set_cons_zero, List.set_cons_succ]); intro w5 hV hu; replace hR := (hR.alloc (.cells #[.int .i64 0, .int .i64 0, .int .i64 0, .int .i64 0, .int .i64 0, .bool false, .slice none 0 0, .int .i64 0, .int .i64 0, .slice none 0 0, .slice none 0 0, .int .i64 0, .int .i64 0, .bool false, .int .i64 0, .int .i64 0, .int .i64 0, .bool false, .bool false, .bool false, .slice none 0 0, .int .i64 0, .int .i64 0, .int .i64 0, .slice none 0 0, .int .i64 0, .int .i64 0] 70)).upd hu (by omega); replace hB := (hB.alloc (.cells #[.int .i64 0, .int .i64 0, .int .i64 0, .int .i64 0, .int .i64 0, .bool false, .slice none 0 0, .int .i64 0, .int .i64 0, .slice none 0 0, .slice none 0 0, .int .i64 0, .int .i64 0, .bool false, .int .i64 0, .int .i64 0, .int .i64 0, .bool false, .bool false, .bool false, .slice none 0 0, .int .i64 0, .int .i64 0, .int .i64 0, .slice none 0 0, .int .i64 0, .int .i64 0] 70)).upd hu (by omega); replace hs := hs.of_blocks (w' := w5) (fun q q1 q2 => (hu.block q (by omega)).trans (Below.heap_alloc _ _ _ (by omega))); replace hx := hx.of_blocks (w' := w5) (fun q q1 q2 => (hu.block q (by omega)).trans (Below.heap_alloc _ _ _ (by omega))); have bel5 := (bel4.trans ((Below.refl _ w4).alloc (by omega) (.cells #[.int .i64 0, .int .i64 0, .int .i64 0, .int .i64 0, .int .i64 0, .bool false, .slice none 0 0, .int .i64 0, .int .i64 0, .slice none 0 0, .slice none 0 0, .int .i64 0, .int .i64 0, .bool false, .int .i64 0, .int .i64 0, .int .i64 0, .bool false, .bool false, .bool false, .slice none 0 0, .int .i64 0, .int .i64 0, .int .i64 0, .slice none 0 0, .int .i64 0, .int .i64 0] 70))).trans (hu.below (by omega)); have z5 : w4.heap.size + 1 ≤ w5.heap.size := (by have := hu.size; simp at this; omega); clear hu bel4) | (refine wpList_load_at rfl 37 _ rfl (w2.heap.size) 1 rfl _ (scrA S (.slice q1 S.cs.length d1) (.slice q2 S.bs.length d2) (.slice q3 S.tabs.length d3) (.slice q4 S.sets.length d4)) hB (resA_scr 0 S (.slice q1 S.cs.length d1) (.slice q2 S.bs.length d2) (.slice q3 S.tabs.length d3) (.slice q4 S.sets.length d4)) _ Tryz.underlying37 rfl (by kernel_rfl) ?_; (try simp only [Act.put, List.setIfInBounds_toArray, List.set_cons_zero, List.set_cons_succ])) | (refine wpList_store_blk rfl _ _ _ rfl (w4.heap.size) 7 (vtA t (.slice ax t.ns.length cx) (.slice g1 t.s.cs.length k1') (.slice g2 t.s.bs.length k2') (.slice g3 t.s.tabs.length k3') (.slice g4 t.s.sets.length k4')) (vtA { t with s := S } (.slice ax t.ns.length cx) (.slice q1 S.cs.length d1) (.slice q2 S.bs.length d2) (.slice q3 S.tabs.length d3) (.slice q4 S.sets.length d4)) (.agg (scrA S (.slice q1 S.cs.length d1) (.slice q2 S.bs.length d2) (.slice q3 S.tabs.length d3) (.slice q4 S.sets.length d4))) rfl rfl hV rfl (by kernel_rfl) rfl rfl ?_; (try simp only [Act.put, List.setIfInBounds_toArray, List.set_cons_zero, List.set_cons_succ]); clear hV; intro w6 hV hu; replace hR := hR.upd hu (by omega); replace hs := hs.of_blocks (w' := w6) (fun q q1 q2 => hu.block q (by omega)); replace hx := hx.of_blocks (w' := w6) (fun q q1 q2 => hu.block q (by omega)); have bel6 := bel5.trans (hu.below (by omega)); have z6 : w5.heap.size ≤ w6.heap.size := Nat.le_of_eq hu.size.symm; clear hu bel5) | (refine wpList_load_at rfl 70 _ rfl (w4.heap.size) 0 rfl _ (vtA { t with s := S } (.slice ax t.ns.length cx) (.slice q1 S.cs.length d1) (.slice q2 S.bs.length d2) (.slice q3 S.tabs.length d3) (.slice q4 S.sets.length d4)) hV rfl _ Tryz.underlying70 rfl (by kernel_rfl) ?_; (try simp only [Act.put, List.setIfInBounds_toArray, List.set_cons_zero, List.set_cons_succ])) | (refine wpList_build_at rfl 72 _ rfl (resVA 0 { t with s := S } (.slice ax t.ns.length cx) (.slice q1 S.cs.length d1) (.slice q2 S.bs.length d2) (.slice q3 S.tabs.length d3) (.slice q4 S.sets.length d4)) (by first | rfl | kernel_rfl) ?_; (try simp only [Act.put, List.setIfInBounds_toArray, List.set_cons_zero, List.set_cons_succ])) | (refine wpList_store_blk rfl _ _ _ rfl (w.heap.size + 1) 0 (resVA 0 vt0 (.slice none 0 0) (.slice none 0 0) (.slice none 0 0) (.slice none 0 0) (.slice none 0 0)) (resVA 0 { t with s := S } (.slice ax t.ns.length cx) (.slice q1 S.cs.length d1) (.slice q2 S.bs.length d2) (.slice q3 S.tabs.length d3) (.slice q4 S.sets.length d4)) (.agg (resVA 0 { t with s := S } (.slice ax t.ns.length cx) (.slice q1 S.cs.length d1) (.slice q2 S.bs.length d2) (.slice q3 S.tabs.length d3) (.slice q4 S.sets.length d4))) rfl rfl hR rfl (by kernel_rfl) rfl rfl ?_; (try simp only [Act.put, List.setIfInBounds_toArray, List.set_cons_zero, List.set_cons_succ]); clear hR; intro w9 hR hu))
      exact bodyPost_ret (results_blk hR _ _ rfl rfl Tryz.underlying72 rfl (by kernel_rfl)) rfl ⟨_, _, _, _, _, rfl, ⟨w3.heap.size, w4.heap.size, w1.heap.size, w2.heap.size, by omega, by have := hu.size; omega, by omega, by have := hu.size; omega, by omega, hx.of_blocks (fun q q1 q2 => hu.block q (by omega)), hs.of_blocks (fun q q1 q2 => hu.block q (by omega))⟩, bel6.trans (hu.below (by omega))⟩
    · rw [if_neg hz]
      have hne : (c != 0) = true := by simpa using hz
      have HZ := hide hz
      clear hz
      go_enter Tryz.func38, Tryz.ntmps38
      go_wp2_with fail
      go_at_call 64
      refine (l6Fault_o t u v1 v2 v3 v4 w.heap.size 0 _ hn0 hn1 hn2 hn3 hn4 hA.seg (h.below bel0)).mono ?_
      rintro e w1 ⟨rfl, hb⟩
      replace hA := hA.belowb hb
      replace hR := hR.belowb hb
      have bel1 := bel0.trans (hb.mono bel0.size)
      have z1 : w.heap.size + 2 ≤ w1.heap.size := by have := hb.size; simp at this; omega
      clear hb bel0
      rw [hc]
      go_wp2_with (first | fail | (refine wpList_load_at rfl 37 _ rfl (w.heap.size) 7 rfl _ (scrA t.s v1 v2 v3 v4) hA (vtA_scr t u v1 v2 v3 v4) _ Tryz.underlying37 rfl (by kernel_rfl) ?_; (try simp only [Act.put, List.setIfInBounds_toArray, List.set_cons_zero, List.set_cons_succ])))
      go_at_call 78
      have HRS := specResizeScreen_calls t.s v1 v2 v3 v4 rows width w1 hn1 hn2 hn3 hn4 k1 k2 k3 (h.s.below bel1)
      rw [HC.out, HS.out] at HRS
      refine HRS.mono ?_
      clear HRS
      rintro e w2 ⟨u1, u2, u3, u4, rfl, hs, hb⟩
      replace hA := hA.belowb hb
      replace hR := hR.belowb hb
      have bel2 := bel1.trans (hb.mono bel1.size)
      have z2 : w1.heap.size ≤ w2.heap.size := hb.size
      obtain ⟨q1, d1, q2, d2, q3, d3, q4, d4, rfl, rfl, rfl, rfl⟩ := hs.forms
      clear hb
      have e0 := resA_0 c S (.slice q1 S.cs.length d1) (.slice q2 S.bs.length d2) (.slice q3 S.tabs.length d3) (.slice q4 S.sets.length d4)
      go_wp2_with (first | fail | (refine wpList_store_blk rfl _ _ _ rfl (w2.heap.size) 0 (resA 0 scr0 (.slice none 0 0) (.slice none 0 0) (.slice none 0 0) (.slice none 0 0)) (resA c S (.slice q1 S.cs.length d1) (.slice q2 S.bs.length d2) (.slice q3 S.tabs.length d3) (.slice q4 S.sets.length d4)) (.agg (resA c S (.slice q1 S.cs.length d1) (.slice q2 S.bs.length d2) (.slice q3 S.tabs.length d3) (.slice q4 S.sets.length d4))) rfl rfl (Blk.new w2 _ _) rfl (by kernel_rfl) rfl rfl ?_; (try simp only [Act.put, List.setIfInBounds_toArray, List.set_cons_zero, List.set_cons_succ]); intro w3 hB hu; replace hA := (hA.alloc (.cells #[.int .i64 0, .int .i64 0, .int .i64 0, .slice none 0 0, .slice none 0 0, .int .i64 0, .int .i64 0, .bool false, .int .i64 0, .int .i64 0, .int .i64 0, .bool false, .bool false, .bool false, .slice none 0 0, .int .i64 0, .int .i64 0, .int .i64 0, .slice none 0 0, .int .i64 0, .int .i64 0] 39)).upd hu (by omega); replace hR := (hR.alloc (.cells #[.int .i64 0, .int .i64 0, .int .i64 0, .slice none 0 0, .slice none 0 0, .int .i64 0, .int .i64 0, .bool false, .int .i64 0, .int .i64 0, .int .i64 0, .bool false, .bool false, .bool false, .slice none 0 0, .int .i64 0, .int .i64 0, .int .i64 0, .slice none 0 0, .int .i64 0, .int .i64 0] 39)).upd hu (by omega); replace hs := hs.of_blocks (w' := w3) (fun q q1 q2 => (hu.block q (by omega)).trans (Below.heap_alloc _ _ _ (by omega))); have bel3 := (bel2.trans ((Below.refl _ w2).alloc (by omega) (.cells #[.int .i64 0, .int .i64 0, .int .i64 0, .slice none 0 0, .slice none 0 0, .int .i64 0, .int .i64 0, .bool false, .int .i64 0, .int .i64 0, .int .i64 0, .bool false, .bool false, .bool false, .slice none 0 0, .int .i64 0, .int .i64 0, .int .i64 0, .slice none 0 0, .int .i64 0, .int .i64 0] 39))).trans (hu.below (by omega)); have z3 : w2.heap.size + 1 ≤ w3.heap.size := (by have := hu.size; simp at this; omega); clear hu bel2; have cB := hB.cells) | (refine wpList_build_at rfl 72 _ rfl (resVA c vt0 (.slice none 0 0) (.slice none 0 0) (.slice none 0 0) (.slice none 0 0) (.slice none 0 0)) (by first | rfl | kernel_rfl) ?_; (try simp only [Act.put, List.setIfInBounds_toArray, List.set_cons_zero, List.set_cons_succ])) | (refine wpList_store_blk rfl _ _ _ rfl (w.heap.size + 1) 0 (resVA 0 vt0 (.slice none 0 0) (.slice none 0 0) (.slice none 0 0) (.slice none 0 0) (.slice none 0 0)) (resVA c vt0 (.slice none 0 0) (.slice none 0 0) (.slice none 0 0) (.slice none 0 0) (.slice none 0 0)) (.agg (resVA c vt0 (.slice none 0 0) (.slice none 0 0) (.slice none 0 0) (.slice none 0 0) (.slice none 0 0))) rfl rfl hR rfl (by kernel_rfl) rfl rfl ?_; (try simp only [Act.put, List.setIfInBounds_toArray, List.set_cons_zero, List.set_cons_succ]); clear hR; intro w9 hR hu))
      exact bodyPost_ret (results_blk hR _ _ rfl rfl Tryz.underlying72 rfl (by kernel_rfl)) rfl ⟨_, _, _, _, _, rfl, vown_zero _ _ (by have := hu.size; omega) _, bel3.trans (hu.below (by omega))⟩
  · rw [if_neg hc, if_neg hc]
    obtain ⟨code, hcd⟩ : ∃ c, vtCode t = c := ⟨_, rfl⟩
    rw [hcd]
    have hne : (code != 0) = true := by rw [← hcd]; simpa using hc
    have HC := hide hcd
    clear hc hcd
    go_enter Tryz.func38, Tryz.ntmps38
    go_wp2_with fail
    go_at_call 64
    refine (l6Fault_o t u v1 v2 v3 v4 w.heap.size 0 _ hn0 hn1 hn2 hn3 hn4 hA.seg (h.below bel0)).mono ?_
    rintro e w1 ⟨rfl, hb⟩
    replace hA := hA.belowb hb
    replace hR := hR.belowb hb
    have bel1 := bel0.trans (hb.mono bel0.size)
    have z1 : w.heap.size + 2 ≤ w1.heap.size := by have := hb.size; simp at this; omega
    clear hb bel0
    rw [HC.out]
    go_wp2_with (first | (refine wpList_build_at rfl 72 _ rfl (resVA code vt0 (.slice none 0 0) (.slice none 0 0) (.slice none 0 0) (.slice none 0 0) (.slice none 0 0)) (by first | rfl | kernel_rfl) ?_; (try simp only [Act.put, List.setIfInBounds_toArray, List.set_cons_zero, List.set_cons_succ])) | (refine wpList_store_blk rfl _ _ _ rfl (w.heap.size + 1) 0 (resVA 0 vt0 (.slice none 0 0) (.slice none 0 0) (.slice none 0 0) (.slice none 0 0) (.slice none 0 0)) (resVA code vt0 (.slice none 0 0) (.slice none 0 0) (.slice none 0 0) (.slice none 0 0) (.slice none 0 0)) (.agg (resVA code vt0 (.slice none 0 0) (.slice none 0 0) (.slice none 0 0) (.slice none 0 0) (.slice none 0 0))) rfl rfl hR rfl (by kernel_rfl) rfl rfl ?_; (try simp only [Act.put, List.setIfInBounds_toArray, List.set_cons_zero, List.set_cons_succ]); clear hR; intro w9 hR hu))
    exact bodyPost_ret (results_blk hR _ _ rfl rfl Tryz.underlying72 rfl (by kernel_rfl)) rfl ⟨_, _, _, _, _, rfl, vown_zero _ _ (by have := hu.size; omega) _, bel1.trans (hu.below (by omega))⟩
set_option maxHeartbeats 8000000 in
theorem implResizeVt_calls (t : VtS) (u v1 v2 v3 v4 : Value) (rows width : Int) (w : World) (hn0 : t.ns.length ≤ 1048576) (hn1 : t.s.cs.length ≤ 1048576) (hn2 : t.s.bs.length ≤ 1048576) (hn3 : t.s.tabs.length ≤ 1048576) (hn4 : t.s.sets.length ≤ 1048576) (h : VRead w t u v1 v2 v3 v4) :
    Calls Tryz.prog 39 #[.agg (vtA t u v1 v2 v3 v4), .int .i64 rows, .int .i64 width] w fun e w' => ∃ x y1 y2 y3 y4, e = .returned (.agg (resVA (rvCode t rows width) (rvVt t rows width) x y1 y2 y3 y4)) ∧ VOwn w.heap.size w'.heap.size w' x y1 y2 y3 y4 (rvVt t rows width) ∧ Below w.heap.size w w' := by
  have bel0 : Below w.heap.size w ((w.alloc (.cells (vtA t u v1 v2 v3 v4) 70)).alloc (.cells #[.int .i64 0, .int .i64 0, .int .i64 0, .int .i64 0, .int .i64 0, .int .i64 0, .bool false, .slice none 0 0, .int .i64 0, .int .i64 0, .slice none 0 0, .slice none 0 0, .int .i64 0, .int .i64 0, .bool false, .int .i64 0, .int .i64 0, .int .i64 0, .bool false, .bool false, .bool false, .slice none 0 0, .int .i64 0, .int .i64 0, .int .i64 0, .slice none 0 0, .int .i64 0, .int .i64 0] 72)) := (by repeat' (first | with_reducible exact Below.refl _ _ | with_reducible assumption | with_reducible refine Below.drew ?_ | with_reducible refine Below.alloc ?_ ?_ _ | with_reducible refine Below.setCell ?_ ?_ _ | (simp; done) | (simp; omega) | omega))
  have hA := (Blk.new w (vtA t u v1 v2 v3 v4) 70).alloc (.cells #[.int .i64 0, .int .i64 0, .int .i64 0, .int .i64 0, .int .i64 0, .int .i64 0, .bool false, .slice none 0 0, .int .i64 0, .int .i64 0, .slice none 0 0, .slice none 0 0, .int .i64 0, .int .i64 0, .bool false, .int .i64 0, .int .i64 0, .int .i64 0, .bool false, .bool false, .bool false, .slice none 0 0, .int .i64 0, .int .i64 0, .int .i64 0, .slice none 0 0, .int .i64 0, .int .i64 0] 72)
  have hR : Blk ((w.alloc (.cells (vtA t u v1 v2 v3 v4) 70)).alloc (.cells #[.int .i64 0, .int .i64 0, .int .i64 0, .int .i64 0, .int .i64 0, .int .i64 0, .bool false, .slice none 0 0, .int .i64 0, .int .i64 0, .slice none 0 0, .slice none 0 0, .int .i64 0, .int .i64 0, .bool false, .int .i64 0, .int .i64 0, .int .i64 0, .bool false, .bool false, .bool false, .slice none 0 0, .int .i64 0, .int .i64 0, .int .i64 0, .slice none 0 0, .int .i64 0, .int .i64 0] 72)) (w.heap.size + 1) (resVA 0 vt0 (.slice none 0 0) (.slice none 0 0) (.slice none 0 0) (.slice none 0 0) (.slice none 0 0)) := Blk.new_at (by simp) _ _
  unfold rvCode rvVt
  by_cases hc : vtCode t = 0
  · rw [if_pos hc, if_pos hc]
    obtain ⟨c, hC⟩ : ∃ c, (rzRes t.s rows width).code = c := ⟨_, rfl⟩
    obtain ⟨S, hS⟩ : ∃ S, (rzRes t.s rows width).s = S := ⟨_, rfl⟩
    rw [hC, hS]
    have HC := hide hC
    have HS := hide hS
    clear hC hS
    by_cases hz : c = 0
    · rw [if_pos hz]
      subst hz
      go_enter Tryz.func39, Tryz.ntmps39
      go_wp2_with (first | fail | (refine wpList_load_at rfl 70 _ rfl (w.heap.size) 0 rfl _ (vtA t u v1 v2 v3 v4) hA rfl _ Tryz.underlying70 rfl (by kernel_rfl) ?_; (try simp only [Act.put, List.setIfInBounds_toArray, List.set_cons_zero, List.set_cons_succ])))
      go_at_call 69
      refine (implVtFault_calls t u v1 v2 v3 v4 _ hn0 hn1 hn2 hn3 hn4 (h.below bel0)).mono ?_
      rintro e w1 ⟨rfl, hb⟩
      replace hA := hA.belowb hb
      replace hR := hR.belowb hb
      have bel1 := bel0.trans (hb.mono bel0.size)
      have z1 : w.heap.size + 2 ≤ w1.heap.size := by have := hb.size; simp at this; omega
      clear hb bel0
      rw [hc]
      go_wp2_with (first | fail | (refine wpList_load_at rfl 37 _ rfl (w.heap.size) 7 rfl _ (scrA t.s v1 v2 v3 v4) hA (vtA_scr t u v1 v2 v3 v4) _ Tryz.underlying37 rfl (by kernel_rfl) ?_; (try simp only [Act.put, List.setIfInBounds_toArray, List.set_cons_zero, List.set_cons_succ])))
      go_at_call 79
      have HRS := implResizeScreen_calls t.s v1 v2 v3 v4 rows width w1 hn1 hn2 hn3 hn4 (h.s.below bel1)
      rw [HC.out, HS.out] at HRS
      refine HRS.mono ?_
      clear HRS
      rintro e w2 ⟨u1, u2, u3, u4, rfl, hs, hb⟩
      replace hA := hA.belowb hb
      replace hR := hR.belowb hb
      have bel2 := bel1.trans (hb.mono bel1.size)
      have z2 : w1.heap.size ≤ w2.heap.size := hb.size
      obtain ⟨q1, d1, q2, d2, q3, d3, q4, d4, rfl, rfl, rfl, rfl⟩ := hs.forms
      clear hb
      have e0 := resA_0 0 S (.slice q1 S.cs.length d1) (.slice q2 S.bs.length d2) (.slice q3 S.tabs.length d3) (.slice q4 S.sets.length d4)
      go_wp2_with (first | fail | (refine wpList_store_blk rfl _ _ _ rfl (w2.heap.size) 0 (resA 0 scr0 (.slice none 0 0) (.slice none 0 0) (.slice none 0 0) (.slice none 0 0)) (resA 0 S (.slice q1 S.cs.length d1) (.slice q2 S.bs.length d2) (.slice q3 S.tabs.length d3) (.slice q4 S.sets.length d4)) (.agg (resA 0 S (.slice q1 S.cs.length d1) (.slice q2 S.bs.length d2) (.slice q3 S.tabs.length d3) (.slice q4 S.sets.length d4))) rfl rfl (Blk.new w2 _ _) rfl (by kernel_rfl) rfl rfl ?_; (try simp only [Act.put, List.setIfInBounds_toArray, List.set_cons_zero, List.set_cons_succ]); intro w3 hB hu; replace hA := (hA.alloc (.cells #[.int .i64 0, .int .i64 0, .int .i64 0, .slice none 0 0, .slice none 0 0, .int .i64 0, .int .i64 0, .bool false, .int .i64 0, .int .i64 0, .int .i64 0, .bool false, .bool false, .bool false, .slice none 0 0, .int .i64 0, .int .i64 0, .int .i64 0, .slice none 0 0, .int .i64 0, .int .i64 0] 39)).upd hu (by omega); replace hR := (hR.alloc (.cells #[.int .i64 0, .int .i64 0, .int .i64 0, .slice none 0 0, .slice none 0 0, .int .i64 0, .int .i64 0, .bool false, .int .i64 0, .int .i64 0, .int .i64 0, .bool false, .bool false, .bool false, .slice none 0 0, .int .i64 0, .int .i64 0, .int .i64 0, .slice none 0 0, .int .i64 0, .int .i64 0] 39)).upd hu (by omega); replace hs := hs.of_blocks (w' := w3) (fun q q1 q2 => (hu.block q (by omega)).trans (Below.heap_alloc _ _ _ (by omega))); have bel3 := (bel2.trans ((Below.refl _ w2).alloc (by omega) (.cells #[.int .i64 0, .int .i64 0, .int .i64 0, .slice none 0 0, .slice none 0 0, .int .i64 0, .int .i64 0, .bool false, .int .i64 0, .int .i64 0, .int .i64 0, .bool false, .bool false, .bool false, .slice none 0 0, .int .i64 0, .int .i64 0, .int .i64 0, .slice none 0 0, .int .i64 0, .int .i64 0] 39))).trans (hu.below (by omega)); have z3 : w2.heap.size + 1 ≤ w3.heap.size := (by have := hu.size; simp at this; omega); clear hu bel2; have cB := hB.cells))
      refine till_region [9] (S := (fun w' => Below w3.heap.size w3 w')) (by kernel_rfl) ?_ (fun hHeld => ?_)
      · (try dsimp only); exact Below.drew (Below.refl _ w3)
      refine till_take (i := 0) (oi := ⟨_, _, _, _, _, _⟩) (v := ?_) rfl (by kernel_rfl) (by kernel_rfl) (by kernel_rfl) (by kernel_rfl) (fun _ _ _ h => h) (Or.inl ⟨by rfl, ?_⟩) hHeld ?_
      rotate_left
      · (intro w hSw; (try dsimp only at hSw); go_simp; try (with_reducible rfl))
      try simp only [Act.put, List.setIfInBounds_toArray, List.set_cons_zero, List.set_cons_succ]
      refine till_take (i := 1) (oi := ⟨_, _, _, _, _, _⟩) (v := .agg (decA t)) rfl (by kernel_rfl) (by kernel_rfl) (by kernel_rfl) (by kernel_rfl) (fun _ _ _ h => h) (Or.inl ⟨by rfl, ?_⟩) hHeld ?_
      · intro w hSw
        (try dsimp only at hSw)
        exact run_exLd _ _ rfl _ _ rfl _ (run_loadVar_at (P := Tryz.prog) (o := 0) (vs := (decA t)) (hA.belowb hSw) (vtA_dec t u v1 v2 v3 v4) Tryz.underlying67 rfl (by kernel_rfl))
      try simp only [Act.put, List.setIfInBounds_toArray, List.set_cons_zero, List.set_cons_succ]
      refine till_take (i := 2) (oi := ⟨_, _, _, _, _, _⟩) (v := ?_) rfl (by kernel_rfl) (by kernel_rfl) (by kernel_rfl) (by kernel_rfl) (fun _ _ _ h => h) (Or.inl ⟨by rfl, ?_⟩) hHeld ?_
      rotate_left
      · (intro w hSw; (try dsimp only at hSw); go_simp; try (with_reducible rfl))
      try simp only [Act.put, List.setIfInBounds_toArray, List.set_cons_zero, List.set_cons_succ]
      refine till_take (i := 3) (oi := ⟨_, _, _, _, _, _⟩) (v := .agg (parA t u)) rfl (by kernel_rfl) (by kernel_rfl) (by kernel_rfl) (by kernel_rfl) (fun _ _ _ h => h) (Or.inl ⟨by rfl, ?_⟩) hHeld ?_
      · intro w hSw
        (try dsimp only at hSw)
        exact run_exLd _ _ rfl _ _ rfl _ (run_loadVar_at (P := Tryz.prog) (o := 3) (vs := (parA t u)) (hA.belowb hSw) (vtA_par t u v1 v2 v3 v4) Tryz.underlying68 rfl (by kernel_rfl))
      try simp only [Act.put, List.setIfInBounds_toArray, List.set_cons_zero, List.set_cons_succ]
      refine till_take (i := 5) (oi := ⟨_, _, _, _, _, _⟩) (v := ?_) rfl (by kernel_rfl) (by kernel_rfl) (by kernel_rfl) (by kernel_rfl) (fun _ _ _ h => h) (Or.inl ⟨by rfl, ?_⟩) hHeld ?_
      rotate_left
      · (intro w hSw; (try dsimp only at hSw); go_simp; try (with_reducible rfl))
      try simp only [Act.put, List.setIfInBounds_toArray, List.set_cons_zero, List.set_cons_succ]
      refine till_take (i := 6) (oi := ⟨_, _, _, _, _, _⟩) (v := .agg (scrA S (.slice q1 S.cs.length d1) (.slice q2 S.bs.length d2) (.slice q3 S.tabs.length d3) (.slice q4 S.sets.length d4))) rfl (by kernel_rfl) (by kernel_rfl) (by kernel_rfl) (by kernel_rfl) (fun _ _ _ h => h) (Or.inl ⟨by rfl, ?_⟩) hHeld ?_
      · intro w hSw
        (try dsimp only at hSw)
        exact run_exLd _ _ rfl _ _ rfl _ (run_loadVar_at (P := Tryz.prog) (o := 1) (vs := (scrA S (.slice q1 S.cs.length d1) (.slice q2 S.bs.length d2) (.slice q3 S.tabs.length d3) (.slice q4 S.sets.length d4))) (hB.belowb hSw) (resA_scr 0 S (.slice q1 S.cs.length d1) (.slice q2 S.bs.length d2) (.slice q3 S.tabs.length d3) (.slice q4 S.sets.length d4)) Tryz.underlying37 rfl (by kernel_rfl))
      try simp only [Act.put, List.setIfInBounds_toArray, List.set_cons_zero, List.set_cons_succ]
      refine till_ready (rs := [4]) (by kernel_rfl) (by simp) ?_
      refine (EachTill.cons (o := ⟨_, _, _, _, _, _⟩) rfl (fun K hK => ?_) EachTill.nil)
      go_simp
      go_at_call 80
      refine (ownParser_calls t.md t.st t.pv t.ns u _ hn0 ((h.p.below bel3).below (Below.drew (Below.refl _ w3)))).mono ?_
      rintro e w4 ⟨x, rfl, hx', hb'⟩
      have hb4 : Below w3.heap.size w3 w4 := hHeld.trans hb'
      have hx : IntsAt .i64 w3.heap.size w4.heap.size w4 x t.ns := own_ints hx' (Nat.le_refl _)
      obtain ⟨ax, cx, rfl, _⟩ := id hx
      clear hb' hx'
      refine hK.out _ _ ?_ ?_
      · (try dsimp only); exact hb4
      clear hHeld hK K
      intro hHeld
      try simp only [Act.put, List.setIfInBounds_toArray, List.set_cons_zero, List.set_cons_succ]
      refine till_ready (rs := [7]) (by kernel_rfl) (by simp) ?_
      refine (EachTill.cons (o := ⟨_, _, _, _, _, _⟩) rfl (fun K hK => ?_) EachTill.nil)
      refine wp_build_at 70 _ rfl (vtA { t with s := S } (.slice ax t.ns.length cx) (.slice q1 S.cs.length d1) (.slice q2 S.bs.length d2) (.slice q3 S.tabs.length d3) (.slice q4 S.sets.length d4)) (by first | rfl | kernel_rfl) ?_
      refine hK.out _ _ ?_ ?_
      · (try dsimp only); exact hHeld
      clear hHeld hK K
      intro hHeld
      try simp only [Act.put, List.setIfInBounds_toArray, List.set_cons_zero, List.set_cons_succ]
      refine till_ready (rs := [8]) (by kernel_rfl) (by simp) ?_
      refine (EachTill.cons (o := ⟨_, _, _, _, _, _⟩) rfl (fun K hK => ?_) EachTill.nil)
      refine wp_build_at 72 _ rfl (resVA 0 { t with s := S } (.slice ax t.ns.length cx) (.slice q1 S.cs.length d1) (.slice q2 S.bs.length d2) (.slice q3 S.tabs.length d3) (.slice q4 S.sets.length d4)) (by first | rfl | kernel_rfl) ?_
      refine hK.out _ _ ?_ ?_
      · (try dsimp only); exact hHeld
      clear hHeld hK K
      intro hHeld
      try simp only [Act.put, List.setIfInBounds_toArray, List.set_cons_zero, List.set_cons_succ]
      refine till_ready (rs := [9]) (by kernel_rfl) (by simp) ?_
      refine (EachTill.last (o := ⟨_, _, _, _, _, _⟩) rfl rfl (fun K hK => ?_) EachTill.nil)
      have hR9 := hR.belowb hHeld
      have hW9 := hHeld
      refine wp_store_any _ _ _ rfl (w.heap.size + 1) 0 (resVA 0 vt0 (.slice none 0 0) (.slice none 0 0) (.slice none 0 0) (.slice none 0 0) (.slice none 0 0)) (resVA 0 { t with s := S } (.slice ax t.ns.length cx) (.slice q1 S.cs.length d1) (.slice q2 S.bs.length d2) (.slice q3 S.tabs.length d3) (.slice q4 S.sets.length d4)) (.agg (resVA 0 { t with s := S } (.slice ax t.ns.length cx) (.slice q1 S.cs.length d1) (.slice q2 S.bs.length d2) (.slice q3 S.tabs.length d3) (.slice q4 S.sets.length d4))) rfl rfl hR9 rfl (by kernel_rfl) rfl rfl ?_
      intro w9 hR' hu
      refine hK.out _ _ ?_ ?_
      · first | trivial | (dsimp only)
      clear hHeld hK K
      intro hHeld
      try simp only [Act.put, List.setIfInBounds_toArray, List.set_cons_zero, List.set_cons_succ]
      refine till_done (by kernel_rfl) ?_ _
      clear hHeld
      go_wp2
      refine bodyPost_ret (results_blk hR' _ _ rfl rfl Tryz.underlying72 rfl (by kernel_rfl)) rfl ⟨_, _, _, _, _, rfl, ⟨w3.heap.size, w4.heap.size, w1.heap.size, w2.heap.size, by omega, by have := hu.size; have := hW9.size; have := hb4.size; omega, by omega, by have := hu.size; have := hW9.size; have := hb4.size; omega, by omega, hx.of_blocks (fun q q1 q2 => (hu.block q (by omega))), hs.of_blocks (fun q q1 q2 => (hu.block q (by omega)).trans (hW9.block q (by omega)))⟩, (bel3.trans (hW9.mono (by omega))).trans (hu.below (by omega))⟩
    · rw [if_neg hz]
      have hne : (c != 0) = true := by simpa using hz
      have HZ := hide hz
      clear hz
      go_enter Tryz.func39, Tryz.ntmps39
      go_wp2_with (first | fail | (refine wpList_load_at rfl 70 _ rfl (w.heap.size) 0 rfl _ (vtA t u v1 v2 v3 v4) hA rfl _ Tryz.underlying70 rfl (by kernel_rfl) ?_; (try simp only [Act.put, List.setIfInBounds_toArray, List.set_cons_zero, List.set_cons_succ])))
      go_at_call 69
      refine (implVtFault_calls t u v1 v2 v3 v4 _ hn0 hn1 hn2 hn3 hn4 (h.below bel0)).mono ?_
      rintro e w1 ⟨rfl, hb⟩
      replace hA := hA.belowb hb
      replace hR := hR.belowb hb
      have bel1 := bel0.trans (hb.mono bel0.size)
      have z1 : w.heap.size + 2 ≤ w1.heap.size := by have := hb.size; simp at this; omega
      clear hb bel0
      rw [hc]
      go_wp2_with (first | fail | (refine wpList_load_at rfl 37 _ rfl (w.heap.size) 7 rfl _ (scrA t.s v1 v2 v3 v4) hA (vtA_scr t u v1 v2 v3 v4) _ Tryz.underlying37 rfl (by kernel_rfl) ?_; (try simp only [Act.put, List.setIfInBounds_toArray, List.set_cons_zero, List.set_cons_succ])))
      go_at_call 79
      have HRS := implResizeScreen_calls t.s v1 v2 v3 v4 rows width w1 hn1 hn2 hn3 hn4 (h.s.below bel1)
      rw [HC.out, HS.out] at HRS
      refine HRS.mono ?_
      clear HRS
      rintro e w2 ⟨u1, u2, u3, u4, rfl, hs, hb⟩
      replace hA := hA.belowb hb
      replace hR := hR.belowb hb
      have bel2 := bel1.trans (hb.mono bel1.size)
      have z2 : w1.heap.size ≤ w2.heap.size := hb.size
      obtain ⟨q1, d1, q2, d2, q3, d3, q4, d4, rfl, rfl, rfl, rfl⟩ := hs.forms
      clear hb
      have e0 := resA_0 c S (.slice q1 S.cs.length d1) (.slice q2 S.bs.length d2) (.slice q3 S.tabs.length d3) (.slice q4 S.sets.length d4)
      go_wp2_with (first | fail | (refine wpList_store_blk rfl _ _ _ rfl (w2.heap.size) 0 (resA 0 scr0 (.slice none 0 0) (.slice none 0 0) (.slice none 0 0) (.slice none 0 0)) (resA c S (.slice q1 S.cs.length d1) (.slice q2 S.bs.length d2) (.slice q3 S.tabs.length d3) (.slice q4 S.sets.length d4)) (.agg (resA c S (.slice q1 S.cs.length d1) (.slice q2 S.bs.length d2) (.slice q3 S.tabs.length d3) (.slice q4 S.sets.length d4))) rfl rfl (Blk.new w2 _ _) rfl (by kernel_rfl) rfl rfl ?_; (try simp only [Act.put, List.setIfInBounds_toArray, List.set_cons_zero, List.set_cons_succ]); intro w3 hB hu; replace hA := (hA.alloc (.cells #[.int .i64 0, .int .i64 0, .int .i64 0, .slice none 0 0, .slice none 0 0, .int .i64 0, .int .i64 0, .bool false, .int .i64 0, .int .i64 0, .int .i64 0, .bool false, .bool false, .bool false, .slice none 0 0, .int .i64 0, .int .i64 0, .int .i64 0, .slice none 0 0, .int .i64 0, .int .i64 0] 39)).upd hu (by omega); replace hR := (hR.alloc (.cells #[.int .i64 0, .int .i64 0, .int .i64 0, .slice none 0 0, .slice none 0 0, .int .i64 0, .int .i64 0, .bool false, .int .i64 0, .int .i64 0, .int .i64 0, .bool false, .bool false, .bool false, .slice none 0 0, .int .i64 0, .int .i64 0, .int .i64 0, .slice none 0 0, .int .i64 0, .int .i64 0] 39)).upd hu (by omega); replace hs := hs.of_blocks (w' := w3) (fun q q1 q2 => (hu.block q (by omega)).trans (Below.heap_alloc _ _ _ (by omega))); have bel3 := (bel2.trans ((Below.refl _ w2).alloc (by omega) (.cells #[.int .i64 0, .int .i64 0, .int .i64 0, .slice none 0 0, .slice none 0 0, .int .i64 0, .int .i64 0, .bool false, .int .i64 0, .int .i64 0, .int .i64 0, .bool false, .bool false, .bool false, .slice none 0 0, .int .i64 0, .int .i64 0, .int .i64 0, .slice none 0 0, .int .i64 0, .int .i64 0] 39))).trans (hu.below (by omega)); have z3 : w2.heap.size + 1 ≤ w3.heap.size := (by have := hu.size; simp at this; omega); clear hu bel2; have cB := hB.cells) | (refine wpList_build_at rfl 72 _ rfl (resVA c vt0 (.slice none 0 0) (.slice none 0 0) (.slice none 0 0) (.slice none 0 0) (.slice none 0 0)) (by first | rfl | kernel_rfl) ?_; (try simp only [Act.put, List.setIfInBounds_toArray, List.set_cons_zero, List.set_cons_succ])) | (refine wpList_store_blk rfl _ _ _ rfl (w.heap.size + 1) 0 (resVA 0 vt0 (.slice none 0 0) (.slice none 0 0) (.slice none 0 0) (.slice none 0 0) (.slice none 0 0)) (resVA c vt0 (.slice none 0 0) (.slice none 0 0) (.slice none 0 0) (.slice none 0 0) (.slice none 0 0)) (.agg (resVA c vt0 (.slice none 0 0) (.slice none 0 0) (.slice none 0 0) (.slice none 0 0) (.slice none 0 0))) rfl rfl hR rfl (by kernel_rfl) rfl rfl ?_; (try simp only [Act.put, List.setIfInBounds_toArray, List.set_cons_zero, List.set_cons_succ]); clear hR; intro w9 hR hu))
      exact bodyPost_ret (results_blk hR _ _ rfl rfl Tryz.underlying72 rfl (by kernel_rfl)) rfl ⟨_, _, _, _, _, rfl, vown_zero _ _ (by have := hu.size; omega) _, bel3.trans (hu.below (by omega))⟩
  · rw [if_neg hc, if_neg hc]
    obtain ⟨code, hcd⟩ : ∃ c, vtCode t = c := ⟨_, rfl⟩
    rw [hcd]
    have hne : (code != 0) = true := by rw [← hcd]; simpa using hc
    have HC := hide hcd
    clear hc hcd
    go_enter Tryz.func39, Tryz.ntmps39
    go_wp2_with (first | fail | (refine wpList_load_at rfl 70 _ rfl (w.heap.size) 0 rfl _ (vtA t u v1 v2 v3 v4) hA rfl _ Tryz.underlying70 rfl (by kernel_rfl) ?_; (try simp only [Act.put, List.setIfInBounds_toArray, List.set_cons_zero, List.set_cons_succ])))
    go_at_call 69
    refine (implVtFault_calls t u v1 v2 v3 v4 _ hn0 hn1 hn2 hn3 hn4 (h.below bel0)).mono ?_
    rintro e w1 ⟨rfl, hb⟩
    replace hA := hA.belowb hb
    replace hR := hR.belowb hb
    have bel1 := bel0.trans (hb.mono bel0.size)
    have z1 : w.heap.size + 2 ≤ w1.heap.size := by have := hb.size; simp at this; omega
    clear hb bel0
    rw [HC.out]
    go_wp2_with (first | (refine wpList_build_at rfl 72 _ rfl (resVA code vt0 (.slice none 0 0) (.slice none 0 0) (.slice none 0 0) (.slice none 0 0) (.slice none 0 0)) (by first | rfl | kernel_rfl) ?_; (try simp only [Act.put, List.setIfInBounds_toArray, List.set_cons_zero, List.set_cons_succ])) | (refine wpList_store_blk rfl _ _ _ rfl (w.heap.size + 1) 0 (resVA 0 vt0 (.slice none 0 0) (.slice none 0 0) (.slice none 0 0) (.slice none 0 0) (.slice none 0 0)) (resVA code vt0 (.slice none 0 0) (.slice none 0 0) (.slice none 0 0) (.slice none 0 0) (.slice none 0 0)) (.agg (resVA code vt0 (.slice none 0 0) (.slice none 0 0) (.slice none 0 0) (.slice none 0 0) (.slice none 0 0))) rfl rfl hR rfl (by kernel_rfl) rfl rfl ?_; (try simp only [Act.put, List.setIfInBounds_toArray, List.set_cons_zero, List.set_cons_succ]); clear hR; intro w9 hR hu))
    exact bodyPost_ret (results_blk hR _ _ rfl rfl Tryz.underlying72 rfl (by kernel_rfl)) rfl ⟨_, _, _, _, _, rfl, vown_zero _ _ (by have := hu.size; omega) _, bel1.trans (hu.below (by omega))⟩
end Go.Proofs.YtdekegjplegkeaaGreat

/- Copies of a grid's lists with room for what they hold (toCellS, toGrid). -/
namespace Go.Proofs.YtdekegjplegkeaaGreat
set_option maxRecDepth 20000
open Go.ChangeShapes Go.WideShapes Go.ChangeAt Go.RowKit
set_option linter.unusedVariables false
set_option linter.unusedSimpArgs false
set_option maxRecDepth 20000

set_option maxHeartbeats 1000000 in
theorem toCellS_full (zs : List (Int × Int)) (v : Value) (w : World) (hn : zs.length ≤ 1048576) (h1 : PRead w v zs) :
    Calls Tryz.prog 94 #[v] w fun e w' => ∃ v', e = .returned v' ∧ Capped v' ∧ PairsAt w.heap.size w'.heap.size w' v' zs ∧ Below w.heap.size w w' := by
  obtain ⟨i0, hi, hz0, hz1, hz2⟩ := info_parts info_pair
  obtain ⟨a1, c1, rfl, h1⟩ := h1
  go_enter Tryz.func94, Tryz.ntmps94
  go_wp2_with (at_make; refine wpList_make_full _ rfl (.tmp 6) (.tmp 6) 33 rfl w.heap.size 193 i0 (.agg #[.int .i64 0, .int .i64 0]) 2 Tryz.underlying33 hi hz0 hz1 .i64 .i64 _ _ zs.length rfl rfl rfl rfl ?c1 ?c2 ?c3 ?_)
  case c1 => rw [hz2]; omega
  case c2 => unfold maxLen; omega
  case c3 => exact Nat.le_refl _
  intro w1 hown hgrow
  have hany := own_any2 hown
  have hlt1 : w.heap.size < w1.heap.size := (hown.lt w.heap.size rfl).2
  have hb1 : Below w.heap.size w w1 := (Below.refl _ _).grown hgrow (Nat.le_refl _) (fun k hk => by cases hk)
  have HA := hide hany
  clear hown hgrow hany
  go_wp2
  go_loopw [4] (fun i wr => ∃ k : Nat, k ≤ zs.length ∧ i = .int .i64 k ∧ Below w.heap.size w wr ∧ w.heap.size < wr.heap.size ∧
      (∀ j, j < zs.length * 2 → (∃ u, wr.cell? ⟨w.heap.size, 0 + j, none⟩ = some u) ∧ wr.frozen? ⟨w.heap.size, 0 + j, none⟩ = false) ∧ ∀ j, j < k → wr.cell? ⟨w.heap.size, 0 + j * 2, none⟩ = some (.int .i64 (zs.getD j (0, 0)).1) ∧ wr.cell? ⟨w.heap.size, 0 + j * 2 + 1, none⟩ = some (.int .i64 (zs.getD j (0, 0)).2)) (fun i _ => zs.length - (intOf i).toNat)
  case atStart => exact ⟨0, Nat.zero_le _, rfl, hb1, hlt1, HA.out, fun j hj => by omega⟩
  case round =>
    obtain ⟨k, hkk, rfl, hw, hsz, hf, hc⟩ := hrel
    by_cases hlt : k < zs.length
    · have hpos : zs ≠ [] := by intro h; rw [h] at hlt; simp at hlt
      rcases h1 with h1 | ⟨b1, o1, rfl, h1⟩
      · exact absurd h1 hpos
      obtain ⟨g1, g2⟩ := h1 k hlt
      replace g1 := cellb hw g1
      replace g2 := cellb hw g2
      have hltI : (k : Int) < (zs.length : Int) := by omega
      have HF := hide hf
      have HC := hide hc
      clear hf hc h1 hpos HA hb1 hlt1
      have HG : Hid ((zs.getD k (0, 0)) = ((zs.getD k (0, 0)).1, (zs.getD k (0, 0)).2)) := rfl
      generalize hcc : (zs.getD k (0, 0)).1 = c at *
      generalize hgg : (zs.getD k (0, 0)).2 = g at *
      clear hcc hgg
      go_wp2_with fail
      refine (toCell_calls c g _).mono ?_
      rintro e w2 ⟨rfl, hb2⟩
      have hs2 : w.heap.size < w2.heap.size := Nat.lt_of_lt_of_le hsz hb2.size
      have hw2 := hw.trans (hb2.mono (by omega))
      have HF2 : Hid (∀ j, j < zs.length * 2 → (∃ u, w2.cell? ⟨w.heap.size, 0 + j, none⟩ = some u) ∧ w2.frozen? ⟨w.heap.size, 0 + j, none⟩ = false) := fun j hj => by
        obtain ⟨⟨u, hu⟩, hfz⟩ := HF.out j hj
        exact ⟨⟨u, cellb hb2 hu⟩, by rw [hb2.frozen (p := ⟨w.heap.size, 0 + j, none⟩) hsz]; exact hfz⟩
      have HC2 : Hid (∀ j, j < k → w2.cell? ⟨w.heap.size, 0 + j * 2, none⟩ = some (.int .i64 (zs.getD j (0, 0)).1) ∧ w2.cell? ⟨w.heap.size, 0 + j * 2 + 1, none⟩ = some (.int .i64 (zs.getD j (0, 0)).2)) := fun j hj => ⟨cellb hb2 (HC.out j hj).1, cellb hb2 (HC.out j hj).2⟩
      obtain ⟨⟨u, k1⟩, f1⟩ := HF2.out (k * 2) (by omega)
      obtain ⟨⟨u', k2⟩, f2⟩ := HF2.out (k * 2 + 1) (by omega)
      have K1 := hide k1
      have K2 := hide k2
      rw [Nat.zero_add] at k1 f1 k2 f2
      clear g1 g2 HF HC hw hb2 hsz
      go_wp2
      go_roundw
      case rel =>
        obtain ⟨s1, s2, so⟩ := two_cells (x := .int .i64 c) (y := .int .i64 g) k1 k2
        refine ⟨k + 1, by omega, by go_num, (hw2.setCell (Nat.le_refl _) _).setCell (Nat.le_refl _) _, by simpa [World.setCell] using hs2, fun j hj => ⟨?_, ?_⟩, fun j hj => ?_⟩
        · rw [Nat.zero_add]
          by_cases e : j = k * 2
          · subst e; exact ⟨_, s1⟩
          · by_cases e' : j = k * 2 + 1
            · subst e'; exact ⟨_, s2⟩
            · rw [so j e e']; obtain ⟨u, hu⟩ := (HF2.out j hj).1; rw [Nat.zero_add] at hu; exact ⟨u, hu⟩
        · simp only [World.frozen?_setCell]; exact (HF2.out j hj).2
        · by_cases e : j = k
          · subst e; rw [Nat.zero_add, s1, s2, HG.out]; exact ⟨rfl, rfl⟩
          · rw [Nat.zero_add, so _ (by omega) (by omega), so _ (by omega) (by omega)]
            have := HC2.out j (by omega)
            rw [Nat.zero_add] at this
            exact this
      case measure => simp [intOf]; omega
    · have hk' : k = zs.length := by omega
      subst hk'
      go_wp2
      go_ret
      exact ⟨_, rfl, fun a n c e => (by cases e; exact Nat.le_refl _), ⟨_, _, rfl, .inr ⟨w.heap.size, 0, rfl, Nat.le_refl _, hsz, fun i hi => ⟨hc i hi, (hf (i * 2) (by omega)).2, (hf (i * 2 + 1) (by omega)).2⟩⟩⟩, hw⟩

set_option maxHeartbeats 1000000 in
theorem toGrid_full (r wd : Int) (cs bs : List (Int × Int)) (v1 v2 : Value) (w : World) (hn1 : cs.length ≤ 1048576) (hn2 : bs.length ≤ 1048576) (h1 : PRead w v1 cs) (h2 : PRead w v2 bs) :
    Calls Tryz.prog 48 #[.agg #[.int .i64 r, .int .i64 wd, v1, v2]] w fun e w' => ∃ x y, e = .returned (.agg #[.int .i64 r, .int .i64 wd, x, y]) ∧ Capped x ∧ Capped y ∧ GOwn w.heap.size w'.heap.size w' x y cs bs ∧ Below w.heap.size w w' := by
  have h1' := h1
  obtain ⟨a1, c1, rfl, _⟩ := h1'
  have h2' := h2
  obtain ⟨a2, c2, rfl, _⟩ := h2'
  go_enter Tryz.func48, Tryz.ntmps48
  go_wp2_with fail
  refine (toCellS_full cs _ _ hn1 (h1.below ?hb)).mono ?_
  case hb => exact (by repeat' (first | with_reducible exact Below.refl _ _ | with_reducible assumption | with_reducible refine Below.drew ?_ | with_reducible refine Below.alloc ?_ ?_ _ | with_reducible refine Below.setCell ?_ ?_ _ | (simp; done) | (simp; omega) | omega))
  rintro e w1 ⟨x, rfl, hcx, hx, hb1⟩
  have hW : Below w.heap.size w _ := Below.trans (b := _) ?hq (hb1.mono ?hq2)
  case hq => exact (by repeat' (first | with_reducible exact Below.refl _ _ | with_reducible assumption | with_reducible refine Below.drew ?_ | with_reducible refine Below.alloc ?_ ?_ _ | with_reducible refine Below.setCell ?_ ?_ _ | (simp; done) | (simp; omega) | omega))
  case hq2 => simp [World.setCell]; omega
  have hs1 : w.heap.size + 3 ≤ w1.heap.size := by have := hb1.size; simp [World.setCell] at this; omega
  have A3 : w1.cell? ⟨w.heap.size, 3, none⟩ = some (.slice a2 bs.length c2) := cellb hb1 (by simp [go_sem])
  have k0 : w1.cell? ⟨w.heap.size + 1, 0, none⟩ = some (.int .i64 0) := cellb hb1 (by simp [go_sem])
  have k1 : w1.cell? ⟨w.heap.size + 1, 1, none⟩ = some (.int .i64 0) := cellb hb1 (by simp [go_sem])
  have k2 : w1.cell? ⟨w.heap.size + 1, 2, none⟩ = some (.slice none 0 0) := cellb hb1 (by simp [go_sem])
  have k3 : w1.cell? ⟨w.heap.size + 1, 3, none⟩ = some (.slice none 0 0) := cellb hb1 (by simp [go_sem])
  have j0 : w1.cell? ⟨w.heap.size + 2, 0, none⟩ = some (.int .i64 r) := cellb hb1 (by simp [go_sem])
  have j1 : w1.cell? ⟨w.heap.size + 2, 1, none⟩ = some (.int .i64 wd) := cellb hb1 (by simp [go_sem])
  have j2 : w1.cell? ⟨w.heap.size + 2, 2, none⟩ = some (.slice none 0 0) := cellb hb1 (by simp [go_sem])
  have j3 : w1.cell? ⟨w.heap.size + 2, 3, none⟩ = some (.slice none 0 0) := cellb hb1 (by simp [go_sem])
  have fz : ∀ b o, b < w.heap.size + 3 → w.heap.size ≤ b → w1.frozen? ⟨b, o, none⟩ = false := fun b o hb hb' => by
    rw [hb1.frozen (p := ⟨b, o, none⟩) (by simp [World.setCell]; omega)]
    try simp only [World.frozen?_setCell]
    obtain rfl | rfl | rfl : b = w.heap.size ∨ b = w.heap.size + 1 ∨ b = w.heap.size + 2 := by omega
    all_goals simp [go_sem]
  have z0 := fz (w.heap.size + 1) 0 (by omega) (by omega)
  have z1 := fz (w.heap.size + 1) 1 (by omega) (by omega)
  have z2 := fz (w.heap.size + 1) 2 (by omega) (by omega)
  have z3 := fz (w.heap.size + 1) 3 (by omega) (by omega)
  have y2 := fz (w.heap.size + 2) 2 (by omega) (by omega)
  have y3 := fz (w.heap.size + 2) 3 (by omega) (by omega)
  obtain ⟨a3, c3, rfl, hx'⟩ := hx
  have hx : PairsAt (w.heap.size + 3) w1.heap.size w1 (.slice a3 cs.length c3) cs := PairsAt.mono ⟨a3, c3, rfl, hx'⟩ (by simp [World.setCell]) (Nat.le_refl _)
  clear hx' hb1 fz
  have t2 : Touch (w.heap.size + 2) 2 3 w1 (w1.setCell ⟨w.heap.size + 2, 2, none⟩ (.slice a3 cs.length c3)) := (Touch.refl _ _ _ _).setCell (by omega) (by omega) _
  have J2 : (w1.setCell ⟨w.heap.size + 2, 2, none⟩ (.slice a3 cs.length c3)).cell? ⟨w.heap.size + 2, 2, none⟩ = some (.slice a3 cs.length c3) := World.cell?_setCell_same _ _ _ j2
  go_wp2_with fail
  generalize (w1.setCell ⟨w.heap.size + 2, 2, none⟩ (.slice a3 cs.length c3)) = w2 at *
  have hW2 : Below w.heap.size w w2 := hW.trans (t2.below (by omega) (by omega))
  refine (toCellS_full bs _ _ hn2 (h2.below hW2)).mono ?_
  rintro e w3 ⟨y, rfl, hcy, hy, hb3⟩
  have hs2 : w1.heap.size ≤ w2.heap.size := t2.size
  have hs3 : w2.heap.size ≤ w3.heap.size := hb3.size
  have hW3 : Below w.heap.size w w3 := hW2.trans (hb3.mono (by omega))
  replace k0 := cellb hb3 (t2.cellAt k0 (by omega))
  replace k1 := cellb hb3 (t2.cellAt k1 (by omega))
  replace k2 := cellb hb3 (t2.cellAt k2 (by omega))
  replace k3 := cellb hb3 (t2.cellAt k3 (by omega))
  replace j0 := cellb hb3 (t2.cellAt j0 (by omega))
  replace j1 := cellb hb3 (t2.cellAt j1 (by omega))
  replace j3 := cellb hb3 (t2.cellAt j3 (by omega))
  replace J2 := cellb hb3 J2
  replace z0 : w3.frozen? ⟨w.heap.size + 1, 0, none⟩ = false := by rw [hb3.frozen (p := ⟨w.heap.size + 1, 0, none⟩) (by simp; omega)]; exact t2.frozenAt (by omega) z0
  replace z1 : w3.frozen? ⟨w.heap.size + 1, 1, none⟩ = false := by rw [hb3.frozen (p := ⟨w.heap.size + 1, 1, none⟩) (by simp; omega)]; exact t2.frozenAt (by omega) z1
  replace z2 : w3.frozen? ⟨w.heap.size + 1, 2, none⟩ = false := by rw [hb3.frozen (p := ⟨w.heap.size + 1, 2, none⟩) (by simp; omega)]; exact t2.frozenAt (by omega) z2
  replace z3 : w3.frozen? ⟨w.heap.size + 1, 3, none⟩ = false := by rw [hb3.frozen (p := ⟨w.heap.size + 1, 3, none⟩) (by simp; omega)]; exact t2.frozenAt (by omega) z3
  replace y3 : w3.frozen? ⟨w.heap.size + 2, 3, none⟩ = false := by rw [hb3.frozen (p := ⟨w.heap.size + 2, 3, none⟩) (by simp; omega)]; exact t2.frozenAt (by omega) y3
  replace hx := (hx.within (t2.within (lo := w.heap.size) (hi := w.heap.size + 3) (by omega) (by omega)) (Nat.le_refl _) (by omega)).below hb3 (by omega)
  obtain ⟨a4, c4, rfl, hy'⟩ := hy
  have hy : PairsAt w2.heap.size w3.heap.size w3 (.slice a4 bs.length c4) bs := ⟨a4, c4, rfl, hy'⟩
  clear hy' t2 hb3 hW hW2 A3 j2 y2
  have J3 : (w3.setCell ⟨w.heap.size + 2, 3, none⟩ (.slice a4 bs.length c4)).cell? ⟨w.heap.size + 2, 3, none⟩ = some (.slice a4 bs.length c4) := World.cell?_setCell_same _ _ _ j3
  have t3 : Touch (w.heap.size + 2) 3 4 w3 (w3.setCell ⟨w.heap.size + 2, 3, none⟩ (.slice a4 bs.length c4)) := (Touch.refl _ _ _ _).setCell (by omega) (by omega) _
  have HR := hide (res4 (w := w3.setCell ⟨w.heap.size + 2, 3, none⟩ (.slice a4 bs.length c4)) (r := w.heap.size + 1) (.int .i64 r) (.int .i64 wd) (.slice a3 cs.length c3) (.slice a4 bs.length c4) (t3.cellAt k0 (by omega)) (t3.cellAt k1 (by omega)) (t3.cellAt k2 (by omega)) (t3.cellAt k3 (by omega)))
  have T0 := hide t3
  clear t3
  go_wp2
  have hr := HR.out
  refine bodyPost_ret (v := .agg #[.int .i64 r, .int .i64 wd, .slice a3 cs.length c3, .slice a4 bs.length c4]) (by simp only [results, Tryz.results48]; simp [go_sem, hr.1, hr.2.1, hr.2.2.1, hr.2.2.2]) rfl ⟨_, _, rfl, hcx, hcy, ?_, ?_⟩
  · refine (GOwn.of hx hy (lo := w.heap.size + 3) (hi := w3.heap.size) (by omega) (by omega) (by omega) (by omega) (by omega)).of_blocks ?_ |>.mono (by omega) (by simp [World.setCell])
    intro i hi _
    simp only [World.setCell, Array.getElem?_modify]
    repeat rw [if_neg (by omega)]
  · exact (by repeat' (first | with_reducible exact Below.refl _ _ | with_reducible assumption | with_reducible refine Below.drew ?_ | with_reducible refine Below.alloc ?_ ?_ _ | with_reducible refine Below.setCell ?_ ?_ _ | (simp; done) | (simp; omega) | omega))


end Go.Proofs.YtdekegjplegkeaaGreat

/- toScreen of the laws, with room: what its lists may be cut to. -/
namespace Go.Proofs.YtdekegjplegkeaaGreat
set_option maxRecDepth 20000
open Go.ChangeShapes Go.WideShapes Go.ChangeAt Go.RowKit
set_option linter.unusedVariables false
set_option linter.unusedSimpArgs false
set_option maxRecDepth 20000

set_option maxHeartbeats 400000 in
theorem toBools_full (zs : List Bool) (v : Value) (w : World) (hn : zs.length ≤ 1048576) (h1 : BRead w v zs) :
    Calls Tryz.prog 49 #[v] w fun e w' => ∃ v', e = .returned v' ∧ Capped v' ∧ BoolsAt w.heap.size w'.heap.size w' v' zs ∧ Below w.heap.size w w' := by
  obtain ⟨i0, hi, hz0, hz1, hz2⟩ := info_parts info_toBools
  obtain ⟨a1, c1, rfl, h1⟩ := h1
  go_enter Tryz.func49, Tryz.ntmps49
  go_wp2_with (at_make; refine wpList_make_full _ rfl (.tmp 6) (.tmp 6) 25 rfl w.heap.size 4 i0 (.bool false) 1 Tryz.underlying25 hi hz0 hz1 .i64 .i64 _ _ zs.length rfl rfl rfl rfl ?c1 ?c2 ?c3 ?_)
  case c1 => rw [hz2]; omega
  case c2 => unfold maxLen; omega
  case c3 => exact Nat.le_refl _
  intro w1 hown hgrow
  have hany := own_any hown
  have hlt1 : w.heap.size < w1.heap.size := (hown.lt w.heap.size rfl).2
  have hb1 : Below w.heap.size w w1 := (Below.refl _ _).grown hgrow (Nat.le_refl _) (fun k hk => by cases hk)
  have HA := hide hany
  clear hown hgrow hany
  go_wp2
  go_loopw [4] (fun i wr => ∃ k : Nat, k ≤ zs.length ∧ i = .int .i64 k ∧ Below w.heap.size w wr ∧ w.heap.size < wr.heap.size ∧
      (∀ j, j < zs.length → (∃ u, wr.cell? ⟨w.heap.size, 0 + j, none⟩ = some u) ∧ wr.frozen? ⟨w.heap.size, 0 + j, none⟩ = false) ∧ ∀ j, j < k → wr.cell? ⟨w.heap.size, 0 + j, none⟩ = some (.bool (zs.getD j false))) (fun i _ => zs.length - (intOf i).toNat)
  case atStart => exact ⟨0, Nat.zero_le _, rfl, hb1, hlt1, HA.out, fun j hj => by omega⟩
  case round =>
    obtain ⟨k, hkk, rfl, hw, hsz, hf, hc⟩ := hrel
    by_cases hlt : k < zs.length
    · have hpos : zs ≠ [] := by intro h; rw [h] at hlt; simp at hlt
      rcases h1 with h1 | ⟨b1, o1, rfl, h1⟩
      · exact absurd h1 hpos
      have g0 := cellb hw (h1 k hlt)
      obtain ⟨⟨u, g1⟩, f1⟩ := hf k hlt
      have hltI : (k : Int) < (zs.length : Int) := by omega
      have HF := hide hf
      have HC := hide hc
      have G1 := hide g1
      rw [Nat.zero_add] at g1 f1
      clear hf hc h1 hpos HA hb1 hlt1
      go_wp2
      go_roundw
      case rel =>
        have e0 : (⟨w.heap.size, k, none⟩ : Addr) = ⟨w.heap.size, 0 + k, none⟩ := by rw [Nat.zero_add]
        refine ⟨k + 1, by omega, by go_num, hw.setCell (Nat.le_refl _) _, by simpa [World.setCell] using hsz, fun j hj => ⟨?_, ?_⟩, fun j hj => ?_⟩
        · by_cases e : j = k
          · subst e; rw [e0]; exact ⟨_, World.cell?_setCell_same _ _ _ G1.out⟩
          · obtain ⟨u', hu'⟩ := (HF.out j hj).1
            exact ⟨u', by rw [World.cell?_setCell_other _ _ _ _ (addr_ne (by omega))]; exact hu'⟩
        · rw [World.frozen?_setCell]; exact (HF.out j hj).2
        · by_cases e : j = k
          · subst e; rw [e0, World.cell?_setCell_same _ _ _ G1.out]; simp [hlt]
          · rw [World.cell?_setCell_other _ _ _ _ (addr_ne (by omega))]; exact HC.out j (by omega)
      case measure => simp [intOf]; omega
    · have hk' : k = zs.length := by omega
      subst hk'
      go_wp2
      go_ret
      exact ⟨_, rfl, Capped.of (Nat.le_refl _), ⟨_, _, rfl, .inr ⟨w.heap.size, 0, rfl, Nat.le_refl _, hsz, fun i hi => ⟨hc i hi, (hf i hi).2⟩⟩⟩, hw⟩
set_option maxHeartbeats 4000000 in
theorem toScreen_full (s : Scr) (v1 v2 v3 v4 : Value) (w : World) (hn1 : s.cs.length ≤ 1048576) (hn2 : s.bs.length ≤ 1048576) (hn3 : s.tabs.length ≤ 1048576) (hn4 : s.sets.length ≤ 1048576) (h : SRead w s v1 v2 v3 v4) :
    Calls Tryz.prog 10 #[.agg (scrA s v1 v2 v3 v4)] w fun e w' => ∃ u1 u2 u3 u4, e = .returned (.agg (scrA s u1 u2 u3 u4)) ∧ Capped u1 ∧ Capped u2 ∧ Capped u3 ∧ SOwn w.heap.size w'.heap.size w' u1 u2 u3 u4 s ∧ Below w.heap.size w w' := by
  have e0 := scrA_0 s v1 v2 v3 v4
  have e1 := scrA_1 s v1 v2 v3 v4
  have e2 := scrA_2 s v1 v2 v3 v4
  have e3 := scrA_3 s v1 v2 v3 v4
  have e4 := scrA_4 s v1 v2 v3 v4
  have e5 := scrA_5 s v1 v2 v3 v4
  have e6 := scrA_6 s v1 v2 v3 v4
  have e7 := scrA_7 s v1 v2 v3 v4
  have e8 := scrA_8 s v1 v2 v3 v4
  have e9 := scrA_9 s v1 v2 v3 v4
  have e10 := scrA_10 s v1 v2 v3 v4
  have e11 := scrA_11 s v1 v2 v3 v4
  have e12 := scrA_12 s v1 v2 v3 v4
  have e13 := scrA_13 s v1 v2 v3 v4
  have e14 := scrA_14 s v1 v2 v3 v4
  have e15 := scrA_15 s v1 v2 v3 v4
  have e16 := scrA_16 s v1 v2 v3 v4
  have e17 := scrA_17 s v1 v2 v3 v4
  have e18 := scrA_18 s v1 v2 v3 v4
  have e19 := scrA_19 s v1 v2 v3 v4
  have bel0 : Below w.heap.size w (((w.alloc (.cells (scrA s v1 v2 v3 v4) 28)).alloc (.cells #[.int .i64 0, .int .i64 0, .slice none 0 0, .slice none 0 0, .int .i64 0, .int .i64 0, .bool false, .int .i64 0, .int .i64 0, .int .i64 0, .bool false, .bool false, .bool false, .slice none 0 0, .int .i64 0, .int .i64 0, .int .i64 0, .slice none 0 0, .int .i64 0, .int .i64 0] 37)).alloc (.cells #[.int .i64 0, .int .i64 0, .slice none 0 0, .slice none 0 0, .int .i64 0, .int .i64 0, .bool false, .int .i64 0, .int .i64 0, .int .i64 0, .bool false, .bool false, .bool false, .slice none 0 0, .int .i64 0, .int .i64 0, .int .i64 0, .slice none 0 0, .int .i64 0, .int .i64 0] 37)) := (by repeat' (first | with_reducible exact Below.refl _ _ | with_reducible assumption | with_reducible refine Below.drew ?_ | with_reducible refine Below.alloc ?_ ?_ _ | with_reducible refine Below.setCell ?_ ?_ _ | (simp; done) | (simp; omega) | omega))
  have hA : Blk (((w.alloc (.cells (scrA s v1 v2 v3 v4) 28)).alloc (.cells #[.int .i64 0, .int .i64 0, .slice none 0 0, .slice none 0 0, .int .i64 0, .int .i64 0, .bool false, .int .i64 0, .int .i64 0, .int .i64 0, .bool false, .bool false, .bool false, .slice none 0 0, .int .i64 0, .int .i64 0, .int .i64 0, .slice none 0 0, .int .i64 0, .int .i64 0] 37)).alloc (.cells #[.int .i64 0, .int .i64 0, .slice none 0 0, .slice none 0 0, .int .i64 0, .int .i64 0, .bool false, .int .i64 0, .int .i64 0, .int .i64 0, .bool false, .bool false, .bool false, .slice none 0 0, .int .i64 0, .int .i64 0, .int .i64 0, .slice none 0 0, .int .i64 0, .int .i64 0] 37)) w.heap.size (scrA s v1 v2 v3 v4) := ((Blk.new w _ _).alloc _).alloc _
  have hR : Blk (((w.alloc (.cells (scrA s v1 v2 v3 v4) 28)).alloc (.cells #[.int .i64 0, .int .i64 0, .slice none 0 0, .slice none 0 0, .int .i64 0, .int .i64 0, .bool false, .int .i64 0, .int .i64 0, .int .i64 0, .bool false, .bool false, .bool false, .slice none 0 0, .int .i64 0, .int .i64 0, .int .i64 0, .slice none 0 0, .int .i64 0, .int .i64 0] 37)).alloc (.cells #[.int .i64 0, .int .i64 0, .slice none 0 0, .slice none 0 0, .int .i64 0, .int .i64 0, .bool false, .int .i64 0, .int .i64 0, .int .i64 0, .bool false, .bool false, .bool false, .slice none 0 0, .int .i64 0, .int .i64 0, .int .i64 0, .slice none 0 0, .int .i64 0, .int .i64 0] 37)) (w.heap.size + 1) (scrA scr0 (.slice none 0 0) (.slice none 0 0) (.slice none 0 0) (.slice none 0 0)) := Blk.alloc (Blk.new_at (by simp) _ _) _
  have hO : Blk (((w.alloc (.cells (scrA s v1 v2 v3 v4) 28)).alloc (.cells #[.int .i64 0, .int .i64 0, .slice none 0 0, .slice none 0 0, .int .i64 0, .int .i64 0, .bool false, .int .i64 0, .int .i64 0, .int .i64 0, .bool false, .bool false, .bool false, .slice none 0 0, .int .i64 0, .int .i64 0, .int .i64 0, .slice none 0 0, .int .i64 0, .int .i64 0] 37)).alloc (.cells #[.int .i64 0, .int .i64 0, .slice none 0 0, .slice none 0 0, .int .i64 0, .int .i64 0, .bool false, .int .i64 0, .int .i64 0, .int .i64 0, .bool false, .bool false, .bool false, .slice none 0 0, .int .i64 0, .int .i64 0, .int .i64 0, .slice none 0 0, .int .i64 0, .int .i64 0] 37)) (w.heap.size + 2) (scrA scr0 (.slice none 0 0) (.slice none 0 0) (.slice none 0 0) (.slice none 0 0)) := Blk.new_at (by simp) _ _
  have hs0 : (((w.alloc (.cells (scrA s v1 v2 v3 v4) 28)).alloc (.cells #[.int .i64 0, .int .i64 0, .slice none 0 0, .slice none 0 0, .int .i64 0, .int .i64 0, .bool false, .int .i64 0, .int .i64 0, .int .i64 0, .bool false, .bool false, .bool false, .slice none 0 0, .int .i64 0, .int .i64 0, .int .i64 0, .slice none 0 0, .int .i64 0, .int .i64 0] 37)).alloc (.cells #[.int .i64 0, .int .i64 0, .slice none 0 0, .slice none 0 0, .int .i64 0, .int .i64 0, .bool false, .int .i64 0, .int .i64 0, .int .i64 0, .bool false, .bool false, .bool false, .slice none 0 0, .int .i64 0, .int .i64 0, .int .i64 0, .slice none 0 0, .int .i64 0, .int .i64 0] 37)).heap.size = w.heap.size + 3 := by simp
  have cA := hA.cells
  go_enter Tryz.func10, Tryz.ntmps10
  go_wp2_with fail
  generalize (((w.alloc (.cells (scrA s v1 v2 v3 v4) 28)).alloc (.cells #[.int .i64 0, .int .i64 0, .slice none 0 0, .slice none 0 0, .int .i64 0, .int .i64 0, .bool false, .int .i64 0, .int .i64 0, .int .i64 0, .bool false, .bool false, .bool false, .slice none 0 0, .int .i64 0, .int .i64 0, .int .i64 0, .slice none 0 0, .int .i64 0, .int .i64 0] 37)).alloc (.cells #[.int .i64 0, .int .i64 0, .slice none 0 0, .slice none 0 0, .int .i64 0, .int .i64 0, .bool false, .int .i64 0, .int .i64 0, .int .i64 0, .bool false, .bool false, .bool false, .slice none 0 0, .int .i64 0, .int .i64 0, .int .i64 0, .slice none 0 0, .int .i64 0, .int .i64 0] 37)) = w1 at *
  refine (toGrid_full s.r s.wd s.cs s.bs _ _ _ hn1 hn2 (h.g1.below bel0) (h.g2.below bel0)).mono ?_
  rintro e w2 ⟨y1, y2, rfl, hk1, hk2, hG, hb⟩
  obtain ⟨x1, k1, x2, k2, rfl, rfl⟩ := hG.forms
  have HK1 := hide hk1
  have HK2 := hide hk2
  clear hk1 hk2
  replace hA := hA.belowb hb
  replace cA := hA.cells
  replace hR := hR.belowb hb
  replace hO := hO.belowb hb
  have bel := bel0.trans (hb.mono bel0.size)
  have hs2 : w1.heap.size ≤ w2.heap.size := hb.size
  clear hb bel0
  have hU := Upd.refl (w.heap.size + 2) w2
  go_wp2_with (first
    | (refine wpList_store_blk rfl _ _ _ rfl (w.heap.size + 2) 0 (scrA scr0 (.slice none 0 0) (.slice none 0 0) (.slice none 0 0) (.slice none 0 0)) (scrA ({ scr0 with r := s.r, wd := s.wd } : Scr) (.slice x1 s.cs.length k1) (.slice x2 s.bs.length k2) (.slice none 0 0) (.slice none 0 0)) (.agg #[.int .i64 s.r, .int .i64 s.wd, .slice x1 s.cs.length k1, .slice x2 s.bs.length k2]) rfl rfl hO rfl (by kernel_rfl) rfl rfl ?_; (try simp only [Act.put, List.setIfInBounds_toArray, List.set_cons_zero, List.set_cons_succ]); clear hO; intro w9 hO hu; replace hU := hU.trans hu; replace hA := hA.upd hu (by omega); replace cA := hA.cells; replace hR := hR.upd hu (by omega); clear hu)
    | (refine wpList_store_blk rfl _ _ _ rfl (w.heap.size + 2) 4 (scrA ({ scr0 with r := s.r, wd := s.wd } : Scr) (.slice x1 s.cs.length k1) (.slice x2 s.bs.length k2) (.slice none 0 0) (.slice none 0 0)) (scrA ({ scr0 with r := s.r, wd := s.wd, y := s.y } : Scr) (.slice x1 s.cs.length k1) (.slice x2 s.bs.length k2) (.slice none 0 0) (.slice none 0 0)) (.int .i64 s.y) rfl rfl hO rfl (by kernel_rfl) rfl rfl ?_; (try simp only [Act.put, List.setIfInBounds_toArray, List.set_cons_zero, List.set_cons_succ]); clear hO; intro w9 hO hu; replace hU := hU.trans hu; replace hA := hA.upd hu (by omega); replace cA := hA.cells; replace hR := hR.upd hu (by omega); clear hu)
    | (refine wpList_store_blk rfl _ _ _ rfl (w.heap.size + 2) 5 (scrA ({ scr0 with r := s.r, wd := s.wd, y := s.y } : Scr) (.slice x1 s.cs.length k1) (.slice x2 s.bs.length k2) (.slice none 0 0) (.slice none 0 0)) (scrA ({ scr0 with r := s.r, wd := s.wd, y := s.y, x := s.x } : Scr) (.slice x1 s.cs.length k1) (.slice x2 s.bs.length k2) (.slice none 0 0) (.slice none 0 0)) (.int .i64 s.x) rfl rfl hO rfl (by kernel_rfl) rfl rfl ?_; (try simp only [Act.put, List.setIfInBounds_toArray, List.set_cons_zero, List.set_cons_succ]); clear hO; intro w9 hO hu; replace hU := hU.trans hu; replace hA := hA.upd hu (by omega); replace cA := hA.cells; replace hR := hR.upd hu (by omega); clear hu)
    | (refine wpList_store_blk rfl _ _ _ rfl (w.heap.size + 2) 6 (scrA ({ scr0 with r := s.r, wd := s.wd, y := s.y, x := s.x } : Scr) (.slice x1 s.cs.length k1) (.slice x2 s.bs.length k2) (.slice none 0 0) (.slice none 0 0)) (scrA ({ scr0 with r := s.r, wd := s.wd, y := s.y, x := s.x, wrap := s.wrap } : Scr) (.slice x1 s.cs.length k1) (.slice x2 s.bs.length k2) (.slice none 0 0) (.slice none 0 0)) (.bool s.wrap) rfl rfl hO rfl (by kernel_rfl) rfl rfl ?_; (try simp only [Act.put, List.setIfInBounds_toArray, List.set_cons_zero, List.set_cons_succ]); clear hO; intro w9 hO hu; replace hU := hU.trans hu; replace hA := hA.upd hu (by omega); replace cA := hA.cells; replace hR := hR.upd hu (by omega); clear hu)
    | (refine wpList_store_blk rfl _ _ _ rfl (w.heap.size + 2) 7 (scrA ({ scr0 with r := s.r, wd := s.wd, y := s.y, x := s.x, wrap := s.wrap } : Scr) (.slice x1 s.cs.length k1) (.slice x2 s.bs.length k2) (.slice none 0 0) (.slice none 0 0)) (scrA ({ scr0 with r := s.r, wd := s.wd, y := s.y, x := s.x, wrap := s.wrap, attr := s.attr } : Scr) (.slice x1 s.cs.length k1) (.slice x2 s.bs.length k2) (.slice none 0 0) (.slice none 0 0)) (.int .i64 s.attr) rfl rfl hO rfl (by kernel_rfl) rfl rfl ?_; (try simp only [Act.put, List.setIfInBounds_toArray, List.set_cons_zero, List.set_cons_succ]); clear hO; intro w9 hO hu; replace hU := hU.trans hu; replace hA := hA.upd hu (by omega); replace cA := hA.cells; replace hR := hR.upd hu (by omega); clear hu)
    | (refine wpList_store_blk rfl _ _ _ rfl (w.heap.size + 2) 8 (scrA ({ scr0 with r := s.r, wd := s.wd, y := s.y, x := s.x, wrap := s.wrap, attr := s.attr } : Scr) (.slice x1 s.cs.length k1) (.slice x2 s.bs.length k2) (.slice none 0 0) (.slice none 0 0)) (scrA ({ scr0 with r := s.r, wd := s.wd, y := s.y, x := s.x, wrap := s.wrap, attr := s.attr, top := s.top } : Scr) (.slice x1 s.cs.length k1) (.slice x2 s.bs.length k2) (.slice none 0 0) (.slice none 0 0)) (.int .i64 s.top) rfl rfl hO rfl (by kernel_rfl) rfl rfl ?_; (try simp only [Act.put, List.setIfInBounds_toArray, List.set_cons_zero, List.set_cons_succ]); clear hO; intro w9 hO hu; replace hU := hU.trans hu; replace hA := hA.upd hu (by omega); replace cA := hA.cells; replace hR := hR.upd hu (by omega); clear hu)
    | (refine wpList_store_blk rfl _ _ _ rfl (w.heap.size + 2) 9 (scrA ({ scr0 with r := s.r, wd := s.wd, y := s.y, x := s.x, wrap := s.wrap, attr := s.attr, top := s.top } : Scr) (.slice x1 s.cs.length k1) (.slice x2 s.bs.length k2) (.slice none 0 0) (.slice none 0 0)) (scrA ({ scr0 with r := s.r, wd := s.wd, y := s.y, x := s.x, wrap := s.wrap, attr := s.attr, top := s.top, bot := s.bot } : Scr) (.slice x1 s.cs.length k1) (.slice x2 s.bs.length k2) (.slice none 0 0) (.slice none 0 0)) (.int .i64 s.bot) rfl rfl hO rfl (by kernel_rfl) rfl rfl ?_; (try simp only [Act.put, List.setIfInBounds_toArray, List.set_cons_zero, List.set_cons_succ]); clear hO; intro w9 hO hu; replace hU := hU.trans hu; replace hA := hA.upd hu (by omega); replace cA := hA.cells; replace hR := hR.upd hu (by omega); clear hu)
    | (refine wpList_store_blk rfl _ _ _ rfl (w.heap.size + 2) 10 (scrA ({ scr0 with r := s.r, wd := s.wd, y := s.y, x := s.x, wrap := s.wrap, attr := s.attr, top := s.top, bot := s.bot } : Scr) (.slice x1 s.cs.length k1) (.slice x2 s.bs.length k2) (.slice none 0 0) (.slice none 0 0)) (scrA ({ scr0 with r := s.r, wd := s.wd, y := s.y, x := s.x, wrap := s.wrap, attr := s.attr, top := s.top, bot := s.bot, org := s.org } : Scr) (.slice x1 s.cs.length k1) (.slice x2 s.bs.length k2) (.slice none 0 0) (.slice none 0 0)) (.bool s.org) rfl rfl hO rfl (by kernel_rfl) rfl rfl ?_; (try simp only [Act.put, List.setIfInBounds_toArray, List.set_cons_zero, List.set_cons_succ]); clear hO; intro w9 hO hu; replace hU := hU.trans hu; replace hA := hA.upd hu (by omega); replace cA := hA.cells; replace hR := hR.upd hu (by omega); clear hu)
    | (refine wpList_store_blk rfl _ _ _ rfl (w.heap.size + 2) 11 (scrA ({ scr0 with r := s.r, wd := s.wd, y := s.y, x := s.x, wrap := s.wrap, attr := s.attr, top := s.top, bot := s.bot, org := s.org } : Scr) (.slice x1 s.cs.length k1) (.slice x2 s.bs.length k2) (.slice none 0 0) (.slice none 0 0)) (scrA ({ scr0 with r := s.r, wd := s.wd, y := s.y, x := s.x, wrap := s.wrap, attr := s.attr, top := s.top, bot := s.bot, org := s.org, auto := s.auto } : Scr) (.slice x1 s.cs.length k1) (.slice x2 s.bs.length k2) (.slice none 0 0) (.slice none 0 0)) (.bool s.auto) rfl rfl hO rfl (by kernel_rfl) rfl rfl ?_; (try simp only [Act.put, List.setIfInBounds_toArray, List.set_cons_zero, List.set_cons_succ]); clear hO; intro w9 hO hu; replace hU := hU.trans hu; replace hA := hA.upd hu (by omega); replace cA := hA.cells; replace hR := hR.upd hu (by omega); clear hu)
    | (refine wpList_store_blk rfl _ _ _ rfl (w.heap.size + 2) 12 (scrA ({ scr0 with r := s.r, wd := s.wd, y := s.y, x := s.x, wrap := s.wrap, attr := s.attr, top := s.top, bot := s.bot, org := s.org, auto := s.auto } : Scr) (.slice x1 s.cs.length k1) (.slice x2 s.bs.length k2) (.slice none 0 0) (.slice none 0 0)) (scrA ({ scr0 with r := s.r, wd := s.wd, y := s.y, x := s.x, wrap := s.wrap, attr := s.attr, top := s.top, bot := s.bot, org := s.org, auto := s.auto, ins := s.ins } : Scr) (.slice x1 s.cs.length k1) (.slice x2 s.bs.length k2) (.slice none 0 0) (.slice none 0 0)) (.bool s.ins) rfl rfl hO rfl (by kernel_rfl) rfl rfl ?_; (try simp only [Act.put, List.setIfInBounds_toArray, List.set_cons_zero, List.set_cons_succ]); clear hO; intro w9 hO hu; replace hU := hU.trans hu; replace hA := hA.upd hu (by omega); replace cA := hA.cells; replace hR := hR.upd hu (by omega); clear hu))
  refine (toBools_full s.tabs _ _ hn3 (h.g3.below (bel.trans (hU.below (Nat.le_add_right _ _))))).mono ?_
  rintro e w3 ⟨y3, rfl, hk3, hT, hb⟩
  have HK3 := hide hk3
  clear hk3
  obtain ⟨x3, k3, hy3, hT'⟩ := hT
  subst hy3
  replace hA := hA.belowb hb
  replace cA := hA.cells
  replace hR := hR.belowb hb
  replace hO := hO.belowb hb
  have bel3 := (bel.trans (hU.below (Nat.le_add_right _ _))).trans (hb.mono (by have := hU.size; omega))
  have hs3 : w2.heap.size ≤ w3.heap.size := by have := hU.size; have := hb.size; omega
  replace hG : GOwn w1.heap.size w2.heap.size w3 _ _ s.cs s.bs := (hG.of_blocks (fun k k1 k2 => (hb.block k (by have := hU.size; omega)).trans (hU.block k (by omega))))
  have hT : BoolsAt w2.heap.size w3.heap.size w3 (.slice x3 s.tabs.length k3) s.tabs := BoolsAt.mono ⟨x3, k3, rfl, hT'⟩ (by have := hU.size; omega) (Nat.le_refl _)
  clear hb hU hT'
  have hU := Upd.refl (w.heap.size + 2) w3
  go_wp2_with (first
    | (refine wpList_store_blk rfl _ _ _ rfl (w.heap.size + 2) 13 (scrA ({ scr0 with r := s.r, wd := s.wd, y := s.y, x := s.x, wrap := s.wrap, attr := s.attr, top := s.top, bot := s.bot, org := s.org, auto := s.auto, ins := s.ins } : Scr) (.slice x1 s.cs.length k1) (.slice x2 s.bs.length k2) (.slice none 0 0) (.slice none 0 0)) (scrA ({ scr0 with r := s.r, wd := s.wd, y := s.y, x := s.x, wrap := s.wrap, attr := s.attr, top := s.top, bot := s.bot, org := s.org, auto := s.auto, ins := s.ins } : Scr) (.slice x1 s.cs.length k1) (.slice x2 s.bs.length k2) (.slice x3 s.tabs.length k3) (.slice none 0 0)) (.slice x3 s.tabs.length k3) rfl rfl hO rfl (by kernel_rfl) rfl rfl ?_; (try simp only [Act.put, List.setIfInBounds_toArray, List.set_cons_zero, List.set_cons_succ]); clear hO; intro w9 hO hu; replace hU := hU.trans hu; replace hA := hA.upd hu (by omega); replace cA := hA.cells; replace hR := hR.upd hu (by omega); clear hu)
    | (refine wpList_store_blk rfl _ _ _ rfl (w.heap.size + 2) 14 (scrA ({ scr0 with r := s.r, wd := s.wd, y := s.y, x := s.x, wrap := s.wrap, attr := s.attr, top := s.top, bot := s.bot, org := s.org, auto := s.auto, ins := s.ins } : Scr) (.slice x1 s.cs.length k1) (.slice x2 s.bs.length k2) (.slice x3 s.tabs.length k3) (.slice none 0 0)) (scrA ({ scr0 with r := s.r, wd := s.wd, y := s.y, x := s.x, wrap := s.wrap, attr := s.attr, top := s.top, bot := s.bot, org := s.org, auto := s.auto, ins := s.ins, ky := s.ky } : Scr) (.slice x1 s.cs.length k1) (.slice x2 s.bs.length k2) (.slice x3 s.tabs.length k3) (.slice none 0 0)) (.int .i64 s.ky) rfl rfl hO rfl (by kernel_rfl) rfl rfl ?_; (try simp only [Act.put, List.setIfInBounds_toArray, List.set_cons_zero, List.set_cons_succ]); clear hO; intro w9 hO hu; replace hU := hU.trans hu; replace hA := hA.upd hu (by omega); replace cA := hA.cells; replace hR := hR.upd hu (by omega); clear hu)
    | (refine wpList_store_blk rfl _ _ _ rfl (w.heap.size + 2) 15 (scrA ({ scr0 with r := s.r, wd := s.wd, y := s.y, x := s.x, wrap := s.wrap, attr := s.attr, top := s.top, bot := s.bot, org := s.org, auto := s.auto, ins := s.ins, ky := s.ky } : Scr) (.slice x1 s.cs.length k1) (.slice x2 s.bs.length k2) (.slice x3 s.tabs.length k3) (.slice none 0 0)) (scrA ({ scr0 with r := s.r, wd := s.wd, y := s.y, x := s.x, wrap := s.wrap, attr := s.attr, top := s.top, bot := s.bot, org := s.org, auto := s.auto, ins := s.ins, ky := s.ky, kx := s.kx } : Scr) (.slice x1 s.cs.length k1) (.slice x2 s.bs.length k2) (.slice x3 s.tabs.length k3) (.slice none 0 0)) (.int .i64 s.kx) rfl rfl hO rfl (by kernel_rfl) rfl rfl ?_; (try simp only [Act.put, List.setIfInBounds_toArray, List.set_cons_zero, List.set_cons_succ]); clear hO; intro w9 hO hu; replace hU := hU.trans hu; replace hA := hA.upd hu (by omega); replace cA := hA.cells; replace hR := hR.upd hu (by omega); clear hu)
    | (refine wpList_store_blk rfl _ _ _ rfl (w.heap.size + 2) 16 (scrA ({ scr0 with r := s.r, wd := s.wd, y := s.y, x := s.x, wrap := s.wrap, attr := s.attr, top := s.top, bot := s.bot, org := s.org, auto := s.auto, ins := s.ins, ky := s.ky, kx := s.kx } : Scr) (.slice x1 s.cs.length k1) (.slice x2 s.bs.length k2) (.slice x3 s.tabs.length k3) (.slice none 0 0)) (scrA ({ scr0 with r := s.r, wd := s.wd, y := s.y, x := s.x, wrap := s.wrap, attr := s.attr, top := s.top, bot := s.bot, org := s.org, auto := s.auto, ins := s.ins, ky := s.ky, kx := s.kx, ka := s.ka } : Scr) (.slice x1 s.cs.length k1) (.slice x2 s.bs.length k2) (.slice x3 s.tabs.length k3) (.slice none 0 0)) (.int .i64 s.ka) rfl rfl hO rfl (by kernel_rfl) rfl rfl ?_; (try simp only [Act.put, List.setIfInBounds_toArray, List.set_cons_zero, List.set_cons_succ]); clear hO; intro w9 hO hu; replace hU := hU.trans hu; replace hA := hA.upd hu (by omega); replace cA := hA.cells; replace hR := hR.upd hu (by omega); clear hu))
  refine (toInts_calls s.sets _ _ hn4 (h.g4.below (bel3.trans (hU.below (Nat.le_add_right _ _))))).mono ?_
  rintro e w4 ⟨y4, rfl, hI, hb⟩
  obtain ⟨x4, k4, hy4, hI'⟩ := hI
  subst hy4
  replace hA := hA.belowb hb
  replace cA := hA.cells
  replace hR := hR.belowb hb
  replace hO := hO.belowb hb
  have bel4 := (bel3.trans (hU.below (Nat.le_add_right _ _))).trans (hb.mono (by have := hU.size; omega))
  have hs4 : w3.heap.size ≤ w4.heap.size := by have := hU.size; have := hb.size; omega
  replace hG : GOwn w1.heap.size w2.heap.size w4 _ _ s.cs s.bs := (hG.of_blocks (fun k k1 k2 => (hb.block k (by have := hU.size; omega)).trans (hU.block k (by omega))))
  replace hT : BoolsAt w2.heap.size w3.heap.size w4 _ s.tabs := (hT.of_blocks (fun k k1 k2 => (hb.block k (by have := hU.size; omega)).trans (hU.block k (by omega))))
  have hI : IntsAt .i64 w3.heap.size w4.heap.size w4 (.slice x4 s.sets.length k4) s.sets := IntsAt.mono ⟨x4, k4, rfl, hI'⟩ (by have := hU.size; omega) (Nat.le_refl _)
  clear hb hU hI'
  have hU := Upd.refl (w.heap.size + 2) w4
  have hV := Upd.refl (w.heap.size + 1) w4
  clear hV
  go_wp2_with (first
    | (refine wpList_store_blk rfl _ _ _ rfl (w.heap.size + 2) 17 (scrA ({ scr0 with r := s.r, wd := s.wd, y := s.y, x := s.x, wrap := s.wrap, attr := s.attr, top := s.top, bot := s.bot, org := s.org, auto := s.auto, ins := s.ins, ky := s.ky, kx := s.kx, ka := s.ka } : Scr) (.slice x1 s.cs.length k1) (.slice x2 s.bs.length k2) (.slice x3 s.tabs.length k3) (.slice none 0 0)) (scrA ({ scr0 with r := s.r, wd := s.wd, y := s.y, x := s.x, wrap := s.wrap, attr := s.attr, top := s.top, bot := s.bot, org := s.org, auto := s.auto, ins := s.ins, ky := s.ky, kx := s.kx, ka := s.ka } : Scr) (.slice x1 s.cs.length k1) (.slice x2 s.bs.length k2) (.slice x3 s.tabs.length k3) (.slice x4 s.sets.length k4)) (.slice x4 s.sets.length k4) rfl rfl hO rfl (by kernel_rfl) rfl rfl ?_; (try simp only [Act.put, List.setIfInBounds_toArray, List.set_cons_zero, List.set_cons_succ]); clear hO; intro w9 hO hu; replace hU := hU.trans hu; replace hA := hA.upd hu (by omega); replace cA := hA.cells; replace hR := hR.upd hu (by omega); clear hu)
    | (refine wpList_store_blk rfl _ _ _ rfl (w.heap.size + 2) 18 (scrA ({ scr0 with r := s.r, wd := s.wd, y := s.y, x := s.x, wrap := s.wrap, attr := s.attr, top := s.top, bot := s.bot, org := s.org, auto := s.auto, ins := s.ins, ky := s.ky, kx := s.kx, ka := s.ka } : Scr) (.slice x1 s.cs.length k1) (.slice x2 s.bs.length k2) (.slice x3 s.tabs.length k3) (.slice x4 s.sets.length k4)) (scrA ({ scr0 with r := s.r, wd := s.wd, y := s.y, x := s.x, wrap := s.wrap, attr := s.attr, top := s.top, bot := s.bot, org := s.org, auto := s.auto, ins := s.ins, ky := s.ky, kx := s.kx, ka := s.ka, sh := s.sh } : Scr) (.slice x1 s.cs.length k1) (.slice x2 s.bs.length k2) (.slice x3 s.tabs.length k3) (.slice x4 s.sets.length k4)) (.int .i64 s.sh) rfl rfl hO rfl (by kernel_rfl) rfl rfl ?_; (try simp only [Act.put, List.setIfInBounds_toArray, List.set_cons_zero, List.set_cons_succ]); clear hO; intro w9 hO hu; replace hU := hU.trans hu; replace hA := hA.upd hu (by omega); replace cA := hA.cells; replace hR := hR.upd hu (by omega); clear hu)
    | (refine wpList_store_blk rfl _ _ _ rfl (w.heap.size + 2) 19 (scrA ({ scr0 with r := s.r, wd := s.wd, y := s.y, x := s.x, wrap := s.wrap, attr := s.attr, top := s.top, bot := s.bot, org := s.org, auto := s.auto, ins := s.ins, ky := s.ky, kx := s.kx, ka := s.ka, sh := s.sh } : Scr) (.slice x1 s.cs.length k1) (.slice x2 s.bs.length k2) (.slice x3 s.tabs.length k3) (.slice x4 s.sets.length k4)) (scrA ({ scr0 with r := s.r, wd := s.wd, y := s.y, x := s.x, wrap := s.wrap, attr := s.attr, top := s.top, bot := s.bot, org := s.org, auto := s.auto, ins := s.ins, ky := s.ky, kx := s.kx, ka := s.ka, sh := s.sh, bells := s.bells } : Scr) (.slice x1 s.cs.length k1) (.slice x2 s.bs.length k2) (.slice x3 s.tabs.length k3) (.slice x4 s.sets.length k4)) (.int .i64 s.bells) rfl rfl hO rfl (by kernel_rfl) rfl rfl ?_; (try simp only [Act.put, List.setIfInBounds_toArray, List.set_cons_zero, List.set_cons_succ]); clear hO; intro w9 hO hu; replace hU := hU.trans hu; replace hA := hA.upd hu (by omega); replace cA := hA.cells; replace hR := hR.upd hu (by omega); clear hu)
    | (refine wpList_load_at rfl 37 _ rfl (w.heap.size + 2) 0 rfl (scrA ({ scr0 with r := s.r, wd := s.wd, y := s.y, x := s.x, wrap := s.wrap, attr := s.attr, top := s.top, bot := s.bot, org := s.org, auto := s.auto, ins := s.ins, ky := s.ky, kx := s.kx, ka := s.ka, sh := s.sh, bells := s.bells } : Scr) (.slice x1 s.cs.length k1) (.slice x2 s.bs.length k2) (.slice x3 s.tabs.length k3) (.slice x4 s.sets.length k4)) (scrA s (.slice x1 s.cs.length k1) (.slice x2 s.bs.length k2) (.slice x3 s.tabs.length k3) (.slice x4 s.sets.length k4)) hO rfl _ Tryz.underlying37 rfl (by kernel_rfl) ?_; simp only [Act.put, List.setIfInBounds_toArray, List.set_cons_zero, List.set_cons_succ])
    | (refine wpList_store_blk rfl _ _ _ rfl (w.heap.size + 1) 0 (scrA scr0 (.slice none 0 0) (.slice none 0 0) (.slice none 0 0) (.slice none 0 0)) (scrA s (.slice x1 s.cs.length k1) (.slice x2 s.bs.length k2) (.slice x3 s.tabs.length k3) (.slice x4 s.sets.length k4)) (.agg (scrA s (.slice x1 s.cs.length k1) (.slice x2 s.bs.length k2) (.slice x3 s.tabs.length k3) (.slice x4 s.sets.length k4))) rfl rfl hR rfl (by kernel_rfl) rfl rfl ?_; (try simp only [Act.put, List.setIfInBounds_toArray, List.set_cons_zero, List.set_cons_succ]); clear hR hO hA cA; intro w9 hR hV))
  refine bodyPost_ret (results_blk hR _ _ rfl rfl Tryz.underlying37 rfl (by kernel_rfl)) rfl ⟨_, _, _, _, rfl, HK1.out, HK2.out, HK3.out, ?_, ?_⟩
  · have hblk : ∀ k, k ≠ w.heap.size + 2 → k ≠ w.heap.size + 1 → w9.heap[k]? = w4.heap[k]? := fun k n1 n2 => (hV.block k n2).trans (hU.block k n1)
    have hz : w9.heap.size = w4.heap.size := hV.size.trans hU.size
    refine ⟨w1.heap.size, w2.heap.size, w2.heap.size, w3.heap.size, w3.heap.size, w4.heap.size, by omega, by omega, by omega, by omega, by omega, by omega, by omega, by omega, by omega, ?_, ?_, ?_⟩
    · exact hG.of_blocks (fun k k1 k2 => hblk k (by omega) (by omega))
    · exact hT.of_blocks (fun k k1 k2 => hblk k (by omega) (by omega))
    · exact hI.of_blocks (fun k k1 k2 => hblk k (by omega) (by omega))
  · exact (bel4.trans (hU.below (Nat.le_add_right _ _))).trans (hV.below (Nat.le_add_right _ _))
end Go.Proofs.YtdekegjplegkeaaGreat

/- toVt of the laws, with room: what the lists of its screen may be cut to. -/
namespace Go.Proofs.YtdekegjplegkeaaGreat
set_option maxRecDepth 20000
open Go.ChangeShapes Go.WideShapes Go.ChangeAt Go.RowKit
set_option linter.unusedVariables false
set_option linter.unusedSimpArgs false
set_option maxRecDepth 20000

set_option maxHeartbeats 4000000 in
theorem toVt_full (t : VtS) (u v1 v2 v3 v4 : Value) (w : World) (hn0 : t.ns.length ≤ 1048576) (hn1 : t.s.cs.length ≤ 1048576) (hn2 : t.s.bs.length ≤ 1048576) (hn3 : t.s.tabs.length ≤ 1048576) (hn4 : t.s.sets.length ≤ 1048576) (h : VRead w t u v1 v2 v3 v4) :
    Calls Tryz.prog 28 #[.agg (vtA t u v1 v2 v3 v4)] w fun e w' => ∃ x y1 y2 y3 y4, e = .returned (.agg (vtA t x y1 y2 y3 y4)) ∧ Capped y1 ∧ Capped y2 ∧ Capped y3 ∧ VOwn w.heap.size w'.heap.size w' x y1 y2 y3 y4 t ∧ Below w.heap.size w w' := by
  have bel0 : Below w.heap.size w (((w.alloc (.cells (vtA t u v1 v2 v3 v4) 64)).alloc (.cells (vtA vt0 (.slice none 0 0) (.slice none 0 0) (.slice none 0 0) (.slice none 0 0) (.slice none 0 0)) 70)).alloc (.cells (vtA vt0 (.slice none 0 0) (.slice none 0 0) (.slice none 0 0) (.slice none 0 0) (.slice none 0 0)) 70)) := (by repeat' (first | with_reducible exact Below.refl _ _ | with_reducible assumption | with_reducible refine Below.drew ?_ | with_reducible refine Below.alloc ?_ ?_ _ | with_reducible refine Below.setCell ?_ ?_ _ | (simp; done) | (simp; omega) | omega))
  have B0 := ((Blk.new w (vtA t u v1 v2 v3 v4) 64).alloc (.cells (vtA vt0 (.slice none 0 0) (.slice none 0 0) (.slice none 0 0) (.slice none 0 0) (.slice none 0 0)) 70)).alloc (.cells (vtA vt0 (.slice none 0 0) (.slice none 0 0) (.slice none 0 0) (.slice none 0 0) (.slice none 0 0)) 70)
  have R0 := (Blk.new_at (w := w.alloc (.cells (vtA t u v1 v2 v3 v4) 64)) (b := w.heap.size + 1) (by simp) (vtA vt0 (.slice none 0 0) (.slice none 0 0) (.slice none 0 0) (.slice none 0 0) (.slice none 0 0)) 70).alloc (.cells (vtA vt0 (.slice none 0 0) (.slice none 0 0) (.slice none 0 0) (.slice none 0 0) (.slice none 0 0)) 70)
  have V0 := Blk.new_at (w := (w.alloc (.cells (vtA t u v1 v2 v3 v4) 64)).alloc (.cells (vtA vt0 (.slice none 0 0) (.slice none 0 0) (.slice none 0 0) (.slice none 0 0) (.slice none 0 0)) 70)) (b := w.heap.size + 1 + 1) (by simp) (vtA vt0 (.slice none 0 0) (.slice none 0 0) (.slice none 0 0) (.slice none 0 0) (.slice none 0 0)) 70
  go_enter Tryz.func28, Tryz.ntmps28
  go_wp2_with (first | fail | (refine wpList_load_at rfl 60 _ rfl (w.heap.size) 0 rfl _ (decA t) B0 (vtA_dec t u v1 v2 v3 v4) _ Tryz.underlying60 rfl (by kernel_rfl) ?_; (try simp only [Act.put, List.setIfInBounds_toArray, List.set_cons_zero, List.set_cons_succ])))
  go_at_call 67
  refine (toDecoder_calls t.l t.lo t.v _).mono ?_
  rintro e w1 ⟨rfl, hb⟩
  replace B0 := B0.belowb hb
  replace R0 := R0.belowb hb
  replace V0 := V0.belowb hb
  have bel1 : Below w.heap.size w w1 := bel0.trans (hb.mono bel0.size)
  have z1 : w.heap.size + 3 ≤ w1.heap.size := by have := hb.size; simp at this; omega
  clear hb bel0
  go_wp2_with (first | fail | (refine wpList_store_blk rfl _ _ _ rfl (w.heap.size + 1 + 1) 0 (vtA vt0 (.slice none 0 0) (.slice none 0 0) (.slice none 0 0) (.slice none 0 0) (.slice none 0 0)) (vtA { vt0 with l := t.l, lo := t.lo, v := t.v } (.slice none 0 0) (.slice none 0 0) (.slice none 0 0) (.slice none 0 0) (.slice none 0 0)) (.agg (decA t)) rfl rfl V0 rfl (by kernel_rfl) rfl rfl ?_; (try simp only [Act.put, List.setIfInBounds_toArray, List.set_cons_zero, List.set_cons_succ]); clear V0; intro w2 V0 hu; replace B0 := B0.upd hu (by omega); replace R0 := R0.upd hu (by omega); have bel2 : Below w.heap.size w w2 := bel1.trans (hu.below (by omega)); have z2 : w2.heap.size = w1.heap.size := hu.size; clear hu bel1) | (refine wpList_load_at rfl 62 _ rfl (w.heap.size) 3 rfl _ (parA t u) B0 (vtA_par t u v1 v2 v3 v4) _ Tryz.underlying62 rfl (by kernel_rfl) ?_; (try simp only [Act.put, List.setIfInBounds_toArray, List.set_cons_zero, List.set_cons_succ])))
  go_at_call 68
  refine (toParser_calls t.md t.st t.pv t.ns u _ hn0 (h.p.below bel2)).mono ?_
  rintro e w3 ⟨x, rfl, hx, hb⟩
  replace B0 := B0.belowb hb
  replace R0 := R0.belowb hb
  replace V0 := V0.belowb hb
  have bel3 : Below w.heap.size w w3 := bel2.trans (hb.mono bel2.size)
  have z3 : w2.heap.size ≤ w3.heap.size := hb.size
  have hxr := hx.read
  obtain ⟨a0, c0, rfl, _⟩ := hxr
  clear hb bel2
  go_wp2_with (first | fail | (refine wpList_store_blk rfl _ _ _ rfl (w.heap.size + 1 + 1) 3 (vtA { vt0 with l := t.l, lo := t.lo, v := t.v } (.slice none 0 0) (.slice none 0 0) (.slice none 0 0) (.slice none 0 0) (.slice none 0 0)) (vtA { t with s := scr0 } (.slice a0 t.ns.length c0) (.slice none 0 0) (.slice none 0 0) (.slice none 0 0) (.slice none 0 0)) (.agg (parA t (.slice a0 t.ns.length c0))) rfl rfl V0 rfl (by kernel_rfl) rfl rfl ?_; (try simp only [Act.put, List.setIfInBounds_toArray, List.set_cons_zero, List.set_cons_succ]); clear V0; intro w4 V0 hu; replace B0 := B0.upd hu (by omega); replace R0 := R0.upd hu (by omega); replace hx := hx.of_blocks (w' := w4) (fun q q1 q2 => hu.block q (by omega)); have bel4 : Below w.heap.size w w4 := bel3.trans (hu.below (by omega)); have z4 : w4.heap.size = w3.heap.size := hu.size; clear hu bel3) | (refine wpList_load_at rfl 28 _ rfl (w.heap.size) 7 rfl _ (scrA t.s v1 v2 v3 v4) B0 (vtA_scr t u v1 v2 v3 v4) _ Tryz.underlying28 rfl (by kernel_rfl) ?_; (try simp only [Act.put, List.setIfInBounds_toArray, List.set_cons_zero, List.set_cons_succ])))
  go_at_call 10
  refine (toScreen_full t.s v1 v2 v3 v4 _ hn1 hn2 hn3 hn4 (h.s.below bel4)).mono ?_
  rintro e w5 ⟨y1, y2, y3, y4, rfl, hk1, hk2, hk3, hy, hb⟩
  have HK1 := hide hk1
  have HK2 := hide hk2
  have HK3 := hide hk3
  clear hk1 hk2 hk3
  replace B0 := B0.belowb hb
  replace R0 := R0.belowb hb
  replace V0 := V0.belowb hb
  replace hx := hx.below hb (by omega)
  have bel5 : Below w.heap.size w w5 := bel4.trans (hb.mono bel4.size)
  have z5 : w4.heap.size ≤ w5.heap.size := hb.size
  clear hb bel4
  go_wp2_with (first | fail | (refine wpList_store_blk rfl _ _ _ rfl (w.heap.size + 1 + 1) 7 (vtA { t with s := scr0 } (.slice a0 t.ns.length c0) (.slice none 0 0) (.slice none 0 0) (.slice none 0 0) (.slice none 0 0)) (vtA t (.slice a0 t.ns.length c0) y1 y2 y3 y4) (.agg (scrA t.s y1 y2 y3 y4)) rfl rfl V0 rfl (by kernel_rfl) (scr_one' hy.read) rfl ?_; (try simp only [Act.put, List.setIfInBounds_toArray, List.set_cons_zero, List.set_cons_succ]); clear V0; intro w6 V0 hu; replace R0 := R0.upd hu (by omega); replace hx := hx.of_blocks (w' := w6) (fun q q1 q2 => hu.block q (by omega)); replace hy := hy.of_blocks (w' := w6) (fun q q1 q2 => hu.block q (by omega)); have bel6 : Below w.heap.size w w6 := bel5.trans (hu.below (by omega)); have z6 : w6.heap.size = w5.heap.size := hu.size; have VR : VRead w6 t (.slice a0 t.ns.length c0) y1 y2 y3 y4 := ⟨hx.read, hy.read⟩; clear hu bel5) | (refine wpList_load_at rfl 70 _ rfl (w.heap.size + 1 + 1) 0 rfl _ (vtA t (.slice a0 t.ns.length c0) y1 y2 y3 y4) V0 rfl _ Tryz.underlying70 rfl (by kernel_rfl) ?_; (try simp only [Act.put, List.setIfInBounds_toArray, List.set_cons_zero, List.set_cons_succ])) | (refine wpList_store_blk rfl _ _ _ rfl (w.heap.size + 1) 0 (vtA vt0 (.slice none 0 0) (.slice none 0 0) (.slice none 0 0) (.slice none 0 0) (.slice none 0 0)) (vtA t (.slice a0 t.ns.length c0) y1 y2 y3 y4) (.agg (vtA t (.slice a0 t.ns.length c0) y1 y2 y3 y4)) rfl rfl R0 rfl (by kernel_rfl) (vt_one VR) rfl ?_; (try simp only [Act.put, List.setIfInBounds_toArray, List.set_cons_zero, List.set_cons_succ]); clear R0; intro w7 R0 hu; replace hx := hx.of_blocks (w' := w7) (fun q q1 q2 => hu.block q (by omega)); replace hy := hy.of_blocks (w' := w7) (fun q q1 q2 => hu.block q (by omega)); have bel7 : Below w.heap.size w w7 := bel6.trans (hu.below (by omega)); have z7 : w7.heap.size = w6.heap.size := hu.size; clear hu bel6))
  refine bodyPost_ret (results_blk R0 _ _ rfl rfl Tryz.underlying70 rfl (by kernel_rfl)) rfl ⟨_, _, _, _, _, rfl, HK1.out, HK2.out, HK3.out, ⟨w2.heap.size, w3.heap.size, w4.heap.size, w5.heap.size, by omega, by omega, by omega, by omega, by omega, hx, hy⟩, bel7⟩
end Go.Proofs.YtdekegjplegkeaaGreat

/- A grid that came in, opened: its numbers and its two lists of cells; a cell that came in. -/
namespace Go.Proofs.YtdekegjplegkeaaGreat
set_option maxRecDepth 20000
open Go.ChangeShapes Go.WideShapes Go.ChangeAt Go.RowKit Go.Joins
set_option linter.unusedVariables false
set_option linter.unusedSimpArgs false

theorem grid_cells : Tryz.prog.cellsOf 24 = 4 := by kernel_rfl
theorem cell_cells2 : Tryz.prog.cellsOf 198 = 2 := by kernel_rfl
theorem int_cells1 : Tryz.prog.cellsOf 2 = 1 := by kernel_rfl

set_option maxRecDepth 100000 in
theorem open_cells {H : Type} {enc : TypeId × Value → H} {W : World} {m0 : Nat} {x : Value} {d : DataW H} {p : List MemPlace}
    (h : DataW.trod enc Tryz.prog W 0 (fun _ => true) true m0 22 [x] = some (d, p)) : ∃ ps : List (Int × Int), PRead W x ps ∧ ps.length ≤ maxLen := by
  rcases Go.Deep.open_slice_pairs Tryz.underlying22 Tryz.underlying198 cell_cells2 rfl rfl int_cells1 int_cells1 h with ⟨e1, _⟩ | ⟨a, len, cap, mm, n, V0, V1, D0, D1, P0, P1, e1, _, hl, hm, hmm, _, hc⟩
  · simp at e1
    subst e1
    exact ⟨[], PRead.nil _ _ _, by simp⟩
  · simp at e1
    subst e1
    have hlm : len ≤ mm := by rw [hmm]; split <;> omega
    have each : ∀ i, i < len → ∃ q : Int × Int, V0 i = .int .i64 q.1 ∧ V1 i = .int .i64 q.2 := by
      intro i hi
      obtain ⟨_, _, t0, t1⟩ := hc i (by omega)
      obtain ⟨x, ex, _, _⟩ := DataW.trod_int Tryz.underlying2 t0
      obtain ⟨y, ey, _, _⟩ := DataW.trod_int Tryz.underlying2 t1
      simp at ex ey
      exact ⟨(x, y), ex, ey⟩
    obtain ⟨q, hq⟩ := Go.Deep.choose_lt each
    have hlen : ((List.range len).map q).length = len := by simp
    refine ⟨(List.range len).map q, ⟨_, _, by rw [hlen], ?_⟩, by omega⟩
    by_cases h0 : len = 0
    · left; subst h0; rfl
    · right
      obtain ⟨b, off, spot⟩ := a
      have hc0 := (hc 0 (by omega)).1
      have hspot : spot = none := by simpa [Addr.add] using World.cell?_spot hc0
      subst hspot
      refine ⟨b, off, rfl, fun i hi => ?_⟩
      rw [hlen] at hi
      have hg : ((List.range len).map q).getD i (0, 0) = q i := by simp [List.getD_eq_getElem?_getD, hi]
      obtain ⟨g0, g1, _, _⟩ := hc i (by omega)
      rw [hg, ← (hq i hi).1, ← (hq i hi).2]
      refine ⟨?_, ?_⟩
      · rw [show ((⟨b, off, none⟩ : Addr).add (i * 2)) = ⟨b, off + i * 2, none⟩ from by simp [Addr.add]] at g0; exact g0
      · rw [show ((⟨b, off, none⟩ : Addr).add (i * 2 + 1)) = ⟨b, off + i * 2 + 1, none⟩ from by simp [Addr.add]; omega] at g1; exact g1

set_option maxRecDepth 100000 in
theorem open_grid {H : Type} {enc : TypeId × Value → H} {W : World} {base : Nat} {v : Value} {d : DataW H} {p : List MemPlace}
    (hv : Value.okWide Tryz.prog W .any base 24 v) (h : DataW.Trod enc Tryz.prog W 0 (fun _ => true) true 24 v d p) :
    ∃ (r wd : Int) (x y : Value) (cs bs : List (Int × Int)), v = .agg #[.int .i64 r, .int .i64 wd, x, y] ∧ PRead W x cs ∧ PRead W y bs ∧ cs.length ≤ maxLen ∧ bs.length ≤ maxLen := by
  obtain ⟨v0, v1, v2, v3, y0, y1, y2, y3, m, rfl, _, _, hy0, hy1, hy2, hy3⟩ := open_agg4 Tryz.underlying24 (by kernel_rfl) grid_cells hv h
  obtain ⟨r, e0, _, _⟩ := DataW.trod_int Tryz.underlying2 hy0
  simp at e0
  subst e0
  obtain ⟨wd, e1, _, _⟩ := DataW.trod_int Tryz.underlying2 hy1
  simp at e1
  subst e1
  obtain ⟨cs, h2, h2'⟩ := open_cells hy2
  obtain ⟨bs, h3, h3'⟩ := open_cells hy3
  exact ⟨r, wd, _, _, cs, bs, rfl, h2, h3, h2', h3'⟩

set_option maxRecDepth 100000 in
theorem open_cell {H : Type} {enc : TypeId × Value → H} {W : World} {base : Nat} {v : Value} {d : DataW H} {p : List MemPlace}
    (hv : Value.okWide Tryz.prog W .any base 198 v) (h : DataW.Trod enc Tryz.prog W 0 (fun _ => true) true 198 v d p) :
    ∃ (c g : Int), v = .agg #[.int .i64 c, .int .i64 g] := by
  obtain ⟨v0, v1, y0, y1, m, rfl, _, _, hy0, hy1⟩ := open_agg2 Tryz.underlying198 (by kernel_rfl) cell_cells2 hv h
  obtain ⟨c, e0, _, _⟩ := DataW.trod_int Tryz.underlying2 hy0
  obtain ⟨g, e1, _, _⟩ := DataW.trod_int Tryz.underlying2 hy1
  simp at e0 e1
  subst e0
  subst e1
  exact ⟨c, g, rfl⟩

end Go.Proofs.YtdekegjplegkeaaGreat

/- A screen that came in, opened: its numbers and its lists. -/
namespace Go.Proofs.YtdekegjplegkeaaGreat
set_option maxRecDepth 20000
open Go.ChangeShapes Go.WideShapes Go.ChangeAt Go.RowKit Go.Joins Go.Deep
set_option linter.unusedVariables false
set_option linter.unusedSimpArgs false

theorem scr_int1 : Tryz.prog.cellsOf 2 = 1 := by kernel_rfl
theorem scr_bool1 : Tryz.prog.cellsOf 4 = 1 := by kernel_rfl
theorem scr_cells20 : Tryz.prog.cellsOf 28 = 20 := by kernel_rfl
theorem scr_grid4 : Tryz.prog.cellsOf 24 = 4 := by kernel_rfl
theorem scr_sl1 : Tryz.prog.cellsOf 25 = 1 := by kernel_rfl
theorem scr_sl2 : Tryz.prog.cellsOf 26 = 1 := by kernel_rfl
theorem array20 {α : Type} {cs : Array α} (h : cs.size = 20) : ∃ c0 c1 c2 c3 c4 c5 c6 c7 c8 c9 c10 c11 c12 c13 c14 c15 c16 c17 c18 c19, cs = #[c0, c1, c2, c3, c4, c5, c6, c7, c8, c9, c10, c11, c12, c13, c14, c15, c16, c17, c18, c19] := by
  obtain ⟨l⟩ := cs
  match l, h with
  | [c0, c1, c2, c3, c4, c5, c6, c7, c8, c9, c10, c11, c12, c13, c14, c15, c16, c17, c18, c19], _ => exact ⟨c0, c1, c2, c3, c4, c5, c6, c7, c8, c9, c10, c11, c12, c13, c14, c15, c16, c17, c18, c19, rfl⟩

theorem scr_ints {H : Type} {enc : TypeId × Value → H} {W : World} {m0 : Nat} {x : Value} {y : DataW H × List MemPlace}
    (h : DataW.trod enc Tryz.prog W 0 (fun _ => true) true m0 26 [x] = some y) : ∃ ns : List Int, ReadAt .i64 W x ns ∧ ns.length ≤ maxLen := by
  rcases open_ints Tryz.underlying26 Tryz.underlying2 scr_int1 h with ⟨hcs, _⟩ | ⟨a, l, c, zs, hcs, _, hl, hm, hz, _, hcell, hwz⟩
  · simp at hcs
    subst hcs
    exact ⟨[], ReadAt.nil _ _ _ _, by simp⟩
  · simp at hcs
    subst hcs
    exact read_take (by simpa using hz) hl hm hcell
theorem scr_bools {H : Type} {enc : TypeId × Value → H} {W : World} {m0 : Nat} {x : Value} {y : DataW H × List MemPlace}
    (h : DataW.trod enc Tryz.prog W 0 (fun _ => true) true m0 25 [x] = some y) : ∃ ns : List Bool, BRead W x ns ∧ ns.length ≤ maxLen := by
  rcases open_bools Tryz.underlying25 Tryz.underlying4 scr_bool1 h with ⟨hcs, _⟩ | ⟨a, l, c, B, hcs, _, hl, hm, _, hcell⟩
  · simp at hcs
    subst hcs
    exact ⟨[], BRead.nil _ _ _, by simp⟩
  · simp at hcs
    subst hcs
    have hz : ((List.range c).map B).length = c := by simp
    refine bread_take (zs := (List.range c).map B) hz hl hm (fun i hi => ?_)
    rw [hz] at hi
    rw [hcell i hi]
    simp [List.getD_eq_getElem?_getD, hi]

set_option maxRecDepth 100000 in
set_option maxHeartbeats 2000000 in
theorem open_screen {H : Type} {enc : TypeId × Value → H} {W : World} {base : Nat} {v : Value} {d : DataW H} {p : List MemPlace}
    (hv : Value.okWide Tryz.prog W .any base 28 v) (h : DataW.Trod enc Tryz.prog W 0 (fun _ => true) true 28 v d p) :
    ∃ (s : Scr) (v1 v2 v3 v4 : Value), v = .agg (scrA s v1 v2 v3 v4) ∧ SRead W s v1 v2 v3 v4 ∧ s.cs.length ≤ maxLen ∧ s.bs.length ≤ maxLen ∧ s.tabs.length ≤ maxLen ∧ s.sets.length ≤ maxLen := by
  obtain ⟨cs, rfl, hsz⟩ := okWide_struct Tryz.underlying28 hv
  obtain ⟨c0, c1, c2, c3, c4, c5, c6, c7, c8, c9, c10, c11, c12, c13, c14, c15, c16, c17, c18, c19, rfl⟩ := array20 (hsz.trans scr_cells20)
  obtain ⟨fuel, hf⟩ := h
  obtain ⟨xs, n, _, _, hl, hlen, hf⟩ := DataW.trod_struct Tryz.underlying28 hf
  have hlen' : xs.length = 17 := hlen
  have f0 : DataW.trod enc Tryz.prog W 0 (fun _ => true) true n 24 [c0, c1, c2, c3] = some (xs[0]'(by omega)) := by
    have g : DataW.trod enc Tryz.prog W 0 (fun _ => true) true n 24 ((([c0, c1, c2, c3, c4, c5, c6, c7, c8, c9, c10, c11, c12, c13, c14, c15, c16, c17, c18, c19] : List Value).drop 0).take (Tryz.prog.cellsOf 24)) = xs[0]? := hf 0 _ rfl
    rw [scr_grid4, List.getElem?_eq_getElem (by omega)] at g
    exact g
  have f1 : DataW.trod enc Tryz.prog W 0 (fun _ => true) true n 2 [c4] = some (xs[1]'(by omega)) := by
    have g : DataW.trod enc Tryz.prog W 0 (fun _ => true) true n 2 ((([c0, c1, c2, c3, c4, c5, c6, c7, c8, c9, c10, c11, c12, c13, c14, c15, c16, c17, c18, c19] : List Value).drop 4).take (Tryz.prog.cellsOf 2)) = xs[1]? := hf 1 _ rfl
    rw [scr_int1, List.getElem?_eq_getElem (by omega)] at g
    exact g
  have f2 : DataW.trod enc Tryz.prog W 0 (fun _ => true) true n 2 [c5] = some (xs[2]'(by omega)) := by
    have g : DataW.trod enc Tryz.prog W 0 (fun _ => true) true n 2 ((([c0, c1, c2, c3, c4, c5, c6, c7, c8, c9, c10, c11, c12, c13, c14, c15, c16, c17, c18, c19] : List Value).drop 5).take (Tryz.prog.cellsOf 2)) = xs[2]? := hf 2 _ rfl
    rw [scr_int1, List.getElem?_eq_getElem (by omega)] at g
    exact g
  have f3 : DataW.trod enc Tryz.prog W 0 (fun _ => true) true n 4 [c6] = some (xs[3]'(by omega)) := by
    have g : DataW.trod enc Tryz.prog W 0 (fun _ => true) true n 4 ((([c0, c1, c2, c3, c4, c5, c6, c7, c8, c9, c10, c11, c12, c13, c14, c15, c16, c17, c18, c19] : List Value).drop 6).take (Tryz.prog.cellsOf 4)) = xs[3]? := hf 3 _ rfl
    rw [scr_bool1, List.getElem?_eq_getElem (by omega)] at g
    exact g
  have f4 : DataW.trod enc Tryz.prog W 0 (fun _ => true) true n 2 [c7] = some (xs[4]'(by omega)) := by
    have g : DataW.trod enc Tryz.prog W 0 (fun _ => true) true n 2 ((([c0, c1, c2, c3, c4, c5, c6, c7, c8, c9, c10, c11, c12, c13, c14, c15, c16, c17, c18, c19] : List Value).drop 7).take (Tryz.prog.cellsOf 2)) = xs[4]? := hf 4 _ rfl
    rw [scr_int1, List.getElem?_eq_getElem (by omega)] at g
    exact g
  have f5 : DataW.trod enc Tryz.prog W 0 (fun _ => true) true n 2 [c8] = some (xs[5]'(by omega)) := by
    have g : DataW.trod enc Tryz.prog W 0 (fun _ => true) true n 2 ((([c0, c1, c2, c3, c4, c5, c6, c7, c8, c9, c10, c11, c12, c13, c14, c15, c16, c17, c18, c19] : List Value).drop 8).take (Tryz.prog.cellsOf 2)) = xs[5]? := hf 5 _ rfl
    rw [scr_int1, List.getElem?_eq_getElem (by omega)] at g
    exact g
  have f6 : DataW.trod enc Tryz.prog W 0 (fun _ => true) true n 2 [c9] = some (xs[6]'(by omega)) := by
    have g : DataW.trod enc Tryz.prog W 0 (fun _ => true) true n 2 ((([c0, c1, c2, c3, c4, c5, c6, c7, c8, c9, c10, c11, c12, c13, c14, c15, c16, c17, c18, c19] : List Value).drop 9).take (Tryz.prog.cellsOf 2)) = xs[6]? := hf 6 _ rfl
    rw [scr_int1, List.getElem?_eq_getElem (by omega)] at g
    exact g
  have f7 : DataW.trod enc Tryz.prog W 0 (fun _ => true) true n 4 [c10] = some (xs[7]'(by omega)) := by
    have g : DataW.trod enc Tryz.prog W 0 (fun _ => true) true n 4 ((([c0, c1, c2, c3, c4, c5, c6, c7, c8, c9, c10, c11, c12, c13, c14, c15, c16, c17, c18, c19] : List Value).drop 10).take (Tryz.prog.cellsOf 4)) = xs[7]? := hf 7 _ rfl
    rw [scr_bool1, List.getElem?_eq_getElem (by omega)] at g
    exact g
  have f8 : DataW.trod enc Tryz.prog W 0 (fun _ => true) true n 4 [c11] = some (xs[8]'(by omega)) := by
    have g : DataW.trod enc Tryz.prog W 0 (fun _ => true) true n 4 ((([c0, c1, c2, c3, c4, c5, c6, c7, c8, c9, c10, c11, c12, c13, c14, c15, c16, c17, c18, c19] : List Value).drop 11).take (Tryz.prog.cellsOf 4)) = xs[8]? := hf 8 _ rfl
    rw [scr_bool1, List.getElem?_eq_getElem (by omega)] at g
    exact g
  have f9 : DataW.trod enc Tryz.prog W 0 (fun _ => true) true n 4 [c12] = some (xs[9]'(by omega)) := by
    have g : DataW.trod enc Tryz.prog W 0 (fun _ => true) true n 4 ((([c0, c1, c2, c3, c4, c5, c6, c7, c8, c9, c10, c11, c12, c13, c14, c15, c16, c17, c18, c19] : List Value).drop 12).take (Tryz.prog.cellsOf 4)) = xs[9]? := hf 9 _ rfl
    rw [scr_bool1, List.getElem?_eq_getElem (by omega)] at g
    exact g
  have f10 : DataW.trod enc Tryz.prog W 0 (fun _ => true) true n 25 [c13] = some (xs[10]'(by omega)) := by
    have g : DataW.trod enc Tryz.prog W 0 (fun _ => true) true n 25 ((([c0, c1, c2, c3, c4, c5, c6, c7, c8, c9, c10, c11, c12, c13, c14, c15, c16, c17, c18, c19] : List Value).drop 13).take (Tryz.prog.cellsOf 25)) = xs[10]? := hf 10 _ rfl
    rw [scr_sl1, List.getElem?_eq_getElem (by omega)] at g
    exact g
  have f11 : DataW.trod enc Tryz.prog W 0 (fun _ => true) true n 2 [c14] = some (xs[11]'(by omega)) := by
    have g : DataW.trod enc Tryz.prog W 0 (fun _ => true) true n 2 ((([c0, c1, c2, c3, c4, c5, c6, c7, c8, c9, c10, c11, c12, c13, c14, c15, c16, c17, c18, c19] : List Value).drop 14).take (Tryz.prog.cellsOf 2)) = xs[11]? := hf 11 _ rfl
    rw [scr_int1, List.getElem?_eq_getElem (by omega)] at g
    exact g
  have f12 : DataW.trod enc Tryz.prog W 0 (fun _ => true) true n 2 [c15] = some (xs[12]'(by omega)) := by
    have g : DataW.trod enc Tryz.prog W 0 (fun _ => true) true n 2 ((([c0, c1, c2, c3, c4, c5, c6, c7, c8, c9, c10, c11, c12, c13, c14, c15, c16, c17, c18, c19] : List Value).drop 15).take (Tryz.prog.cellsOf 2)) = xs[12]? := hf 12 _ rfl
    rw [scr_int1, List.getElem?_eq_getElem (by omega)] at g
    exact g
  have f13 : DataW.trod enc Tryz.prog W 0 (fun _ => true) true n 2 [c16] = some (xs[13]'(by omega)) := by
    have g : DataW.trod enc Tryz.prog W 0 (fun _ => true) true n 2 ((([c0, c1, c2, c3, c4, c5, c6, c7, c8, c9, c10, c11, c12, c13, c14, c15, c16, c17, c18, c19] : List Value).drop 16).take (Tryz.prog.cellsOf 2)) = xs[13]? := hf 13 _ rfl
    rw [scr_int1, List.getElem?_eq_getElem (by omega)] at g
    exact g
  have f14 : DataW.trod enc Tryz.prog W 0 (fun _ => true) true n 26 [c17] = some (xs[14]'(by omega)) := by
    have g : DataW.trod enc Tryz.prog W 0 (fun _ => true) true n 26 ((([c0, c1, c2, c3, c4, c5, c6, c7, c8, c9, c10, c11, c12, c13, c14, c15, c16, c17, c18, c19] : List Value).drop 17).take (Tryz.prog.cellsOf 26)) = xs[14]? := hf 14 _ rfl
    rw [scr_sl2, List.getElem?_eq_getElem (by omega)] at g
    exact g
  have f15 : DataW.trod enc Tryz.prog W 0 (fun _ => true) true n 2 [c18] = some (xs[15]'(by omega)) := by
    have g : DataW.trod enc Tryz.prog W 0 (fun _ => true) true n 2 ((([c0, c1, c2, c3, c4, c5, c6, c7, c8, c9, c10, c11, c12, c13, c14, c15, c16, c17, c18, c19] : List Value).drop 18).take (Tryz.prog.cellsOf 2)) = xs[15]? := hf 15 _ rfl
    rw [scr_int1, List.getElem?_eq_getElem (by omega)] at g
    exact g
  have f16 : DataW.trod enc Tryz.prog W 0 (fun _ => true) true n 2 [c19] = some (xs[16]'(by omega)) := by
    have g : DataW.trod enc Tryz.prog W 0 (fun _ => true) true n 2 ((([c0, c1, c2, c3, c4, c5, c6, c7, c8, c9, c10, c11, c12, c13, c14, c15, c16, c17, c18, c19] : List Value).drop 19).take (Tryz.prog.cellsOf 2)) = xs[16]? := hf 16 _ rfl
    rw [scr_int1, List.getElem?_eq_getElem (by omega)] at g
    exact g
  clear hf
  have f0' : ∃ (r wd : Int) (cs bs : List (Int × Int)), c0 = .int .i64 r ∧ c1 = .int .i64 wd ∧ PRead W c2 cs ∧ PRead W c3 bs ∧ cs.length ≤ maxLen ∧ bs.length ≤ maxLen := by
    obtain ⟨y0, y1, y2, y3, m, _, _, g0, g1, g2, g3⟩ := trod_struct4 Tryz.underlying24 f0
    rw [int_cells1] at g0 g1
    obtain ⟨r, e0, _, _⟩ := DataW.trod_int Tryz.underlying2 g0
    obtain ⟨wd, e1, _, _⟩ := DataW.trod_int Tryz.underlying2 g1
    simp at e0 e1
    subst e0 e1
    rw [show Tryz.prog.cellsOf 22 = 1 from by kernel_rfl] at g2 g3
    obtain ⟨cs, q2, q2'⟩ := open_cells g2
    obtain ⟨bs, q3, q3'⟩ := open_cells g3
    exact ⟨r, wd, cs, bs, rfl, rfl, q2, q3, q2', q3'⟩
  obtain ⟨r, wd, cs, bs, rfl, rfl, h1, h2, h1', h2'⟩ := f0'
  obtain ⟨z4, e4, _, _⟩ := DataW.trod_int Tryz.underlying2 f1
  simp at e4
  subst e4
  obtain ⟨z5, e5, _, _⟩ := DataW.trod_int Tryz.underlying2 f2
  simp at e5
  subst e5
  obtain ⟨z6, e6, _⟩ := DataW.trod_bool Tryz.underlying4 f3
  simp at e6
  subst e6
  obtain ⟨z7, e7, _, _⟩ := DataW.trod_int Tryz.underlying2 f4
  simp at e7
  subst e7
  obtain ⟨z8, e8, _, _⟩ := DataW.trod_int Tryz.underlying2 f5
  simp at e8
  subst e8
  obtain ⟨z9, e9, _, _⟩ := DataW.trod_int Tryz.underlying2 f6
  simp at e9
  subst e9
  obtain ⟨z10, e10, _⟩ := DataW.trod_bool Tryz.underlying4 f7
  simp at e10
  subst e10
  obtain ⟨z11, e11, _⟩ := DataW.trod_bool Tryz.underlying4 f8
  simp at e11
  subst e11
  obtain ⟨z12, e12, _⟩ := DataW.trod_bool Tryz.underlying4 f9
  simp at e12
  subst e12
  obtain ⟨tabs, h3, h3'⟩ := scr_bools f10
  obtain ⟨z14, e14, _, _⟩ := DataW.trod_int Tryz.underlying2 f11
  simp at e14
  subst e14
  obtain ⟨z15, e15, _, _⟩ := DataW.trod_int Tryz.underlying2 f12
  simp at e15
  subst e15
  obtain ⟨z16, e16, _, _⟩ := DataW.trod_int Tryz.underlying2 f13
  simp at e16
  subst e16
  obtain ⟨sets, h4, h4'⟩ := scr_ints f14
  obtain ⟨z18, e18, _, _⟩ := DataW.trod_int Tryz.underlying2 f15
  simp at e18
  subst e18
  obtain ⟨z19, e19, _, _⟩ := DataW.trod_int Tryz.underlying2 f16
  simp at e19
  subst e19
  exact ⟨{ r := r, wd := wd, cs := cs, bs := bs, tabs := tabs, sets := sets, y := z4, x := z5, wrap := z6, attr := z7, top := z8, bot := z9, org := z10, auto := z11, ins := z12, ky := z14, kx := z15, ka := z16, sh := z18, bells := z19 }, c2, c3, c13, c17, rfl, ⟨h1, h2, h3, h4⟩, h1', h2', h3', h4'⟩

end Go.Proofs.YtdekegjplegkeaaGreat

/- A terminal that came in, opened: its numbers and its lists. -/
namespace Go.Proofs.YtdekegjplegkeaaGreat
set_option maxRecDepth 20000
open Go.ChangeShapes Go.WideShapes Go.ChangeAt Go.RowKit Go.Joins Go.Deep
set_option linter.unusedVariables false
set_option linter.unusedSimpArgs false

theorem vt_cells27 : Tryz.prog.cellsOf 64 = 27 := by kernel_rfl
theorem vt_dec3 : Tryz.prog.cellsOf 60 = 3 := by kernel_rfl
theorem vt_par4 : Tryz.prog.cellsOf 62 = 4 := by kernel_rfl
set_option maxRecDepth 100000 in
set_option maxHeartbeats 2000000 in
theorem screen_core {H : Type} {enc : TypeId × Value → H} {W : World} {fuel : Nat} {c0 c1 c2 c3 c4 c5 c6 c7 c8 c9 c10 c11 c12 c13 c14 c15 c16 c17 c18 c19 : Value} {z : DataW H × List MemPlace}
    (hf : DataW.trod enc Tryz.prog W 0 (fun _ => true) true fuel 28 [c0, c1, c2, c3, c4, c5, c6, c7, c8, c9, c10, c11, c12, c13, c14, c15, c16, c17, c18, c19] = some z) :
    ∃ (s : Scr) (v1 v2 v3 v4 : Value), [c0, c1, c2, c3, c4, c5, c6, c7, c8, c9, c10, c11, c12, c13, c14, c15, c16, c17, c18, c19] = (scrA s v1 v2 v3 v4).toList ∧ SRead W s v1 v2 v3 v4 ∧ s.cs.length ≤ maxLen ∧ s.bs.length ≤ maxLen ∧ s.tabs.length ≤ maxLen ∧ s.sets.length ≤ maxLen := by
  obtain ⟨xs, n, _, _, hl, hlen, hf⟩ := DataW.trod_struct Tryz.underlying28 hf
  have hlen' : xs.length = 17 := hlen
  have f0 : DataW.trod enc Tryz.prog W 0 (fun _ => true) true n 24 [c0, c1, c2, c3] = some (xs[0]'(by omega)) := by
    have g : DataW.trod enc Tryz.prog W 0 (fun _ => true) true n 24 ((([c0, c1, c2, c3, c4, c5, c6, c7, c8, c9, c10, c11, c12, c13, c14, c15, c16, c17, c18, c19] : List Value).drop 0).take (Tryz.prog.cellsOf 24)) = xs[0]? := hf 0 _ rfl
    rw [scr_grid4, List.getElem?_eq_getElem (by omega)] at g
    exact g
  have f1 : DataW.trod enc Tryz.prog W 0 (fun _ => true) true n 2 [c4] = some (xs[1]'(by omega)) := by
    have g : DataW.trod enc Tryz.prog W 0 (fun _ => true) true n 2 ((([c0, c1, c2, c3, c4, c5, c6, c7, c8, c9, c10, c11, c12, c13, c14, c15, c16, c17, c18, c19] : List Value).drop 4).take (Tryz.prog.cellsOf 2)) = xs[1]? := hf 1 _ rfl
    rw [scr_int1, List.getElem?_eq_getElem (by omega)] at g
    exact g
  have f2 : DataW.trod enc Tryz.prog W 0 (fun _ => true) true n 2 [c5] = some (xs[2]'(by omega)) := by
    have g : DataW.trod enc Tryz.prog W 0 (fun _ => true) true n 2 ((([c0, c1, c2, c3, c4, c5, c6, c7, c8, c9, c10, c11, c12, c13, c14, c15, c16, c17, c18, c19] : List Value).drop 5).take (Tryz.prog.cellsOf 2)) = xs[2]? := hf 2 _ rfl
    rw [scr_int1, List.getElem?_eq_getElem (by omega)] at g
    exact g
  have f3 : DataW.trod enc Tryz.prog W 0 (fun _ => true) true n 4 [c6] = some (xs[3]'(by omega)) := by
    have g : DataW.trod enc Tryz.prog W 0 (fun _ => true) true n 4 ((([c0, c1, c2, c3, c4, c5, c6, c7, c8, c9, c10, c11, c12, c13, c14, c15, c16, c17, c18, c19] : List Value).drop 6).take (Tryz.prog.cellsOf 4)) = xs[3]? := hf 3 _ rfl
    rw [scr_bool1, List.getElem?_eq_getElem (by omega)] at g
    exact g
  have f4 : DataW.trod enc Tryz.prog W 0 (fun _ => true) true n 2 [c7] = some (xs[4]'(by omega)) := by
    have g : DataW.trod enc Tryz.prog W 0 (fun _ => true) true n 2 ((([c0, c1, c2, c3, c4, c5, c6, c7, c8, c9, c10, c11, c12, c13, c14, c15, c16, c17, c18, c19] : List Value).drop 7).take (Tryz.prog.cellsOf 2)) = xs[4]? := hf 4 _ rfl
    rw [scr_int1, List.getElem?_eq_getElem (by omega)] at g
    exact g
  have f5 : DataW.trod enc Tryz.prog W 0 (fun _ => true) true n 2 [c8] = some (xs[5]'(by omega)) := by
    have g : DataW.trod enc Tryz.prog W 0 (fun _ => true) true n 2 ((([c0, c1, c2, c3, c4, c5, c6, c7, c8, c9, c10, c11, c12, c13, c14, c15, c16, c17, c18, c19] : List Value).drop 8).take (Tryz.prog.cellsOf 2)) = xs[5]? := hf 5 _ rfl
    rw [scr_int1, List.getElem?_eq_getElem (by omega)] at g
    exact g
  have f6 : DataW.trod enc Tryz.prog W 0 (fun _ => true) true n 2 [c9] = some (xs[6]'(by omega)) := by
    have g : DataW.trod enc Tryz.prog W 0 (fun _ => true) true n 2 ((([c0, c1, c2, c3, c4, c5, c6, c7, c8, c9, c10, c11, c12, c13, c14, c15, c16, c17, c18, c19] : List Value).drop 9).take (Tryz.prog.cellsOf 2)) = xs[6]? := hf 6 _ rfl
    rw [scr_int1, List.getElem?_eq_getElem (by omega)] at g
    exact g
  have f7 : DataW.trod enc Tryz.prog W 0 (fun _ => true) true n 4 [c10] = some (xs[7]'(by omega)) := by
    have g : DataW.trod enc Tryz.prog W 0 (fun _ => true) true n 4 ((([c0, c1, c2, c3, c4, c5, c6, c7, c8, c9, c10, c11, c12, c13, c14, c15, c16, c17, c18, c19] : List Value).drop 10).take (Tryz.prog.cellsOf 4)) = xs[7]? := hf 7 _ rfl
    rw [scr_bool1, List.getElem?_eq_getElem (by omega)] at g
    exact g
  have f8 : DataW.trod enc Tryz.prog W 0 (fun _ => true) true n 4 [c11] = some (xs[8]'(by omega)) := by
    have g : DataW.trod enc Tryz.prog W 0 (fun _ => true) true n 4 ((([c0, c1, c2, c3, c4, c5, c6, c7, c8, c9, c10, c11, c12, c13, c14, c15, c16, c17, c18, c19] : List Value).drop 11).take (Tryz.prog.cellsOf 4)) = xs[8]? := hf 8 _ rfl
    rw [scr_bool1, List.getElem?_eq_getElem (by omega)] at g
    exact g
  have f9 : DataW.trod enc Tryz.prog W 0 (fun _ => true) true n 4 [c12] = some (xs[9]'(by omega)) := by
    have g : DataW.trod enc Tryz.prog W 0 (fun _ => true) true n 4 ((([c0, c1, c2, c3, c4, c5, c6, c7, c8, c9, c10, c11, c12, c13, c14, c15, c16, c17, c18, c19] : List Value).drop 12).take (Tryz.prog.cellsOf 4)) = xs[9]? := hf 9 _ rfl
    rw [scr_bool1, List.getElem?_eq_getElem (by omega)] at g
    exact g
  have f10 : DataW.trod enc Tryz.prog W 0 (fun _ => true) true n 25 [c13] = some (xs[10]'(by omega)) := by
    have g : DataW.trod enc Tryz.prog W 0 (fun _ => true) true n 25 ((([c0, c1, c2, c3, c4, c5, c6, c7, c8, c9, c10, c11, c12, c13, c14, c15, c16, c17, c18, c19] : List Value).drop 13).take (Tryz.prog.cellsOf 25)) = xs[10]? := hf 10 _ rfl
    rw [scr_sl1, List.getElem?_eq_getElem (by omega)] at g
    exact g
  have f11 : DataW.trod enc Tryz.prog W 0 (fun _ => true) true n 2 [c14] = some (xs[11]'(by omega)) := by
    have g : DataW.trod enc Tryz.prog W 0 (fun _ => true) true n 2 ((([c0, c1, c2, c3, c4, c5, c6, c7, c8, c9, c10, c11, c12, c13, c14, c15, c16, c17, c18, c19] : List Value).drop 14).take (Tryz.prog.cellsOf 2)) = xs[11]? := hf 11 _ rfl
    rw [scr_int1, List.getElem?_eq_getElem (by omega)] at g
    exact g
  have f12 : DataW.trod enc Tryz.prog W 0 (fun _ => true) true n 2 [c15] = some (xs[12]'(by omega)) := by
    have g : DataW.trod enc Tryz.prog W 0 (fun _ => true) true n 2 ((([c0, c1, c2, c3, c4, c5, c6, c7, c8, c9, c10, c11, c12, c13, c14, c15, c16, c17, c18, c19] : List Value).drop 15).take (Tryz.prog.cellsOf 2)) = xs[12]? := hf 12 _ rfl
    rw [scr_int1, List.getElem?_eq_getElem (by omega)] at g
    exact g
  have f13 : DataW.trod enc Tryz.prog W 0 (fun _ => true) true n 2 [c16] = some (xs[13]'(by omega)) := by
    have g : DataW.trod enc Tryz.prog W 0 (fun _ => true) true n 2 ((([c0, c1, c2, c3, c4, c5, c6, c7, c8, c9, c10, c11, c12, c13, c14, c15, c16, c17, c18, c19] : List Value).drop 16).take (Tryz.prog.cellsOf 2)) = xs[13]? := hf 13 _ rfl
    rw [scr_int1, List.getElem?_eq_getElem (by omega)] at g
    exact g
  have f14 : DataW.trod enc Tryz.prog W 0 (fun _ => true) true n 26 [c17] = some (xs[14]'(by omega)) := by
    have g : DataW.trod enc Tryz.prog W 0 (fun _ => true) true n 26 ((([c0, c1, c2, c3, c4, c5, c6, c7, c8, c9, c10, c11, c12, c13, c14, c15, c16, c17, c18, c19] : List Value).drop 17).take (Tryz.prog.cellsOf 26)) = xs[14]? := hf 14 _ rfl
    rw [scr_sl2, List.getElem?_eq_getElem (by omega)] at g
    exact g
  have f15 : DataW.trod enc Tryz.prog W 0 (fun _ => true) true n 2 [c18] = some (xs[15]'(by omega)) := by
    have g : DataW.trod enc Tryz.prog W 0 (fun _ => true) true n 2 ((([c0, c1, c2, c3, c4, c5, c6, c7, c8, c9, c10, c11, c12, c13, c14, c15, c16, c17, c18, c19] : List Value).drop 18).take (Tryz.prog.cellsOf 2)) = xs[15]? := hf 15 _ rfl
    rw [scr_int1, List.getElem?_eq_getElem (by omega)] at g
    exact g
  have f16 : DataW.trod enc Tryz.prog W 0 (fun _ => true) true n 2 [c19] = some (xs[16]'(by omega)) := by
    have g : DataW.trod enc Tryz.prog W 0 (fun _ => true) true n 2 ((([c0, c1, c2, c3, c4, c5, c6, c7, c8, c9, c10, c11, c12, c13, c14, c15, c16, c17, c18, c19] : List Value).drop 19).take (Tryz.prog.cellsOf 2)) = xs[16]? := hf 16 _ rfl
    rw [scr_int1, List.getElem?_eq_getElem (by omega)] at g
    exact g
  clear hf
  have f0' : ∃ (r wd : Int) (cs bs : List (Int × Int)), c0 = .int .i64 r ∧ c1 = .int .i64 wd ∧ PRead W c2 cs ∧ PRead W c3 bs ∧ cs.length ≤ maxLen ∧ bs.length ≤ maxLen := by
    obtain ⟨y0, y1, y2, y3, m, _, _, g0, g1, g2, g3⟩ := trod_struct4 Tryz.underlying24 f0
    rw [int_cells1] at g0 g1
    obtain ⟨r, e0, _, _⟩ := DataW.trod_int Tryz.underlying2 g0
    obtain ⟨wd, e1, _, _⟩ := DataW.trod_int Tryz.underlying2 g1
    simp at e0 e1
    subst e0 e1
    rw [show Tryz.prog.cellsOf 22 = 1 from by kernel_rfl] at g2 g3
    obtain ⟨cs, q2, q2'⟩ := open_cells g2
    obtain ⟨bs, q3, q3'⟩ := open_cells g3
    exact ⟨r, wd, cs, bs, rfl, rfl, q2, q3, q2', q3'⟩
  obtain ⟨r, wd, cs, bs, rfl, rfl, h1, h2, h1', h2'⟩ := f0'
  obtain ⟨z4, e4, _, _⟩ := DataW.trod_int Tryz.underlying2 f1
  simp at e4
  subst e4
  obtain ⟨z5, e5, _, _⟩ := DataW.trod_int Tryz.underlying2 f2
  simp at e5
  subst e5
  obtain ⟨z6, e6, _⟩ := DataW.trod_bool Tryz.underlying4 f3
  simp at e6
  subst e6
  obtain ⟨z7, e7, _, _⟩ := DataW.trod_int Tryz.underlying2 f4
  simp at e7
  subst e7
  obtain ⟨z8, e8, _, _⟩ := DataW.trod_int Tryz.underlying2 f5
  simp at e8
  subst e8
  obtain ⟨z9, e9, _, _⟩ := DataW.trod_int Tryz.underlying2 f6
  simp at e9
  subst e9
  obtain ⟨z10, e10, _⟩ := DataW.trod_bool Tryz.underlying4 f7
  simp at e10
  subst e10
  obtain ⟨z11, e11, _⟩ := DataW.trod_bool Tryz.underlying4 f8
  simp at e11
  subst e11
  obtain ⟨z12, e12, _⟩ := DataW.trod_bool Tryz.underlying4 f9
  simp at e12
  subst e12
  obtain ⟨tabs, h3, h3'⟩ := scr_bools f10
  obtain ⟨z14, e14, _, _⟩ := DataW.trod_int Tryz.underlying2 f11
  simp at e14
  subst e14
  obtain ⟨z15, e15, _, _⟩ := DataW.trod_int Tryz.underlying2 f12
  simp at e15
  subst e15
  obtain ⟨z16, e16, _, _⟩ := DataW.trod_int Tryz.underlying2 f13
  simp at e16
  subst e16
  obtain ⟨sets, h4, h4'⟩ := scr_ints f14
  obtain ⟨z18, e18, _, _⟩ := DataW.trod_int Tryz.underlying2 f15
  simp at e18
  subst e18
  obtain ⟨z19, e19, _, _⟩ := DataW.trod_int Tryz.underlying2 f16
  simp at e19
  subst e19
  exact ⟨{ r := r, wd := wd, cs := cs, bs := bs, tabs := tabs, sets := sets, y := z4, x := z5, wrap := z6, attr := z7, top := z8, bot := z9, org := z10, auto := z11, ins := z12, ky := z14, kx := z15, ka := z16, sh := z18, bells := z19 }, c2, c3, c13, c17, rfl, ⟨h1, h2, h3, h4⟩, h1', h2', h3', h4'⟩
theorem array27 {α : Type} {cs : Array α} (h : cs.size = 27) : ∃ c0 c1 c2 c3 c4 c5 c6 c7 c8 c9 c10 c11 c12 c13 c14 c15 c16 c17 c18 c19 c20 c21 c22 c23 c24 c25 c26, cs = #[c0, c1, c2, c3, c4, c5, c6, c7, c8, c9, c10, c11, c12, c13, c14, c15, c16, c17, c18, c19, c20, c21, c22, c23, c24, c25, c26] := by
  obtain ⟨l⟩ := cs
  match l, h with
  | [c0, c1, c2, c3, c4, c5, c6, c7, c8, c9, c10, c11, c12, c13, c14, c15, c16, c17, c18, c19, c20, c21, c22, c23, c24, c25, c26], _ => exact ⟨c0, c1, c2, c3, c4, c5, c6, c7, c8, c9, c10, c11, c12, c13, c14, c15, c16, c17, c18, c19, c20, c21, c22, c23, c24, c25, c26, rfl⟩
set_option maxRecDepth 100000 in
set_option maxHeartbeats 2000000 in
theorem open_vt {H : Type} {enc : TypeId × Value → H} {W : World} {base : Nat} {v : Value} {d : DataW H} {p : List MemPlace}
    (hv : Value.okWide Tryz.prog W .any base 64 v) (h : DataW.Trod enc Tryz.prog W 0 (fun _ => true) true 64 v d p) :
    ∃ (t : VtS) (u v1 v2 v3 v4 : Value), v = .agg (vtA t u v1 v2 v3 v4) ∧ VRead W t u v1 v2 v3 v4 ∧ t.ns.length ≤ maxLen ∧ t.s.cs.length ≤ maxLen ∧ t.s.bs.length ≤ maxLen ∧ t.s.tabs.length ≤ maxLen ∧ t.s.sets.length ≤ maxLen := by
  obtain ⟨cs, rfl, hsz⟩ := okWide_struct Tryz.underlying64 hv
  obtain ⟨c0, c1, c2, c3, c4, c5, c6, c7, c8, c9, c10, c11, c12, c13, c14, c15, c16, c17, c18, c19, c20, c21, c22, c23, c24, c25, c26, rfl⟩ := array27 (hsz.trans vt_cells27)
  obtain ⟨fuel, hf⟩ := h
  obtain ⟨xs, n, _, _, hl, hlen, hf⟩ := DataW.trod_struct Tryz.underlying64 hf
  have hlen' : xs.length = 3 := hlen
  have f0 : DataW.trod enc Tryz.prog W 0 (fun _ => true) true n 60 [c0, c1, c2] = some (xs[0]'(by omega)) := by
    have g : DataW.trod enc Tryz.prog W 0 (fun _ => true) true n 60 ((([c0, c1, c2, c3, c4, c5, c6, c7, c8, c9, c10, c11, c12, c13, c14, c15, c16, c17, c18, c19, c20, c21, c22, c23, c24, c25, c26] : List Value).drop 0).take (Tryz.prog.cellsOf 60)) = xs[0]? := hf 0 _ rfl
    rw [vt_dec3, List.getElem?_eq_getElem (by omega)] at g
    exact g
  have f1 : DataW.trod enc Tryz.prog W 0 (fun _ => true) true n 62 [c3, c4, c5, c6] = some (xs[1]'(by omega)) := by
    have g : DataW.trod enc Tryz.prog W 0 (fun _ => true) true n 62 ((([c0, c1, c2, c3, c4, c5, c6, c7, c8, c9, c10, c11, c12, c13, c14, c15, c16, c17, c18, c19, c20, c21, c22, c23, c24, c25, c26] : List Value).drop 3).take (Tryz.prog.cellsOf 62)) = xs[1]? := hf 1 _ rfl
    rw [vt_par4, List.getElem?_eq_getElem (by omega)] at g
    exact g
  have f2 : DataW.trod enc Tryz.prog W 0 (fun _ => true) true n 28 [c7, c8, c9, c10, c11, c12, c13, c14, c15, c16, c17, c18, c19, c20, c21, c22, c23, c24, c25, c26] = some (xs[2]'(by omega)) := by
    have g : DataW.trod enc Tryz.prog W 0 (fun _ => true) true n 28 ((([c0, c1, c2, c3, c4, c5, c6, c7, c8, c9, c10, c11, c12, c13, c14, c15, c16, c17, c18, c19, c20, c21, c22, c23, c24, c25, c26] : List Value).drop 7).take (Tryz.prog.cellsOf 28)) = xs[2]? := hf 2 _ rfl
    rw [scr_cells20, List.getElem?_eq_getElem (by omega)] at g
    exact g
  obtain ⟨s, v1, v2, v3, v4, es, hs, m1, m2, m3, m4⟩ := screen_core f2
  obtain ⟨xd, nd, _, _, hld, hlend, hfd⟩ := DataW.trod_struct Tryz.underlying60 f0
  have hlend' : xd.length = 3 := hlend
  have d0 : DataW.trod enc Tryz.prog W 0 (fun _ => true) true nd 2 [c0] = some (xd[0]'(by omega)) := by
    have g : DataW.trod enc Tryz.prog W 0 (fun _ => true) true nd 2 ((([c0, c1, c2] : List Value).drop 0).take (Tryz.prog.cellsOf 2)) = xd[0]? := hfd 0 _ rfl
    rw [scr_int1, List.getElem?_eq_getElem (by omega)] at g
    exact g
  have d1 : DataW.trod enc Tryz.prog W 0 (fun _ => true) true nd 2 [c1] = some (xd[1]'(by omega)) := by
    have g : DataW.trod enc Tryz.prog W 0 (fun _ => true) true nd 2 ((([c0, c1, c2] : List Value).drop 1).take (Tryz.prog.cellsOf 2)) = xd[1]? := hfd 1 _ rfl
    rw [scr_int1, List.getElem?_eq_getElem (by omega)] at g
    exact g
  have d2 : DataW.trod enc Tryz.prog W 0 (fun _ => true) true nd 2 [c2] = some (xd[2]'(by omega)) := by
    have g : DataW.trod enc Tryz.prog W 0 (fun _ => true) true nd 2 ((([c0, c1, c2] : List Value).drop 2).take (Tryz.prog.cellsOf 2)) = xd[2]? := hfd 2 _ rfl
    rw [scr_int1, List.getElem?_eq_getElem (by omega)] at g
    exact g
  obtain ⟨xp, np, _, _, hlp, hlenp, hfp⟩ := DataW.trod_struct Tryz.underlying62 f1
  have hlenp' : xp.length = 4 := hlenp
  have p0 : DataW.trod enc Tryz.prog W 0 (fun _ => true) true np 2 [c3] = some (xp[0]'(by omega)) := by
    have g : DataW.trod enc Tryz.prog W 0 (fun _ => true) true np 2 ((([c3, c4, c5, c6] : List Value).drop 0).take (Tryz.prog.cellsOf 2)) = xp[0]? := hfp 0 _ rfl
    rw [scr_int1, List.getElem?_eq_getElem (by omega)] at g
    exact g
  have p1 : DataW.trod enc Tryz.prog W 0 (fun _ => true) true np 2 [c4] = some (xp[1]'(by omega)) := by
    have g : DataW.trod enc Tryz.prog W 0 (fun _ => true) true np 2 ((([c3, c4, c5, c6] : List Value).drop 1).take (Tryz.prog.cellsOf 2)) = xp[1]? := hfp 1 _ rfl
    rw [scr_int1, List.getElem?_eq_getElem (by omega)] at g
    exact g
  have p2 : DataW.trod enc Tryz.prog W 0 (fun _ => true) true np 4 [c5] = some (xp[2]'(by omega)) := by
    have g : DataW.trod enc Tryz.prog W 0 (fun _ => true) true np 4 ((([c3, c4, c5, c6] : List Value).drop 2).take (Tryz.prog.cellsOf 4)) = xp[2]? := hfp 2 _ rfl
    rw [scr_bool1, List.getElem?_eq_getElem (by omega)] at g
    exact g
  have p3 : DataW.trod enc Tryz.prog W 0 (fun _ => true) true np 26 [c6] = some (xp[3]'(by omega)) := by
    have g : DataW.trod enc Tryz.prog W 0 (fun _ => true) true np 26 ((([c3, c4, c5, c6] : List Value).drop 3).take (Tryz.prog.cellsOf 26)) = xp[3]? := hfp 3 _ rfl
    rw [scr_sl2, List.getElem?_eq_getElem (by omega)] at g
    exact g
  obtain ⟨q0, e0, _, _⟩ := DataW.trod_int Tryz.underlying2 d0
  simp at e0
  subst e0
  obtain ⟨q1, e1, _, _⟩ := DataW.trod_int Tryz.underlying2 d1
  simp at e1
  subst e1
  obtain ⟨q2, e2, _, _⟩ := DataW.trod_int Tryz.underlying2 d2
  simp at e2
  subst e2
  obtain ⟨q3, e3, _, _⟩ := DataW.trod_int Tryz.underlying2 p0
  simp at e3
  subst e3
  obtain ⟨q4, e4, _, _⟩ := DataW.trod_int Tryz.underlying2 p1
  simp at e4
  subst e4
  obtain ⟨q5, e5, _⟩ := DataW.trod_bool Tryz.underlying4 p2
  simp at e5
  subst e5
  obtain ⟨ns, h6, h6'⟩ := scr_ints p3
  refine ⟨⟨q0, q1, q2, q3, q4, q5, ns, s⟩, c6, v1, v2, v3, v4, ?_, ⟨h6, hs⟩, h6', m1, m2, m3, m4⟩
  have : vtA ⟨q0, q1, q2, q3, q4, q5, ns, s⟩ c6 v1 v2 v3 v4 = (([.int .i64 q0, .int .i64 q1, .int .i64 q2, .int .i64 q3, .int .i64 q4, .bool q5, c6] : List Value) ++ (scrA s v1 v2 v3 v4).toList).toArray := rfl
  rw [this, ← es]
  rfl
end Go.Proofs.YtdekegjplegkeaaGreat

namespace Go.Proofs.YtdekegjplegkeaaGreat
set_option maxRecDepth 20000
open Go.ChangeShapes Go.WideShapes Go.ChangeAt Go.RowKit Go.Joins
set_option linter.unusedVariables false
set_option linter.unusedSimpArgs false

set_option maxRecDepth 20000
theorem run_execLoad {P : Program} {ρ : Operand → Value} {op : Oper} {w : World} (ty : TypeId) (x : Operand) (ho : op.op = .load ty x) (g off : Nat) (hx : ρ x = .pointer (some ⟨g, off, none⟩)) (v : Value) (h : (loadVar ty ⟨g, off, none⟩).run P w = .ok v w) :
    (execOp ρ op).run P w = .ok (Next.value v) w := by
  unfold execOp
  simp only [ho, hx, Instr.loadAt, Instr.sureAddr, Sem.run_bind, Sem.run_pure, Result.andThen_ok, h]
theorem rvVt_len (t : VtS) (rows width : Int) (h0 : t.ns.length ≤ 1048576) (h4 : t.s.sets.length ≤ 1048576) : (rvVt t rows width).ns.length ≤ 1048576 ∧ (rvVt t rows width).s.cs.length ≤ 1048576 ∧ (rvVt t rows width).s.bs.length ≤ 1048576 ∧ (rvVt t rows width).s.tabs.length ≤ 1048576 ∧ (rvVt t rows width).s.sets.length ≤ 1048576 := by
  unfold rvVt
  split
  · split
    · obtain ⟨a1, a2, a3, a4⟩ := rzRes_len t.s rows width h4
      exact ⟨h0, a1, a2, a3, a4⟩
    · simp [vt0, scr0]
  · simp [vt0, scr0]
theorem rv_spec {t S : VtS} {c : Int} {rows width : Int} (hC : rvCode t rows width = c) (hS : rvVt t rows width = S) (u v1 v2 v3 v4 : Value) (w : World) (hn0 : t.ns.length ≤ 1048576) (hn1 : t.s.cs.length ≤ 1048576) (hn2 : t.s.bs.length ≤ 1048576) (hn3 : t.s.tabs.length ≤ 1048576) (hn4 : t.s.sets.length ≤ 1048576) (k1 : Capped v1) (k2 : Capped v2) (k3 : Capped v3) (h : VRead w t u v1 v2 v3 v4) :
    Calls Tryz.prog 38 #[.agg (vtA t u v1 v2 v3 v4), .int .i64 rows, .int .i64 width] w fun e w' => ∃ x u1 u2 u3 u4, e = .returned (.agg (resVA c S x u1 u2 u3 u4)) ∧ VOwn w.heap.size w'.heap.size w' x u1 u2 u3 u4 S ∧ Below w.heap.size w w' := by
  subst hC hS
  exact specResizeVt_calls t u v1 v2 v3 v4 rows width w hn0 hn1 hn2 hn3 hn4 k1 k2 k3 h
theorem rv_impl {t S : VtS} {c : Int} {rows width : Int} (hC : rvCode t rows width = c) (hS : rvVt t rows width = S) (u v1 v2 v3 v4 : Value) (w : World) (hn0 : t.ns.length ≤ 1048576) (hn1 : t.s.cs.length ≤ 1048576) (hn2 : t.s.bs.length ≤ 1048576) (hn3 : t.s.tabs.length ≤ 1048576) (hn4 : t.s.sets.length ≤ 1048576) (h : VRead w t u v1 v2 v3 v4) :
    Calls Tryz.prog 39 #[.agg (vtA t u v1 v2 v3 v4), .int .i64 rows, .int .i64 width] w fun e w' => ∃ x u1 u2 u3 u4, e = .returned (.agg (resVA c S x u1 u2 u3 u4)) ∧ VOwn w.heap.size w'.heap.size w' x u1 u2 u3 u4 S ∧ Below w.heap.size w w' := by
  subst hC hS
  exact implResizeVt_calls t u v1 v2 v3 v4 rows width w hn0 hn1 hn2 hn3 hn4 h
set_option maxRecDepth 20000 in
set_option maxHeartbeats 8000000 in
theorem lawRV_walk (t : VtS) (u v1 v2 v3 v4 : Value) (rows : Int) (width : Int) (w : World) (hrt : VRead w t u v1 v2 v3 v4) (hmt1 : t.ns.length ≤ maxLen) (hmt2 : t.s.cs.length ≤ maxLen) (hmt3 : t.s.bs.length ≤ maxLen) (hmt4 : t.s.tabs.length ≤ maxLen) (hmt5 : t.s.sets.length ≤ maxLen) :
    Calls Tryz.prog 6 #[.agg (vtA t u v1 v2 v3 v4), .int .i64 rows, .int .i64 width] w fun e w' => e = .returned (.bool true) ∧ Below w.heap.size w w' := by
  by_cases hsum0 : (t.ns.length : Int) + t.s.cs.length + t.s.bs.length + t.s.tabs.length + t.s.sets.length ≤ 1048576
  · skip
    obtain ⟨c, hC⟩ : ∃ c, rvCode t rows width = c := ⟨_, rfl⟩
    obtain ⟨S, hS⟩ : ∃ S, rvVt t rows width = S := ⟨_, rfl⟩
    obtain ⟨hS0, hS1, hS2, hS3, hS4⟩ := rvVt_len t rows width (show t.ns.length ≤ 1048576 by omega) (show t.s.sets.length ≤ 1048576 by omega)
    rw [hS] at hS0 hS1 hS2 hS3 hS4
    have HC := hide hC
    have HS := hide hS
    clear hC hS
    have hne : ∀ y : Int, (y != y) = false := fun y => by simp
    have hgS : ¬ (1 + cntV S < 0) := by unfold cntV cntS; omega
    have hgs : ¬ (1 + cntV t < 0) := by unfold cntV cntS; omega
    have HRt := hide hrt
    have q0 : Below w.heap.size w (w.alloc (.cells (vtA t u v1 v2 v3 v4) 64)) := (by repeat' (first | with_reducible exact Below.refl _ _ | with_reducible assumption | with_reducible refine Below.drew ?_ | with_reducible refine Below.alloc ?_ ?_ _ | with_reducible refine Below.setCell ?_ ?_ _ | (simp; done) | (simp; omega) | omega))
    have hAt := Blk.new w (vtA t u v1 v2 v3 v4) 64
    go_enter Tryz.func6, Tryz.ntmps6
    go_wp2_with (first | fail | (refine wpList_load_at rfl 64 _ rfl (w.heap.size) 0 rfl _ (vtA t u v1 v2 v3 v4) hAt rfl _ Tryz.underlying64 rfl (by kernel_rfl) ?_; (try simp only [Act.put, List.setIfInBounds_toArray, List.set_cons_zero, List.set_cons_succ])))
    go_at_call 26
    refine (szVt_calls t u v1 v2 v3 v4 1048576 (by omega) (by omega) _ (hrt.below q0) hmt1 hmt2 hmt3 hmt4 hmt5).mono ?_
    rintro e w1 ⟨rfl, hb⟩
    replace hAt := hAt.belowb hb
    have z0 : w.heap.size + 1 ≤ w1.heap.size := by have := hb.size; simp at this; omega
    have b1 : Below w.heap.size w w1 := q0.trans (hb.mono q0.size)
    clear hb q0
    replace hrt := hrt.below b1
    rw [if_pos hsum0]
    have hge0 : ¬ ((1048576 - t.ns.length - t.s.cs.length - t.s.bs.length - t.s.tabs.length - t.s.sets.length) < 0) := by omega
    have hnt1 : t.ns.length ≤ 1048576 := by omega
    have hnt2 : t.s.cs.length ≤ 1048576 := by omega
    have hnt3 : t.s.bs.length ≤ 1048576 := by omega
    have hnt4 : t.s.tabs.length ≤ 1048576 := by omega
    have hnt5 : t.s.sets.length ≤ 1048576 := by omega
    go_wp2_with (first | fail | (refine wpList_load_at rfl 64 _ rfl (w.heap.size) 0 rfl _ (vtA t u v1 v2 v3 v4) hAt rfl _ Tryz.underlying64 rfl (by kernel_rfl) ?_; (try simp only [Act.put, List.setIfInBounds_toArray, List.set_cons_zero, List.set_cons_succ])))
    go_at_call 28
    refine (toVt_full t u v1 v2 v3 v4 _ hnt1 hnt2 hnt3 hnt4 hnt5 hrt).mono ?_
    rintro e w2 ⟨p1, p2, p3, p4, p5, rfl, k1, k2, k3, hp, hb⟩
    have z2 : w1.heap.size ≤ w2.heap.size := hb.size
    replace hAt := hAt.belowb hb
    replace hrt := hrt.below hb
    have b2 : Below w.heap.size w w2 := b1.trans (hb.mono (by omega))
    clear hb b1
    go_wp2_with fail
    go_at_call 38
    refine (rv_spec HC.out HS.out _ _ _ _ _ _ hnt1 hnt2 hnt3 hnt4 hnt5 k1 k2 k3 hp.read).mono ?_
    rintro e w3 ⟨j1, j2, j3, j4, j5, rfl, hj, hb⟩
    have z3 : w2.heap.size ≤ w3.heap.size := hb.size
    replace hAt := hAt.belowb hb
    replace hrt := hrt.below hb
    replace hp := hp.below hb (by omega)
    have b3 : Below w.heap.size w w3 := b2.trans (hb.mono (by omega))
    clear hb b2
    clear hp
    go_wp2_with (first | fail | (refine wpList_load_at rfl 64 _ rfl (w.heap.size) 0 rfl _ (vtA t u v1 v2 v3 v4) hAt rfl _ Tryz.underlying64 rfl (by kernel_rfl) ?_; (try simp only [Act.put, List.setIfInBounds_toArray, List.set_cons_zero, List.set_cons_succ])) | (refine wpList_store_blk rfl _ _ _ rfl (w3.heap.size) 0 (resVA 0 vt0 (.slice none 0 0) (.slice none 0 0) (.slice none 0 0) (.slice none 0 0) (.slice none 0 0)) (resVA c S j1 j2 j3 j4 j5) (.agg (resVA c S j1 j2 j3 j4 j5)) rfl rfl (Blk.new w3 _ _) rfl (by kernel_rfl) (resV_one hj.read) rfl ?_; (try simp only [Act.put, List.setIfInBounds_toArray, List.set_cons_zero, List.set_cons_succ]); intro w4 hJ hu; have hb : Below w3.heap.size w3 w4 := ((Below.refl _ w3).alloc (Nat.le_refl _) _).trans (hu.below (Nat.le_refl _)); have z4 : w3.heap.size + 1 = w4.heap.size := (by have := hu.size; simp at this; omega); clear hu; replace hAt := hAt.belowb hb) | (refine wpList_load_at rfl 72 _ rfl (w3.heap.size) 0 rfl _ (resVA c S j1 j2 j3 j4 j5) hJ rfl _ Tryz.underlying72 rfl (by kernel_rfl) ?_; (try simp only [Act.put, List.setIfInBounds_toArray, List.set_cons_zero, List.set_cons_succ])))
    replace hrt := hrt.below hb
    replace hj := hj.below hb (by omega)
    have b4 : Below w.heap.size w w4 := b3.trans (hb.mono (by omega))
    clear hb b3
    go_wp2_with (first | fail | (refine wpList_load_at rfl 64 _ rfl (w.heap.size) 0 rfl _ (vtA t u v1 v2 v3 v4) hAt rfl _ Tryz.underlying64 rfl (by kernel_rfl) ?_; (try simp only [Act.put, List.setIfInBounds_toArray, List.set_cons_zero, List.set_cons_succ])) | (refine wpList_load_at rfl 72 _ rfl (w3.heap.size) 0 rfl _ (resVA c S j1 j2 j3 j4 j5) hJ rfl _ Tryz.underlying72 rfl (by kernel_rfl) ?_; (try simp only [Act.put, List.setIfInBounds_toArray, List.set_cons_zero, List.set_cons_succ])))
    go_at_call 28
    refine (toVt_calls t u v1 v2 v3 v4 _ hnt1 hnt2 hnt3 hnt4 hnt5 hrt).mono ?_
    rintro e w5 ⟨q1, q2, q3, q4, q5, rfl, hq, hb⟩
    have z5 : w4.heap.size ≤ w5.heap.size := hb.size
    replace hAt := hAt.belowb hb
    replace hJ := hJ.belowb hb
    replace hrt := hrt.below hb
    replace hj := hj.below hb (by omega)
    have b5 : Below w.heap.size w w5 := b4.trans (hb.mono (by omega))
    clear hb b4
    go_wp2_with (first | fail | (refine wpList_load_at rfl 64 _ rfl (w.heap.size) 0 rfl _ (vtA t u v1 v2 v3 v4) hAt rfl _ Tryz.underlying64 rfl (by kernel_rfl) ?_; (try simp only [Act.put, List.setIfInBounds_toArray, List.set_cons_zero, List.set_cons_succ])) | (refine wpList_load_at rfl 72 _ rfl (w3.heap.size) 0 rfl _ (resVA c S j1 j2 j3 j4 j5) hJ rfl _ Tryz.underlying72 rfl (by kernel_rfl) ?_; (try simp only [Act.put, List.setIfInBounds_toArray, List.set_cons_zero, List.set_cons_succ])) | (refine wpList_store_blk rfl _ _ _ rfl (w5.heap.size) 0 (vtA vt0 (.slice none 0 0) (.slice none 0 0) (.slice none 0 0) (.slice none 0 0) (.slice none 0 0)) (vtA t q1 q2 q3 q4 q5) (.agg (vtA t q1 q2 q3 q4 q5)) rfl rfl (Blk.new w5 _ _) rfl (by kernel_rfl) (vt_one hq.read) rfl ?_; (try simp only [Act.put, List.setIfInBounds_toArray, List.set_cons_zero, List.set_cons_succ]); intro w6 hX hu; have hb : Below w5.heap.size w5 w6 := ((Below.refl _ w5).alloc (Nat.le_refl _) _).trans (hu.below (Nat.le_refl _)); have z6 : w5.heap.size + 1 = w6.heap.size := (by have := hu.size; simp at this; omega); clear hu; replace hAt := hAt.belowb hb; replace hJ := hJ.belowb hb) | (refine wpList_load_at rfl 70 _ rfl (w5.heap.size) 0 rfl _ (vtA t q1 q2 q3 q4 q5) hX rfl _ Tryz.underlying70 rfl (by kernel_rfl) ?_; (try simp only [Act.put, List.setIfInBounds_toArray, List.set_cons_zero, List.set_cons_succ])))
    replace hrt := hrt.below hb
    replace hj := hj.below hb (by omega)
    replace hq := hq.below hb (by omega)
    have b6 : Below w.heap.size w w6 := b5.trans (hb.mono (by omega))
    clear hb b5
    go_wp2_with (first | fail | (refine wpList_load_at rfl 64 _ rfl (w.heap.size) 0 rfl _ (vtA t u v1 v2 v3 v4) hAt rfl _ Tryz.underlying64 rfl (by kernel_rfl) ?_; (try simp only [Act.put, List.setIfInBounds_toArray, List.set_cons_zero, List.set_cons_succ])) | (refine wpList_load_at rfl 72 _ rfl (w3.heap.size) 0 rfl _ (resVA c S j1 j2 j3 j4 j5) hJ rfl _ Tryz.underlying72 rfl (by kernel_rfl) ?_; (try simp only [Act.put, List.setIfInBounds_toArray, List.set_cons_zero, List.set_cons_succ])) | (refine wpList_load_at rfl 70 _ rfl (w5.heap.size) 0 rfl _ (vtA t q1 q2 q3 q4 q5) hX rfl _ Tryz.underlying70 rfl (by kernel_rfl) ?_; (try simp only [Act.put, List.setIfInBounds_toArray, List.set_cons_zero, List.set_cons_succ])))
    go_at_call 39
    refine (rv_impl HC.out HS.out _ _ _ _ _ _ hnt1 hnt2 hnt3 hnt4 hnt5 hq.read).mono ?_
    rintro e w7 ⟨g1, g2, g3, g4, g5, rfl, hg, hb⟩
    have z7 : w6.heap.size ≤ w7.heap.size := hb.size
    replace hAt := hAt.belowb hb
    replace hJ := hJ.belowb hb
    replace hX := hX.belowb hb
    replace hrt := hrt.below hb
    replace hj := hj.below hb (by omega)
    replace hq := hq.below hb (by omega)
    have b7 : Below w.heap.size w w7 := b6.trans (hb.mono (by omega))
    clear hb b6
    go_wp2_with (first | fail | (refine wpList_load_at rfl 64 _ rfl (w.heap.size) 0 rfl _ (vtA t u v1 v2 v3 v4) hAt rfl _ Tryz.underlying64 rfl (by kernel_rfl) ?_; (try simp only [Act.put, List.setIfInBounds_toArray, List.set_cons_zero, List.set_cons_succ])) | (refine wpList_load_at rfl 72 _ rfl (w3.heap.size) 0 rfl _ (resVA c S j1 j2 j3 j4 j5) hJ rfl _ Tryz.underlying72 rfl (by kernel_rfl) ?_; (try simp only [Act.put, List.setIfInBounds_toArray, List.set_cons_zero, List.set_cons_succ])) | (refine wpList_load_at rfl 70 _ rfl (w5.heap.size) 0 rfl _ (vtA t q1 q2 q3 q4 q5) hX rfl _ Tryz.underlying70 rfl (by kernel_rfl) ?_; (try simp only [Act.put, List.setIfInBounds_toArray, List.set_cons_zero, List.set_cons_succ])) | (refine wpList_store_blk rfl _ _ _ rfl (w7.heap.size) 0 (resVA 0 vt0 (.slice none 0 0) (.slice none 0 0) (.slice none 0 0) (.slice none 0 0) (.slice none 0 0)) (resVA c S g1 g2 g3 g4 g5) (.agg (resVA c S g1 g2 g3 g4 g5)) rfl rfl (Blk.new w7 _ _) rfl (by kernel_rfl) (resV_one hg.read) rfl ?_; (try simp only [Act.put, List.setIfInBounds_toArray, List.set_cons_zero, List.set_cons_succ]); intro w8 hG hu; have hb : Below w7.heap.size w7 w8 := ((Below.refl _ w7).alloc (Nat.le_refl _) _).trans (hu.below (Nat.le_refl _)); have z8 : w7.heap.size + 1 = w8.heap.size := (by have := hu.size; simp at this; omega); clear hu; replace hAt := hAt.belowb hb; replace hJ := hJ.belowb hb; replace hX := hX.belowb hb) | (refine wpList_load_at rfl 72 _ rfl (w7.heap.size) 0 rfl _ (resVA c S g1 g2 g3 g4 g5) hG rfl _ Tryz.underlying72 rfl (by kernel_rfl) ?_; (try simp only [Act.put, List.setIfInBounds_toArray, List.set_cons_zero, List.set_cons_succ])))
    replace hrt := hrt.below hb
    replace hj := hj.below hb (by omega)
    replace hq := hq.below hb (by omega)
    replace hg := hg.below hb (by omega)
    have b8 : Below w.heap.size w w8 := b7.trans (hb.mono (by omega))
    clear hb b7
    go_at_call 31
    refine (eqVtResult_calls c S _ _ _ _ _ _ _ _ _ _ _ hS0 hS1 hS2 hS3 hS4 hg.read hj.read).mono ?_
    rintro e w9 ⟨rfl, hb⟩
    have z9 : w8.heap.size ≤ w9.heap.size := hb.size
    replace hAt := hAt.belowb hb
    replace hJ := hJ.belowb hb
    replace hX := hX.belowb hb
    replace hG := hG.belowb hb
    replace hrt := hrt.below hb
    replace hj := hj.below hb (by omega)
    replace hq := hq.below hb (by omega)
    replace hg := hg.below hb (by omega)
    have b9 : Below w.heap.size w w9 := b8.trans (hb.mono (by omega))
    clear hb b8
    go_wp2_with fail
    have hd : Below w9.heap.size w9 w9.drew := Below.drew (Below.refl _ _)
    have ra := hrt.below hd
    have rx := hq.read.below hd
    refine wp_region_held_drew (S := (fun w' => Below w9.heap.size w9 w' ∧ Blk w' (w.heap.size) (vtA t u v1 v2 v3 v4) ∧ Blk w' (w5.heap.size) (vtA t q1 q2 q3 q4 q5))) (by kernel_rfl) ?_ (fun hHeld => ?_)
    · (try dsimp only); exact ⟨hd, hAt, hX⟩
    refine wpAnyH_take (i := 0) (oi := ⟨_, _, _, _, _, _⟩) (v := .agg (vtA t q1 q2 q3 q4 q5)) rfl (by kernel_rfl) (by kernel_rfl) (by kernel_rfl) (fun _ _ _ h => h) (Or.inl ⟨by rfl, ?_⟩) hHeld ?_
    · intro w hSw
      (try dsimp only at hSw)
      have hx := run_loadVar_at (P := Tryz.prog) (o := 0) (ty := 70) (vs := (vtA t q1 q2 q3 q4 q5)) hSw.2.2 rfl Tryz.underlying70 rfl (by kernel_rfl)
      exact run_execLoad _ _ rfl _ _ rfl _ hx
    try simp only [Act.put, List.setIfInBounds_toArray, List.set_cons_zero, List.set_cons_succ]
    refine wpAnyH_take (i := 1) (oi := ⟨_, _, _, _, _, _⟩) (v := .agg (vtA t u v1 v2 v3 v4)) rfl (by kernel_rfl) (by kernel_rfl) (by kernel_rfl) (fun _ _ _ h => h) (Or.inl ⟨by rfl, ?_⟩) hHeld ?_
    · intro w hSw
      (try dsimp only at hSw)
      have hx := run_loadVar_at (P := Tryz.prog) (o := 0) (ty := 64) (vs := (vtA t u v1 v2 v3 v4)) hSw.2.1 rfl Tryz.underlying64 rfl (by kernel_rfl)
      exact run_execLoad _ _ rfl _ _ rfl _ hx
    try simp only [Act.put, List.setIfInBounds_toArray, List.set_cons_zero, List.set_cons_succ]
    refine wpAnyH_ready (rs := [2]) (by kernel_rfl) (by simp) ?_
    refine AllReadyH.cons (o := ⟨_, _, _, _, _, _⟩) rfl (fun K hK => ?_) AllReadyH.nil
    go_simp
    go_at_call 28
    refine (toVt_calls t u v1 v2 v3 v4 _ hnt1 hnt2 hnt3 hnt4 hnt5 ra).mono ?_
    rintro e y10_1 ⟨y1, y2, y3, y4, y5, rfl, hya, hb1⟩
    have r1 := hya.read
    replace rx := rx.below hb1
    clear hya
    try go_wp2_with fail
    refine hK.out _ _ ?_ ?_
    · (try dsimp only); exact ⟨hHeld.1.trans (hb1.mono hHeld.1.size), hHeld.2.1.belowb hb1, hHeld.2.2.belowb hb1⟩
    clear hHeld hK K
    intro hHeld
    try simp only [Act.put, List.setIfInBounds_toArray, List.set_cons_zero, List.set_cons_succ]
    refine wpAnyH_ready (rs := [3]) (by kernel_rfl) (by simp) ?_
    refine AllReadyH.cons (o := ⟨_, _, _, _, _, _⟩) rfl (fun K hK => ?_) AllReadyH.nil
    go_simp
    go_at_call 32
    refine (eqVt_calls t _ _ _ _ _ _ _ _ _ _ _ hnt1 hnt2 hnt3 hnt4 hnt5 rx r1).mono ?_
    rintro e w10 ⟨rfl, hb3⟩
    try go_wp2_with fail
    refine hK.out _ _ ?_ ?_
    · (try dsimp only); exact ⟨hHeld.1.trans (hb3.mono hHeld.1.size), hHeld.2.1.belowb hb3, hHeld.2.2.belowb hb3⟩
    clear hHeld hK K
    intro hHeld
    try simp only [Act.put, List.setIfInBounds_toArray, List.set_cons_zero, List.set_cons_succ]
    refine wpAnyH_take (i := 4) (oi := ⟨_, _, _, _, _, _⟩) (v := ?_) rfl (by kernel_rfl) (by kernel_rfl) (by kernel_rfl) (fun _ _ _ h => h) (Or.inl ⟨by rfl, ?_⟩) hHeld ?_
    rotate_left
    · (intro w hSw; (try dsimp only at hSw); go_simp; try (with_reducible rfl))
    try simp only [Act.put, List.setIfInBounds_toArray, List.set_cons_zero, List.set_cons_succ]
    refine wpAnyH_done (by kernel_rfl) ?_ _
    have hb := hHeld.1
    clear hHeld ra rx r1 hb1 hb3 hd
    have z10 : w9.heap.size ≤ w10.heap.size := hb.size
    replace hAt := hAt.belowb hb
    replace hJ := hJ.belowb hb
    replace hX := hX.belowb hb
    replace hG := hG.belowb hb
    replace hrt := hrt.below hb
    replace hj := hj.below hb (by omega)
    replace hq := hq.below hb (by omega)
    replace hg := hg.below hb (by omega)
    have b10 : Below w.heap.size w w10 := b9.trans (hb.mono (by omega))
    clear hb b9
    go_wp2_with (first | fail | (refine wpList_load_at rfl 64 _ rfl (w.heap.size) 0 rfl _ (vtA t u v1 v2 v3 v4) hAt rfl _ Tryz.underlying64 rfl (by kernel_rfl) ?_; (try simp only [Act.put, List.setIfInBounds_toArray, List.set_cons_zero, List.set_cons_succ])) | (refine wpList_load_at rfl 72 _ rfl (w3.heap.size) 0 rfl _ (resVA c S j1 j2 j3 j4 j5) hJ rfl _ Tryz.underlying72 rfl (by kernel_rfl) ?_; (try simp only [Act.put, List.setIfInBounds_toArray, List.set_cons_zero, List.set_cons_succ])) | (refine wpList_load_at rfl 70 _ rfl (w5.heap.size) 0 rfl _ (vtA t q1 q2 q3 q4 q5) hX rfl _ Tryz.underlying70 rfl (by kernel_rfl) ?_; (try simp only [Act.put, List.setIfInBounds_toArray, List.set_cons_zero, List.set_cons_succ])) | (refine wpList_load_at rfl 72 _ rfl (w7.heap.size) 0 rfl _ (resVA c S g1 g2 g3 g4 g5) hG rfl _ Tryz.underlying72 rfl (by kernel_rfl) ?_; (try simp only [Act.put, List.setIfInBounds_toArray, List.set_cons_zero, List.set_cons_succ])))
    go_at_call 34
    refine (markVt_calls t 1 w4.heap.size w5.heap.size _ _ _ _ _ _ hnt1 hnt2 hnt3 hnt4 hnt5 hnt1 (by omega) (by omega) (by omega) hq).mono ?_
    rintro e w11 ⟨rfl, hm, hb⟩
    have z11 : w10.heap.size ≤ w11.heap.size := hb.size
    replace hAt := hAt.within hb (by omega)
    replace hJ := hJ.within hb (by omega)
    replace hX := hX.within hb (by omega)
    replace hG := hG.within hb (by omega)
    replace hj := hj.within hb (by omega) (by omega)
    replace hg := hg.within hb (by omega) (by omega)
    have b11 : Below w.heap.size w w11 := b10.trans (hb.below (by omega) (by omega))
    clear hb hq b10
    replace hrt := HRt.out.below b11
    clear hm
    go_wp2_with (first | fail | (refine wpList_load_at rfl 64 _ rfl (w.heap.size) 0 rfl _ (vtA t u v1 v2 v3 v4) hAt rfl _ Tryz.underlying64 rfl (by kernel_rfl) ?_; (try simp only [Act.put, List.setIfInBounds_toArray, List.set_cons_zero, List.set_cons_succ])) | (refine wpList_load_at rfl 72 _ rfl (w3.heap.size) 0 rfl _ (resVA c S j1 j2 j3 j4 j5) hJ rfl _ Tryz.underlying72 rfl (by kernel_rfl) ?_; (try simp only [Act.put, List.setIfInBounds_toArray, List.set_cons_zero, List.set_cons_succ])) | (refine wpList_load_at rfl 70 _ rfl (w5.heap.size) 0 rfl _ (vtA t q1 q2 q3 q4 q5) hX rfl _ Tryz.underlying70 rfl (by kernel_rfl) ?_; (try simp only [Act.put, List.setIfInBounds_toArray, List.set_cons_zero, List.set_cons_succ])) | (refine wpList_load_at rfl 72 _ rfl (w7.heap.size) 0 rfl _ (resVA c S g1 g2 g3 g4 g5) hG rfl _ Tryz.underlying72 rfl (by kernel_rfl) ?_; (try simp only [Act.put, List.setIfInBounds_toArray, List.set_cons_zero, List.set_cons_succ])))
    go_at_call 31
    refine (eqVtResult_calls c S _ _ _ _ _ _ _ _ _ _ _ hS0 hS1 hS2 hS3 hS4 hg.read hj.read).mono ?_
    rintro e w12 ⟨rfl, hb⟩
    have z12 : w11.heap.size ≤ w12.heap.size := hb.size
    replace hAt := hAt.belowb hb
    replace hJ := hJ.belowb hb
    replace hX := hX.belowb hb
    replace hG := hG.belowb hb
    replace hrt := hrt.below hb
    replace hj := hj.below hb (by omega)
    replace hg := hg.below hb (by omega)
    have b12 : Below w.heap.size w w12 := b11.trans (hb.mono (by omega))
    clear hb b11
    go_wp2_with (first | fail | (refine wpList_load_at rfl 64 _ rfl (w.heap.size) 0 rfl _ (vtA t u v1 v2 v3 v4) hAt rfl _ Tryz.underlying64 rfl (by kernel_rfl) ?_; (try simp only [Act.put, List.setIfInBounds_toArray, List.set_cons_zero, List.set_cons_succ])) | (refine wpList_load_at rfl 72 _ rfl (w3.heap.size) 0 rfl _ (resVA c S j1 j2 j3 j4 j5) hJ rfl _ Tryz.underlying72 rfl (by kernel_rfl) ?_; (try simp only [Act.put, List.setIfInBounds_toArray, List.set_cons_zero, List.set_cons_succ])) | (refine wpList_load_at rfl 70 _ rfl (w5.heap.size) 0 rfl _ (vtA t q1 q2 q3 q4 q5) hX rfl _ Tryz.underlying70 rfl (by kernel_rfl) ?_; (try simp only [Act.put, List.setIfInBounds_toArray, List.set_cons_zero, List.set_cons_succ])) | (refine wpList_load_at rfl 72 _ rfl (w7.heap.size) 0 rfl _ (resVA c S g1 g2 g3 g4 g5) hG rfl _ Tryz.underlying72 rfl (by kernel_rfl) ?_; (try simp only [Act.put, List.setIfInBounds_toArray, List.set_cons_zero, List.set_cons_succ])))
    go_at_call 36
    refine (markVtResult_calls c S 1 w6.heap.size w7.heap.size _ _ _ _ _ _ hS0 hS1 hS2 hS3 hS4 hS0 (by omega) (by omega) (by omega) hg).mono ?_
    rintro e w13 ⟨rfl, hm, hb⟩
    have z13 : w12.heap.size ≤ w13.heap.size := hb.size
    replace hAt := hAt.within hb (by omega)
    replace hJ := hJ.within hb (by omega)
    replace hX := hX.within hb (by omega)
    replace hG := hG.within hb (by omega)
    replace hj := hj.within hb (by omega) (by omega)
    have b13 : Below w.heap.size w w13 := b12.trans (hb.below (by omega) (by omega))
    clear hb hg b12
    replace hrt := HRt.out.below b13
    have hg := hm
    clear hm
    go_wp2_with (first | fail | (refine wpList_load_at rfl 64 _ rfl (w.heap.size) 0 rfl _ (vtA t u v1 v2 v3 v4) hAt rfl _ Tryz.underlying64 rfl (by kernel_rfl) ?_; (try simp only [Act.put, List.setIfInBounds_toArray, List.set_cons_zero, List.set_cons_succ])) | (refine wpList_load_at rfl 72 _ rfl (w3.heap.size) 0 rfl _ (resVA c S j1 j2 j3 j4 j5) hJ rfl _ Tryz.underlying72 rfl (by kernel_rfl) ?_; (try simp only [Act.put, List.setIfInBounds_toArray, List.set_cons_zero, List.set_cons_succ])) | (refine wpList_load_at rfl 70 _ rfl (w5.heap.size) 0 rfl _ (vtA t q1 q2 q3 q4 q5) hX rfl _ Tryz.underlying70 rfl (by kernel_rfl) ?_; (try simp only [Act.put, List.setIfInBounds_toArray, List.set_cons_zero, List.set_cons_succ])) | (refine wpList_load_at rfl 72 _ rfl (w7.heap.size) 0 rfl _ (resVA c S g1 g2 g3 g4 g5) hG rfl _ Tryz.underlying72 rfl (by kernel_rfl) ?_; (try simp only [Act.put, List.setIfInBounds_toArray, List.set_cons_zero, List.set_cons_succ])))
    go_at_call 37
    refine (heldVtResult_calls c S 1 _ _ _ _ _ _ hS0 hS1 hS2 hS3 hS4 hS0 (by omega) (by omega) hg.read).mono ?_
    rintro e w14 ⟨rfl, hb⟩
    have z14 : w13.heap.size ≤ w14.heap.size := hb.size
    replace hAt := hAt.belowb hb
    replace hJ := hJ.belowb hb
    replace hX := hX.belowb hb
    replace hG := hG.belowb hb
    replace hrt := hrt.below hb
    replace hj := hj.below hb (by omega)
    replace hg := hg.below hb (by omega)
    have b14 : Below w.heap.size w w14 := b13.trans (hb.mono (by omega))
    clear hb b13
    go_wp2_with (first | fail | (refine wpList_load_at rfl 64 _ rfl (w.heap.size) 0 rfl _ (vtA t u v1 v2 v3 v4) hAt rfl _ Tryz.underlying64 rfl (by kernel_rfl) ?_; (try simp only [Act.put, List.setIfInBounds_toArray, List.set_cons_zero, List.set_cons_succ])) | (refine wpList_load_at rfl 72 _ rfl (w3.heap.size) 0 rfl _ (resVA c S j1 j2 j3 j4 j5) hJ rfl _ Tryz.underlying72 rfl (by kernel_rfl) ?_; (try simp only [Act.put, List.setIfInBounds_toArray, List.set_cons_zero, List.set_cons_succ])) | (refine wpList_load_at rfl 70 _ rfl (w5.heap.size) 0 rfl _ (vtA t q1 q2 q3 q4 q5) hX rfl _ Tryz.underlying70 rfl (by kernel_rfl) ?_; (try simp only [Act.put, List.setIfInBounds_toArray, List.set_cons_zero, List.set_cons_succ])) | (refine wpList_load_at rfl 72 _ rfl (w7.heap.size) 0 rfl _ (resVA c S g1 g2 g3 g4 g5) hG rfl _ Tryz.underlying72 rfl (by kernel_rfl) ?_; (try simp only [Act.put, List.setIfInBounds_toArray, List.set_cons_zero, List.set_cons_succ])))
    go_at_call 28
    refine (toVt_calls t u v1 v2 v3 v4 _ hnt1 hnt2 hnt3 hnt4 hnt5 hrt).mono ?_
    rintro e w15 ⟨y1, y2, y3, y4, y5, rfl, hq', hb⟩
    have z15 : w14.heap.size ≤ w15.heap.size := hb.size
    replace hAt := hAt.belowb hb
    replace hJ := hJ.belowb hb
    replace hX := hX.belowb hb
    replace hG := hG.belowb hb
    replace hrt := hrt.below hb
    replace hj := hj.below hb (by omega)
    replace hg := hg.below hb (by omega)
    have b15 : Below w.heap.size w w15 := b14.trans (hb.mono (by omega))
    clear hb b14
    go_wp2_with fail
    go_at_call 39
    refine (rv_impl HC.out HS.out _ _ _ _ _ _ hnt1 hnt2 hnt3 hnt4 hnt5 hq'.read).mono ?_
    rintro e w16 ⟨u1, u2, u3, u4, u5, rfl, hu, hb⟩
    have z16 : w15.heap.size ≤ w16.heap.size := hb.size
    replace hAt := hAt.belowb hb
    replace hJ := hJ.belowb hb
    replace hX := hX.belowb hb
    replace hG := hG.belowb hb
    replace hrt := hrt.below hb
    replace hj := hj.below hb (by omega)
    replace hg := hg.below hb (by omega)
    replace hq' := hq'.below hb (by omega)
    have b16 : Below w.heap.size w w16 := b15.trans (hb.mono (by omega))
    clear hb b15
    clear hq'
    go_wp2_with (first | fail | (refine wpList_load_at rfl 64 _ rfl (w.heap.size) 0 rfl _ (vtA t u v1 v2 v3 v4) hAt rfl _ Tryz.underlying64 rfl (by kernel_rfl) ?_; (try simp only [Act.put, List.setIfInBounds_toArray, List.set_cons_zero, List.set_cons_succ])) | (refine wpList_load_at rfl 72 _ rfl (w3.heap.size) 0 rfl _ (resVA c S j1 j2 j3 j4 j5) hJ rfl _ Tryz.underlying72 rfl (by kernel_rfl) ?_; (try simp only [Act.put, List.setIfInBounds_toArray, List.set_cons_zero, List.set_cons_succ])) | (refine wpList_load_at rfl 70 _ rfl (w5.heap.size) 0 rfl _ (vtA t q1 q2 q3 q4 q5) hX rfl _ Tryz.underlying70 rfl (by kernel_rfl) ?_; (try simp only [Act.put, List.setIfInBounds_toArray, List.set_cons_zero, List.set_cons_succ])) | (refine wpList_load_at rfl 72 _ rfl (w7.heap.size) 0 rfl _ (resVA c S g1 g2 g3 g4 g5) hG rfl _ Tryz.underlying72 rfl (by kernel_rfl) ?_; (try simp only [Act.put, List.setIfInBounds_toArray, List.set_cons_zero, List.set_cons_succ])) | (refine wpList_store_blk rfl _ _ _ rfl (w16.heap.size) 0 (resVA 0 vt0 (.slice none 0 0) (.slice none 0 0) (.slice none 0 0) (.slice none 0 0) (.slice none 0 0)) (resVA c S u1 u2 u3 u4 u5) (.agg (resVA c S u1 u2 u3 u4 u5)) rfl rfl (Blk.new w16 _ _) rfl (by kernel_rfl) (resV_one hu.read) rfl ?_; (try simp only [Act.put, List.setIfInBounds_toArray, List.set_cons_zero, List.set_cons_succ]); intro w17 hU hu; have hb : Below w16.heap.size w16 w17 := ((Below.refl _ w16).alloc (Nat.le_refl _) _).trans (hu.below (Nat.le_refl _)); have z17 : w16.heap.size + 1 = w17.heap.size := (by have := hu.size; simp at this; omega); clear hu; replace hAt := hAt.belowb hb; replace hJ := hJ.belowb hb; replace hX := hX.belowb hb; replace hG := hG.belowb hb) | (refine wpList_load_at rfl 72 _ rfl (w16.heap.size) 0 rfl _ (resVA c S u1 u2 u3 u4 u5) hU rfl _ Tryz.underlying72 rfl (by kernel_rfl) ?_; (try simp only [Act.put, List.setIfInBounds_toArray, List.set_cons_zero, List.set_cons_succ])))
    replace hrt := hrt.below hb
    replace hj := hj.below hb (by omega)
    replace hg := hg.below hb (by omega)
    replace hu := hu.below hb (by omega)
    have b17 : Below w.heap.size w w17 := b16.trans (hb.mono (by omega))
    clear hb b16
    go_at_call 31
    refine (eqVtResult_calls c S _ _ _ _ _ _ _ _ _ _ _ hS0 hS1 hS2 hS3 hS4 hu.read hj.read).mono ?_
    rintro e w18 ⟨rfl, hb⟩
    have z18 : w17.heap.size ≤ w18.heap.size := hb.size
    replace hAt := hAt.belowb hb
    replace hJ := hJ.belowb hb
    replace hX := hX.belowb hb
    replace hG := hG.belowb hb
    replace hU := hU.belowb hb
    replace hrt := hrt.below hb
    replace hj := hj.below hb (by omega)
    replace hg := hg.below hb (by omega)
    replace hu := hu.below hb (by omega)
    have b18 : Below w.heap.size w w18 := b17.trans (hb.mono (by omega))
    clear hb b17
    go_wp2_with (first | fail | (refine wpList_load_at rfl 64 _ rfl (w.heap.size) 0 rfl _ (vtA t u v1 v2 v3 v4) hAt rfl _ Tryz.underlying64 rfl (by kernel_rfl) ?_; (try simp only [Act.put, List.setIfInBounds_toArray, List.set_cons_zero, List.set_cons_succ])) | (refine wpList_load_at rfl 72 _ rfl (w3.heap.size) 0 rfl _ (resVA c S j1 j2 j3 j4 j5) hJ rfl _ Tryz.underlying72 rfl (by kernel_rfl) ?_; (try simp only [Act.put, List.setIfInBounds_toArray, List.set_cons_zero, List.set_cons_succ])) | (refine wpList_load_at rfl 70 _ rfl (w5.heap.size) 0 rfl _ (vtA t q1 q2 q3 q4 q5) hX rfl _ Tryz.underlying70 rfl (by kernel_rfl) ?_; (try simp only [Act.put, List.setIfInBounds_toArray, List.set_cons_zero, List.set_cons_succ])) | (refine wpList_load_at rfl 72 _ rfl (w7.heap.size) 0 rfl _ (resVA c S g1 g2 g3 g4 g5) hG rfl _ Tryz.underlying72 rfl (by kernel_rfl) ?_; (try simp only [Act.put, List.setIfInBounds_toArray, List.set_cons_zero, List.set_cons_succ])) | (refine wpList_load_at rfl 72 _ rfl (w16.heap.size) 0 rfl _ (resVA c S u1 u2 u3 u4 u5) hU rfl _ Tryz.underlying72 rfl (by kernel_rfl) ?_; (try simp only [Act.put, List.setIfInBounds_toArray, List.set_cons_zero, List.set_cons_succ])))
    go_at_call 37
    refine (heldVtResult_calls c S 1 _ _ _ _ _ _ hS0 hS1 hS2 hS3 hS4 hS0 (by omega) (by omega) hg.read).mono ?_
    rintro e w19 ⟨rfl, hb⟩
    have z19 : w18.heap.size ≤ w19.heap.size := hb.size
    replace hAt := hAt.belowb hb
    replace hJ := hJ.belowb hb
    replace hX := hX.belowb hb
    replace hG := hG.belowb hb
    replace hU := hU.belowb hb
    replace hrt := hrt.below hb
    replace hj := hj.below hb (by omega)
    replace hg := hg.below hb (by omega)
    replace hu := hu.below hb (by omega)
    have b19 : Below w.heap.size w w19 := b18.trans (hb.mono (by omega))
    clear hb b18
    go_wp2
    go_ret
    exact ⟨rfl, b19⟩
  · have q0 : Below w.heap.size w (w.alloc (.cells (vtA t u v1 v2 v3 v4) 64)) := (by repeat' (first | with_reducible exact Below.refl _ _ | with_reducible assumption | with_reducible refine Below.drew ?_ | with_reducible refine Below.alloc ?_ ?_ _ | with_reducible refine Below.setCell ?_ ?_ _ | (simp; done) | (simp; omega) | omega))
    have hAt := Blk.new w (vtA t u v1 v2 v3 v4) 64
    go_enter Tryz.func6, Tryz.ntmps6
    go_wp2_with (first | fail | (refine wpList_load_at rfl 64 _ rfl (w.heap.size) 0 rfl _ (vtA t u v1 v2 v3 v4) hAt rfl _ Tryz.underlying64 rfl (by kernel_rfl) ?_; (try simp only [Act.put, List.setIfInBounds_toArray, List.set_cons_zero, List.set_cons_succ])))
    go_at_call 26
    refine (szVt_calls t u v1 v2 v3 v4 1048576 (by omega) (by omega) _ (hrt.below q0) hmt1 hmt2 hmt3 hmt4 hmt5).mono ?_
    rintro e w1 ⟨rfl, hb⟩
    replace hAt := hAt.belowb hb
    have b1 : Below w.heap.size w w1 := q0.trans (hb.mono q0.size)
    clear hb q0
    rw [if_neg (by omega)]
    go_wp2
    go_ret
    exact ⟨rfl, b1⟩

theorem lawRV_laid : laidOutB Tryz.prog = true := by kernel_rfl
theorem lawRV_own : ownKnob Tryz.prog.godebug = none := by kernel_rfl
set_option maxRecDepth 100000 in
theorem lawRV_lifted (os : Os) (started : os.Started) (H : Type) (enc : TypeId × Value → H) :
    ReturnsInHanded {} Tryz.checked os 6 .any (Rows.fnExactResizeVtSpec.pre6 enc Tryz.prog Tryz.f6 Rows.fnExactResizeVtRow.domain false) (Rows.fnExactResizeVtSpec.post enc Tryz.prog Tryz.f6 false true false false) := by
  refine returnsInHanded_of_change (C := Tryz.checked) lawRV_own started (by kernel_rfl) Tryz.func6
    (ChangeSpec.witness6 (enc := enc) (C := Tryz.checked) false ⟨#[], #[.agg #[.int .i64 0, .int .i64 0, .int .i64 0, .int .i64 0, .int .i64 0, .bool false, .slice none 0 0, .int .i64 0, .int .i64 0, .slice none 0 0, .slice none 0 0, .int .i64 0, .int .i64 0, .bool false, .int .i64 0, .int .i64 0, .int .i64 0, .bool false, .bool false, .bool false, .slice none 0 0, .int .i64 0, .int .i64 0, .int .i64 0, .slice none 0 0, .int .i64 0, .int .i64 0], .int .i64 0, .int .i64 0], []⟩ 8 (by kernel_rfl) (by kernel_rfl) (by kernel_rfl) (by kernel_rfl)) ?_
  intro W base args ds gs before hval0 hW hcnd _
  have hval : ∀ (j : Nat) t v, Tryz.f6.params[j]? = some t → args[j]? = some v → Value.okWide Tryz.prog W .any base t v := hval0
  have hW' := hW
  obtain ⟨p, q, hA0, hV, rfl, hfz, hnd⟩ := hW
  have hA : DataW.TrodAll enc Tryz.prog W 0 (fun _ => true) true Tryz.f6.params.toList args.toList ds p := hA0
  rw [Tryz.params6] at hA hval
  obtain ⟨z0, z1, z2, d0, d1, d2, p0, p1, p2, rfl, rfl, rfl, h0, h1, h2⟩ := trodAll_three hA
  obtain ⟨rfl, rfl⟩ := trodVars_none hV
  have k0 := h0
  have lt0 : ∀ x ∈ p0, x.block < W.heap.size := by obtain ⟨m, hm⟩ := k0; exact DataW.trod_lt m _ _ _ hm
  obtain ⟨t, u, v1, v2, v3, v4, rfl, hrt, hmt1, hmt2, hmt3, hmt4, hmt5⟩ := open_vt (hval 0 64 z0 rfl rfl) h0
  obtain ⟨rows, rfl, rfl, rfl, wi0⟩ := open_int Tryz.underlying2 (hval 1 2 z1 rfl rfl) h1
  obtain ⟨width, rfl, rfl, rfl, wi1⟩ := open_int Tryz.underlying2 (hval 2 2 z2 rfl rfl) h2
  clear hA0 hval0

  refine (lawRV_walk t u v1 v2 v3 v4 rows width W hrt hmt1 hmt2 hmt3 hmt4 hmt5).mono fun e W' ⟨he, bel⟩ => ?_
  subst he
  exact ⟨_, rfl, _, _, _, [], _, [], hW', trodAll_mk1 (shut_bool Tryz.underlying4 _), trodAll_mk3 (Below.trod lawRV_laid (by kernel_rfl) (of_decide_eq_true (by kernel_rfl)) k0 bel lt0) (shut_int Tryz.underlying2 wi0) (shut_int Tryz.underlying2 wi1), rfl, bel.frame _, fun h => by cases h⟩

theorem lawRV_over : Rows.fnExactResizeVtRow.holds Tryz.pinned (OpenSpec.ofChange Rows.fnExactResizeVtSpec) :=
  OpenClaim.holds_of_wide 6 Tryz.f6 rfl rfl rfl rfl rfl rfl rfl ⟨rfl, rfl, rfl, rfl, rfl⟩ rfl rfl rfl rfl rfl (by kernel_rfl) Tryz.func6 (by kernel_rfl)
    (of_decide_eq_true (by kernel_rfl)) (by unfold Func.isWrapper; first | (rw [if_pos (by decide +kernel)]; kernel_rfl) | (rw [if_neg (by decide +kernel)]; exact ⟨rfl, rfl⟩))
    (fun os started H enc _ => lawRV_lifted os started H enc)

theorem lawRV_proved : Rows.FnExactResizeVtSaid := lawRV_over
#print axioms lawRV_proved
end Go.Proofs.YtdekegjplegkeaaGreat
