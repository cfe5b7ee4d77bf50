/-
  What GridFault answers, of the program and of the model: isFromTo, isAttr, isCell, areCells, isSize, GridFault; l1In, l3Cell, l3Size, l3Cells, l3Fault, GridFault.
-/
import Derived.Test.YtknkbihjboadjaaDoorRows
import Derived.Test.YtknkbihjboadjaaDoorPairMem
import Derived.Test.YtknkbihjboadjaaDoorRangeFns
import Derived.WalkKit
import Derived.ProofKit
import Derived.OpenShut
import Derived.Below
import Derived.OwnWalk
import Derived.WalkSpells
import Derived.Deep.QuietTactic
import Derived.BigQuiet
import Derived.Deep.RegionHeld3
namespace Go.Proofs.YtknkbihjboadjaaDoor
set_option maxRecDepth 20000
open Go.ChangeShapes Go.WideShapes Go.ChangeAt Go.RowKit
set_option linter.unusedVariables false
set_option linter.unusedSimpArgs false

def atB (a : Int) : Bool := decide (0 ≤ a ∧ a ≤ 31)
def cellB (p : Int × Int) : Bool := chB p.1 && (decide (32 ≤ p.1) && (decide (p.1 ≠ 127) && atB p.2))
def sizeB (r wd : Int) : Bool := decide (1 ≤ r ∧ r ≤ 6) && decide (2 ≤ wd ∧ wd ≤ 12)
def allC (cs : List (Int × Int)) (k : Nat) : Bool := (cs.drop k).all cellB
def gridCode (r wd : Int) (cs bs : List (Int × Int)) : Int :=
  if sizeB r wd = false then 3 else if (cs.length : Int) ≠ r * wd then 1 else if 5 * wd < (bs.length : Int) then 1 else if (bs.length : Int) % wd ≠ 0 then 1 else
    if allC cs 0 = false then 3 else if allC bs 0 = false then 3 else 0

theorem allC_end {cs : List (Int × Int)} {k : Nat} (h : ¬ k < cs.length) : allC cs k = true := by unfold allC; rw [List.drop_eq_nil_of_le (by omega)]; rfl
theorem allC_step {cs : List (Int × Int)} {k : Nat} (h : k < cs.length) : allC cs k = (cellB (cs.getD k (0, 0)) && allC cs (k + 1)) := by
  unfold allC
  rw [List.drop_eq_getElem_cons h, List.all_cons]
  simp [List.getD_eq_getElem?_getD, h]
theorem size_mul {r wd : Int} (h : sizeB r wd = true) : 1 ≤ r ∧ r ≤ 6 ∧ 2 ≤ wd ∧ wd ≤ 12 ∧ wd ≤ r * wd ∧ r * wd ≤ 6 * wd := by
  unfold sizeB at h
  simp at h
  obtain ⟨⟨h1, h2⟩, h3, h4⟩ := h
  refine ⟨h1, h2, h3, h4, ?_, ?_⟩
  · have := Int.mul_le_mul_of_nonneg_right h1 (show 0 ≤ wd by omega); omega
  · exact Int.mul_le_mul_of_nonneg_right h2 (by omega)
set_option maxHeartbeats 400000 in
theorem isAttr_calls (a : Int) (w : World) :
    Calls Tryd.prog 46 #[.int .i64 a] w fun e w' => e = .returned (.bool (atB a)) ∧ w' = w := by
  go_enter Tryd.func46, Tryd.ntmps46
  go_wp2_with (go_at_call 50; refine (isFromTo_calls a 0 31 _).mono ?_; rintro e w' ⟨rfl, hw⟩; rw [hw]; clear hw w')
  go_ret
  refine ⟨ret_bool ?_, rfl⟩
  simp [atB]

set_option maxHeartbeats 400000 in
theorem isSize_calls (r wd : Int) (w : World) :
    Calls Tryd.prog 84 #[.int .i64 r, .int .i64 wd] w fun e w' => e = .returned (.bool (sizeB r wd)) ∧ w' = w := by
  unfold sizeB
  cases h1 : decide (1 ≤ r ∧ r ≤ 6) with
  | false =>
    go_enter Tryd.func84, Tryd.ntmps84
    go_wp2_with (go_at_call 50; refine (isFromTo_calls r 1 6 _).mono ?_; rintro e w' ⟨rfl, hw⟩; rw [hw, h1]; clear hw w')
    go_ret
    exact ⟨rfl, rfl⟩
  | true =>
    go_enter Tryd.func84, Tryd.ntmps84
    go_wp2_with fail
    refine (isFromTo_calls r 1 6 _).mono ?_
    rintro e w' ⟨rfl, hw⟩
    rw [hw, h1]
    clear hw w'
    go_wp2_with fail
    refine (isFromTo_calls wd 2 12 _).mono ?_
    rintro e w' ⟨rfl, hw⟩
    rw [hw]
    clear hw w'
    go_wp2
    go_ret
    refine ⟨ret_bool ?_, rfl⟩
    simp

set_option maxHeartbeats 400000 in
theorem l3Size_calls (r wd : Int) (w : World) :
    Calls Tryd.prog 77 #[.int .i64 r, .int .i64 wd] w fun e w' => e = .returned (.bool (sizeB r wd)) ∧ w' = w := by
  unfold sizeB
  cases h1 : decide (1 ≤ r ∧ r ≤ 6) with
  | false =>
    go_enter Tryd.func77, Tryd.ntmps77
    go_wp2_with (go_at_call 48; refine (l1In_calls r 1 6 _).mono ?_; rintro e w' ⟨rfl, hw⟩; rw [hw, h1]; clear hw w')
    go_ret
    exact ⟨rfl, rfl⟩
  | true =>
    go_enter Tryd.func77, Tryd.ntmps77
    go_wp2_with fail
    refine (l1In_calls r 1 6 _).mono ?_
    rintro e w' ⟨rfl, hw⟩
    rw [hw, h1]
    clear hw w'
    go_wp2_with fail
    refine (l1In_calls wd 2 12 _).mono ?_
    rintro e w' ⟨rfl, hw⟩
    rw [hw]
    clear hw w'
    go_wp2
    go_ret
    refine ⟨ret_bool ?_, rfl⟩
    simp

theorem cellB_sh (c g : Int) : cellB (c, g) = (shB c && atB g) := by
  show (chB c && (decide (32 ≤ c) && (decide (c ≠ 127) && atB g))) = _
  unfold shB
  cases chB c <;> cases decide (32 ≤ c) <;> cases decide (c ≠ 127) <;> rfl

set_option maxHeartbeats 400000 in
theorem isCell_calls (c g : Int) (w : World) :
    Calls Tryd.prog 91 #[.agg #[.int .i64 c, .int .i64 g]] w fun e w' => e = .returned (.bool (cellB (c, g))) ∧ Below w.heap.size w w' := by
  rw [cellB_sh]
  cases h1 : shB c with
  | false =>
    go_enter Tryd.func91, Tryd.ntmps91
    go_wp2_with (first
      | (go_at_call 94; refine (isShown_calls c _).mono ?_; rintro e w' ⟨rfl, hw⟩; rw [hw, h1]; clear hw w'))
    go_ret
    exact ⟨rfl, (by repeat' (first | with_reducible exact Below.refl _ _ | with_reducible assumption | with_reducible refine Below.drew ?_ | with_reducible refine Below.alloc ?_ ?_ _ | with_reducible refine Below.setCell ?_ ?_ _ | (simp; done) | (simp; omega) | omega))⟩
  | true =>
    go_enter Tryd.func91, Tryd.ntmps91
    go_wp2_with (first
      | (go_at_call 94; refine (isShown_calls c _).mono ?_; rintro e w' ⟨rfl, hw⟩; rw [hw, h1]; clear hw w')
      | (go_at_call 46; refine (isAttr_calls g _).mono ?_; rintro e w' ⟨rfl, hw⟩; rw [hw]; clear hw w'))
    go_ret
    refine ⟨ret_bool ?_, (by repeat' (first | with_reducible exact Below.refl _ _ | with_reducible assumption | with_reducible refine Below.drew ?_ | with_reducible refine Below.alloc ?_ ?_ _ | with_reducible refine Below.setCell ?_ ?_ _ | (simp; done) | (simp; omega) | omega))⟩
    simp

set_option maxHeartbeats 400000 in
theorem l3Cell_calls (c g : Int) (b o : Nat) (w : World) (g1 : w.cell? ⟨b, o, none⟩ = some (.int .i64 c)) (g2 : w.cell? ⟨b, o + 1, none⟩ = some (.int .i64 g)) :
    Calls Tryd.prog 90 #[.pointer (some ⟨b, o, none⟩)] w fun e w' => e = .returned (.bool (cellB (c, g))) ∧ w' = w := by
  have hp : cellB (c, g) = (chB c && (decide (32 ≤ c) && (decide (c ≠ 127) && atB g))) := rfl
  rw [hp]
  clear hp
  cases h1 : chB c with
  | false =>
    go_enter Tryd.func90, Tryd.ntmps90
    go_wp2_with (first
      | (go_at_call 93; refine (l1Char_calls c _).mono ?_; rintro e w' ⟨rfl, hw⟩; rw [hw, h1]; clear hw w'))
    go_ret
    exact ⟨rfl, rfl⟩
  | true =>
    by_cases h2 : 32 ≤ c
    · by_cases h3 : c = 127
      · subst h3
        go_enter Tryd.func90, Tryd.ntmps90
        go_wp2_with (first
          | (go_at_call 93; refine (l1Char_calls 127 _).mono ?_; rintro e w' ⟨rfl, hw⟩; rw [hw, h1]; clear hw w'))
        go_ret
        exact ⟨rfl, rfl⟩
      · have h3' : (c != 127) = true := by simpa using h3
        go_enter Tryd.func90, Tryd.ntmps90
        go_wp2_with (first
          | (go_at_call 93; refine (l1Char_calls c _).mono ?_; rintro e w' ⟨rfl, hw⟩; rw [hw, h1]; clear hw w')
          | (go_at_call 48; refine (l1In_calls g 0 31 _).mono ?_; rintro e w' ⟨rfl, hw⟩; rw [hw]; clear hw w'))
        go_ret
        refine ⟨ret_bool ?_, rfl⟩
        simp [h2, h3, atB]
    · go_enter Tryd.func90, Tryd.ntmps90
      go_wp2_with (first
        | (go_at_call 93; refine (l1Char_calls c _).mono ?_; rintro e w' ⟨rfl, hw⟩; rw [hw, h1]; clear hw w'))
      go_ret
      refine ⟨ret_bool ?_, rfl⟩
      simp [h2]; omega

set_option maxHeartbeats 1000000 in
theorem areCells_calls (ps : List (Int × Int)) (v : Value) (w : World) (hn : ps.length ≤ 1048576) (h1 : PRead w v ps) :
    Calls Tryd.prog 85 #[v] w fun e w' => e = .returned (.bool (allC ps 0)) ∧ Below w.heap.size w w' := by
  obtain ⟨a1, c1, rfl, h1⟩ := h1
  generalize hres : allC ps 0 = res
  have HR := hide hres
  clear hres
  have H1 := hide h1
  clear h1
  go_enter Tryd.func85, Tryd.ntmps85
  go_wp2
  go_loopw [7] (fun i wr => ∃ k : Nat, k ≤ ps.length ∧ i = .int .i64 k ∧ Hid (allC ps k = res) ∧ Below w.heap.size w wr) (fun i _ => ps.length - (intOf i).toNat)
  case atStart => exact ⟨0, Nat.zero_le _, rfl, HR, Below.refl _ _⟩
  case round =>
    obtain ⟨k, hkk, rfl, hr, hb⟩ := hrel
    by_cases hlt : k < ps.length
    · have hpos : ps ≠ [] := by intro h; rw [h] at hlt; simp at hlt
      rcases H1.out with h1 | ⟨b1, o1, rfl, h1⟩
      · exact absurd h1 hpos
      obtain ⟨g1, g2⟩ := h1 k hlt
      replace g1 := cellb hb g1
      replace g2 := cellb hb g2
      have hltI : (k : Int) < (ps.length : Int) := by omega
      have HS := hide (allC_step hlt)
      clear h1 hpos H1
      have HG : Hid (cellB (ps.getD k (0, 0)) = cellB ((ps.getD k (0, 0)).1, (ps.getD k (0, 0)).2)) := rfl
      generalize hcc : (ps.getD k (0, 0)).1 = c at *
      generalize hgg : (ps.getD k (0, 0)).2 = g at *
      clear hcc hgg
      go_wp2_with fail
      refine (isCell_calls c g _).mono ?_
      rintro e w2 ⟨rfl, hb2⟩
      have q2 : Below wr.heap.size wr w2 := by
        refine Below.trans ?_ (hb2.mono (by simp [World.setCell]))
        exact (by repeat' (first | with_reducible exact Below.refl _ _ | with_reducible assumption | with_reducible refine Below.drew ?_ | with_reducible refine Below.alloc ?_ ?_ _ | with_reducible refine Below.setCell ?_ ?_ _ | (simp; done) | (simp; omega) | omega))
      have hb3 := hb.trans (q2.mono hb.size)
      clear g1 g2 q2 hb2 hb
      cases hp : cellB (c, g) with
      | false =>
        have e1 : res = false := by rw [← hr.out, HS.out, HG.out, hp]; rfl
        subst e1
        go_wp2
        go_ret
        exact ⟨rfl, hb3⟩
      | true =>
        have e1 : allC ps (k + 1) = res := by rw [← hr.out, HS.out, HG.out, hp]; rfl
        have E1 := hide e1
        clear e1
        go_wp2
        go_roundw
        case rel => exact ⟨k + 1, by omega, by go_num, E1, hb3⟩
        case measure => simp [intOf]; omega
    · have e1 : res = true := by rw [← hr.out]; exact allC_end hlt
      subst e1
      have hge : ¬ ((k : Int) < (ps.length : Int)) := by omega
      go_wp2
      go_ret
      exact ⟨rfl, hb⟩

set_option maxHeartbeats 1000000 in
theorem l3Cells_calls (ps : List (Int × Int)) (v : Value) (w : World) (hn : ps.length ≤ 1048576) (h1 : PRead w v ps) :
    Calls Tryd.prog 78 #[v] w fun e w' => e = .returned (.bool (allC ps 0)) ∧ w' = w := by
  obtain ⟨a1, c1, rfl, h1⟩ := h1
  generalize hres : allC ps 0 = res
  have HR := hide hres
  clear hres
  have H1 := hide h1
  clear h1
  go_enter Tryd.func78, Tryd.ntmps78
  go_wp2
  go_loop [3] (fun i => ∃ k : Nat, k ≤ ps.length ∧ i = .int .i64 k ∧ Hid (allC ps k = res)) (fun i => ps.length - (intOf i).toNat)
  case atStart => exact ⟨0, Nat.zero_le _, rfl, HR⟩
  case round =>
    obtain ⟨k, hkk, rfl, hr⟩ := hrel
    by_cases hlt : k < ps.length
    · have hpos : ps ≠ [] := by intro h; rw [h] at hlt; simp at hlt
      rcases H1.out with h1 | ⟨b1, o1, rfl, h1⟩
      · exact absurd h1 hpos
      obtain ⟨g1, g2⟩ := h1 k hlt
      have hltI : (k : Int) < (ps.length : Int) := by omega
      have HS := hide (allC_step hlt)
      clear h1 hpos H1
      have HG : Hid (cellB (ps.getD k (0, 0)) = cellB ((ps.getD k (0, 0)).1, (ps.getD k (0, 0)).2)) := rfl
      generalize hcc : (ps.getD k (0, 0)).1 = c at *
      generalize hgg : (ps.getD k (0, 0)).2 = g at *
      clear hcc hgg
      go_wp2_with fail
      refine (l3Cell_calls c g _ _ _ g1 g2).mono ?_
      rintro e w2 ⟨rfl, rfl⟩
      cases hp : cellB (c, g) with
      | false =>
        have e1 : res = false := by rw [← hr.out, HS.out, HG.out, hp]; rfl
        subst e1
        go_wp2
        go_ret
        exact ⟨rfl, rfl⟩
      | true =>
        have e1 : allC ps (k + 1) = res := by rw [← hr.out, HS.out, HG.out, hp]; rfl
        have E1 := hide e1
        clear e1
        go_wp2
        go_round
        case rel => exact ⟨k + 1, by omega, by go_num, E1⟩
        case measure => simp [intOf]; omega
    · have e1 : res = true := by rw [← hr.out]; exact allC_end hlt
      subst e1
      have hge : ¬ ((k : Int) < (ps.length : Int)) := by omega
      go_wp2
      go_ret
      exact ⟨rfl, rfl⟩

theorem code_size {r wd : Int} {cs bs : List (Int × Int)} (h : sizeB r wd = false) : gridCode r wd cs bs = 3 := by unfold gridCode; rw [if_pos h]
theorem code_cells {r wd : Int} {cs bs : List (Int × Int)} (h : sizeB r wd = true) (h1 : ¬ (cs.length : Int) = r * wd) : gridCode r wd cs bs = 1 := by unfold gridCode; rw [if_neg (by rw [h]; simp), if_pos h1]
theorem code_back {r wd : Int} {cs bs : List (Int × Int)} (h : sizeB r wd = true) (h1 : (cs.length : Int) = r * wd) (h2 : 5 * wd < (bs.length : Int)) : gridCode r wd cs bs = 1 := by unfold gridCode; rw [if_neg (by rw [h]; simp), if_neg (by simpa using h1), if_pos h2]
theorem code_rest {r wd : Int} {cs bs : List (Int × Int)} (h : sizeB r wd = true) (h1 : (cs.length : Int) = r * wd) (h2 : ¬ 5 * wd < (bs.length : Int)) (h3 : ¬ (bs.length : Int) % wd = 0) : gridCode r wd cs bs = 1 := by unfold gridCode; rw [if_neg (by rw [h]; simp), if_neg (by simpa using h1), if_neg h2, if_pos h3]
theorem code_bad1 {r wd : Int} {cs bs : List (Int × Int)} (h : sizeB r wd = true) (h1 : (cs.length : Int) = r * wd) (h2 : ¬ 5 * wd < (bs.length : Int)) (h3 : (bs.length : Int) % wd = 0) (h4 : allC cs 0 = false) : gridCode r wd cs bs = 3 := by unfold gridCode; rw [if_neg (by rw [h]; simp), if_neg (by simpa using h1), if_neg h2, if_neg (by simpa using h3), if_pos h4]
theorem code_bad2 {r wd : Int} {cs bs : List (Int × Int)} (h : sizeB r wd = true) (h1 : (cs.length : Int) = r * wd) (h2 : ¬ 5 * wd < (bs.length : Int)) (h3 : (bs.length : Int) % wd = 0) (h4 : allC cs 0 = true) (h5 : allC bs 0 = false) : gridCode r wd cs bs = 3 := by unfold gridCode; rw [if_neg (by rw [h]; simp), if_neg (by simpa using h1), if_neg h2, if_neg (by simpa using h3), if_neg (by rw [h4]; simp), if_pos h5]
theorem code_ok {r wd : Int} {cs bs : List (Int × Int)} (h : sizeB r wd = true) (h1 : (cs.length : Int) = r * wd) (h2 : ¬ 5 * wd < (bs.length : Int)) (h3 : (bs.length : Int) % wd = 0) (h4 : allC cs 0 = true) (h5 : allC bs 0 = true) : gridCode r wd cs bs = 0 := by unfold gridCode; rw [if_neg (by rw [h]; simp), if_neg (by simpa using h1), if_neg h2, if_neg (by simpa using h3), if_neg (by rw [h4]; simp), if_neg (by rw [h5]; simp)]
/-- What a grid without a fault is. -/
structure GFine (r wd : Int) (cs bs : List (Int × Int)) : Prop where
  size : sizeB r wd = true
  cells : (cs.length : Int) = r * wd
  back : ¬ 5 * wd < (bs.length : Int)
  rest : (bs.length : Int) % wd = 0
  ok1 : allC cs 0 = true
  ok2 : allC bs 0 = true
theorem gfine_of_code {r wd : Int} {cs bs : List (Int × Int)} (h : gridCode r wd cs bs = 0) : GFine r wd cs bs := by
  cases hsz : sizeB r wd with
  | false => rw [code_size hsz] at h; cases h
  | true =>
    by_cases h1 : (cs.length : Int) = r * wd
    · by_cases h2 : 5 * wd < (bs.length : Int)
      · rw [code_back hsz h1 h2] at h; cases h
      · by_cases h3 : (bs.length : Int) % wd = 0
        · cases h4 : allC cs 0 with
          | false => rw [code_bad1 hsz h1 h2 h3 h4] at h; cases h
          | true =>
            cases h5 : allC bs 0 with
            | false => rw [code_bad2 hsz h1 h2 h3 h4 h5] at h; cases h
            | true => exact ⟨hsz, h1, h2, h3, h4, h5⟩
        · rw [code_rest hsz h1 h2 h3] at h; cases h
    · rw [code_cells hsz h1] at h; cases h
theorem code_of_gfine {r wd : Int} {cs bs : List (Int × Int)} (h : GFine r wd cs bs) : gridCode r wd cs bs = 0 := code_ok h.size h.cells h.back h.rest h.ok1 h.ok2
theorem tmod_pos {n wd : Int} (h : 0 ≤ n) : n.tmod wd = n % wd := Int.tmod_eq_emod_of_nonneg h

set_option maxHeartbeats 1000000 in
theorem implGridFault_calls (r wd : Int) (cs bs : List (Int × Int)) (v1 v2 : Value) (w : World) (hn1 : cs.length ≤ 1048576) (hn2 : bs.length ≤ 1048576) (h1 : PRead w v1 cs) (h2 : PRead w v2 bs) :
    Calls Tryd.prog 59 #[.agg #[.int .i64 r, .int .i64 wd, v1, v2]] w fun e w' => e = .returned (.int .i64 (gridCode r wd cs bs)) ∧ Below w.heap.size w w' := by
  have h1' := h1
  obtain ⟨a1, c1, rfl, _⟩ := h1'
  have h2' := h2
  obtain ⟨a2, c2, rfl, _⟩ := h2'
  have hb0 : Below w.heap.size w (w.alloc (.cells #[.int .i64 r, .int .i64 wd, .slice a1 cs.length c1, .slice a2 bs.length c2] 36)) := (by repeat' (first | with_reducible exact Below.refl _ _ | with_reducible assumption | with_reducible refine Below.drew ?_ | with_reducible refine Below.alloc ?_ ?_ _ | with_reducible refine Below.setCell ?_ ?_ _ | (simp; done) | (simp; omega) | omega))
  cases hsz : sizeB r wd with
  | false =>
    rw [code_size hsz]
    go_enter Tryd.func59, Tryd.ntmps59
    go_wp2_with (go_at_call 84; refine (isSize_calls r wd _).mono ?_; rintro e w' ⟨rfl, hw⟩; rw [hw, hsz]; clear hw w')
    go_ret
    exact ⟨rfl, hb0⟩
  | true =>
    obtain ⟨s1, s2, s3, s4, s5, s6⟩ := size_mul hsz
    have hwr : IntKind.i64.wrap (r * wd) = r * wd := wrap_small (by omega) (by omega)
    go_enter Tryd.func59, Tryd.ntmps59
    go_wp2_with (go_at_call 84; refine (isSize_calls r wd _).mono ?_; rintro e w' ⟨rfl, hw⟩; rw [hw, hsz]; clear hw w')
    go_quiet (fail)
    by_cases e1 : (cs.length : Int) = r * wd
    · have HE1 := hide e1
      have hne : ((cs.length : Int) != r * wd) = false := by simpa using e1
      clear e1
      by_cases e2 : 5 * wd < (bs.length : Int)
      · have HC := hide (code_back hsz HE1.out e2)
        clear hsz HE1
        go_wp2
        go_ret
        exact ⟨by rw [HC.out]; rfl, below_drewN hb0 _⟩
      · by_cases e3 : (bs.length : Int) % wd = 0
        · have e3' : (((bs.length : Int) % wd) != 0) = false := by simpa using e3
          have HE3 := hide e3
          clear e3
          have HC1 := hide (code_bad1 (bs := bs) hsz HE1.out e2 HE3.out)
          have HC2 := hide (code_bad2 (bs := bs) hsz HE1.out e2 HE3.out)
          have HC3 := hide (code_ok (bs := bs) hsz HE1.out e2 HE3.out)
          clear hsz HE1 HE3
          go_wp2_with fail
          refine (areCells_calls cs _ _ hn1 ((h1.below hb0).drewN _)).mono ?_
          rintro e w1 ⟨rfl, hb1⟩
          have A3 : w1.cell? ⟨w.heap.size, 3, none⟩ = some (.slice a2 bs.length c2) := cellb hb1 (by simp)
          have hb2 : Below w.heap.size w w1 := (below_drewN hb0 nq).trans (hb1.mono (by simp))
          clear hb1
          cases h4 : allC cs 0 with
          | false =>
            have HC := hide (HC1.out h4)
            clear HC1 HC2 HC3
            go_wp2
            go_ret
            exact ⟨by rw [HC.out]; rfl, hb2⟩
          | true =>
            replace HC2 := hide (HC2.out h4)
            replace HC3 := hide (HC3.out h4)
            clear HC1
            go_wp2_with fail
            refine (areCells_calls bs _ _ hn2 (h2.below hb2)).mono ?_
            rintro e w2 ⟨rfl, hb3⟩
            have hb4 : Below w.heap.size w w2 := hb2.trans (hb3.mono hb2.size)
            cases h5 : allC bs 0 with
            | false =>
              have HC := hide (HC2.out h5)
              clear HC2 HC3
              go_wp2
              go_ret
              exact ⟨by rw [HC.out]; rfl, hb4⟩
            | true =>
              have HC := hide (HC3.out h5)
              clear HC2 HC3
              go_wp2
              go_ret
              exact ⟨by rw [HC.out]; rfl, hb4⟩
        · have e3' : (((bs.length : Int) % wd) != 0) = true := by simpa using e3
          have HC := hide (code_rest hsz HE1.out e2 e3)
          clear hsz HE1 e3
          go_wp2
          go_ret
          exact ⟨by rw [HC.out]; rfl, below_drewN hb0 _⟩
    · have hne : ((cs.length : Int) != r * wd) = true := by simpa using e1
      have HC := hide (code_cells (bs := bs) hsz e1)
      clear hsz e1
      go_wp2
      go_ret
      exact ⟨by rw [HC.out]; rfl, below_drewN hb0 _⟩

theorem keep4 {W w1 w2 : World} {b : Nat} {u0 u1 u2 u3 : Value} (h : Below W.heap.size W w1 ∧ w1.cell? ⟨b, 0, none⟩ = some u0 ∧ w1.cell? ⟨b, 1, none⟩ = some u1 ∧ w1.cell? ⟨b, 2, none⟩ = some u2 ∧ w1.cell? ⟨b, 3, none⟩ = some u3) (hb : Below w1.heap.size w1 w2) :
    Below W.heap.size W w2 ∧ w2.cell? ⟨b, 0, none⟩ = some u0 ∧ w2.cell? ⟨b, 1, none⟩ = some u1 ∧ w2.cell? ⟨b, 2, none⟩ = some u2 ∧ w2.cell? ⟨b, 3, none⟩ = some u3 := by
  obtain ⟨h0, h1, h2, h3, h4⟩ := h
  exact ⟨h0.trans (hb.mono h0.size), cellb hb h1, cellb hb h2, cellb hb h3, cellb hb h4⟩
set_option maxHeartbeats 1000000 in
theorem l3Fault_calls (r wd : Int) (cs bs : List (Int × Int)) (v1 v2 : Value) (b : Nat) (w : World) (hn1 : cs.length ≤ 1048576) (hn2 : bs.length ≤ 1048576) (h1 : PRead w v1 cs) (h2 : PRead w v2 bs)
    (k0 : w.cell? ⟨b, 0, none⟩ = some (.int .i64 r)) (k1 : w.cell? ⟨b, 1, none⟩ = some (.int .i64 wd)) (k2 : w.cell? ⟨b, 2, none⟩ = some v1) (k3 : w.cell? ⟨b, 3, none⟩ = some v2) :
    Calls Tryd.prog 52 #[.pointer (some ⟨b, 0, none⟩)] w fun e w' => e = .returned (.int .i64 (gridCode r wd cs bs)) ∧ Below w.heap.size w w' := by
  have h1' := h1
  obtain ⟨a1, c1, rfl, _⟩ := h1'
  have h2' := h2
  obtain ⟨a2, c2, rfl, _⟩ := h2'
  cases hsz : sizeB r wd with
  | false =>
    rw [code_size hsz]
    go_enter Tryd.func52, Tryd.ntmps52
    go_wp2_with fail
    go_region_held3 (fun w' => Below w.heap.size w w' ∧ w'.cell? ⟨b, 0, none⟩ = some (.int .i64 r) ∧ w'.cell? ⟨b, 1, none⟩ = some (.int .i64 wd) ∧ w'.cell? ⟨b, 2, none⟩ = some (.slice a1 cs.length c1) ∧ w'.cell? ⟨b, 3, none⟩ = some (.slice a2 bs.length c2))
      (first
        | exact ⟨Below.drew (Below.refl _ w), k0, k1, k2, k3⟩
        | exact keep4 (by assumption) (Below.refl _ _))
      (first | (go_at_call 77; refine (l3Size_calls r wd _).mono ?_; rintro e w9 ⟨rfl, hw⟩; rw [hw, hsz]; clear hw w9))
    go_wp2
    go_ret
    exact ⟨rfl, ‹Below w.heap.size w _ ∧ _›.1⟩
  | true =>
    obtain ⟨s1, s2, s3, s4, s5, s6⟩ := size_mul hsz
    have hwr : IntKind.i64.wrap (r * wd) = r * wd := wrap_small (by omega) (by omega)
    have hw5 : IntKind.i64.wrap (5 * wd) = 5 * wd := wrap_small (by omega) (by omega)
    have hz0 : ¬ wd = 0 := by omega
    have htm : (bs.length : Int).tmod wd = (bs.length : Int) % wd := tmod_pos (by omega)
    have hwm : IntKind.i64.wrap ((bs.length : Int) % wd) = (bs.length : Int) % wd := wrap_small (by have := Int.emod_nonneg (bs.length : Int) hz0; omega) (by have := Int.emod_lt_of_pos (bs.length : Int) (show 0 < wd by omega); omega)
    go_enter Tryd.func52, Tryd.ntmps52
    go_wp2_with fail
    go_region_held3 (fun w' => Below w.heap.size w w' ∧ w'.cell? ⟨b, 0, none⟩ = some (.int .i64 r) ∧ w'.cell? ⟨b, 1, none⟩ = some (.int .i64 wd) ∧ w'.cell? ⟨b, 2, none⟩ = some (.slice a1 cs.length c1) ∧ w'.cell? ⟨b, 3, none⟩ = some (.slice a2 bs.length c2))
      (first
        | exact ⟨Below.drew (Below.refl _ w), k0, k1, k2, k3⟩
        | exact keep4 (by assumption) (Below.refl _ _))
      (first | (go_at_call 77; refine (l3Size_calls r wd _).mono ?_; rintro e w9 ⟨rfl, hw⟩; rw [hw, hsz]; clear hw w9))
    have hb0 := ‹Below w.heap.size w _ ∧ _›.1
    by_cases e1 : (cs.length : Int) = r * wd
    · have HE1 := hide e1
      have hne : ((cs.length : Int) != r * wd) = false := by simpa using e1
      clear e1
      by_cases e2 : 5 * wd < (bs.length : Int)
      · have HC := hide (code_back hsz HE1.out e2)
        clear hsz HE1
        go_wp2_with fail
        go_quiet (fail)
        go_wp2
        go_ret
        exact ⟨by rw [HC.out]; rfl, below_drewN hb0 _⟩
      · by_cases e3 : (bs.length : Int) % wd = 0
        · have e3' : (((bs.length : Int) % wd) != 0) = false := by simpa using e3
          have HE3 := hide e3
          clear e3
          have HC1 := hide (code_bad1 (bs := bs) hsz HE1.out e2 HE3.out)
          have HC2 := hide (code_bad2 (bs := bs) hsz HE1.out e2 HE3.out)
          have HC3 := hide (code_ok (bs := bs) hsz HE1.out e2 HE3.out)
          clear hsz HE1 HE3
          go_wp2_with fail
          go_quiet (fail)
          go_wp2_with fail
          have hb1 : Below w.heap.size w (w.drewN (1 + nq)) := below_drewN (Below.refl _ _) _
          refine (l3Cells_calls cs _ _ hn1 (h1.below hb1)).mono ?_
          rintro e w1 ⟨rfl, rfl⟩
          cases h4 : allC cs 0 with
          | false =>
            have HC := hide (HC1.out h4)
            clear HC1 HC2 HC3
            go_wp2
            go_ret
            exact ⟨by rw [HC.out]; rfl, hb1⟩
          | true =>
            replace HC2 := hide (HC2.out h4)
            replace HC3 := hide (HC3.out h4)
            clear HC1
            go_wp2_with fail
            refine (l3Cells_calls bs _ _ hn2 (h2.below hb1)).mono ?_
            rintro e w2 ⟨rfl, rfl⟩
            cases h5 : allC bs 0 with
            | false =>
              have HC := hide (HC2.out h5)
              clear HC2 HC3
              go_wp2
              go_ret
              exact ⟨by rw [HC.out]; rfl, hb1⟩
            | true =>
              have HC := hide (HC3.out h5)
              clear HC2 HC3
              go_wp2
              go_ret
              exact ⟨by rw [HC.out]; rfl, hb1⟩
        · have e3' : (((bs.length : Int) % wd) != 0) = true := by simpa using e3
          have HC := hide (code_rest hsz HE1.out e2 e3)
          clear hsz HE1 e3
          go_wp2_with fail
          go_quiet (fail)
          go_wp2
          go_ret
          exact ⟨by rw [HC.out]; rfl, below_drewN hb0 _⟩
    · have hne : ((cs.length : Int) != r * wd) = true := by simpa using e1
      have HC := hide (code_cells (bs := bs) hsz e1)
      clear hsz e1
      go_wp2_with fail
      go_quiet (fail)
      go_wp2
      go_ret
      exact ⟨by rw [HC.out]; rfl, below_drewN hb0 _⟩

end Go.Proofs.YtknkbihjboadjaaDoor
