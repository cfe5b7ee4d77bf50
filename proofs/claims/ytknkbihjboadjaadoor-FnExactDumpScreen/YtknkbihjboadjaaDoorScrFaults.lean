/-
  What ScreenFault answers, of the program and of the model: isKept, areTables, isRegion, isWrapAsTold, isOriginAsTold, ScreenFault; l3Attr, l2Table, l5Region, l5Ranges, l5Form, l5Fault, ScreenFault.
-/
import Derived.Test.YtknkbihjboadjaaDoorScrMem
import Derived.Test.YtknkbihjboadjaaDoorPlaceFns
import Derived.Deep.RegionHeld
import Derived.Deep.RegionHeld3
namespace Go.Proofs.YtknkbihjboadjaaDoor
set_option maxRecDepth 20000
open Go.ChangeShapes Go.WideShapes Go.ChangeAt Go.RowKit
set_option linter.unusedVariables false
set_option linter.unusedSimpArgs false
set_option maxRecDepth 20000

def tblB (n : Int) : Bool := decide (1 ≤ n ∧ n ≤ 3)
def allT (l : List Int) (k : Nat) : Bool := (l.drop k).all tblB
def setsB (l : List Int) : Bool := allT l 0 && decide (l.length = 2)
def keptB (s : Scr) : Bool := decide (0 ≤ s.ky ∧ s.ky ≤ 5) && (decide (0 ≤ s.kx ∧ s.kx ≤ 11) && atB s.ka)
def shiftB (s : Scr) : Bool := decide (0 ≤ s.sh ∧ s.sh ≤ 1)
def bellsB (s : Scr) : Bool := decide (0 ≤ s.bells ∧ s.bells ≤ 999)
def rangeB (s : Scr) : Bool := placeB s.r s.wd s.y s.x && (atB s.attr && (keptB s && (setsB s.sets && (shiftB s && bellsB s))))
def regionB (top bot r : Int) : Bool := (decide (top = 0) && decide (bot = r - 1)) || (decide (0 ≤ top) && (decide (top < bot) && decide (bot ≤ r - 1)))
def tabsB (s : Scr) : Bool := decide ((s.tabs.length : Int) = s.wd)
def wrapB (s : Scr) : Bool := !s.wrap || (s.auto && decide (s.x = s.wd - 1))
def orgB (s : Scr) : Bool := !s.org || decide (s.top ≤ s.y ∧ s.y ≤ s.bot)
def sformB (s : Scr) : Bool := regionB s.top s.bot s.r && (tabsB s && (wrapB s && orgB s))
def scrCode (s : Scr) : Int := if gridCode s.r s.wd s.cs s.bs = 0 then (if rangeB s = false then 3 else if sformB s = false then 1 else 0) else gridCode s.r s.wd s.cs s.bs
theorem scr_grid {s : Scr} (h : ¬ gridCode s.r s.wd s.cs s.bs = 0) : scrCode s = gridCode s.r s.wd s.cs s.bs := by unfold scrCode; rw [if_neg h]
theorem scr_range {s : Scr} (h : gridCode s.r s.wd s.cs s.bs = 0) (h1 : rangeB s = false) : scrCode s = 3 := by unfold scrCode; rw [if_pos h, if_pos h1]
theorem scr_form {s : Scr} (h : gridCode s.r s.wd s.cs s.bs = 0) (h1 : rangeB s = true) (h2 : sformB s = false) : scrCode s = 1 := by unfold scrCode; rw [if_pos h, if_neg (by rw [h1]; simp), if_pos h2]
theorem scr_ok {s : Scr} (h : gridCode s.r s.wd s.cs s.bs = 0) (h1 : rangeB s = true) (h2 : sformB s = true) : scrCode s = 0 := by unfold scrCode; rw [if_pos h, if_neg (by rw [h1]; simp), if_neg (by rw [h2]; simp)]
theorem allT_end {l : List Int} {k : Nat} (h : ¬ k < l.length) : allT l k = true := by unfold allT; rw [List.drop_eq_nil_of_le (by omega)]; rfl
theorem allT_step {l : List Int} {k : Nat} (h : k < l.length) : allT l k = (tblB (l.getD k 0) && allT l (k + 1)) := by
  unfold allT
  rw [List.drop_eq_getElem_cons h, List.all_cons]
  simp [List.getD_eq_getElem?_getD, h]

set_option maxHeartbeats 1000000 in
theorem areTables_calls (l : List Int) (v : Value) (w : World) (hn : l.length ≤ 1048576) (h1 : ReadAt .i64 w v l) :
    Calls Tryd.prog 62 #[v] w fun e w' => e = .returned (.bool (setsB l)) ∧ w' = w := by
  obtain ⟨a1, c1, rfl, h1⟩ := h1
  unfold setsB
  generalize hall : allT l 0 = al
  have HR := hide hall
  clear hall
  go_enter Tryd.func62, Tryd.ntmps62
  go_wp2
  go_loop [7] (fun i => ∃ k : Nat, k ≤ l.length ∧ i = .int .i64 k ∧ Hid (allT l k = al)) (fun i => l.length - (intOf i).toNat)
  case atStart => exact ⟨0, Nat.zero_le _, rfl, HR⟩
  case round =>
    obtain ⟨k, hkk, rfl, HK⟩ := hrel
    by_cases hlt : k < l.length
    · have hpos : l ≠ [] := by intro h; rw [h] at hlt; simp at hlt
      rcases h1 with h1 | ⟨b1, o1, rfl, h1⟩
      · exact absurd h1 hpos
      have g1 := h1 k hlt
      have hltI : (k : Int) < (l.length : Int) := by omega
      have HS := hide (allT_step hlt)
      clear h1 hpos
      generalize l.getD k 0 = x at *
      cases hp : tblB x with
      | false =>
        go_wp2_with (go_at_call 50; refine (isFromTo_calls _ 1 3 _).mono ?_; rintro e w' ⟨rfl, hw⟩; rw [hw]; clear hw w'; rw [show decide (1 ≤ x ∧ x ≤ 3) = false from hp])
        go_ret
        refine ⟨ret_bool ?_, rfl⟩
        rw [← HK.out, HS.out, hp]; rfl
      | true =>
        go_wp2_with (go_at_call 50; refine (isFromTo_calls _ 1 3 _).mono ?_; rintro e w' ⟨rfl, hw⟩; rw [hw]; clear hw w'; rw [show decide (1 ≤ x ∧ x ≤ 3) = true from hp])
        go_round
        case rel => exact ⟨k + 1, by omega, by go_num, hide (by rw [← HK.out, HS.out, hp]; rfl)⟩
        case measure => simp [intOf]; omega
    · have hk' : k = l.length := by omega
      subst hk'
      have HT := hide (allT_end (l := l) hlt)
      go_wp2
      go_ret
      refine ⟨ret_bool ?_, rfl⟩
      rw [← HK.out, HT.out, Bool.eq_iff_iff]
      simp
      try omega

set_option maxHeartbeats 1000000 in
theorem isKept_calls (s : Scr) (v1 v2 v3 v4 : Value) (w : World) :
    Calls Tryd.prog 61 #[.agg (scrA s v1 v2 v3 v4)] w fun e w' => e = .returned (.bool (keptB s)) ∧ Below w.heap.size w w' := by
  unfold keptB
  have e14 := scrA_14 s v1 v2 v3 v4
  have e15 := scrA_15 s v1 v2 v3 v4
  have e16 := scrA_16 s v1 v2 v3 v4
  go_enter Tryd.func61, Tryd.ntmps61
  go_wp2_with fail
  go_at_call 50; refine (isFromTo_calls _ _ _ _).mono ?_; rintro e w' ⟨rfl, hw⟩; rw [hw]; clear hw w'
  cases k0 : decide (0 ≤ s.ky ∧ s.ky ≤ 5)
  · go_wp2_with fail
    go_ret
    exact ⟨ret_bool (by simp [*]), (Below.refl _ w).alloc (Nat.le_refl _) _⟩
  · go_wp2_with fail
    go_at_call 50; refine (isFromTo_calls _ _ _ _).mono ?_; rintro e w' ⟨rfl, hw⟩; rw [hw]; clear hw w'
    cases k1 : decide (0 ≤ s.kx ∧ s.kx ≤ 11)
    · go_wp2_with fail
      go_ret
      exact ⟨ret_bool (by simp [*]), (Below.refl _ w).alloc (Nat.le_refl _) _⟩
    · go_wp2_with fail
      go_at_call 46; refine (isAttr_calls _ _).mono ?_; rintro e w' ⟨rfl, hw⟩; rw [hw]; clear hw w'
      cases k2 : atB s.ka
      all_goals go_wp2_with fail
      all_goals go_ret
      all_goals exact ⟨ret_bool (by simp [*]), (Below.refl _ w).alloc (Nat.le_refl _) _⟩

set_option maxHeartbeats 1000000 in
theorem isRegion_calls (s : Scr) (v1 v2 v3 v4 : Value) (h1 : 1 ≤ s.r) (h2 : s.r ≤ 6) (w : World) :
    Calls Tryd.prog 63 #[.agg (scrA s v1 v2 v3 v4)] w fun e w' => e = .returned (.bool (regionB s.top s.bot s.r)) ∧ Below w.heap.size w w' := by
  have hw : IntKind.i64.wrap (s.r - 1) = s.r - 1 := wrap_small (by omega) (by omega)
  unfold regionB
  have e0 := scrA_0 s v1 v2 v3 v4
  have e8 := scrA_8 s v1 v2 v3 v4
  have e9 := scrA_9 s v1 v2 v3 v4
  cases k0 : decide (s.top = 0) <;> cases k1 : decide (s.bot = s.r - 1) <;> cases k2 : decide (0 ≤ s.top) <;> cases k3 : decide (s.top < s.bot) <;> cases k4 : decide (s.bot ≤ s.r - 1)
  all_goals simp only [decide_eq_true_eq, decide_eq_false_iff_not] at k0 k1 k2 k3 k4
  all_goals (try omega)
  all_goals
    go_enter Tryd.func63, Tryd.ntmps63
    go_wp2
    all_goals go_ret
    all_goals exact ⟨ret_bool (by simp [*]), (Below.refl _ w).alloc (Nat.le_refl _) _⟩

set_option maxHeartbeats 1000000 in
theorem isWrapAsTold_calls (s : Scr) (v1 v2 v3 v4 : Value) (h3 : 2 ≤ s.wd) (h4 : s.wd ≤ 12) (w : World) :
    Calls Tryd.prog 64 #[.agg (scrA s v1 v2 v3 v4)] w fun e w' => e = .returned (.bool (wrapB s)) ∧ Below w.heap.size w w' := by
  have hw : IntKind.i64.wrap (s.wd - 1) = s.wd - 1 := wrap_small (by omega) (by omega)
  unfold wrapB
  have e1 := scrA_1 s v1 v2 v3 v4
  have e5 := scrA_5 s v1 v2 v3 v4
  have e6 := scrA_6 s v1 v2 v3 v4
  have e11 := scrA_11 s v1 v2 v3 v4
  cases k0 : s.wrap <;> cases k1 : s.auto
  all_goals
    by_cases k2 : s.x = s.wd - 1
    all_goals
      go_enter Tryd.func64, Tryd.ntmps64
      go_wp2
      all_goals go_ret
      all_goals exact ⟨ret_bool (by simp [k2]), (Below.refl _ w).alloc (Nat.le_refl _) _⟩

set_option maxHeartbeats 1000000 in
theorem isOriginAsTold_calls (s : Scr) (v1 v2 v3 v4 : Value) (w : World) :
    Calls Tryd.prog 65 #[.agg (scrA s v1 v2 v3 v4)] w fun e w' => e = .returned (.bool (orgB s)) ∧ Below w.heap.size w w' := by
  unfold orgB
  have e4 := scrA_4 s v1 v2 v3 v4
  have e8 := scrA_8 s v1 v2 v3 v4
  have e9 := scrA_9 s v1 v2 v3 v4
  have e10 := scrA_10 s v1 v2 v3 v4
  cases k0 : s.org
  all_goals
    go_enter Tryd.func65, Tryd.ntmps65
    go_wp2_with (go_at_call 50; refine (isFromTo_calls _ _ _ _).mono ?_; rintro e w' ⟨rfl, hw⟩; rw [hw]; clear hw w')
    all_goals go_ret
    all_goals exact ⟨ret_bool (by simp), (Below.refl _ w).alloc (Nat.le_refl _) _⟩

end Go.Proofs.YtknkbihjboadjaaDoor
