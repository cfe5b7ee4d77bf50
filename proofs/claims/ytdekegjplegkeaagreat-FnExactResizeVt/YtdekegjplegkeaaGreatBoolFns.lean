/-
  szBoolS, toBoolS, eqBoolS, markBoolS, heldBoolS, walked.
-/
import Derived.Test.YtdekegjplegkeaaGreatRows
import Derived.Test.YtdekegjplegkeaaGreatBoolMem
import Derived.Test.YtdekegjplegkeaaGreatCopies
import Derived.WalkKit
import Derived.ProofKit
import Derived.OpenShut
import Derived.Below
import Derived.Deep.QuietTactic
import Derived.BigQuiet
namespace Go.Proofs.YtdekegjplegkeaaGreat
set_option maxRecDepth 20000
open Go.ChangeShapes Go.WideShapes Go.ChangeAt Go.RowKit
set_option linter.unusedVariables false
set_option linter.unusedSimpArgs false

set_option maxHeartbeats 400000 in
theorem szBools_calls (n : Nat) (L : Int) (hL : 0 ≤ L) (hL2 : L ≤ 1048576) (a : Option Addr) (cap : Nat) (w : World) (hn : n ≤ maxLen) :
    Calls Tryz.prog 41 #[.slice a n cap, .int .i64 L] w fun e w' => e = .returned (.int .i64 (if (n : Int) ≤ L then L - n else -1)) ∧ w' = w := by
  unfold maxLen at hn
  by_cases h : (n : Int) ≤ L
  · rw [if_pos h]
    have hge : ¬ ((L - (n : Int)) < 0) := by omega
    go_enter Tryz.func41, Tryz.ntmps41
    go_wp2
    go_ret
    exact ⟨rfl, rfl⟩
  · rw [if_neg h]
    have hge : ((L - (n : Int)) < 0) := by omega
    go_enter Tryz.func41, Tryz.ntmps41
    go_wp2
    go_ret
    exact ⟨rfl, rfl⟩

theorem info_toBools : (Tryz.prog.info? 4).map (fun i => (i.zero, i.size, i.bytes)) = some (some (.bool false), 1, 1) := by kernel_rfl

set_option maxHeartbeats 400000 in
theorem toBools_calls (zs : List Bool) (v : Value) (w : World) (hn : zs.length ≤ 1048576) (h1 : BRead w v zs) :
    Calls Tryz.prog 49 #[v] w fun e w' => ∃ v', e = .returned v' ∧ BoolsAt w.heap.size w'.heap.size w' v' zs ∧ Below w.heap.size w w' := by
  obtain ⟨i0, hi, hz0, hz1, hz2⟩ := info_parts info_toBools
  obtain ⟨a1, c1, rfl, h1⟩ := h1
  go_enter Tryz.func49, Tryz.ntmps49
  go_wp2_with (at_make; refine wpList_make_full _ rfl (.tmp 6) (.tmp 6) 25 rfl w.heap.size 4 i0 (.bool false) 1 Tryz.underlying25 hi hz0 hz1 .i64 .i64 _ _ zs.length rfl rfl rfl rfl ?c1 ?c2 ?c3 ?_)
  case c1 => rw [hz2]; omega
  case c2 => unfold maxLen; omega
  case c3 => exact Nat.le_refl _
  intro w1 hown hgrow
  have hany := own_any hown
  have hlt1 : w.heap.size < w1.heap.size := (hown.lt w.heap.size rfl).2
  have hb1 : Below w.heap.size w w1 := (Below.refl _ _).grown hgrow (Nat.le_refl _) (fun k hk => by cases hk)
  have HA := hide hany
  clear hown hgrow hany
  go_wp2
  go_loopw [4] (fun i wr => ∃ k : Nat, k ≤ zs.length ∧ i = .int .i64 k ∧ Below w.heap.size w wr ∧ w.heap.size < wr.heap.size ∧
      (∀ j, j < zs.length → (∃ u, wr.cell? ⟨w.heap.size, 0 + j, none⟩ = some u) ∧ wr.frozen? ⟨w.heap.size, 0 + j, none⟩ = false) ∧ ∀ j, j < k → wr.cell? ⟨w.heap.size, 0 + j, none⟩ = some (.bool (zs.getD j false))) (fun i _ => zs.length - (intOf i).toNat)
  case atStart => exact ⟨0, Nat.zero_le _, rfl, hb1, hlt1, HA.out, fun j hj => by omega⟩
  case round =>
    obtain ⟨k, hkk, rfl, hw, hsz, hf, hc⟩ := hrel
    by_cases hlt : k < zs.length
    · have hpos : zs ≠ [] := by intro h; rw [h] at hlt; simp at hlt
      rcases h1 with h1 | ⟨b1, o1, rfl, h1⟩
      · exact absurd h1 hpos
      have g0 := cellb hw (h1 k hlt)
      obtain ⟨⟨u, g1⟩, f1⟩ := hf k hlt
      have hltI : (k : Int) < (zs.length : Int) := by omega
      have HF := hide hf
      have HC := hide hc
      have G1 := hide g1
      rw [Nat.zero_add] at g1 f1
      clear hf hc h1 hpos HA hb1 hlt1
      go_wp2
      go_roundw
      case rel =>
        have e0 : (⟨w.heap.size, k, none⟩ : Addr) = ⟨w.heap.size, 0 + k, none⟩ := by rw [Nat.zero_add]
        refine ⟨k + 1, by omega, by go_num, hw.setCell (Nat.le_refl _) _, by simpa [World.setCell] using hsz, fun j hj => ⟨?_, ?_⟩, fun j hj => ?_⟩
        · by_cases e : j = k
          · subst e; rw [e0]; exact ⟨_, World.cell?_setCell_same _ _ _ G1.out⟩
          · obtain ⟨u', hu'⟩ := (HF.out j hj).1
            exact ⟨u', by rw [World.cell?_setCell_other _ _ _ _ (addr_ne (by omega))]; exact hu'⟩
        · rw [World.frozen?_setCell]; exact (HF.out j hj).2
        · by_cases e : j = k
          · subst e; rw [e0, World.cell?_setCell_same _ _ _ G1.out]; simp [hlt]
          · rw [World.cell?_setCell_other _ _ _ _ (addr_ne (by omega))]; exact HC.out j (by omega)
      case measure => simp [intOf]; omega
    · have hk' : k = zs.length := by omega
      subst hk'
      go_wp2
      go_ret
      exact ⟨_, rfl, ⟨_, _, rfl, .inr ⟨w.heap.size, 0, rfl, Nat.le_refl _, hsz, fun i hi => ⟨hc i hi, (hf i hi).2⟩⟩⟩, hw⟩

set_option maxHeartbeats 400000 in
theorem eqBools_calls (xs : List Bool) (v1 v2 : Value) (w : World) (hn : xs.length ≤ 1000000000) (h1 : BRead w v1 xs) (h2 : BRead w v2 xs) :
    Calls Tryz.prog 52 #[v1, v2] w fun e w' => e = .returned (.bool true) ∧ ∃ n, w' = w.drewN n := by
  obtain ⟨a1, c1, rfl, h1⟩ := h1
  obtain ⟨a2, c2, rfl, h2⟩ := h2
  have hne : ((xs.length : Int) != (xs.length : Int)) = false := by simp
  go_enter Tryz.func52, Tryz.ntmps52
  go_wp2
  go_loopw [5] (fun i wr => ∃ k : Nat, k ≤ xs.length ∧ i = .int .i64 k ∧ ∃ n, wr = w.drewN n) (fun i _ => xs.length - (intOf i).toNat)
  case atStart => exact ⟨0, Nat.zero_le _, rfl, 0, rfl⟩
  case round =>
    obtain ⟨k, hk, rfl, n, rfl⟩ := hrel
    by_cases hlt : k < xs.length
    · have hpos : xs ≠ [] := by intro h; rw [h] at hlt; simp at hlt
      rcases h1 with h1 | ⟨b1, o1, rfl, h1⟩
      · exact absurd h1 hpos
      rcases h2 with h2 | ⟨b2, o2, rfl, h2⟩
      · exact absurd h2 hpos
      have g1 := h1 k hlt
      have g2 := h2 k hlt
      clear h1 h2 hpos
      have hltI : (k : Int) < (xs.length : Int) := by omega
      go_wp2_with fail
      go_quiet (fail)
      have hne2 : ((xs.getD k false) != xs.getD k false) = false := by simp
      go_wp2
      go_roundw
      case rel => exact ⟨k + 1, by omega, by go_num, _, rfl⟩
      case measure => simp [intOf]; omega
    · go_wp2
      go_ret
      exact ⟨rfl, _, rfl⟩

theorem eqBools_below (xs : List Bool) (v1 v2 : Value) (w : World) (hn : xs.length ≤ 1000000000) (h1 : BRead w v1 xs) (h2 : BRead w v2 xs) :
    Calls Tryz.prog 52 #[v1, v2] w fun e w' => e = .returned (.bool true) ∧ Below w.heap.size w w' :=
  (eqBools_calls xs v1 v2 w hn h1 h2).mono fun e w' ⟨he, n, hw⟩ => ⟨he, by rw [hw]; exact below_drewN (Below.refl _ _) n⟩

set_option maxHeartbeats 400000 in
theorem szSets_calls (n : Nat) (L : Int) (hL : 0 ≤ L) (hL2 : L ≤ 1048576) (a : Option Addr) (cap : Nat) (w : World) (hn : n ≤ maxLen) :
    Calls Tryz.prog 42 #[.slice a n cap, .int .i64 L] w fun e w' => e = .returned (.int .i64 (if (n : Int) ≤ L then L - n else -1)) ∧ w' = w := by
  unfold maxLen at hn
  by_cases h : (n : Int) ≤ L
  · rw [if_pos h]
    have hge : ¬ ((L - (n : Int)) < 0) := by omega
    go_enter Tryz.func42, Tryz.ntmps42
    go_wp2
    go_ret
    exact ⟨rfl, rfl⟩
  · rw [if_neg h]
    have hge : ((L - (n : Int)) < 0) := by omega
    go_enter Tryz.func42, Tryz.ntmps42
    go_wp2
    go_ret
    exact ⟨rfl, rfl⟩

end Go.Proofs.YtdekegjplegkeaaGreat
