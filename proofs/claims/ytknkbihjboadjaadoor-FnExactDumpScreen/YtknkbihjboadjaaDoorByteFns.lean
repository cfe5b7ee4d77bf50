/-
  eqByteS, markByteS, heldByteS, walked; a byte that is laid is k mod 256.
-/
import Derived.Test.YtknkbihjboadjaaDoorRows
import Derived.Test.YtknkbihjboadjaaDoorMem
import Derived.WalkKit
import Derived.ProofKit
import Derived.OpenShut
import Derived.Below
import Derived.Deep.QuietTactic
import Derived.BigQuiet
namespace Go.Proofs.YtknkbihjboadjaaDoor
set_option maxRecDepth 20000
open Go.ChangeShapes Go.WideShapes Go.ChangeAt Go.RowKit
set_option linter.unusedVariables false
set_option linter.unusedSimpArgs false

set_option maxHeartbeats 400000 in
theorem eqBytes_calls (xs : List Int) (v1 v2 : Value) (w : World) (hn : xs.length ≤ 1000000000) (h1 : ReadAt .u8 w v1 xs) (h2 : ReadAt .u8 w v2 xs) :
    Calls Tryd.prog 35 #[v1, v2] w fun e w' => e = .returned (.bool true) ∧ ∃ n, w' = w.drewN n := by
  obtain ⟨a1, c1, rfl, h1⟩ := h1
  obtain ⟨a2, c2, rfl, h2⟩ := h2
  have hne : ((xs.length : Int) != (xs.length : Int)) = false := by simp
  go_enter Tryd.func35, Tryd.ntmps35
  go_wp2
  go_loopw [5] (fun i wr => ∃ k : Nat, k ≤ xs.length ∧ i = .int .i64 k ∧ ∃ n, wr = w.drewN n) (fun i _ => xs.length - (intOf i).toNat)
  case atStart => exact ⟨0, Nat.zero_le _, rfl, 0, rfl⟩
  case round =>
    obtain ⟨k, hk, rfl, n, rfl⟩ := hrel
    by_cases hlt : k < xs.length
    · have hpos : xs ≠ [] := by intro h; rw [h] at hlt; simp at hlt
      rcases h1 with h1 | ⟨b1, o1, rfl, h1⟩
      · exact absurd h1 hpos
      rcases h2 with h2 | ⟨b2, o2, rfl, h2⟩
      · exact absurd h2 hpos
      have g1 := h1 k hlt
      have g2 := h2 k hlt
      clear h1 h2 hpos
      have hltI : (k : Int) < (xs.length : Int) := by omega
      go_wp2_with fail
      go_quiet (fail)
      have hne2 : ((xs.getD k 0 : Int) != xs.getD k 0) = false := by simp
      go_wp2
      go_roundw
      case rel => exact ⟨k + 1, by omega, by go_num, _, rfl⟩
      case measure => simp [intOf]; omega
    · go_wp2
      go_ret
      exact ⟨rfl, _, rfl⟩

set_option maxHeartbeats 400000 in
theorem heldBytes_calls (xs : List Int) (k0 : Int) (v : Value) (w : World) (hn : xs.length ≤ 1000000000) (hk : 0 ≤ k0) (hk0 : k0 ≤ 1000000000) (h1 : ReadAt .u8 w v xs) (hm : ∀ i, i < xs.length → xs.getD i 0 = (k0 + i : Int) % 256) :
    Calls Tryd.prog 43 #[v, .int .i64 k0] w fun e w' => e = .returned (.int .i64 (k0 + xs.length)) ∧ w' = w := by
  obtain ⟨a1, c1, rfl, h1⟩ := h1
  go_enter Tryd.func43, Tryd.ntmps43
  go_wp2
  go_loop [1, 5] (fun t i => ∃ k : Nat, k ≤ xs.length ∧ i = .int .i64 k ∧ t = .int .i64 (k0 + k)) (fun _ i => xs.length - (intOf i).toNat)
  case atStart => exact ⟨0, Nat.zero_le _, rfl, by simp⟩
  case round =>
    obtain ⟨k, hkk, rfl, rfl⟩ := hrel
    by_cases hlt : k < xs.length
    · have hpos : xs ≠ [] := by intro h; rw [h] at hlt; simp at hlt
      rcases h1 with h1 | ⟨b1, o1, rfl, h1⟩
      · exact absurd h1 hpos
      have g1 := h1 k hlt
      have e1 := hm k hlt
      rw [e1] at g1
      have hltI : (k : Int) < (xs.length : Int) := by omega
      clear h1 hpos e1 hm
      have hne2 : ((k0 + (k : Int)) % 256 != (k0 + k) % 256) = false := by simp
      go_wp2
      go_round
      case rel => exact ⟨k + 1, by omega, by go_num, by go_num⟩
      case measure => simp [intOf]; omega
    · have hk' : k = xs.length := by omega
      subst hk'
      go_wp2
      go_ret
      exact ⟨rfl, rfl⟩

set_option maxHeartbeats 400000 in
theorem markBytes_calls (xs : List Int) (k0 : Int) (lo hi : Nat) (v : Value) (w : World) (hn : xs.length ≤ 1000000000) (hk : 0 ≤ k0) (hk0 : k0 ≤ 1000000000) (h1 : IntsAt .u8 lo hi w v xs) :
    Calls Tryd.prog 42 #[v, .int .i64 k0] w fun e w' => e = .returned (.int .i64 (k0 + xs.length)) ∧ IntsAt .u8 lo hi w' v (marksB k0 xs.length) ∧ Within lo hi w w' := by
  obtain ⟨a1, c1, rfl, h1⟩ := h1
  by_cases hnil : xs = []
  · subst hnil
    go_enter Tryd.func42, Tryd.ntmps42
    go_wp2
    go_loop [1, 5] (fun t i => t = .int .i64 k0 ∧ i = .int .i64 0) (fun _ i => 0)
    case atStart => exact ⟨rfl, rfl⟩
    case round =>
      obtain ⟨rfl, rfl⟩ := hrel
      go_wp2
      go_ret
      exact ⟨rfl, IntsAt.nil _ _ _ _ _ _, Within.refl _ _ _⟩
  · rcases h1 with h1 | ⟨b, off, rfl, hl, hh, h1⟩
    · exact absurd h1 hnil
    go_enter Tryd.func42, Tryd.ntmps42
    go_wp2
    go_loopw [1, 5] (fun t i wr => ∃ k : Nat, k ≤ xs.length ∧ i = .int .i64 k ∧ t = .int .i64 (k0 + k) ∧ Within lo hi w wr ∧
        (∀ j, j < xs.length → wr.frozen? ⟨b, off + j, none⟩ = false) ∧ (∀ j, j < xs.length → ∃ u, wr.cell? ⟨b, off + j, none⟩ = some u) ∧ ∀ j, j < k → wr.cell? ⟨b, off + j, none⟩ = some (.int .u8 ((k0 + j) % 256))) (fun _ i _ => xs.length - (intOf i).toNat)
    case atStart => exact ⟨0, Nat.zero_le _, rfl, by simp, Within.refl _ _ _, fun j hj => (h1 j hj).2, fun j hj => ⟨_, (h1 j hj).1⟩, fun j hj => by omega⟩
    case round =>
      obtain ⟨k, hkk, rfl, rfl, hw, hf, hu, hc⟩ := hrel
      by_cases hlt : k < xs.length
      · have f1 := hf k hlt
        obtain ⟨u, g1⟩ := hu k hlt
        have hltI : (k : Int) < (xs.length : Int) := by omega
        have HF : Hid (∀ j, j < xs.length → wr.frozen? ⟨b, off + j, none⟩ = false) := hf
        have HU : Hid (∀ j, j < xs.length → ∃ u, wr.cell? ⟨b, off + j, none⟩ = some u) := hu
        have HC : Hid (∀ j, j < k → wr.cell? ⟨b, off + j, none⟩ = some (.int .u8 ((k0 + j) % 256))) := hc
        clear hf hu hc h1
        go_wp2
        go_roundw
        case rel =>
          refine ⟨k + 1, by omega, by go_num, by go_num, hw.setCell hl hh _, fun j hj => ?_, fun j hj => ?_, fun j hj => ?_⟩
          · rw [World.frozen?_setCell]; exact HF.out j hj
          · by_cases e : j = k
            · subst e; exact ⟨_, World.cell?_setCell_same _ _ _ g1⟩
            · obtain ⟨u', hu'⟩ := HU.out j hj
              exact ⟨u', by rw [World.cell?_setCell_other _ _ _ _ (addr_ne (by omega))]; exact hu'⟩
          · by_cases e : j = k
            · subst e; rw [World.cell?_setCell_same _ _ _ g1]
            · rw [World.cell?_setCell_other _ _ _ _ (addr_ne (by omega))]; exact HC.out j (by omega)
        case measure => simp [intOf]; omega
      · have hk' : k = xs.length := by omega
        subst hk'
        go_wp2
        go_ret
        refine ⟨rfl, ⟨_, _, by rw [marksB_length], .inr ⟨b, off, rfl, hl, hh, fun i hi => ?_⟩⟩, hw⟩
        rw [marksB_length] at hi
        rw [marksB_get _ _ _ hi]
        exact ⟨hc i hi, hf i hi⟩

theorem eqBytes_below (xs : List Int) (v1 v2 : Value) (w : World) (hn : xs.length ≤ 1000000000) (h1 : ReadAt .u8 w v1 xs) (h2 : ReadAt .u8 w v2 xs) :
    Calls Tryd.prog 35 #[v1, v2] w fun e w' => e = .returned (.bool true) ∧ Below w.heap.size w w' :=
  (eqBytes_calls xs v1 v2 w hn h1 h2).mono fun e w' ⟨he, n, hw⟩ => ⟨he, by rw [hw]; exact below_drewN (Below.refl _ _) n⟩

end Go.Proofs.YtknkbihjboadjaaDoor
