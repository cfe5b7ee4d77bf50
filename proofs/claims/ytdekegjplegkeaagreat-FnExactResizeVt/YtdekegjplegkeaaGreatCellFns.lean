/-
  toCell, toCellS, eqCell, eqCellS, markCellS, heldCellS, walked.
-/
import Derived.Test.YtdekegjplegkeaaGreatRows
import Derived.Test.YtdekegjplegkeaaGreatPairMem
import Derived.WalkKit
import Derived.ProofKit
import Derived.OpenShut
import Derived.Below
import Derived.OwnWalk
import Derived.Laws.OwnMore
import Derived.WalkSpells
import Derived.Deep.QuietTactic
import Derived.BigQuiet
import Derived.Deep.RegionHeld3
namespace Go.Proofs.YtdekegjplegkeaaGreat
set_option maxRecDepth 20000
open Go.ChangeShapes Go.WideShapes Go.ChangeAt Go.RowKit
set_option linter.unusedVariables false
set_option linter.unusedSimpArgs false

set_option maxHeartbeats 400000 in
theorem toCell_calls (c g : Int) (w : World) :
    Calls Tryz.prog 161 #[.agg #[.int .i64 c, .int .i64 g]] w fun e w' => e = .returned (.agg #[.int .i64 c, .int .i64 g]) ∧ Below w.heap.size w w' := by
  go_enter Tryz.func161, Tryz.ntmps161
  go_wp2
  exact bodyPost_ret (v := .agg #[.int .i64 c, .int .i64 g]) (by simp [results, Tryz.results161, go_sem]) rfl ⟨rfl, (by repeat' (first | with_reducible exact Below.refl _ _ | with_reducible assumption | with_reducible refine Below.drew ?_ | with_reducible refine Below.alloc ?_ ?_ _ | with_reducible refine Below.setCell ?_ ?_ _ | (simp; done) | (simp; omega) | omega))⟩

set_option maxHeartbeats 400000 in
theorem eqCell_calls (c g : Int) (w : World) :
    Calls Tryz.prog 162 #[.agg #[.int .i64 c, .int .i64 g], .agg #[.int .i64 c, .int .i64 g]] w fun e w' => e = .returned (.bool true) ∧ Below w.heap.size w w' := by
  have h1 : (c != c) = false := by simp
  have h2 : (g != g) = false := by simp
  go_enter Tryz.func162, Tryz.ntmps162
  go_wp2
  go_ret
  exact ⟨rfl, (by repeat' (first | with_reducible exact Below.refl _ _ | with_reducible assumption | with_reducible refine Below.drew ?_ | with_reducible refine Below.alloc ?_ ?_ _ | with_reducible refine Below.setCell ?_ ?_ _ | (simp; done) | (simp; omega) | omega))⟩

theorem keepP {W w1 w2 : World} {p0 p1 q0 q1 : Addr} {u0 u1 v0 v1 : Value} (h : Below W.heap.size W w1 ∧ w1.cell? p0 = some u0 ∧ w1.cell? p1 = some u1 ∧ w1.cell? q0 = some v0 ∧ w1.cell? q1 = some v1) (hb : Below w1.heap.size w1 w2) :
    Below W.heap.size W w2 ∧ w2.cell? p0 = some u0 ∧ w2.cell? p1 = some u1 ∧ w2.cell? q0 = some v0 ∧ w2.cell? q1 = some v1 := by
  obtain ⟨h0, h1, h2, h3, h4⟩ := h
  have cb : ∀ {p : Addr} {u : Value}, w1.cell? p = some u → w2.cell? p = some u := fun {p u} hc => by
    obtain ⟨b, o, s⟩ := p
    have := World.cell?_spot hc
    simp at this
    subst this
    exact cellb hb hc
  exact ⟨h0.trans (hb.mono h0.size), cb h1, cb h2, cb h3, cb h4⟩

set_option maxHeartbeats 1000000 in
theorem eqCellS_calls (xs : List (Int × Int)) (v1 v2 : Value) (w : World) (hn : xs.length ≤ 1000000000) (h1 : PRead w v1 xs) (h2 : PRead w v2 xs) :
    Calls Tryz.prog 95 #[v1, v2] w fun e w' => e = .returned (.bool true) ∧ Below w.heap.size w w' := by
  obtain ⟨a1, c1, rfl, h1⟩ := h1
  obtain ⟨a2, c2, rfl, h2⟩ := h2
  have hne : ((xs.length : Int) != (xs.length : Int)) = false := by simp
  go_enter Tryz.func95, Tryz.ntmps95
  go_wp2
  go_loopw [5] (fun i wr => ∃ k : Nat, k ≤ xs.length ∧ i = .int .i64 k ∧ Below w.heap.size w wr) (fun i _ => xs.length - (intOf i).toNat)
  case atStart => exact ⟨0, Nat.zero_le _, rfl, Below.refl _ _⟩
  case round =>
    obtain ⟨k, hk, rfl, hw⟩ := hrel
    by_cases hlt : k < xs.length
    · have hpos : xs ≠ [] := by intro h; rw [h] at hlt; simp at hlt
      rcases h1 with h1 | ⟨b1, o1, rfl, h1⟩
      · exact absurd h1 hpos
      rcases h2 with h2 | ⟨b2, o2, rfl, h2⟩
      · exact absurd h2 hpos
      obtain ⟨g1, g2⟩ := h1 k hlt
      obtain ⟨g3, g4⟩ := h2 k hlt
      replace g1 := cellb hw g1
      replace g2 := cellb hw g2
      replace g3 := cellb hw g3
      replace g4 := cellb hw g4
      clear h1 h2 hpos
      have hltI : (k : Int) < (xs.length : Int) := by omega
      generalize (xs.getD k (0, 0)).1 = c at *
      generalize (xs.getD k (0, 0)).2 = g at *
      go_wp2_with fail
      go_region_held3 (fun w' => Below wr.heap.size wr w' ∧ w'.cell? ⟨b1, o1 + k * 2, none⟩ = some (.int .i64 c) ∧ w'.cell? ⟨b1, o1 + k * 2 + 1, none⟩ = some (.int .i64 g) ∧ w'.cell? ⟨b2, o2 + k * 2, none⟩ = some (.int .i64 c) ∧ w'.cell? ⟨b2, o2 + k * 2 + 1, none⟩ = some (.int .i64 g))
        (first
          | exact ⟨Below.drew (Below.refl _ wr), g1, g2, g3, g4⟩
          | exact keepP (by assumption) (by assumption))
        (first | (go_at_call 162; refine (eqCell_calls c g _).mono ?_; rintro e w9 ⟨rfl, hb9⟩))
      go_wp2
      go_roundw
      case rel => exact ⟨k + 1, by omega, by go_num, hw.trans ((‹Below wr.heap.size wr _ ∧ _›.1).mono hw.size)⟩
      case measure => simp [intOf]; omega
    · go_wp2
      go_ret
      exact ⟨rfl, hw⟩

set_option maxHeartbeats 400000 in
theorem heldCellS_calls (xs : List (Int × Int)) (k0 : Int) (v : Value) (w : World) (hn : xs.length ≤ 1000000000) (hk : 0 ≤ k0) (hk0 : k0 ≤ 1000000000) (h1 : PRead w v xs) (hm : ∀ i, i < xs.length → xs.getD i (0, 0) = ((k0 + 2 * i : Int), (k0 + 2 * i + 1 : Int))) :
    Calls Tryz.prog 163 #[v, .int .i64 k0] w fun e w' => e = .returned (.int .i64 (k0 + 2 * xs.length)) ∧ w' = w := by
  obtain ⟨a1, c1, rfl, h1⟩ := h1
  go_enter Tryz.func163, Tryz.ntmps163
  go_wp2
  go_loop [1, 5] (fun t i => ∃ k : Nat, k ≤ xs.length ∧ i = .int .i64 k ∧ t = .int .i64 (k0 + 2 * k)) (fun _ i => xs.length - (intOf i).toNat)
  case atStart => exact ⟨0, Nat.zero_le _, rfl, by simp⟩
  case round =>
    obtain ⟨k, hkk, rfl, rfl⟩ := hrel
    by_cases hlt : k < xs.length
    · have hpos : xs ≠ [] := by intro h; rw [h] at hlt; simp at hlt
      rcases h1 with h1 | ⟨b1, o1, rfl, h1⟩
      · exact absurd h1 hpos
      obtain ⟨g1, g2⟩ := h1 k hlt
      have e1 := hm k hlt
      rw [e1] at g1 g2
      have hltI : (k : Int) < (xs.length : Int) := by omega
      clear h1 hpos e1 hm
      have hne2 : ((k0 + 2 * (k : Int)) != (k0 + 2 * k)) = false := by simp
      have hne3 : ((k0 + 2 * (k : Int) + 1) != (k0 + 2 * k + 1)) = false := by simp
      go_wp2
      go_round
      case rel => exact ⟨k + 1, by omega, by go_num, by go_num⟩
      case measure => simp [intOf]; omega
    · have hk' : k = xs.length := by omega
      subst hk'
      go_wp2
      go_ret
      exact ⟨rfl, rfl⟩

/-- The pairs that a mark lays. -/
def marksP (k0 : Int) : Nat → List (Int × Int)
  | 0 => []
  | n + 1 => marksP k0 n ++ [((k0 + 2 * n : Int), (k0 + 2 * n + 1 : Int))]
theorem marksP_length (k0 : Int) (n : Nat) : (marksP k0 n).length = n := by
  induction n with
  | zero => rfl
  | succ n ih => simp [marksP, ih]
theorem marksP_get (k0 : Int) (n i : Nat) (h : i < n) : (marksP k0 n).getD i (0, 0) = ((k0 + 2 * i : Int), (k0 + 2 * i + 1 : Int)) := by
  induction n with
  | zero => omega
  | succ n ih =>
    simp only [marksP]
    by_cases e : i < n
    · have := ih e
      simp only [List.getD_eq_getElem?_getD] at this ⊢
      rw [List.getElem?_append_left (by rw [marksP_length]; omega)]
      exact this
    · obtain rfl : i = n := by omega
      simp [List.getElem?_append_right, marksP_length]
theorem marksP_at (k0 : Int) (n : Nat) : ∀ i, i < (marksP k0 n).length → (marksP k0 n).getD i (0, 0) = ((k0 + 2 * i : Int), (k0 + 2 * i + 1 : Int)) := fun i hi => marksP_get _ _ _ (by rwa [marksP_length] at hi)

/-- A pair stored into two cells that are there. -/
theorem two_cells {w : World} {b o : Nat} {x y u u' : Value} (h1 : w.cell? ⟨b, o, none⟩ = some u) (h2 : w.cell? ⟨b, o + 1, none⟩ = some u') :
    ((w.setCell ⟨b, o, none⟩ x).setCell ⟨b, o + 1, none⟩ y).cell? ⟨b, o, none⟩ = some x ∧ ((w.setCell ⟨b, o, none⟩ x).setCell ⟨b, o + 1, none⟩ y).cell? ⟨b, o + 1, none⟩ = some y ∧
    ∀ q, q ≠ o → q ≠ o + 1 → ((w.setCell ⟨b, o, none⟩ x).setCell ⟨b, o + 1, none⟩ y).cell? ⟨b, q, none⟩ = w.cell? ⟨b, q, none⟩ := by
  have g3 : (w.setCell ⟨b, o, none⟩ x).cell? ⟨b, o + 1, none⟩ = some u' := by rw [World.cell?_setCell_other _ _ _ _ (addr_ne (by omega))]; exact h2
  refine ⟨?_, World.cell?_setCell_same _ _ _ g3, fun q e1 e2 => ?_⟩
  · rw [World.cell?_setCell_other _ _ _ _ (addr_ne (by omega))]; exact World.cell?_setCell_same _ _ _ h1
  · rw [World.cell?_setCell_other _ _ _ _ (addr_ne (by omega)), World.cell?_setCell_other _ _ _ _ (addr_ne (by omega))]
theorem own_any2 {w : World} {base n cap g : Nat} {e : TypeId} {xs : List Value} (h : w.ownsRow base e 2 (.slice (some ⟨g, 0, none⟩) n cap) n xs) : ∀ j, j < n * 2 → (∃ u, w.cell? ⟨g, 0 + j, none⟩ = some u) ∧ w.frozen? ⟨g, 0 + j, none⟩ = false := by
  intro j hj
  have hl := h.1
  refine ⟨⟨xs[j]'(by omega), ?_⟩, ?_⟩
  · rw [Nat.zero_add, h.cellAt j (by omega)]
    exact List.getElem?_eq_getElem (by omega)
  · rw [Nat.zero_add]; exact h.frozenAt j

set_option maxHeartbeats 1000000 in
theorem markCellS_calls (xs : List (Int × Int)) (k0 : Int) (lo hi : Nat) (v : Value) (w : World) (hn : xs.length ≤ 1000000000) (hk : 0 ≤ k0) (hk0 : k0 ≤ 1000000000) (h1 : PairsAt lo hi w v xs) :
    Calls Tryz.prog 96 #[v, .int .i64 k0] w fun e w' => e = .returned (.int .i64 (k0 + 2 * xs.length)) ∧ PairsAt lo hi w' v (marksP k0 xs.length) ∧ Within lo hi w w' := by
  obtain ⟨a1, c1, rfl, h1⟩ := h1
  by_cases hnil : xs = []
  · subst hnil
    go_enter Tryz.func96, Tryz.ntmps96
    go_wp2
    go_loop [1, 5] (fun t i => t = .int .i64 k0 ∧ i = .int .i64 0) (fun _ i => 0)
    case atStart => exact ⟨rfl, rfl⟩
    case round =>
      obtain ⟨rfl, rfl⟩ := hrel
      go_wp2
      go_ret
      exact ⟨rfl, PairsAt.nil _ _ _ _ _, Within.refl _ _ _⟩
  · rcases h1 with h1 | ⟨b, off, rfl, hl, hh, h1⟩
    · exact absurd h1 hnil
    go_enter Tryz.func96, Tryz.ntmps96
    go_wp2
    go_loopw [1, 5] (fun t i wr => ∃ k : Nat, k ≤ xs.length ∧ i = .int .i64 k ∧ t = .int .i64 (k0 + 2 * k) ∧ Within lo hi w wr ∧
        (∀ j, j < xs.length → (wr.frozen? ⟨b, off + j * 2, none⟩ = false ∧ wr.frozen? ⟨b, off + j * 2 + 1, none⟩ = false) ∧ (∃ u, wr.cell? ⟨b, off + j * 2, none⟩ = some u) ∧ ∃ u, wr.cell? ⟨b, off + j * 2 + 1, none⟩ = some u) ∧ ∀ j, j < k → wr.cell? ⟨b, off + j * 2, none⟩ = some (.int .i64 (k0 + 2 * j)) ∧ wr.cell? ⟨b, off + j * 2 + 1, none⟩ = some (.int .i64 (k0 + 2 * j + 1))) (fun _ i _ => xs.length - (intOf i).toNat)
    case atStart => exact ⟨0, Nat.zero_le _, rfl, by simp, Within.refl _ _ _, fun j hj => ⟨(h1 j hj).2, ⟨_, (h1 j hj).1.1⟩, ⟨_, (h1 j hj).1.2⟩⟩, fun j hj => by omega⟩
    case round =>
      obtain ⟨k, hkk, rfl, rfl, hw, hf, hc⟩ := hrel
      by_cases hlt : k < xs.length
      · obtain ⟨⟨f1, f2⟩, ⟨u, g1⟩, ⟨u', g2⟩⟩ := hf k hlt
        have hltI : (k : Int) < (xs.length : Int) := by omega
        have HF := hide hf
        have HC := hide hc
        clear hf hc h1
        have g3 : (wr.setCell ⟨b, off + k * 2, none⟩ (.int .i64 (k0 + 2 * k))).cell? ⟨b, off + k * 2 + 1, none⟩ = some u' := by rw [World.cell?_setCell_other _ _ _ _ (addr_ne (by omega))]; exact g2
        go_wp2
        go_roundw
        case rel =>
          have same2 : ((wr.setCell ⟨b, off + k * 2, none⟩ (.int .i64 (k0 + 2 * k))).setCell ⟨b, off + k * 2 + 1, none⟩ (.int .i64 (k0 + 2 * k + 1))).cell? ⟨b, off + k * 2 + 1, none⟩ = some (.int .i64 (k0 + 2 * k + 1)) := World.cell?_setCell_same _ _ _ g3
          have same1 : ((wr.setCell ⟨b, off + k * 2, none⟩ (.int .i64 (k0 + 2 * k))).setCell ⟨b, off + k * 2 + 1, none⟩ (.int .i64 (k0 + 2 * k + 1))).cell? ⟨b, off + k * 2, none⟩ = some (.int .i64 (k0 + 2 * k)) := by
            rw [World.cell?_setCell_other _ _ _ _ (addr_ne (by omega))]; exact World.cell?_setCell_same _ _ _ g1
          have other : ∀ o, o ≠ off + k * 2 → o ≠ off + k * 2 + 1 → ((wr.setCell ⟨b, off + k * 2, none⟩ (.int .i64 (k0 + 2 * k))).setCell ⟨b, off + k * 2 + 1, none⟩ (.int .i64 (k0 + 2 * k + 1))).cell? ⟨b, o, none⟩ = wr.cell? ⟨b, o, none⟩ := fun o h1 h2 => by
            rw [World.cell?_setCell_other _ _ _ _ (addr_ne (by omega)), World.cell?_setCell_other _ _ _ _ (addr_ne (by omega))]
          refine ⟨k + 1, by omega, by go_num, by go_num, (hw.setCell hl hh _).setCell hl hh _, fun j hj => ?_, fun j hj => ?_⟩
          · simp only [World.frozen?_setCell]
            refine ⟨(HF.out j hj).1, ?_⟩
            by_cases e : j = k
            · subst e; exact ⟨⟨_, same1⟩, ⟨_, same2⟩⟩
            · rw [other _ (by omega) (by omega), other _ (by omega) (by omega)]; exact (HF.out j hj).2
          · by_cases e : j = k
            · subst e; exact ⟨same1, same2⟩
            · rw [other _ (by omega) (by omega), other _ (by omega) (by omega)]; exact HC.out j (by omega)
        case measure => simp [intOf]; omega
      · have hk' : k = xs.length := by omega
        subst hk'
        go_wp2
        go_ret
        refine ⟨rfl, ⟨_, _, by rw [marksP_length], .inr ⟨b, off, rfl, hl, hh, fun i hi => ?_⟩⟩, hw⟩
        rw [marksP_length] at hi
        rw [marksP_get _ _ _ hi]
        exact ⟨hc i hi, (hf i hi).1⟩

theorem info_pair : (Tryz.prog.info? 193).map (fun i => (i.zero, i.size, i.bytes)) = some (some (.agg #[.int .i64 0, .int .i64 0]), 2, 16) := by kernel_rfl

set_option maxHeartbeats 1000000 in
theorem toCellS_calls (zs : List (Int × Int)) (v : Value) (w : World) (hn : zs.length ≤ 1048576) (h1 : PRead w v zs) :
    Calls Tryz.prog 94 #[v] w fun e w' => ∃ v', e = .returned v' ∧ PairsAt w.heap.size w'.heap.size w' v' zs ∧ Below w.heap.size w w' := by
  obtain ⟨i0, hi, hz0, hz1, hz2⟩ := info_parts info_pair
  obtain ⟨a1, c1, rfl, h1⟩ := h1
  go_enter Tryz.func94, Tryz.ntmps94
  go_wp2_with (at_make; refine wpList_make_full _ rfl (.tmp 6) (.tmp 6) 33 rfl w.heap.size 193 i0 (.agg #[.int .i64 0, .int .i64 0]) 2 Tryz.underlying33 hi hz0 hz1 .i64 .i64 _ _ zs.length rfl rfl rfl rfl ?c1 ?c2 ?c3 ?_)
  case c1 => rw [hz2]; omega
  case c2 => unfold maxLen; omega
  case c3 => exact Nat.le_refl _
  intro w1 hown hgrow
  have hany := own_any2 hown
  have hlt1 : w.heap.size < w1.heap.size := (hown.lt w.heap.size rfl).2
  have hb1 : Below w.heap.size w w1 := (Below.refl _ _).grown hgrow (Nat.le_refl _) (fun k hk => by cases hk)
  have HA := hide hany
  clear hown hgrow hany
  go_wp2
  go_loopw [4] (fun i wr => ∃ k : Nat, k ≤ zs.length ∧ i = .int .i64 k ∧ Below w.heap.size w wr ∧ w.heap.size < wr.heap.size ∧
      (∀ j, j < zs.length * 2 → (∃ u, wr.cell? ⟨w.heap.size, 0 + j, none⟩ = some u) ∧ wr.frozen? ⟨w.heap.size, 0 + j, none⟩ = false) ∧ ∀ j, j < k → wr.cell? ⟨w.heap.size, 0 + j * 2, none⟩ = some (.int .i64 (zs.getD j (0, 0)).1) ∧ wr.cell? ⟨w.heap.size, 0 + j * 2 + 1, none⟩ = some (.int .i64 (zs.getD j (0, 0)).2)) (fun i _ => zs.length - (intOf i).toNat)
  case atStart => exact ⟨0, Nat.zero_le _, rfl, hb1, hlt1, HA.out, fun j hj => by omega⟩
  case round =>
    obtain ⟨k, hkk, rfl, hw, hsz, hf, hc⟩ := hrel
    by_cases hlt : k < zs.length
    · have hpos : zs ≠ [] := by intro h; rw [h] at hlt; simp at hlt
      rcases h1 with h1 | ⟨b1, o1, rfl, h1⟩
      · exact absurd h1 hpos
      obtain ⟨g1, g2⟩ := h1 k hlt
      replace g1 := cellb hw g1
      replace g2 := cellb hw g2
      have hltI : (k : Int) < (zs.length : Int) := by omega
      have HF := hide hf
      have HC := hide hc
      clear hf hc h1 hpos HA hb1 hlt1
      have HG : Hid ((zs.getD k (0, 0)) = ((zs.getD k (0, 0)).1, (zs.getD k (0, 0)).2)) := rfl
      generalize hcc : (zs.getD k (0, 0)).1 = c at *
      generalize hgg : (zs.getD k (0, 0)).2 = g at *
      clear hcc hgg
      go_wp2_with fail
      refine (toCell_calls c g _).mono ?_
      rintro e w2 ⟨rfl, hb2⟩
      have hs2 : w.heap.size < w2.heap.size := Nat.lt_of_lt_of_le hsz hb2.size
      have hw2 := hw.trans (hb2.mono (by omega))
      have HF2 : Hid (∀ j, j < zs.length * 2 → (∃ u, w2.cell? ⟨w.heap.size, 0 + j, none⟩ = some u) ∧ w2.frozen? ⟨w.heap.size, 0 + j, none⟩ = false) := fun j hj => by
        obtain ⟨⟨u, hu⟩, hfz⟩ := HF.out j hj
        exact ⟨⟨u, cellb hb2 hu⟩, by rw [hb2.frozen (p := ⟨w.heap.size, 0 + j, none⟩) hsz]; exact hfz⟩
      have HC2 : Hid (∀ j, j < k → w2.cell? ⟨w.heap.size, 0 + j * 2, none⟩ = some (.int .i64 (zs.getD j (0, 0)).1) ∧ w2.cell? ⟨w.heap.size, 0 + j * 2 + 1, none⟩ = some (.int .i64 (zs.getD j (0, 0)).2)) := fun j hj => ⟨cellb hb2 (HC.out j hj).1, cellb hb2 (HC.out j hj).2⟩
      obtain ⟨⟨u, k1⟩, f1⟩ := HF2.out (k * 2) (by omega)
      obtain ⟨⟨u', k2⟩, f2⟩ := HF2.out (k * 2 + 1) (by omega)
      have K1 := hide k1
      have K2 := hide k2
      rw [Nat.zero_add] at k1 f1 k2 f2
      clear g1 g2 HF HC hw hb2 hsz
      go_wp2
      go_roundw
      case rel =>
        obtain ⟨s1, s2, so⟩ := two_cells (x := .int .i64 c) (y := .int .i64 g) k1 k2
        refine ⟨k + 1, by omega, by go_num, (hw2.setCell (Nat.le_refl _) _).setCell (Nat.le_refl _) _, by simpa [World.setCell] using hs2, fun j hj => ⟨?_, ?_⟩, fun j hj => ?_⟩
        · rw [Nat.zero_add]
          by_cases e : j = k * 2
          · subst e; exact ⟨_, s1⟩
          · by_cases e' : j = k * 2 + 1
            · subst e'; exact ⟨_, s2⟩
            · rw [so j e e']; obtain ⟨u, hu⟩ := (HF2.out j hj).1; rw [Nat.zero_add] at hu; exact ⟨u, hu⟩
        · simp only [World.frozen?_setCell]; exact (HF2.out j hj).2
        · by_cases e : j = k
          · subst e; rw [Nat.zero_add, s1, s2, HG.out]; exact ⟨rfl, rfl⟩
          · rw [Nat.zero_add, so _ (by omega) (by omega), so _ (by omega) (by omega)]
            have := HC2.out j (by omega)
            rw [Nat.zero_add] at this
            exact this
      case measure => simp [intOf]; omega
    · have hk' : k = zs.length := by omega
      subst hk'
      go_wp2
      go_ret
      exact ⟨_, rfl, ⟨_, _, rfl, .inr ⟨w.heap.size, 0, rfl, Nat.le_refl _, hsz, fun i hi => ⟨hc i hi, (hf (i * 2) (by omega)).2, (hf (i * 2 + 1) (by omega)).2⟩⟩⟩, hw⟩

end Go.Proofs.YtdekegjplegkeaaGreat
