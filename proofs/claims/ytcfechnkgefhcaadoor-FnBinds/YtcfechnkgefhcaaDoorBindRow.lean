/-
  The laws' functions on lists of binds: szBindS, toBindS, eqBindS, markBindS, heldBindS, and on results.
-/
import Derived.Test.YtcfechnkgefhcaaDoorBindSpec
import Derived.Laws.IdiomCopy
namespace Go.Proofs.YtcfechnkgefhcaaDoor
set_option maxRecDepth 20000
open Go.ChangeShapes Go.WideShapes Go.ChangeAt Go.RowKit
set_option linter.unusedVariables false
set_option linter.unusedSimpArgs false
set_option maxRecDepth 20000

theorem four_cells {w : World} {b o : Nat} {x0 x1 x2 x3 u0 u1 u2 u3 : Value} (h0 : w.cell? ⟨b, o, none⟩ = some u0) (h1 : w.cell? ⟨b, o + 1, none⟩ = some u1) (h2 : w.cell? ⟨b, o + 2, none⟩ = some u2) (h3 : w.cell? ⟨b, o + 3, none⟩ = some u3) :
    let W := (((w.setCell ⟨b, o, none⟩ x0).setCell ⟨b, o + 1, none⟩ x1).setCell ⟨b, o + 2, none⟩ x2).setCell ⟨b, o + 3, none⟩ x3
    W.cell? ⟨b, o, none⟩ = some x0 ∧ W.cell? ⟨b, o + 1, none⟩ = some x1 ∧ W.cell? ⟨b, o + 2, none⟩ = some x2 ∧ W.cell? ⟨b, o + 3, none⟩ = some x3 ∧
    ∀ q, q ≠ o → q ≠ o + 1 → q ≠ o + 2 → q ≠ o + 3 → W.cell? ⟨b, q, none⟩ = w.cell? ⟨b, q, none⟩ := by
  intro W
  have g1 : (w.setCell ⟨b, o, none⟩ x0).cell? ⟨b, o + 1, none⟩ = some u1 := by rw [World.cell?_setCell_other _ _ _ _ (addr_ne (by omega))]; exact h1
  have g2 : ((w.setCell ⟨b, o, none⟩ x0).setCell ⟨b, o + 1, none⟩ x1).cell? ⟨b, o + 2, none⟩ = some u2 := by rw [World.cell?_setCell_other _ _ _ _ (addr_ne (by omega)), World.cell?_setCell_other _ _ _ _ (addr_ne (by omega))]; exact h2
  have g3 : (((w.setCell ⟨b, o, none⟩ x0).setCell ⟨b, o + 1, none⟩ x1).setCell ⟨b, o + 2, none⟩ x2).cell? ⟨b, o + 3, none⟩ = some u3 := by rw [World.cell?_setCell_other _ _ _ _ (addr_ne (by omega)), World.cell?_setCell_other _ _ _ _ (addr_ne (by omega)), World.cell?_setCell_other _ _ _ _ (addr_ne (by omega))]; exact h3
  refine ⟨?_, ?_, ?_, World.cell?_setCell_same _ _ _ g3, fun q e0 e1 e2 e3 => ?_⟩
  · rw [World.cell?_setCell_other _ _ _ _ (addr_ne (by omega)), World.cell?_setCell_other _ _ _ _ (addr_ne (by omega)), World.cell?_setCell_other _ _ _ _ (addr_ne (by omega))]; exact World.cell?_setCell_same _ _ _ h0
  · rw [World.cell?_setCell_other _ _ _ _ (addr_ne (by omega)), World.cell?_setCell_other _ _ _ _ (addr_ne (by omega))]; exact World.cell?_setCell_same _ _ _ g1
  · rw [World.cell?_setCell_other _ _ _ _ (addr_ne (by omega))]; exact World.cell?_setCell_same _ _ _ g2
  · rw [World.cell?_setCell_other _ _ _ _ (addr_ne (by omega)), World.cell?_setCell_other _ _ _ _ (addr_ne (by omega)), World.cell?_setCell_other _ _ _ _ (addr_ne (by omega)), World.cell?_setCell_other _ _ _ _ (addr_ne (by omega))]
theorem own_any4 {w : World} {base n cap g : Nat} {e : TypeId} {xs : List Value} (h : w.ownsRow base e 4 (.slice (some ⟨g, 0, none⟩) n cap) n xs) : ∀ j, j < n * 4 → (∃ u, w.cell? ⟨g, 0 + j, none⟩ = some u) ∧ w.frozen? ⟨g, 0 + j, none⟩ = false := by
  intro j hj
  have hl := h.1
  refine ⟨⟨xs[j]'(by omega), ?_⟩, ?_⟩
  · rw [Nat.zero_add, h.cellAt j (by omega)]
    exact List.getElem?_eq_getElem (by omega)
  · rw [Nat.zero_add]; exact h.frozenAt j
theorem info_bind : (Tryd.prog.info? 28).map (fun i => (i.zero, i.size, i.bytes)) = some (some (.agg #[.int .i64 0, .int .i64 0, .int .i64 0, .int .i64 0]), 4, 32) := by kernel_rfl

set_option maxHeartbeats 400000 in
theorem szBindS_calls (n : Nat) (L : Int) (hL : 0 ≤ L) (hL2 : L ≤ 1048576) (a : Option Addr) (cap : Nat) (w : World) (hn : n ≤ maxLen) :
    Calls Tryd.prog 29 #[.slice a n cap, .int .i64 L] w fun e w' => e = .returned (.int .i64 (if (n : Int) ≤ L then L - n else -1)) ∧ w' = w := by
  unfold maxLen at hn
  have hwr : IntKind.i64.wrap (L - (n : Int)) = L - n := by rw [IntKind.wrap_i64]; omega
  by_cases h : (n : Int) ≤ L
  · rw [if_pos h]
    have hge : ¬ (L - (n : Int) < 0) := by omega
    go_enter Tryd.func29, Tryd.ntmps29
    go_wp2
    go_ret
    exact ⟨rfl, rfl⟩
  · rw [if_neg h]
    have hlt : L - (n : Int) < 0 := by omega
    go_enter Tryd.func29, Tryd.ntmps29
    go_wp2
    go_ret
    exact ⟨rfl, rfl⟩
set_option maxHeartbeats 2000000 in
theorem toBindS_calls (zs : List Bd) (v : Value) (w : World) (hn : zs.length ≤ 1048576) (h1 : QRead w v zs) :
    Calls Tryd.prog 30 #[v] w fun e w' => ∃ v', e = .returned v' ∧ QAt w.heap.size w'.heap.size w' v' zs ∧ Below w.heap.size w w' := by
  obtain ⟨i0, hi, hz0, hz1, hz2⟩ := info_parts info_bind
  obtain ⟨a1, c1, rfl, h1⟩ := h1
  go_enter Tryd.func30, Tryd.ntmps30
  go_wp2_with (at_make; refine wpList_make_full _ rfl (.tmp 6) (.tmp 6) 24 rfl w.heap.size 28 i0 (.agg #[.int .i64 0, .int .i64 0, .int .i64 0, .int .i64 0]) 4 Tryd.underlying24 hi hz0 hz1 .i64 .i64 _ _ zs.length rfl rfl rfl rfl ?c1 ?c2 ?c3 ?_)
  case c1 => rw [hz2]; omega
  case c2 => unfold maxLen; omega
  case c3 => exact Nat.le_refl _
  intro w1 hown hgrow
  have hany := own_any4 hown
  have hlt1 : w.heap.size < w1.heap.size := (hown.lt w.heap.size rfl).2
  have hb1 : Below w.heap.size w w1 := (Below.refl _ _).grown hgrow (Nat.le_refl _) (fun k hk => by cases hk)
  have HA := hide hany
  clear hown hgrow hany
  go_wp2
  go_loopw [4] (fun i wr => ∃ k : Nat, k ≤ zs.length ∧ i = .int .i64 k ∧ Below w.heap.size w wr ∧ w.heap.size < wr.heap.size ∧
      (∀ j, j < zs.length * 4 → (∃ u, wr.cell? ⟨w.heap.size, 0 + j, none⟩ = some u) ∧ wr.frozen? ⟨w.heap.size, 0 + j, none⟩ = false) ∧ ∀ j, j < k → Q4 wr w.heap.size (0 + j * 4) (zs.getD j b0)) (fun i _ => zs.length - (intOf i).toNat)
  case atStart => exact ⟨0, Nat.zero_le _, rfl, hb1, hlt1, HA.out, fun j hj => by omega⟩
  case round =>
    obtain ⟨k, hkk, rfl, hw, hsz, hf, hc⟩ := hrel
    by_cases hlt : k < zs.length
    · have hpos : zs ≠ [] := by intro h; rw [h] at hlt; simp at hlt
      rcases h1 with h1 | ⟨b1, o1, rfl, h1⟩
      · exact absurd h1 hpos
      have hq := (h1 k hlt).below hw
      have hltI : (k : Int) < (zs.length : Int) := by omega
      have HF := hide hf
      have HC := hide hc
      clear hf hc h1 hpos HA hb1 hlt1
      have HG : Hid (∀ W o, Q4 W w.heap.size o (zs.getD k b0) ↔ Q4 W w.heap.size o ((zs.getD k b0).1, (zs.getD k b0).2.1, (zs.getD k b0).2.2.1, (zs.getD k b0).2.2.2)) := hide (fun _ _ => Iff.rfl)
      obtain ⟨g0, g1, g2, g3⟩ := hq
      generalize (zs.getD k b0).1 = x0 at *
      generalize (zs.getD k b0).2.1 = x1 at *
      generalize (zs.getD k b0).2.2.1 = x2 at *
      generalize (zs.getD k b0).2.2.2 = x3 at *
      go_wp2_with fail
      refine (toBind_calls x0 x1 x2 x3 _).mono ?_
      rintro e w2 ⟨rfl, hb2⟩
      have hs2 : w.heap.size < w2.heap.size := Nat.lt_of_lt_of_le hsz hb2.size
      have hw2 := hw.trans (hb2.mono (by omega))
      have HF2 : Hid (∀ j, j < zs.length * 4 → (∃ u, w2.cell? ⟨w.heap.size, 0 + j, none⟩ = some u) ∧ w2.frozen? ⟨w.heap.size, 0 + j, none⟩ = false) := fun j hj => by
        obtain ⟨⟨u, hu⟩, hfz⟩ := HF.out j hj
        exact ⟨⟨u, cellb hb2 hu⟩, by rw [hb2.frozen (p := ⟨w.heap.size, 0 + j, none⟩) hsz]; exact hfz⟩
      have HC2 : Hid (∀ j, j < k → Q4 w2 w.heap.size (0 + j * 4) (zs.getD j b0)) := fun j hj => (HC.out j hj).below hb2
      obtain ⟨⟨u0, k0⟩, f0⟩ := HF2.out (k * 4) (by omega)
      obtain ⟨⟨u1, k1⟩, f1⟩ := HF2.out (k * 4 + 1) (by omega)
      obtain ⟨⟨u2, k2⟩, f2⟩ := HF2.out (k * 4 + 2) (by omega)
      obtain ⟨⟨u3, k3⟩, f3⟩ := HF2.out (k * 4 + 3) (by omega)
      rw [Nat.zero_add] at k0 f0 k1 f1 k2 f2 k3 f3
      clear g0 g1 g2 g3 HF HC hw hb2 hsz
      go_wp2
      go_roundw
      case rel =>
        obtain ⟨s0, s1, s2, s3, so⟩ := four_cells (x0 := .int .i64 x0) (x1 := .int .i64 x1) (x2 := .int .i64 x2) (x3 := .int .i64 x3) k0 k1 k2 k3
        refine ⟨k + 1, by omega, by go_num, (((hw2.setCell (Nat.le_refl _) _).setCell (Nat.le_refl _) _).setCell (Nat.le_refl _) _).setCell (Nat.le_refl _) _, by simpa [World.setCell] using hs2, fun j hj => ⟨?_, ?_⟩, fun j hj => ?_⟩
        · rw [Nat.zero_add]
          by_cases e0 : j = k * 4
          · subst e0; exact ⟨_, s0⟩
          by_cases e1 : j = k * 4 + 1
          · subst e1; exact ⟨_, s1⟩
          by_cases e2 : j = k * 4 + 2
          · subst e2; exact ⟨_, s2⟩
          by_cases e3 : j = k * 4 + 3
          · subst e3; exact ⟨_, s3⟩
          rw [so j e0 e1 e2 e3]; obtain ⟨u, hu⟩ := (HF2.out j hj).1; rw [Nat.zero_add] at hu; exact ⟨u, hu⟩
        · simp only [World.frozen?_setCell]; exact (HF2.out j hj).2
        · by_cases e : j = k
          · subst e
            rw [Nat.zero_add]
            exact (HG.out _ _).2 ⟨s0, s1, s2, s3⟩
          · have h4 := HC2.out j (by omega)
            rw [Nat.zero_add] at h4 ⊢
            refine ⟨?_, ?_, ?_, ?_⟩
            · rw [so _ (by omega) (by omega) (by omega) (by omega)]; exact h4.1
            · rw [so _ (by omega) (by omega) (by omega) (by omega)]; exact h4.2.1
            · rw [so _ (by omega) (by omega) (by omega) (by omega)]; exact h4.2.2.1
            · rw [so _ (by omega) (by omega) (by omega) (by omega)]; exact h4.2.2.2
      case measure => simp [intOf]; omega
    · have hk' : k = zs.length := by omega
      subst hk'
      go_wp2
      go_ret
      exact ⟨_, rfl, ⟨_, _, rfl, Nat.le_refl _, .inr ⟨w.heap.size, 0, rfl, Nat.le_refl _, hsz, fun i hi => ⟨hc i hi, (hf (i * 4) (by omega)).2, (hf (i * 4 + 1) (by omega)).2, (hf (i * 4 + 2) (by omega)).2, (hf (i * 4 + 3) (by omega)).2⟩⟩⟩, hw⟩
set_option maxHeartbeats 400000 in
theorem eqSym_calls (c g : Int) (w : World) :
    Calls Tryd.prog 65 #[.agg #[.int .i64 c, .int .i64 g], .agg #[.int .i64 c, .int .i64 g]] w fun e w' => e = .returned (.bool true) ∧ Below w.heap.size w w' := by
  have h1 : (c != c) = false := by simp
  have h2 : (g != g) = false := by simp
  go_enter Tryd.func65, Tryd.ntmps65
  go_wp2
  go_ret
  exact ⟨rfl, (by repeat' (first | with_reducible exact Below.refl _ _ | with_reducible assumption | with_reducible refine Below.drew ?_ | with_reducible refine Below.alloc ?_ ?_ _ | with_reducible refine Below.setCell ?_ ?_ _ | (simp; done) | (simp; omega) | omega))⟩
set_option maxHeartbeats 400000 in
theorem eqBind_calls (x0 x1 x2 x3 : Int) (w : World) :
    Calls Tryd.prog 63 #[.agg #[.int .i64 x0, .int .i64 x1, .int .i64 x2, .int .i64 x3], .agg #[.int .i64 x0, .int .i64 x1, .int .i64 x2, .int .i64 x3]] w fun e w' => e = .returned (.bool true) ∧ Below w.heap.size w w' := by
  have h1 : (x0 != x0) = false := by simp
  have h2 : (x1 != x1) = false := by simp
  have hb0 : Below w.heap.size w ((w.alloc (.cells #[.int .i64 x0, .int .i64 x1, .int .i64 x2, .int .i64 x3] 28)).alloc (.cells #[.int .i64 x0, .int .i64 x1, .int .i64 x2, .int .i64 x3] 28)) := (by repeat' (first | with_reducible exact Below.refl _ _ | with_reducible assumption | with_reducible refine Below.drew ?_ | with_reducible refine Below.alloc ?_ ?_ _ | with_reducible refine Below.setCell ?_ ?_ _ | (simp; done) | (simp; omega) | omega))
  go_enter Tryd.func63, Tryd.ntmps63
  go_wp2_with fail
  refine (eqSym_calls x2 x3 _).mono ?_
  rintro e w2 ⟨rfl, hb2⟩
  have hb := hb0.trans (hb2.mono hb0.size)
  clear hb2 hb0
  go_wp2
  go_ret
  exact ⟨rfl, hb⟩
set_option maxHeartbeats 1000000 in
theorem eqBindS_calls (xs : List Bd) (v1 v2 : Value) (w : World) (hn : xs.length ≤ 1000000000) (h1 : QRead w v1 xs) (h2 : QRead w v2 xs) :
    Calls Tryd.prog 31 #[v1, v2] w fun e w' => e = .returned (.bool true) ∧ Below w.heap.size w w' := by
  obtain ⟨a1, c1, rfl, h1⟩ := h1
  obtain ⟨a2, c2, rfl, h2⟩ := h2
  have hne : ((xs.length : Int) != (xs.length : Int)) = false := by simp
  go_enter Tryd.func31, Tryd.ntmps31
  go_wp2
  go_loopw [5] (fun i wr => ∃ k : Nat, k ≤ xs.length ∧ i = .int .i64 k ∧ Below w.heap.size w wr) (fun i _ => xs.length - (intOf i).toNat)
  case atStart => exact ⟨0, Nat.zero_le _, rfl, Below.refl _ _⟩
  case round =>
    obtain ⟨k, hk, rfl, hw⟩ := hrel
    by_cases hlt : k < xs.length
    · have hpos : xs ≠ [] := by intro h; rw [h] at hlt; simp at hlt
      rcases h1 with h1 | ⟨b1, o1, rfl, h1⟩
      · exact absurd h1 hpos
      rcases h2 with h2 | ⟨b2, o2, rfl, h2⟩
      · exact absurd h2 hpos
      have g := (h1 k hlt).below hw
      have r := (h2 k hlt).below hw
      clear h1 h2 hpos
      have hltI : (k : Int) < (xs.length : Int) := by omega
      generalize xs.getD k b0 = x at *
      obtain ⟨x0, x1, x2, x3⟩ := x
      have hS : Below wr.heap.size wr wr.drew ∧ Q4 wr.drew b1 (o1 + k * 4) (x0, x1, x2, x3) ∧ Q4 wr.drew b2 (o2 + k * 4) (x0, x1, x2, x3) := ⟨Below.drew (Below.refl _ _), g, r⟩
      clear g r
      go_wp2_with fail
      refine wp_region_held_drew (S := (fun w' => Below wr.heap.size wr w' ∧ Q4 w' b1 (o1 + k * 4) (x0, x1, x2, x3) ∧ Q4 w' b2 (o2 + k * 4) (x0, x1, x2, x3))) (by kernel_rfl) ?_ (fun hHeld => ?_)
      · (try dsimp only); exact hS
      refine wpAnyH_take (i := 0) (oi := ⟨_, _, _, _, _, _⟩) (v := ?_) rfl (by kernel_rfl) (by kernel_rfl) (by kernel_rfl) (fun _ _ _ h => h) (Or.inl ⟨by rfl, ?_⟩) hHeld ?_
      rotate_left
      · (intro w hSw; (try dsimp only at hSw); obtain ⟨_, ⟨s0, s1, s2, s3⟩, u0, u1, u2, u3⟩ := hSw; (try dsimp only at s0 s1 s2 s3 u0 u1 u2 u3); go_simp; try (with_reducible rfl))
      try simp only [Act.put, List.setIfInBounds_toArray, List.set_cons_zero, List.set_cons_succ]
      refine wpAnyH_take (i := 1) (oi := ⟨_, _, _, _, _, _⟩) (v := ?_) rfl (by kernel_rfl) (by kernel_rfl) (by kernel_rfl) (fun _ _ _ h => h) (Or.inl ⟨by rfl, ?_⟩) hHeld ?_
      rotate_left
      · (intro w hSw; (try dsimp only at hSw); obtain ⟨_, ⟨s0, s1, s2, s3⟩, u0, u1, u2, u3⟩ := hSw; (try dsimp only at s0 s1 s2 s3 u0 u1 u2 u3); go_simp; try (with_reducible rfl))
      try simp only [Act.put, List.setIfInBounds_toArray, List.set_cons_zero, List.set_cons_succ]
      refine wpAnyH_take (i := 2) (oi := ⟨_, _, _, _, _, _⟩) (v := ?_) rfl (by kernel_rfl) (by kernel_rfl) (by kernel_rfl) (fun _ _ _ h => h) (Or.inl ⟨by rfl, ?_⟩) hHeld ?_
      rotate_left
      · (intro w hSw; (try dsimp only at hSw); obtain ⟨_, ⟨s0, s1, s2, s3⟩, u0, u1, u2, u3⟩ := hSw; (try dsimp only at s0 s1 s2 s3 u0 u1 u2 u3); go_simp; try (with_reducible rfl))
      try simp only [Act.put, List.setIfInBounds_toArray, List.set_cons_zero, List.set_cons_succ]
      refine wpAnyH_take (i := 3) (oi := ⟨_, _, _, _, _, _⟩) (v := ?_) rfl (by kernel_rfl) (by kernel_rfl) (by kernel_rfl) (fun _ _ _ h => h) (Or.inl ⟨by rfl, ?_⟩) hHeld ?_
      rotate_left
      · (intro w hSw; (try dsimp only at hSw); obtain ⟨_, ⟨s0, s1, s2, s3⟩, u0, u1, u2, u3⟩ := hSw; (try dsimp only at s0 s1 s2 s3 u0 u1 u2 u3); go_simp; try (with_reducible rfl))
      try simp only [Act.put, List.setIfInBounds_toArray, List.set_cons_zero, List.set_cons_succ]
      refine wpAnyH_take (i := 4) (oi := ⟨_, _, _, _, _, _⟩) (v := ?_) rfl (by kernel_rfl) (by kernel_rfl) (by kernel_rfl) (fun _ _ _ h => h) (Or.inl ⟨by rfl, ?_⟩) hHeld ?_
      rotate_left
      · (intro w hSw; (try dsimp only at hSw); obtain ⟨_, ⟨s0, s1, s2, s3⟩, u0, u1, u2, u3⟩ := hSw; (try dsimp only at s0 s1 s2 s3 u0 u1 u2 u3); go_simp; try (with_reducible rfl))
      try simp only [Act.put, List.setIfInBounds_toArray, List.set_cons_zero, List.set_cons_succ]
      refine wpAnyH_take (i := 5) (oi := ⟨_, _, _, _, _, _⟩) (v := ?_) rfl (by kernel_rfl) (by kernel_rfl) (by kernel_rfl) (fun _ _ _ h => h) (Or.inl ⟨by rfl, ?_⟩) hHeld ?_
      rotate_left
      · (intro w hSw; (try dsimp only at hSw); obtain ⟨_, ⟨s0, s1, s2, s3⟩, u0, u1, u2, u3⟩ := hSw; (try dsimp only at s0 s1 s2 s3 u0 u1 u2 u3); go_simp; try (with_reducible rfl))
      try simp only [Act.put, List.setIfInBounds_toArray, List.set_cons_zero, List.set_cons_succ]
      refine wpAnyH_take (i := 6) (oi := ⟨_, _, _, _, _, _⟩) (v := ?_) rfl (by kernel_rfl) (by kernel_rfl) (by kernel_rfl) (fun _ _ _ h => h) (Or.inl ⟨by rfl, ?_⟩) hHeld ?_
      rotate_left
      · (intro w hSw; (try dsimp only at hSw); obtain ⟨_, ⟨s0, s1, s2, s3⟩, u0, u1, u2, u3⟩ := hSw; (try dsimp only at s0 s1 s2 s3 u0 u1 u2 u3); go_simp; try (with_reducible rfl))
      try simp only [Act.put, List.setIfInBounds_toArray, List.set_cons_zero, List.set_cons_succ]
      refine wpAnyH_take (i := 7) (oi := ⟨_, _, _, _, _, _⟩) (v := ?_) rfl (by kernel_rfl) (by kernel_rfl) (by kernel_rfl) (fun _ _ _ h => h) (Or.inl ⟨by rfl, ?_⟩) hHeld ?_
      rotate_left
      · (intro w hSw; (try dsimp only at hSw); obtain ⟨_, ⟨s0, s1, s2, s3⟩, u0, u1, u2, u3⟩ := hSw; (try dsimp only at s0 s1 s2 s3 u0 u1 u2 u3); go_simp; try (with_reducible rfl))
      try simp only [Act.put, List.setIfInBounds_toArray, List.set_cons_zero, List.set_cons_succ]
      refine wpAnyH_ready (rs := [8]) (by kernel_rfl) (by simp) ?_
      refine AllReadyH.cons (o := ⟨_, _, _, _, _, _⟩) rfl (fun K hK => ?_) AllReadyH.nil
      go_simp
      go_at_call 63
      refine (eqBind_calls x0 x1 x2 x3 _).mono ?_
      rintro e w9 ⟨rfl, hb9⟩
      try go_wp2_with fail
      refine hK.out _ _ ?_ ?_
      · (try dsimp only); exact keep8 hHeld hb9
      clear hHeld hK K
      intro hHeld
      try simp only [Act.put, List.setIfInBounds_toArray, List.set_cons_zero, List.set_cons_succ]
      refine wpAnyH_take (i := 9) (oi := ⟨_, _, _, _, _, _⟩) (v := ?_) rfl (by kernel_rfl) (by kernel_rfl) (by kernel_rfl) (fun _ _ _ h => h) (Or.inl ⟨by rfl, ?_⟩) hHeld ?_
      rotate_left
      · (intro w hSw; (try dsimp only at hSw); obtain ⟨_, ⟨s0, s1, s2, s3⟩, u0, u1, u2, u3⟩ := hSw; (try dsimp only at s0 s1 s2 s3 u0 u1 u2 u3); go_simp; try (with_reducible rfl))
      try simp only [Act.put, List.setIfInBounds_toArray, List.set_cons_zero, List.set_cons_succ]
      refine wpAnyH_done (by kernel_rfl) ?_ _
      have bel := hHeld.1
      clear hS
      go_wp2
      go_roundw
      case rel => exact ⟨k + 1, by omega, by go_num, hw.trans (bel.mono hw.size)⟩
      case measure => simp [intOf]; omega
    · go_wp2
      go_ret
      exact ⟨rfl, hw⟩
set_option maxHeartbeats 1000000 in
theorem heldBindS_calls (xs : List Bd) (k0 : Int) (v : Value) (w : World) (hn : xs.length ≤ 100000000) (hk : 0 ≤ k0) (hk0 : k0 ≤ 100000000) (h1 : QRead w v xs) (hm : ∀ i, i < xs.length → xs.getD i b0 = ((k0 + 4 * i : Int), (k0 + 4 * i + 1 : Int), (k0 + 4 * i + 2 : Int), (k0 + 4 * i + 3 : Int))) :
    Calls Tryd.prog 64 #[v, .int .i64 k0] w fun e w' => e = .returned (.int .i64 (k0 + 4 * xs.length)) ∧ w' = w := by
  obtain ⟨a1, c1, rfl, h1⟩ := h1
  go_enter Tryd.func64, Tryd.ntmps64
  go_wp2
  go_loop [1, 5] (fun t i => ∃ k : Nat, k ≤ xs.length ∧ i = .int .i64 k ∧ t = .int .i64 (k0 + 4 * k)) (fun _ i => xs.length - (intOf i).toNat)
  case atStart => exact ⟨0, Nat.zero_le _, rfl, by simp⟩
  case round =>
    obtain ⟨k, hkk, rfl, rfl⟩ := hrel
    by_cases hlt : k < xs.length
    · have hpos : xs ≠ [] := by intro h; rw [h] at hlt; simp at hlt
      rcases h1 with h1 | ⟨b1, o1, rfl, h1⟩
      · exact absurd h1 hpos
      have g := h1 k hlt
      rw [hm k hlt] at g
      obtain ⟨g0, g1, g2, g3⟩ := g
      have hltI : (k : Int) < (xs.length : Int) := by omega
      clear h1 hpos hm
      have e1 : k0 + 4 * (k : Int) + 1 + 1 = k0 + 4 * k + 2 := by omega
      have e2 : k0 + 4 * (k : Int) + 2 + 1 = k0 + 4 * k + 3 := by omega
      have w1 : IntKind.i64.wrap (k0 + 4 * (k : Int) + 1) = k0 + 4 * k + 1 := wrap_small (by omega) (by omega)
      have w2 : IntKind.i64.wrap (k0 + 4 * (k : Int) + 2) = k0 + 4 * k + 2 := wrap_small (by omega) (by omega)
      have w3 : IntKind.i64.wrap (k0 + 4 * (k : Int) + 3) = k0 + 4 * k + 3 := wrap_small (by omega) (by omega)
      have n0 : ((k0 + 4 * (k : Int)) != (k0 + 4 * k)) = false := by simp
      have n1 : ((k0 + 4 * (k : Int) + 1) != (k0 + 4 * k + 1)) = false := by simp
      have n2 : ((k0 + 4 * (k : Int) + 2) != (k0 + 4 * k + 2)) = false := by simp
      have n3 : ((k0 + 4 * (k : Int) + 3) != (k0 + 4 * k + 3)) = false := by simp
      go_wp2
      go_round
      case rel => exact ⟨k + 1, by omega, by go_num, by go_num⟩
      case measure => simp [intOf]; omega
    · have hk' : k = xs.length := by omega
      subst hk'
      go_wp2
      go_ret
      exact ⟨rfl, rfl⟩
/-- The binds that a mark lays. -/
def marksB4 (k0 : Int) : Nat → List Bd
  | 0 => []
  | n + 1 => marksB4 k0 n ++ [((k0 + 4 * n : Int), (k0 + 4 * n + 1 : Int), (k0 + 4 * n + 2 : Int), (k0 + 4 * n + 3 : Int))]
theorem marksB4_length (k0 : Int) (n : Nat) : (marksB4 k0 n).length = n := by
  induction n with
  | zero => rfl
  | succ n ih => simp [marksB4, ih]
theorem marksB4_get (k0 : Int) (n i : Nat) (h : i < n) : (marksB4 k0 n).getD i b0 = ((k0 + 4 * i : Int), (k0 + 4 * i + 1 : Int), (k0 + 4 * i + 2 : Int), (k0 + 4 * i + 3 : Int)) := by
  induction n with
  | zero => omega
  | succ n ih =>
    simp only [marksB4]
    by_cases e : i < n
    · have := ih e
      simp only [List.getD_eq_getElem?_getD] at this ⊢
      rw [List.getElem?_append_left (by rw [marksB4_length]; omega)]
      exact this
    · obtain rfl : i = n := by omega
      simp [List.getElem?_append_right, marksB4_length]
theorem marksB4_at (k0 : Int) (n : Nat) : ∀ i, i < (marksB4 k0 n).length → (marksB4 k0 n).getD i b0 = ((k0 + 4 * i : Int), (k0 + 4 * i + 1 : Int), (k0 + 4 * i + 2 : Int), (k0 + 4 * i + 3 : Int)) := fun i hi => marksB4_get _ _ _ (by rwa [marksB4_length] at hi)
set_option maxHeartbeats 2000000 in
theorem markBindS_calls (xs : List Bd) (k0 : Int) (lo hi : Nat) (v : Value) (w : World) (hn : xs.length ≤ 100000000) (hk : 0 ≤ k0) (hk0 : k0 ≤ 100000000) (h1 : QAt lo hi w v xs) :
    Calls Tryd.prog 34 #[v, .int .i64 k0] w fun e w' => e = .returned (.int .i64 (k0 + 4 * xs.length)) ∧ QAt lo hi w' v (marksB4 k0 xs.length) ∧ Within lo hi w w' := by
  obtain ⟨a1, c1, rfl, hcap, h1⟩ := h1
  by_cases hnil : xs = []
  · subst hnil
    go_enter Tryd.func34, Tryd.ntmps34
    go_wp2
    go_loop [1, 5] (fun t i => t = .int .i64 k0 ∧ i = .int .i64 0) (fun _ i => 0)
    case atStart => exact ⟨rfl, rfl⟩
    case round =>
      obtain ⟨rfl, rfl⟩ := hrel
      go_wp2
      go_ret
      exact ⟨rfl, QAt.nil _ _ _ _ _, Within.refl _ _ _⟩
  · rcases h1 with h1 | ⟨b, off, rfl, hl, hh, h1⟩
    · exact absurd h1 hnil
    go_enter Tryd.func34, Tryd.ntmps34
    go_wp2
    go_loopw [1, 5] (fun t i wr => ∃ k : Nat, k ≤ xs.length ∧ i = .int .i64 k ∧ t = .int .i64 (k0 + 4 * k) ∧ Within lo hi w wr ∧
        (∀ j, j < xs.length → Z4 wr b (off + j * 4) ∧ ∃ q, Q4 wr b (off + j * 4) q) ∧ ∀ j, j < k → Q4 wr b (off + j * 4) ((k0 + 4 * j : Int), (k0 + 4 * j + 1 : Int), (k0 + 4 * j + 2 : Int), (k0 + 4 * j + 3 : Int))) (fun _ i _ => xs.length - (intOf i).toNat)
    case atStart => exact ⟨0, Nat.zero_le _, rfl, by simp, Within.refl _ _ _, fun j hj => ⟨(h1 j hj).2, ⟨_, (h1 j hj).1⟩⟩, fun j hj => by omega⟩
    case round =>
      obtain ⟨k, hkk, rfl, rfl, hw, hf, hc⟩ := hrel
      by_cases hlt : k < xs.length
      · obtain ⟨⟨f0, f1, f2, f3⟩, ⟨y0, y1, y2, y3⟩, g0, g1, g2, g3⟩ := hf k hlt
        have hltI : (k : Int) < (xs.length : Int) := by omega
        have HF := hide hf
        have HC := hide hc
        clear hf hc h1
        have e1 : k0 + 4 * (k : Int) + 1 + 1 = k0 + 4 * k + 2 := by omega
        have e2 : k0 + 4 * (k : Int) + 2 + 1 = k0 + 4 * k + 3 := by omega
        have w1 : IntKind.i64.wrap (k0 + 4 * (k : Int) + 1) = k0 + 4 * k + 1 := wrap_small (by omega) (by omega)
        have w2 : IntKind.i64.wrap (k0 + 4 * (k : Int) + 2) = k0 + 4 * k + 2 := wrap_small (by omega) (by omega)
        have w3 : IntKind.i64.wrap (k0 + 4 * (k : Int) + 3) = k0 + 4 * k + 3 := wrap_small (by omega) (by omega)
        go_wp2
        go_roundw
        case rel =>
          obtain ⟨s0, s1, s2, s3, so⟩ := four_cells (x0 := .int .i64 (k0 + 4 * k)) (x1 := .int .i64 (k0 + 4 * k + 1)) (x2 := .int .i64 (k0 + 4 * k + 2)) (x3 := .int .i64 (k0 + 4 * k + 3)) g0 g1 g2 g3
          refine ⟨k + 1, by omega, by go_num, by go_num, (((hw.setCell hl hh _).setCell hl hh _).setCell hl hh _).setCell hl hh _, fun j hj => ⟨?_, ?_⟩, fun j hj => ?_⟩
          · unfold Z4
            simp only [World.frozen?_setCell]
            exact (HF.out j hj).1
          · by_cases e : j = k
            · subst e; exact ⟨(_, _, _, _), s0, s1, s2, s3⟩
            · obtain ⟨q, h4⟩ := (HF.out j hj).2
              refine ⟨q, ?_, ?_, ?_, ?_⟩
              · rw [so _ (by omega) (by omega) (by omega) (by omega)]; exact h4.1
              · rw [so _ (by omega) (by omega) (by omega) (by omega)]; exact h4.2.1
              · rw [so _ (by omega) (by omega) (by omega) (by omega)]; exact h4.2.2.1
              · rw [so _ (by omega) (by omega) (by omega) (by omega)]; exact h4.2.2.2
          · by_cases e : j = k
            · subst e; exact ⟨s0, s1, s2, s3⟩
            · have h4 := HC.out j (by omega)
              refine ⟨?_, ?_, ?_, ?_⟩
              · rw [so _ (by omega) (by omega) (by omega) (by omega)]; exact h4.1
              · rw [so _ (by omega) (by omega) (by omega) (by omega)]; exact h4.2.1
              · rw [so _ (by omega) (by omega) (by omega) (by omega)]; exact h4.2.2.1
              · rw [so _ (by omega) (by omega) (by omega) (by omega)]; exact h4.2.2.2
        case measure => simp [intOf]; omega
      · have hk' : k = xs.length := by omega
        subst hk'
        go_wp2
        go_ret
        refine ⟨rfl, ⟨_, _, by rw [marksB4_length], by rw [marksB4_length]; exact hcap, .inr ⟨b, off, rfl, hl, hh, fun i hi => ?_⟩⟩, hw⟩
        rw [marksB4_length] at hi
        rw [marksB4_get _ _ _ hi]
        exact ⟨hc i hi, (hf i hi).1⟩
end Go.Proofs.YtcfechnkgefhcaaDoor
