/-
  The fault of a list of binds: impl.BindsFault; spec.l8Ahead, l8Fault, BindsFault.
-/
import Derived.Test.YtcfechnkgefhcaaDoorBindFns
namespace Go.Proofs.YtcfechnkgefhcaaDoor
set_option maxRecDepth 20000
open Go.ChangeShapes Go.WideShapes Go.ChangeAt Go.RowKit
set_option linter.unusedVariables false
set_option linter.unusedSimpArgs false
set_option maxRecDepth 20000

theorem keep8 {W w1 w2 : World} {b o1 o2 c : Nat} {p q : Bd} (h : Below W.heap.size W w1 ∧ Q4 w1 b o1 p ∧ Q4 w1 c o2 q) (hb : Below w1.heap.size w1 w2) : Below W.heap.size W w2 ∧ Q4 w2 b o1 p ∧ Q4 w2 c o2 q :=
  ⟨h.1.trans (hb.mono h.1.size), h.2.1.below hb, h.2.2.below hb⟩
set_option maxHeartbeats 2000000 in
theorem implBindsFault_calls (bs : List Bd) (v : Value) (w : World) (hn : bs.length ≤ 1048576) (h1 : QRead w v bs) (hT : FewAt w) :
    Calls Tryd.prog 13 #[v] w fun e w' => e = .returned (.int .i64 (bindsCode bs)) ∧ Below w.heap.size w w' := by
  obtain ⟨a1, c1, rfl, h1⟩ := h1
  have HT : Hid (∀ w', Below w.heap.size w w' → FewAt w') := hide (fun w' hb => hT.below hb)
  clear hT
  by_cases hmany : 24 < bs.length
  · have e : bindsCode bs = 2 := by unfold bindsCode; rw [if_pos hmany]
    rw [e]
    clear e h1 HT
    have hgt : (24 : Int) < (bs.length : Int) := by omega
    go_enter Tryd.func13, Tryd.ntmps13
    go_wp2
    go_ret
    exact ⟨rfl, Below.refl _ _⟩
  have e : bindsCode bs = bfault bs 0 := by unfold bindsCode; rw [if_neg hmany]
  have hgt : ¬ ((24 : Int) < (bs.length : Int)) := by omega
  rw [e]
  clear e hmany
  generalize hres : bfault bs 0 = res
  have HR := hide hres
  clear hres
  have H1 := hide h1
  clear h1
  go_enter Tryd.func13, Tryd.ntmps13
  go_wp2
  go_loopw [11] (fun i wr => ∃ k : Nat, k ≤ bs.length ∧ i = .int .i64 k ∧ Hid (bfault bs k = res) ∧ Below w.heap.size w wr) (fun i _ => bs.length - (intOf i).toNat)
  case atStart => exact ⟨0, Nat.zero_le _, rfl, HR, Below.refl _ _⟩
  case round =>
    obtain ⟨k, hkk, rfl, hr, hb⟩ := hrel
    by_cases hlt : k < bs.length
    · have hpos : bs ≠ [] := by intro h; rw [h] at hlt; simp at hlt
      rcases H1.out with h1 | ⟨b1, o1, rfl, h1⟩
      · exact absurd h1 hpos
      have hltI : (k : Int) < (bs.length : Int) := by omega
      have HB := hide (@bfault_bad bs k hlt)
      have HF := hide (@bfault_form bs k hlt)
      have HN := hide (@bfault_next bs k hlt)
      have hg := (h1 k hlt).below hb
      have HP : Hid (∀ j, k = j + 1 → Q4 wr b1 (o1 + j * 4) (bs.getD j b0)) := hide (fun j hj => (h1 j (by omega)).below hb)
      have hPD : Hid (∀ j, k = j + 1 → bs.getD (k - 1) b0 = bs.getD j b0) := hide (fun j hj => by rw [hj]; rfl)
      clear h1 hpos H1
      generalize hx : bs.getD k b0 = x at HB HF HN hg
      clear hx
      have hC : Hid (bindCode x = bindCode (x.1, x.2.1, x.2.2.1, x.2.2.2)) := hide rfl
      have hA : Hid (∀ y, aheadB y x = aheadB y (x.1, x.2.1, x.2.2.1, x.2.2.2)) := hide (fun _ => rfl)
      obtain ⟨g0, g1, g2, g3⟩ := hg
      have bel0 : Below wr.heap.size wr (wr.alloc (.cells #[.int .i64 x.1, .int .i64 x.2.1, .int .i64 x.2.2.1, .int .i64 x.2.2.2] 28)) := (by repeat' (first | with_reducible exact Below.refl _ _ | with_reducible assumption | with_reducible refine Below.drew ?_ | with_reducible refine Below.alloc ?_ ?_ _ | with_reducible refine Below.setCell ?_ ?_ _ | (simp; done) | (simp; omega) | omega))
      have X4 : Q4 (wr.alloc (.cells #[.int .i64 x.1, .int .i64 x.2.1, .int .i64 x.2.2.1, .int .i64 x.2.2.2] 28)) wr.heap.size 0 (x.1, x.2.1, x.2.2.1, x.2.2.2) := ⟨by simp, by simp, by simp, by simp⟩
      generalize x.1 = x0 at *
      generalize x.2.1 = x1 at *
      generalize x.2.2.1 = x2 at *
      generalize x.2.2.2 = x3 at *
      go_wp2_with fail
      generalize (wr.alloc (.cells #[.int .i64 x0, .int .i64 x1, .int .i64 x2, .int .i64 x3] 28)) = W0 at *
      clear g0 g1 g2 g3
      refine (bindFault_calls x0 x1 x2 x3 _ (HT.out _ (hb.trans (bel0.mono hb.size)))).mono ?_
      rintro e w2 ⟨rfl, hb2⟩
      have bel1 := bel0.trans (hb2.mono bel0.size)
      replace X4 := X4.below hb2
      have hlw : wr.heap.size < w2.heap.size := by
        rcases Nat.lt_or_ge wr.heap.size w2.heap.size with h' | h'
        · exact h'
        · have := X4.1
          simp [World.cell?, Array.getElem?_eq_none h'] at this
      clear hb2 bel0
      generalize hcd : bindCode (x0, x1, x2, x3) = cd at hC ⊢
      have HCD := hide hcd
      clear hcd
      by_cases hz : cd = 0
      · subst hz
        have hC0 : bindCode x = 0 := hC.out
        replace HF := hide (HF.out hC0)
        replace HN := hide (HN.out hC0)
        clear HB
        by_cases hk0 : k = 0
        · subst hk0
          have E1 : Hid (bfault bs 1 = res) := by show _ = _; rw [← hr.out, HN.out (fun h => by omega)]
          clear HF HN hPD HP hr
          go_wp2_with fail
          go_quiet (fail)
          go_wp2
          go_roundw
          case rel => exact ⟨1, by omega, rfl, E1, below_drewN (hb.trans (bel1.mono hb.size)) _⟩
          case measure => simp [intOf]; omega
        · obtain ⟨j, rfl⟩ : ∃ j, k = j + 1 := ⟨k - 1, by omega⟩
          have hp := (HP.out j rfl).below bel1
          have hpd := hPD.out j rfl
          rw [hpd] at HF HN
          generalize bs.getD j b0 = y at hp HF HN
          clear hpd hPD HP hk0
          have e2 : ((j + 1 : Nat) : Int) - 1 = (j : Int) := by omega
          have hkp : ((j + 1 : Nat) : Int) > 0 := by omega
          have hkp' : (0 : Int) < ((j + 1 : Nat) : Int) := by omega
          have hjl : (j : Int) < (bs.length : Int) := by omega
          have hwj : IntKind.i64.wrap (j : Int) = (j : Int) := wrap_small (by omega) (by omega)
          rw [hA.out] at HF HN
          obtain ⟨y0, y1, y2, y3⟩ := y
          have hS : Below w2.heap.size w2 w2.drew ∧ Q4 w2.drew b1 (o1 + j * 4) (y0, y1, y2, y3) ∧ Q4 w2.drew wr.heap.size 0 (x0, x1, x2, x3) := ⟨Below.drew (Below.refl _ _), hp, X4⟩
          by_cases hge : 0 ≤ cmpK (y0, y1, y2, y3) (x0, x1, x2, x3)
          · have hah : aheadB (y0, y1, y2, y3) (x0, x1, x2, x3) = false := by
              have := cmpK_neg (y0, y1, y2, y3) (x0, x1, x2, x3)
              cases h : aheadB (y0, y1, y2, y3) (x0, x1, x2, x3) with
              | false => rfl
              | true => rw [h] at this; simp at this; omega
            have e1 : res = 1 := by rw [← hr.out, HF.out ⟨by omega, hah⟩]
            subst e1
            clear HF HN hr hah
            go_wp2_with fail
            refine wp_region_held_drew (S := (fun w' => Below w2.heap.size w2 w' ∧ Q4 w' b1 (o1 + j * 4) (y0, y1, y2, y3) ∧ Q4 w' wr.heap.size 0 (x0, x1, x2, x3))) (by kernel_rfl) ?_ (fun hHeld => ?_)
            · (try dsimp only); exact hS
            refine wpAnyH_take (i := 0) (oi := ⟨_, _, _, _, _, _⟩) (v := ?_) rfl (by kernel_rfl) (by kernel_rfl) (by kernel_rfl) (fun _ _ _ h => h) (Or.inl ⟨by rfl, ?_⟩) hHeld ?_
            rotate_left
            · (intro w hSw; (try dsimp only at hSw); obtain ⟨_, ⟨s0, s1, s2, s3⟩, u0, u1, u2, u3⟩ := hSw; (try dsimp only at s0 s1 s2 s3 u0 u1 u2 u3); (try simp only [Nat.zero_add] at u1 u2 u3); go_simp; try (with_reducible rfl))
            try simp only [Act.put, List.setIfInBounds_toArray, List.set_cons_zero, List.set_cons_succ]
            refine wpAnyH_take (i := 1) (oi := ⟨_, _, _, _, _, _⟩) (v := ?_) rfl (by kernel_rfl) (by kernel_rfl) (by kernel_rfl) (fun _ _ _ h => h) (Or.inl ⟨by rfl, ?_⟩) hHeld ?_
            rotate_left
            · (intro w hSw; (try dsimp only at hSw); obtain ⟨_, ⟨s0, s1, s2, s3⟩, u0, u1, u2, u3⟩ := hSw; (try dsimp only at s0 s1 s2 s3 u0 u1 u2 u3); (try simp only [Nat.zero_add] at u1 u2 u3); go_simp; try (with_reducible rfl))
            try simp only [Act.put, List.setIfInBounds_toArray, List.set_cons_zero, List.set_cons_succ]
            refine wpAnyH_take (i := 2) (oi := ⟨_, _, _, _, _, _⟩) (v := ?_) rfl (by kernel_rfl) (by kernel_rfl) (by kernel_rfl) (fun _ _ _ h => h) (Or.inl ⟨by rfl, ?_⟩) hHeld ?_
            rotate_left
            · (intro w hSw; (try dsimp only at hSw); obtain ⟨_, ⟨s0, s1, s2, s3⟩, u0, u1, u2, u3⟩ := hSw; (try dsimp only at s0 s1 s2 s3 u0 u1 u2 u3); (try simp only [Nat.zero_add] at u1 u2 u3); go_simp; try (with_reducible rfl))
            try simp only [Act.put, List.setIfInBounds_toArray, List.set_cons_zero, List.set_cons_succ]
            refine wpAnyH_take (i := 3) (oi := ⟨_, _, _, _, _, _⟩) (v := ?_) rfl (by kernel_rfl) (by kernel_rfl) (by kernel_rfl) (fun _ _ _ h => h) (Or.inl ⟨by rfl, ?_⟩) hHeld ?_
            rotate_left
            · (intro w hSw; (try dsimp only at hSw); obtain ⟨_, ⟨s0, s1, s2, s3⟩, u0, u1, u2, u3⟩ := hSw; (try dsimp only at s0 s1 s2 s3 u0 u1 u2 u3); (try simp only [Nat.zero_add] at u1 u2 u3); go_simp; try (with_reducible rfl))
            try simp only [Act.put, List.setIfInBounds_toArray, List.set_cons_zero, List.set_cons_succ]
            refine wpAnyH_take (i := 4) (oi := ⟨_, _, _, _, _, _⟩) (v := ?_) rfl (by kernel_rfl) (by kernel_rfl) (by kernel_rfl) (fun _ _ _ h => h) (Or.inl ⟨by rfl, ?_⟩) hHeld ?_
            rotate_left
            · (intro w hSw; (try dsimp only at hSw); obtain ⟨_, ⟨s0, s1, s2, s3⟩, u0, u1, u2, u3⟩ := hSw; (try dsimp only at s0 s1 s2 s3 u0 u1 u2 u3); (try simp only [Nat.zero_add] at u1 u2 u3); go_simp; try (with_reducible rfl))
            try simp only [Act.put, List.setIfInBounds_toArray, List.set_cons_zero, List.set_cons_succ]
            refine wpAnyH_take (i := 5) (oi := ⟨_, _, _, _, _, _⟩) (v := ?_) rfl (by kernel_rfl) (by kernel_rfl) (by kernel_rfl) (fun _ _ _ h => h) (Or.inl ⟨by rfl, ?_⟩) hHeld ?_
            rotate_left
            · (intro w hSw; (try dsimp only at hSw); obtain ⟨_, ⟨s0, s1, s2, s3⟩, u0, u1, u2, u3⟩ := hSw; (try dsimp only at s0 s1 s2 s3 u0 u1 u2 u3); (try simp only [Nat.zero_add] at u1 u2 u3); go_simp; try (with_reducible rfl))
            try simp only [Act.put, List.setIfInBounds_toArray, List.set_cons_zero, List.set_cons_succ]
            refine wpAnyH_take (i := 6) (oi := ⟨_, _, _, _, _, _⟩) (v := ?_) rfl (by kernel_rfl) (by kernel_rfl) (by kernel_rfl) (fun _ _ _ h => h) (Or.inl ⟨by rfl, ?_⟩) hHeld ?_
            rotate_left
            · (intro w hSw; (try dsimp only at hSw); obtain ⟨_, ⟨s0, s1, s2, s3⟩, u0, u1, u2, u3⟩ := hSw; (try dsimp only at s0 s1 s2 s3 u0 u1 u2 u3); (try simp only [Nat.zero_add] at u1 u2 u3); go_simp; try (with_reducible rfl))
            try simp only [Act.put, List.setIfInBounds_toArray, List.set_cons_zero, List.set_cons_succ]
            refine wpAnyH_take (i := 7) (oi := ⟨_, _, _, _, _, _⟩) (v := ?_) rfl (by kernel_rfl) (by kernel_rfl) (by kernel_rfl) (fun _ _ _ h => h) (Or.inl ⟨by rfl, ?_⟩) hHeld ?_
            rotate_left
            · (intro w hSw; (try dsimp only at hSw); obtain ⟨_, ⟨s0, s1, s2, s3⟩, u0, u1, u2, u3⟩ := hSw; (try dsimp only at s0 s1 s2 s3 u0 u1 u2 u3); (try simp only [Nat.zero_add] at u1 u2 u3); go_simp; try (with_reducible rfl))
            try simp only [Act.put, List.setIfInBounds_toArray, List.set_cons_zero, List.set_cons_succ]
            refine wpAnyH_take (i := 8) (oi := ⟨_, _, _, _, _, _⟩) (v := ?_) rfl (by kernel_rfl) (by kernel_rfl) (by kernel_rfl) (fun _ _ _ h => h) (Or.inl ⟨by rfl, ?_⟩) hHeld ?_
            rotate_left
            · (intro w hSw; (try dsimp only at hSw); obtain ⟨_, ⟨s0, s1, s2, s3⟩, u0, u1, u2, u3⟩ := hSw; (try dsimp only at s0 s1 s2 s3 u0 u1 u2 u3); (try simp only [Nat.zero_add] at u1 u2 u3); go_simp; try (with_reducible rfl))
            try simp only [Act.put, List.setIfInBounds_toArray, List.set_cons_zero, List.set_cons_succ]
            refine wpAnyH_ready (rs := [9]) (by kernel_rfl) (by simp) ?_
            refine AllReadyH.cons (o := ⟨_, _, _, _, _, _⟩) rfl (fun K hK => ?_) AllReadyH.nil
            go_simp
            go_at_call 46
            refine (byKey_calls (y0, y1, y2, y3) (x0, x1, x2, x3) _).mono ?_
            rintro e w9 ⟨rfl, hb9⟩
            try go_wp2_with fail
            refine hK.out _ _ ?_ ?_
            · (try dsimp only); exact keep8 hHeld hb9
            clear hHeld hK K
            intro hHeld
            try simp only [Act.put, List.setIfInBounds_toArray, List.set_cons_zero, List.set_cons_succ]
            refine wpAnyH_take (i := 10) (oi := ⟨_, _, _, _, _, _⟩) (v := ?_) rfl (by kernel_rfl) (by kernel_rfl) (by kernel_rfl) (fun _ _ _ h => h) (Or.inl ⟨by rfl, ?_⟩) hHeld ?_
            rotate_left
            · (intro w hSw; (try dsimp only at hSw); obtain ⟨_, ⟨s0, s1, s2, s3⟩, u0, u1, u2, u3⟩ := hSw; (try dsimp only at s0 s1 s2 s3 u0 u1 u2 u3); (try simp only [Nat.zero_add] at u1 u2 u3); go_simp; try (with_reducible rfl))
            try simp only [Act.put, List.setIfInBounds_toArray, List.set_cons_zero, List.set_cons_succ]
            refine wpAnyH_take (i := 11) (oi := ⟨_, _, _, _, _, _⟩) (v := ?_) rfl (by kernel_rfl) (by kernel_rfl) (by kernel_rfl) (fun _ _ _ h => h) (Or.inl ⟨by rfl, ?_⟩) hHeld ?_
            rotate_left
            · (intro w hSw; (try dsimp only at hSw); obtain ⟨_, ⟨s0, s1, s2, s3⟩, u0, u1, u2, u3⟩ := hSw; (try dsimp only at s0 s1 s2 s3 u0 u1 u2 u3); (try simp only [Nat.zero_add] at u1 u2 u3); go_simp; try (with_reducible rfl))
            try simp only [Act.put, List.setIfInBounds_toArray, List.set_cons_zero, List.set_cons_succ]
            refine wpAnyH_done (by kernel_rfl) ?_ _
            have bel2 := bel1.trans (hHeld.1.mono bel1.size)
            go_wp2
            go_ret
            exact ⟨rfl, hb.trans (bel2.mono hb.size)⟩
          · have hah : aheadB (y0, y1, y2, y3) (x0, x1, x2, x3) = true := (cmpK_neg _ _).1 (by omega)
            have E1 : Hid (bfault bs (j + 1 + 1) = res) := by show _ = _; rw [← hr.out, HN.out (fun h => by rw [hah] at h; simp at h)]
            clear HF HN hr hah
            go_wp2_with fail
            refine wp_region_held_drew (S := (fun w' => Below w2.heap.size w2 w' ∧ Q4 w' b1 (o1 + j * 4) (y0, y1, y2, y3) ∧ Q4 w' wr.heap.size 0 (x0, x1, x2, x3))) (by kernel_rfl) ?_ (fun hHeld => ?_)
            · (try dsimp only); exact hS
            refine wpAnyH_take (i := 0) (oi := ⟨_, _, _, _, _, _⟩) (v := ?_) rfl (by kernel_rfl) (by kernel_rfl) (by kernel_rfl) (fun _ _ _ h => h) (Or.inl ⟨by rfl, ?_⟩) hHeld ?_
            rotate_left
            · (intro w hSw; (try dsimp only at hSw); obtain ⟨_, ⟨s0, s1, s2, s3⟩, u0, u1, u2, u3⟩ := hSw; (try dsimp only at s0 s1 s2 s3 u0 u1 u2 u3); (try simp only [Nat.zero_add] at u1 u2 u3); go_simp; try (with_reducible rfl))
            try simp only [Act.put, List.setIfInBounds_toArray, List.set_cons_zero, List.set_cons_succ]
            refine wpAnyH_take (i := 1) (oi := ⟨_, _, _, _, _, _⟩) (v := ?_) rfl (by kernel_rfl) (by kernel_rfl) (by kernel_rfl) (fun _ _ _ h => h) (Or.inl ⟨by rfl, ?_⟩) hHeld ?_
            rotate_left
            · (intro w hSw; (try dsimp only at hSw); obtain ⟨_, ⟨s0, s1, s2, s3⟩, u0, u1, u2, u3⟩ := hSw; (try dsimp only at s0 s1 s2 s3 u0 u1 u2 u3); (try simp only [Nat.zero_add] at u1 u2 u3); go_simp; try (with_reducible rfl))
            try simp only [Act.put, List.setIfInBounds_toArray, List.set_cons_zero, List.set_cons_succ]
            refine wpAnyH_take (i := 2) (oi := ⟨_, _, _, _, _, _⟩) (v := ?_) rfl (by kernel_rfl) (by kernel_rfl) (by kernel_rfl) (fun _ _ _ h => h) (Or.inl ⟨by rfl, ?_⟩) hHeld ?_
            rotate_left
            · (intro w hSw; (try dsimp only at hSw); obtain ⟨_, ⟨s0, s1, s2, s3⟩, u0, u1, u2, u3⟩ := hSw; (try dsimp only at s0 s1 s2 s3 u0 u1 u2 u3); (try simp only [Nat.zero_add] at u1 u2 u3); go_simp; try (with_reducible rfl))
            try simp only [Act.put, List.setIfInBounds_toArray, List.set_cons_zero, List.set_cons_succ]
            refine wpAnyH_take (i := 3) (oi := ⟨_, _, _, _, _, _⟩) (v := ?_) rfl (by kernel_rfl) (by kernel_rfl) (by kernel_rfl) (fun _ _ _ h => h) (Or.inl ⟨by rfl, ?_⟩) hHeld ?_
            rotate_left
            · (intro w hSw; (try dsimp only at hSw); obtain ⟨_, ⟨s0, s1, s2, s3⟩, u0, u1, u2, u3⟩ := hSw; (try dsimp only at s0 s1 s2 s3 u0 u1 u2 u3); (try simp only [Nat.zero_add] at u1 u2 u3); go_simp; try (with_reducible rfl))
            try simp only [Act.put, List.setIfInBounds_toArray, List.set_cons_zero, List.set_cons_succ]
            refine wpAnyH_take (i := 4) (oi := ⟨_, _, _, _, _, _⟩) (v := ?_) rfl (by kernel_rfl) (by kernel_rfl) (by kernel_rfl) (fun _ _ _ h => h) (Or.inl ⟨by rfl, ?_⟩) hHeld ?_
            rotate_left
            · (intro w hSw; (try dsimp only at hSw); obtain ⟨_, ⟨s0, s1, s2, s3⟩, u0, u1, u2, u3⟩ := hSw; (try dsimp only at s0 s1 s2 s3 u0 u1 u2 u3); (try simp only [Nat.zero_add] at u1 u2 u3); go_simp; try (with_reducible rfl))
            try simp only [Act.put, List.setIfInBounds_toArray, List.set_cons_zero, List.set_cons_succ]
            refine wpAnyH_take (i := 5) (oi := ⟨_, _, _, _, _, _⟩) (v := ?_) rfl (by kernel_rfl) (by kernel_rfl) (by kernel_rfl) (fun _ _ _ h => h) (Or.inl ⟨by rfl, ?_⟩) hHeld ?_
            rotate_left
            · (intro w hSw; (try dsimp only at hSw); obtain ⟨_, ⟨s0, s1, s2, s3⟩, u0, u1, u2, u3⟩ := hSw; (try dsimp only at s0 s1 s2 s3 u0 u1 u2 u3); (try simp only [Nat.zero_add] at u1 u2 u3); go_simp; try (with_reducible rfl))
            try simp only [Act.put, List.setIfInBounds_toArray, List.set_cons_zero, List.set_cons_succ]
            refine wpAnyH_take (i := 6) (oi := ⟨_, _, _, _, _, _⟩) (v := ?_) rfl (by kernel_rfl) (by kernel_rfl) (by kernel_rfl) (fun _ _ _ h => h) (Or.inl ⟨by rfl, ?_⟩) hHeld ?_
            rotate_left
            · (intro w hSw; (try dsimp only at hSw); obtain ⟨_, ⟨s0, s1, s2, s3⟩, u0, u1, u2, u3⟩ := hSw; (try dsimp only at s0 s1 s2 s3 u0 u1 u2 u3); (try simp only [Nat.zero_add] at u1 u2 u3); go_simp; try (with_reducible rfl))
            try simp only [Act.put, List.setIfInBounds_toArray, List.set_cons_zero, List.set_cons_succ]
            refine wpAnyH_take (i := 7) (oi := ⟨_, _, _, _, _, _⟩) (v := ?_) rfl (by kernel_rfl) (by kernel_rfl) (by kernel_rfl) (fun _ _ _ h => h) (Or.inl ⟨by rfl, ?_⟩) hHeld ?_
            rotate_left
            · (intro w hSw; (try dsimp only at hSw); obtain ⟨_, ⟨s0, s1, s2, s3⟩, u0, u1, u2, u3⟩ := hSw; (try dsimp only at s0 s1 s2 s3 u0 u1 u2 u3); (try simp only [Nat.zero_add] at u1 u2 u3); go_simp; try (with_reducible rfl))
            try simp only [Act.put, List.setIfInBounds_toArray, List.set_cons_zero, List.set_cons_succ]
            refine wpAnyH_take (i := 8) (oi := ⟨_, _, _, _, _, _⟩) (v := ?_) rfl (by kernel_rfl) (by kernel_rfl) (by kernel_rfl) (fun _ _ _ h => h) (Or.inl ⟨by rfl, ?_⟩) hHeld ?_
            rotate_left
            · (intro w hSw; (try dsimp only at hSw); obtain ⟨_, ⟨s0, s1, s2, s3⟩, u0, u1, u2, u3⟩ := hSw; (try dsimp only at s0 s1 s2 s3 u0 u1 u2 u3); (try simp only [Nat.zero_add] at u1 u2 u3); go_simp; try (with_reducible rfl))
            try simp only [Act.put, List.setIfInBounds_toArray, List.set_cons_zero, List.set_cons_succ]
            refine wpAnyH_ready (rs := [9]) (by kernel_rfl) (by simp) ?_
            refine AllReadyH.cons (o := ⟨_, _, _, _, _, _⟩) rfl (fun K hK => ?_) AllReadyH.nil
            go_simp
            go_at_call 46
            refine (byKey_calls (y0, y1, y2, y3) (x0, x1, x2, x3) _).mono ?_
            rintro e w9 ⟨rfl, hb9⟩
            try go_wp2_with fail
            refine hK.out _ _ ?_ ?_
            · (try dsimp only); exact keep8 hHeld hb9
            clear hHeld hK K
            intro hHeld
            try simp only [Act.put, List.setIfInBounds_toArray, List.set_cons_zero, List.set_cons_succ]
            refine wpAnyH_take (i := 10) (oi := ⟨_, _, _, _, _, _⟩) (v := ?_) rfl (by kernel_rfl) (by kernel_rfl) (by kernel_rfl) (fun _ _ _ h => h) (Or.inl ⟨by rfl, ?_⟩) hHeld ?_
            rotate_left
            · (intro w hSw; (try dsimp only at hSw); obtain ⟨_, ⟨s0, s1, s2, s3⟩, u0, u1, u2, u3⟩ := hSw; (try dsimp only at s0 s1 s2 s3 u0 u1 u2 u3); (try simp only [Nat.zero_add] at u1 u2 u3); go_simp; try (with_reducible rfl))
            try simp only [Act.put, List.setIfInBounds_toArray, List.set_cons_zero, List.set_cons_succ]
            refine wpAnyH_take (i := 11) (oi := ⟨_, _, _, _, _, _⟩) (v := ?_) rfl (by kernel_rfl) (by kernel_rfl) (by kernel_rfl) (fun _ _ _ h => h) (Or.inl ⟨by rfl, ?_⟩) hHeld ?_
            rotate_left
            · (intro w hSw; (try dsimp only at hSw); obtain ⟨_, ⟨s0, s1, s2, s3⟩, u0, u1, u2, u3⟩ := hSw; (try dsimp only at s0 s1 s2 s3 u0 u1 u2 u3); (try simp only [Nat.zero_add] at u1 u2 u3); go_simp; try (with_reducible rfl))
            try simp only [Act.put, List.setIfInBounds_toArray, List.set_cons_zero, List.set_cons_succ]
            refine wpAnyH_done (by kernel_rfl) ?_ _
            have bel2 := bel1.trans (hHeld.1.mono bel1.size)
            go_wp2
            go_roundw
            case rel => exact ⟨j + 1 + 1, by omega, by go_num, E1, hb.trans (bel2.mono hb.size)⟩
            case measure => simp [intOf]; omega
      · have hne : (cd != 0) = true := by simpa using hz
        have e1 : res = cd := by rw [← hr.out, HB.out (by rw [hC.out]; exact hz), hC.out]
        subst e1
        clear HB HF HN hr hPD HP hz
        go_wp2
        go_ret
        exact ⟨rfl, hb.trans (bel1.mono hb.size)⟩
    · have e1 : res = 0 := by rw [← hr.out]; exact bfault_end hlt
      subst e1
      have hge : ¬ ((k : Int) < (bs.length : Int)) := by omega
      go_wp2
      go_ret
      exact ⟨rfl, hb⟩
end Go.Proofs.YtcfechnkgefhcaaDoor
