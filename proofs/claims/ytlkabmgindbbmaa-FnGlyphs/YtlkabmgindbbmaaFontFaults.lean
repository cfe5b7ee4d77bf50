/-
  What FontFault answers, of the program and of the model: isFromTo, isGlyph, isPair, FontFault; l1In, l2Pair, l2Fault, FontFault.
-/
import Derived.Test.YtlkabmgindbbmaaRows
import Derived.Test.YtlkabmgindbbmaaPairMem
import Derived.WalkKit
import Derived.ProofKit
import Derived.OpenShut
import Derived.Below
import Derived.OwnWalk
import Derived.WalkSpells
import Derived.Deep.QuietTactic
import Derived.BigQuiet
namespace Go.Proofs.Ytlkabmgindbbmaa
set_option maxRecDepth 20000
open Go.ChangeShapes Go.WideShapes Go.ChangeAt Go.RowKit
set_option linter.unusedVariables false
set_option linter.unusedSimpArgs false

set_option maxHeartbeats 400000 in
theorem isFromTo_calls (n lo hi : Int) (w : World) :
    Calls Try.prog 55 #[.int .i64 n, .int .i64 lo, .int .i64 hi] w fun e w' => e = .returned (.bool (decide (lo ≤ n ∧ n ≤ hi))) ∧ w' = w := by
  go_enter Try.func55, Try.ntmps55
  go_wp2
  all_goals go_ret
  all_goals refine ⟨ret_bool ?_, rfl⟩
  all_goals (rw [Bool.eq_iff_iff]; simp; try omega)

set_option maxHeartbeats 400000 in
theorem l1In_calls (n lo hi : Int) (w : World) :
    Calls Try.prog 67 #[.int .i64 n, .int .i64 lo, .int .i64 hi] w fun e w' => e = .returned (.bool (decide (lo ≤ n ∧ n ≤ hi))) ∧ w' = w := by
  go_enter Try.func67, Try.ntmps67
  go_wp2
  all_goals go_ret
  all_goals refine ⟨ret_bool ?_, rfl⟩
  all_goals (rw [Bool.eq_iff_iff]; simp; try omega)

set_option maxHeartbeats 400000 in
theorem isGlyph_calls (g : Int) (w : World) :
    Calls Try.prog 63 #[.int .i64 g] w fun e w' => e = .returned (.bool (glB g)) ∧ w' = w := by
  go_enter Try.func63, Try.ntmps63
  go_wp2_with (go_at_call 55; refine (isFromTo_calls g 0 255 _).mono ?_; rintro e w' ⟨rfl, hw⟩; rw [hw]; clear hw w')
  go_ret
  refine ⟨ret_bool ?_, rfl⟩
  simp [glB]

set_option maxHeartbeats 400000 in
theorem isPair_calls (c g : Int) (w : World) :
    Calls Try.prog 57 #[.agg #[.int .i64 c, .int .i64 g]] w fun e w' => e = .returned (.bool (prB (c, g))) ∧ Below w.heap.size w w' := by
  have hp : prB (c, g) = (chB c && glB g) := rfl
  rw [hp]
  clear hp
  cases h1 : chB c with
  | false =>
    go_enter Try.func57, Try.ntmps57
    go_wp2_with (first
      | (go_at_call 51; refine (isChar_calls c _).mono ?_; rintro e w' ⟨rfl, hw⟩; rw [hw, h1]; clear hw w'))
    go_ret
    exact ⟨rfl, (by repeat' (first | with_reducible exact Below.refl _ _ | with_reducible assumption | with_reducible refine Below.drew ?_ | with_reducible refine Below.alloc ?_ ?_ _ | with_reducible refine Below.setCell ?_ ?_ _ | (simp; done) | (simp; omega) | omega))⟩
  | true =>
    go_enter Try.func57, Try.ntmps57
    go_wp2_with (first
      | (go_at_call 51; refine (isChar_calls c _).mono ?_; rintro e w' ⟨rfl, hw⟩; rw [hw, h1]; clear hw w')
      | (go_at_call 63; refine (isGlyph_calls g _).mono ?_; rintro e w' ⟨rfl, hw⟩; rw [hw]; clear hw w'))
    go_ret
    refine ⟨?_, (by repeat' (first | with_reducible exact Below.refl _ _ | with_reducible assumption | with_reducible refine Below.drew ?_ | with_reducible refine Below.alloc ?_ ?_ _ | with_reducible refine Below.setCell ?_ ?_ _ | (simp; done) | (simp; omega) | omega))⟩
    simp

set_option maxHeartbeats 400000 in
theorem l2Pair_calls (c g : Int) (b o : Nat) (w : World) (h1 : w.cell? ⟨b, o, none⟩ = some (.int .i64 c)) (h2 : w.cell? ⟨b, o + 1, none⟩ = some (.int .i64 g)) :
    Calls Try.prog 61 #[.pointer (some ⟨b, o, none⟩)] w fun e w' => e = .returned (.bool (prB (c, g))) ∧ w' = w := by
  have hp : prB (c, g) = (chB c && glB g) := rfl
  rw [hp]
  clear hp
  cases hc : chB c with
  | false =>
    go_enter Try.func61, Try.ntmps61
    go_wp2_with (first
      | (go_at_call 53; refine (l1Char_calls c _).mono ?_; rintro e w' ⟨rfl, hw⟩; rw [hw, hc]; clear hw w'))
    go_ret
    exact ⟨rfl, rfl⟩
  | true =>
    go_enter Try.func61, Try.ntmps61
    go_wp2_with (first
      | (go_at_call 53; refine (l1Char_calls c _).mono ?_; rintro e w' ⟨rfl, hw⟩; rw [hw, hc]; clear hw w')
      | (go_at_call 67; refine (l1In_calls g 0 255 _).mono ?_; rintro e w' ⟨rfl, hw⟩; rw [hw]; clear hw w'))
    go_ret
    refine ⟨?_, rfl⟩
    simp [glB]

set_option maxHeartbeats 1000000 in
theorem implFontFault_calls (fb : Int) (ps : List (Int × Int)) (v : Value) (w : World) (hn : ps.length ≤ 1048576) (h1 : PRead w v ps) :
    Calls Try.prog 29 #[.agg #[.int .i64 fb, v]] w fun e w' => e = .returned (.int .i64 (fontCode fb ps)) ∧ Below w.heap.size w w' := by
  obtain ⟨a1, c1, rfl, h1⟩ := h1
  cases hfb : glB fb with
  | false =>
    have hcode : fontCode fb ps = 3 := by unfold fontCode; rw [if_pos hfb]
    rw [hcode]
    clear hcode
    go_enter Try.func29, Try.ntmps29
    go_wp2_with (go_at_call 63; refine (isGlyph_calls fb _).mono ?_; rintro e w' ⟨rfl, hw⟩; rw [hw, hfb]; clear hw w')
    go_ret
    exact ⟨rfl, (by repeat' (first | with_reducible exact Below.refl _ _ | with_reducible assumption | with_reducible refine Below.drew ?_ | with_reducible refine Below.alloc ?_ ?_ _ | with_reducible refine Below.setCell ?_ ?_ _ | (simp; done) | (simp; omega) | omega))⟩
  | true =>
    by_cases h20 : 20 < ps.length
    · have hcode : fontCode fb ps = 2 := by unfold fontCode; rw [if_neg (by rw [hfb]; simp), if_pos h20]
      rw [hcode]
      clear hcode
      have h20I : (20 : Int) < (ps.length : Int) := by omega
      go_enter Try.func29, Try.ntmps29
      go_wp2_with (go_at_call 63; refine (isGlyph_calls fb _).mono ?_; rintro e w' ⟨rfl, hw⟩; rw [hw, hfb]; clear hw w')
      go_ret
      exact ⟨rfl, (by repeat' (first | with_reducible exact Below.refl _ _ | with_reducible assumption | with_reducible refine Below.drew ?_ | with_reducible refine Below.alloc ?_ ?_ _ | with_reducible refine Below.setCell ?_ ?_ _ | (simp; done) | (simp; omega) | omega))⟩
    · have hcode : fontCode fb ps = pfault ps 0 := by unfold fontCode; rw [if_neg (by rw [hfb]; simp), if_neg h20]
      rw [hcode]
      clear hcode
      have h20I : ¬ (20 : Int) < (ps.length : Int) := by omega
      generalize hres : pfault ps 0 = res
      have HR := hide hres
      clear hres
      have H1 := hide h1
      clear h1
      go_enter Try.func29, Try.ntmps29
      go_wp2_with (go_at_call 63; refine (isGlyph_calls fb _).mono ?_; rintro e w' ⟨rfl, hw⟩; rw [hw, hfb]; clear hw w')
      go_loopw [16] (fun i wr => ∃ k : Nat, k ≤ ps.length ∧ i = .int .i64 k ∧ Hid (pfault ps k = res) ∧ Below (w.heap.size + 1) (w.alloc (.cells #[.int .i64 fb, .slice a1 ps.length c1] 50)) wr) (fun i _ => ps.length - (intOf i).toNat)
      case atStart => exact ⟨0, Nat.zero_le _, rfl, HR, Below.refl _ _⟩
      case round =>
        obtain ⟨k, hkk, rfl, hr, hb⟩ := hrel
        have hbw : Below w.heap.size w wr := ((Below.refl _ _).alloc (Nat.le_refl _) _).trans (hb.mono (by omega))
        have hs : w.heap.size < wr.heap.size := by have := hb.size; simp at this; omega
        have hf0 : wr.cell? ⟨w.heap.size, 1, none⟩ = some (.slice a1 ps.length c1) := cellk hb (by omega) (by simp)
        by_cases hlt : k < ps.length
        · have hpos : ps ≠ [] := by intro h; rw [h] at hlt; simp at hlt
          rcases H1.out with h1 | ⟨b1, o1, rfl, h1⟩
          · exact absurd h1 hpos
          obtain ⟨g1, g2⟩ := h1 k hlt
          replace g1 := cellb hbw g1
          replace g2 := cellb hbw g2
          have hltI : (k : Int) < (ps.length : Int) := by omega
          have HN : Hid (0 < k → wr.cell? ⟨b1, o1 + (k - 1) * 2, none⟩ = some (.int .i64 (ps.getD (k - 1) (0, 0)).1)) := fun h0 => cellb hbw (h1 (k - 1) (by omega)).1
          have HPr := hide (pfault_range (ps := ps) (k := k) hlt)
          have HPf := hide (pfault_form (ps := ps) (k := k) hlt)
          have HPn := hide (pfault_next (ps := ps) (k := k) hlt)
          clear h1 hpos H1
          have HG : Hid (prB (ps.getD k (0, 0)) = prB ((ps.getD k (0, 0)).1, (ps.getD k (0, 0)).2)) := rfl
          generalize hcc : (ps.getD k (0, 0)).1 = c at *
          generalize hgg : (ps.getD k (0, 0)).2 = g at *
          clear hcc hgg
          go_wp2_with fail
          refine (isPair_calls c g _).mono ?_
          rintro e w2 ⟨rfl, hb2⟩
          have q2 : Below wr.heap.size wr w2 := by
            refine Below.trans ?_ (hb2.mono (by simp [World.setCell]))
            exact (by repeat' (first | with_reducible exact Below.refl _ _ | with_reducible assumption | with_reducible refine Below.drew ?_ | with_reducible refine Below.alloc ?_ ?_ _ | with_reducible refine Below.setCell ?_ ?_ _ | (simp; done) | (simp; omega) | omega))
          have p0 : w2.cell? ⟨wr.heap.size, 0, none⟩ = some (.int .i64 c) := cellb hb2 (by simp [go_sem])
          replace hf0 := cellb q2 hf0
          have hb3 := hb.trans (q2.mono (by omega))
          have hbw3 := hbw.trans (q2.mono (by omega))
          have hs2 : wr.heap.size < w2.heap.size := by have := hb2.size; simp [World.setCell] at this; omega
          have HN2 : Hid (0 < k → w2.cell? ⟨b1, o1 + (k - 1) * 2, none⟩ = some (.int .i64 (ps.getD (k - 1) (0, 0)).1)) := fun h0 => cellb q2 (HN.out h0)
          clear g1 g2 HN q2 hb2 hb hbw
          cases hp : prB (c, g) with
          | false =>
            have e1 : res = 3 := by rw [← hr.out]; exact HPr.out (by rw [HG.out, hp])
            subst e1
            go_wp2
            go_ret
            exact ⟨rfl, hbw3⟩
          | true =>
            have hpt : prB (ps.getD k (0, 0)) = true := by rw [HG.out, hp]
            have HPt := hide hpt
            clear hpt
            by_cases h0 : k = 0
            · subst h0
              have e1 : pfault ps (0 + 1) = res := by rw [← hr.out]; exact (HPn.out HPt.out (by omega)).symm
              have E1 := hide e1
              clear e1
              go_wp2_with fail
              go_quiet (fail)
              go_wp2
              go_roundw
              case rel => exact ⟨0 + 1, by omega, by go_num, E1, below_drewN hb3 _⟩
              case measure => simp [intOf]; omega
            · obtain ⟨m, rfl⟩ : ∃ m, k = m + 1 := ⟨k - 1, by omega⟩
              have n0 := HN2.out (by omega)
              rw [Nat.add_sub_cancel] at n0 HPf HPn
              have hk1 : (0 : Int) < ((m + 1 : Nat) : Int) := by omega
              have hk2 : ((m + 1 : Nat) : Int) - 1 = (m : Int) := by omega
              clear h0 HN2
              generalize (ps.getD m (0, 0)).1 = pc at *
              by_cases hle : c ≤ pc
              · have e1 : res = 1 := by rw [← hr.out]; exact HPf.out HPt.out ⟨by omega, hle⟩
                subst e1
                clear hr HPr HPf HPn HR
                go_wp2_with fail
                go_quiet (fail)
                go_wp2
                go_ret
                exact ⟨rfl, below_drewN hbw3 _⟩
              · have e1 : pfault ps (m + 1 + 1) = res := by rw [← hr.out]; exact (HPn.out HPt.out (fun h => hle h.2)).symm
                have E1 := hide e1
                clear e1 hr HPr HPf HPn HR
                go_wp2_with fail
                go_quiet (fail)
                go_wp2
                go_roundw
                case rel => exact ⟨m + 1 + 1, by omega, by go_num, E1, below_drewN hb3 _⟩
                case measure => simp [intOf]; omega
        · have hk' : k = ps.length := by omega
          have e1 : res = 0 := by rw [← hr.out]; exact pfault_end hlt
          subst e1
          have hge : ¬ ((k : Int) < (ps.length : Int)) := by omega
          go_wp2
          go_ret
          exact ⟨rfl, hbw⟩

set_option maxHeartbeats 1000000 in
theorem l2Fault_calls (fb : Int) (ps : List (Int × Int)) (v : Value) (b : Nat) (w : World) (hn : ps.length ≤ 1048576) (h1 : PRead w v ps) (k0 : w.cell? ⟨b, 0, none⟩ = some (.int .i64 fb)) (k1 : w.cell? ⟨b, 1, none⟩ = some v) :
    Calls Try.prog 60 #[.pointer (some ⟨b, 0, none⟩)] w fun e w' => e = .returned (.int .i64 (fontCode fb ps)) ∧ ∃ n, w' = w.drewN n := by
  obtain ⟨a1, c1, rfl, h1⟩ := h1
  cases hfb : glB fb with
  | false =>
    have hcode : fontCode fb ps = 3 := by unfold fontCode; rw [if_pos hfb]
    rw [hcode]
    clear hcode
    have hfb' : decide (0 ≤ fb ∧ fb ≤ 255) = false := hfb
    go_enter Try.func60, Try.ntmps60
    go_wp2_with (go_at_call 67; refine (l1In_calls fb 0 255 _).mono ?_; rintro e w' ⟨rfl, hw⟩; rw [hw, hfb']; clear hw w')
    go_ret
    exact ⟨rfl, 0, rfl⟩
  | true =>
    have hfb' : decide (0 ≤ fb ∧ fb ≤ 255) = true := hfb
    by_cases h20 : 20 < ps.length
    · have hcode : fontCode fb ps = 2 := by unfold fontCode; rw [if_neg (by rw [hfb]; simp), if_pos h20]
      rw [hcode]
      clear hcode
      have h20I : (20 : Int) < (ps.length : Int) := by omega
      go_enter Try.func60, Try.ntmps60
      go_wp2_with (go_at_call 67; refine (l1In_calls fb 0 255 _).mono ?_; rintro e w' ⟨rfl, hw⟩; rw [hw, hfb']; clear hw w')
      go_ret
      exact ⟨rfl, 0, rfl⟩
    · have hcode : fontCode fb ps = pfault ps 0 := by unfold fontCode; rw [if_neg (by rw [hfb]; simp), if_neg h20]
      rw [hcode]
      clear hcode
      have h20I : ¬ (20 : Int) < (ps.length : Int) := by omega
      generalize hres : pfault ps 0 = res
      have HR := hide hres
      clear hres
      have H1 := hide h1
      clear h1
      go_enter Try.func60, Try.ntmps60
      go_wp2_with (go_at_call 67; refine (l1In_calls fb 0 255 _).mono ?_; rintro e w' ⟨rfl, hw⟩; rw [hw, hfb']; clear hw w')
      go_loopw [3] (fun i wr => ∃ k : Nat, k ≤ ps.length ∧ i = .int .i64 k ∧ Hid (pfault ps k = res) ∧ ∃ n, wr = w.drewN n) (fun i _ => ps.length - (intOf i).toNat)
      case atStart => exact ⟨0, Nat.zero_le _, rfl, HR, 0, rfl⟩
      case round =>
        obtain ⟨k, hkk, rfl, hr, n, rfl⟩ := hrel
        by_cases hlt : k < ps.length
        · have hpos : ps ≠ [] := by intro h; rw [h] at hlt; simp at hlt
          rcases H1.out with h1 | ⟨b1, o1, rfl, h1⟩
          · exact absurd h1 hpos
          obtain ⟨g1, g2⟩ := h1 k hlt
          have hltI : (k : Int) < (ps.length : Int) := by omega
          have HN : Hid (0 < k → w.cell? ⟨b1, o1 + (k - 1) * 2, none⟩ = some (.int .i64 (ps.getD (k - 1) (0, 0)).1)) := fun h0 => (h1 (k - 1) (by omega)).1
          have HPr := hide (pfault_range (ps := ps) (k := k) hlt)
          have HPf := hide (pfault_form (ps := ps) (k := k) hlt)
          have HPn := hide (pfault_next (ps := ps) (k := k) hlt)
          clear h1 hpos H1
          have HG : Hid (prB (ps.getD k (0, 0)) = prB ((ps.getD k (0, 0)).1, (ps.getD k (0, 0)).2)) := rfl
          generalize hcc : (ps.getD k (0, 0)).1 = c at *
          generalize hgg : (ps.getD k (0, 0)).2 = g at *
          clear hcc hgg
          go_wp2_with fail
          refine (l2Pair_calls c g _ _ (w.drewN n) g1 g2).mono ?_
          rintro e w2 ⟨rfl, rfl⟩
          cases hp : prB (c, g) with
          | false =>
            have e1 : res = 3 := by rw [← hr.out]; exact HPr.out (by rw [HG.out, hp])
            subst e1
            go_wp2
            go_ret
            exact ⟨rfl, n, rfl⟩
          | true =>
            have hpt : prB (ps.getD k (0, 0)) = true := by rw [HG.out, hp]
            have HPt := hide hpt
            clear hpt
            by_cases h0 : k = 0
            · subst h0
              have e1 : pfault ps (0 + 1) = res := by rw [← hr.out]; exact (HPn.out HPt.out (by omega)).symm
              have E1 := hide e1
              clear e1
              go_wp2_with fail
              go_quiet (fail)
              go_wp2
              go_roundw
              case rel => exact ⟨0 + 1, by omega, by go_num, E1, _, rfl⟩
              case measure => simp [intOf]; omega
            · obtain ⟨m, rfl⟩ : ∃ m, k = m + 1 := ⟨k - 1, by omega⟩
              have n0 := HN.out (by omega)
              rw [Nat.add_sub_cancel] at n0 HPf HPn
              have hk1 : (0 : Int) < ((m + 1 : Nat) : Int) := by omega
              have hk2 : ((m + 1 : Nat) : Int) - 1 = (m : Int) := by omega
              clear h0 HN
              generalize (ps.getD m (0, 0)).1 = pc at *
              by_cases hle : c ≤ pc
              · have e1 : res = 1 := by rw [← hr.out]; exact HPf.out HPt.out ⟨by omega, hle⟩
                subst e1
                clear hr HPr HPf HPn HR
                go_wp2_with fail
                go_quiet (fail)
                go_wp2
                go_ret
                exact ⟨rfl, _, World.drewN_drewN _ _ _⟩
              · have e1 : pfault ps (m + 1 + 1) = res := by rw [← hr.out]; exact (HPn.out HPt.out (fun h => hle h.2)).symm
                have E1 := hide e1
                clear e1 hr HPr HPf HPn HR
                go_wp2_with fail
                go_quiet (fail)
                go_wp2
                go_roundw
                case rel => exact ⟨m + 1 + 1, by omega, by go_num, E1, _, rfl⟩
                case measure => simp [intOf]; omega
        · have hk' : k = ps.length := by omega
          have e1 : res = 0 := by rw [← hr.out]; exact pfault_end hlt
          subst e1
          have hge : ¬ ((k : Int) < (ps.length : Int)) := by omega
          go_wp2
          go_ret
          exact ⟨rfl, n, rfl⟩

set_option maxHeartbeats 400000 in
theorem specFontFault_calls (fb : Int) (ps : List (Int × Int)) (v : Value) (w : World) (hn : ps.length ≤ 1048576) (h1 : PRead w v ps) :
    Calls Try.prog 30 #[.agg #[.int .i64 fb, v]] w fun e w' => e = .returned (.int .i64 (fontCode fb ps)) ∧ Below w.heap.size w w' := by
  go_enter Try.func30, Try.ntmps30
  go_wp2_with fail
  have hb : Below w.heap.size w (w.alloc (.cells #[.int .i64 fb, v] 50)) := (by repeat' (first | with_reducible exact Below.refl _ _ | with_reducible assumption | with_reducible refine Below.drew ?_ | with_reducible refine Below.alloc ?_ ?_ _ | with_reducible refine Below.setCell ?_ ?_ _ | (simp; done) | (simp; omega) | omega))
  refine (l2Fault_calls fb ps v _ _ hn (h1.below hb) (by simp) (by simp)).mono ?_
  rintro e w1 ⟨rfl, n, rfl⟩
  go_wp2
  go_ret
  exact ⟨rfl, below_drewN hb n⟩
end Go.Proofs.Ytlkabmgindbbmaa
