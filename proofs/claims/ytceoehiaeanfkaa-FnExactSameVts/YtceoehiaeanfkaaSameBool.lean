/-
  Equal lists of booleans: slices.Equal of the program, l5Bools of the model.
-/
import Derived.Test.YtceoehiaeanfkaaBoolMem
import Derived.Test.YtceoehiaeanfkaaSamePar
namespace Go.Proofs.Ytceoehiaeanfkaa
set_option maxRecDepth 20000
open Go.ChangeShapes Go.WideShapes Go.ChangeAt Go.RowKit
set_option linter.unusedVariables false
set_option linter.unusedSimpArgs false

/-- Two lists from place k on. -/
def restT (xs ys : List Bool) (k : Nat) : Bool := decide (xs.drop k = ys.drop k)
theorem restT_zero (xs ys : List Bool) : restT xs ys 0 = decide (xs = ys) := rfl
theorem restT_end {xs ys : List Bool} {k : Nat} (hl : xs.length = ys.length) (h : ¬ k < xs.length) : restT xs ys k = true := by
  unfold restT; rw [List.drop_eq_nil_of_le (by omega), List.drop_eq_nil_of_le (by omega)]; rfl
theorem restT_step {xs ys : List Bool} {k : Nat} (hl : xs.length = ys.length) (h : k < xs.length) : restT xs ys k = (decide (xs.getD k false = ys.getD k false) && restT xs ys (k + 1)) := by
  unfold restT
  have h' : k < ys.length := by omega
  rw [List.drop_eq_getElem_cons h, List.drop_eq_getElem_cons h', show xs.getD k false = xs[k] from by simp [List.getD_eq_getElem?_getD, h], show ys.getD k false = ys[k] from by simp [List.getD_eq_getElem?_getD, h'], Bool.eq_iff_iff]
  simp only [decide_eq_true_eq, Bool.and_eq_true, List.cons.injEq]

set_option maxHeartbeats 1000000 in
theorem slicesEqualT_calls (xs ys : List Bool) (v1 v2 : Value) (w : World) (hn : xs.length ≤ 1000000000) (hn2 : ys.length ≤ 1000000000) (h1 : BRead w v1 xs) (h2 : BRead w v2 ys) :
    Calls Try.prog 43 #[v1, v2] w fun e w' => e = .returned (.bool (decide (xs = ys))) ∧ ∃ n, w' = w.drewN n := by
  obtain ⟨a1, c1, rfl, h1⟩ := h1
  obtain ⟨a2, c2, rfl, h2⟩ := h2
  by_cases hl : xs.length = ys.length
  · rw [← restT_zero]
    generalize hres : restT xs ys 0 = res
    have HR := hide hres
    clear hres
    have H1 := hide h1
    have H2 := hide h2
    have HL := hide hl
    rw [← hl]
    clear h1 h2 hl
    have hne : ((xs.length : Int) != (xs.length : Int)) = false := by simp
    go_enter Try.func43, Try.ntmps43
    go_wp2
    go_loopw [5, 13] (fun _ i wr => ∃ k : Nat, k ≤ xs.length ∧ i = .int .i64 k ∧ Hid (restT xs ys k = res) ∧ ∃ n, wr = w.drewN n) (fun _ i _ => xs.length - (intOf i).toNat)
    case atStart => exact ⟨0, Nat.zero_le _, rfl, HR, 0, rfl⟩
    case round =>
      obtain ⟨k, hk, rfl, hr, n, rfl⟩ := hrel
      by_cases hlt : k < xs.length
      · have hpos : xs ≠ [] := by intro h; rw [h] at hlt; simp at hlt
        have hpos2 : ys ≠ [] := by intro h; have := HL.out; rw [h] at this; simp at this; exact hpos this
        rcases H1.out with h1 | ⟨b1, o1, rfl, h1⟩
        · exact absurd h1 hpos
        rcases H2.out with h2 | ⟨b2, o2, rfl, h2⟩
        · exact absurd h2 hpos2
        have g1 := h1 k hlt
        have g2 := h2 k (by have := HL.out; omega)
        have HS := hide (restT_step HL.out hlt)
        clear h1 h2 hpos hpos2 H1 H2
        generalize xs.getD k false = x at *
        generalize ys.getD k false = y at *
        have hltI : (k : Int) < (xs.length : Int) := by omega
        go_wp2_with fail
        go_quiet (fail)
        cases x <;> cases y
        case false.false =>
          have e1 : restT xs ys (k + 1) = res := by rw [← hr.out, HS.out]; simp
          have E1 := hide e1
          clear e1
          go_wp2
          go_roundw
          case rel => exact ⟨k + 1, by omega, by go_num, E1, _, rfl⟩
          case measure => simp [intOf]; omega
        case true.true =>
          have e1 : restT xs ys (k + 1) = res := by rw [← hr.out, HS.out]; simp
          have E1 := hide e1
          clear e1
          go_wp2
          go_roundw
          case rel => exact ⟨k + 1, by omega, by go_num, E1, _, rfl⟩
          case measure => simp [intOf]; omega
        case false.true =>
          have e1 : res = false := by rw [← hr.out, HS.out]; simp
          subst e1
          go_wp2
          go_ret
          exact ⟨rfl, n + nq, by simp [World.drewN, Nat.add_assoc]⟩
        case true.false =>
          have e1 : res = false := by rw [← hr.out, HS.out]; simp
          subst e1
          go_wp2
          go_ret
          exact ⟨rfl, n + nq, by simp [World.drewN, Nat.add_assoc]⟩
      · have e1 : res = true := by rw [← hr.out]; exact restT_end HL.out hlt
        subst e1
        have hge : ¬ ((k : Int) < (xs.length : Int)) := by omega
        go_wp2
        go_ret
        exact ⟨rfl, _, rfl⟩
  · have hd : decide (xs = ys) = false := by simp; intro h; exact hl (by rw [h])
    have hne : ((xs.length : Int) != (ys.length : Int)) = true := by simp; omega
    rw [hd]
    clear hd hl
    go_enter Try.func43, Try.ntmps43
    go_wp2
    go_ret
    exact ⟨rfl, 0, rfl⟩

set_option maxHeartbeats 1000000 in
theorem l5Bools_calls (xs ys : List Bool) (v1 v2 : Value) (w : World) (hn : xs.length ≤ 1000000000) (hn2 : ys.length ≤ 1000000000) (h1 : BRead w v1 xs) (h2 : BRead w v2 ys) :
    Calls Try.prog 89 #[v1, v2] w fun e w' => e = .returned (.bool (decide (xs = ys))) ∧ ∃ n, w' = w.drewN n := by
  obtain ⟨a1, c1, rfl, h1⟩ := h1
  obtain ⟨a2, c2, rfl, h2⟩ := h2
  by_cases hl : xs.length = ys.length
  · rw [← restT_zero]
    generalize hres : restT xs ys 0 = res
    have HR := hide hres
    clear hres
    have H1 := hide h1
    have H2 := hide h2
    have HL := hide hl
    rw [← hl]
    clear h1 h2 hl
    have hne : ((xs.length : Int) != (xs.length : Int)) = false := by simp
    go_enter Try.func89, Try.ntmps89
    go_wp2
    go_loopw [5] (fun i wr => ∃ k : Nat, k ≤ xs.length ∧ i = .int .i64 k ∧ Hid (restT xs ys k = res) ∧ ∃ n, wr = w.drewN n) (fun i _ => xs.length - (intOf i).toNat)
    case atStart => exact ⟨0, Nat.zero_le _, rfl, HR, 0, rfl⟩
    case round =>
      obtain ⟨k, hk, rfl, hr, n, rfl⟩ := hrel
      by_cases hlt : k < xs.length
      · have hpos : xs ≠ [] := by intro h; rw [h] at hlt; simp at hlt
        have hpos2 : ys ≠ [] := by intro h; have := HL.out; rw [h] at this; simp at this; exact hpos this
        rcases H1.out with h1 | ⟨b1, o1, rfl, h1⟩
        · exact absurd h1 hpos
        rcases H2.out with h2 | ⟨b2, o2, rfl, h2⟩
        · exact absurd h2 hpos2
        have g1 := h1 k hlt
        have g2 := h2 k (by have := HL.out; omega)
        have HS := hide (restT_step HL.out hlt)
        clear h1 h2 hpos hpos2 H1 H2
        generalize xs.getD k false = x at *
        generalize ys.getD k false = y at *
        have hltI : (k : Int) < (xs.length : Int) := by omega
        go_wp2_with fail
        go_quiet (fail)
        cases x <;> cases y
        case false.false =>
          have e1 : restT xs ys (k + 1) = res := by rw [← hr.out, HS.out]; simp
          have E1 := hide e1
          clear e1
          go_wp2
          go_roundw
          case rel => exact ⟨k + 1, by omega, by go_num, E1, _, rfl⟩
          case measure => simp [intOf]; omega
        case true.true =>
          have e1 : restT xs ys (k + 1) = res := by rw [← hr.out, HS.out]; simp
          have E1 := hide e1
          clear e1
          go_wp2
          go_roundw
          case rel => exact ⟨k + 1, by omega, by go_num, E1, _, rfl⟩
          case measure => simp [intOf]; omega
        case false.true =>
          have e1 : res = false := by rw [← hr.out, HS.out]; simp
          subst e1
          go_wp2
          go_ret
          exact ⟨rfl, n + nq, by simp [World.drewN, Nat.add_assoc]⟩
        case true.false =>
          have e1 : res = false := by rw [← hr.out, HS.out]; simp
          subst e1
          go_wp2
          go_ret
          exact ⟨rfl, n + nq, by simp [World.drewN, Nat.add_assoc]⟩
      · have e1 : res = true := by rw [← hr.out]; exact restT_end HL.out hlt
        subst e1
        have hge : ¬ ((k : Int) < (xs.length : Int)) := by omega
        go_wp2
        go_ret
        exact ⟨rfl, _, rfl⟩
  · have hd : decide (xs = ys) = false := by simp; intro h; exact hl (by rw [h])
    have hne : ((xs.length : Int) != (ys.length : Int)) = true := by simp; omega
    rw [hd]
    clear hd hl
    go_enter Try.func89, Try.ntmps89
    go_wp2
    go_ret
    exact ⟨rfl, 0, rfl⟩
end Go.Proofs.Ytceoehiaeanfkaa
