/-
  What ScrollGrid answers, of the program.
-/
import Derived.Test.YtknkbihjboadjaaGridRes
import Derived.Test.YtknkbihjboadjaaSlideFns
import Derived.Test.YtknkbihjboadjaaShiftFns
import Derived.Test.YtknkbihjboadjaaFollowed
import Derived.Test.YtknkbihjboadjaaLastFns
import Derived.Test.YtknkbihjboadjaaUntil
import Derived.Deep.RegionHeld3
import Derived.Deep.RegionHeld
namespace Go.Proofs.Ytknkbihjboadjaa
set_option maxRecDepth 20000
open Go.ChangeShapes Go.WideShapes Go.ChangeAt Go.RowKit
set_option linter.unusedVariables false
set_option linter.unusedSimpArgs false
set_option maxRecDepth 20000

def lastL (k : Nat) (l : List (Int × Int)) : List (Int × Int) := l.drop (l.length - k)
def scrollOk (r top bot n at' : Int) : Bool := decide (0 ≤ top ∧ top ≤ bot) && (decide (0 ≤ bot ∧ bot ≤ r - 1) && (decide (-9 ≤ n ∧ n ≤ 9) && atB at'))
/-- The L cells from place A on go n places towards the first one of them. -/
def scrollF (A L : Nat) (n : Int) (f : Nat → Int × Int) (bl : Int × Int) (i : Nat) : Int × Int := if A ≤ i ∧ i < A + L then slideF L n (fun j => f (A + j)) bl (i - A) else f i
def scrollB (W top : Nat) (k : Nat) (f : Nat → Int × Int) (bs : List (Int × Int)) : List (Int × Int) := if top = 0 then lastL (5 * W) (bs ++ mkL (k * W) f) else bs
def scrollRes (r wd : Int) (cs bs : List (Int × Int)) (top bot n at' : Int) : GRes := gres r wd cs bs (scrollOk r top bot n at') ⟨0, r, wd, mkL cs.length (scrollF (top.toNat * wd.toNat) ((bot + 1 - top).toNat * wd.toNat) (n * wd) (fun i => cs.getD i (0, 0)) (32, at')), scrollB wd.toNat top.toNat (max 0 (min n (bot + 1))).toNat (fun i => cs.getD i (0, 0)) bs⟩
theorem scrollRes_def (r wd : Int) (cs bs : List (Int × Int)) (top bot n at' : Int) : scrollRes r wd cs bs top bot n at' = gres r wd cs bs (scrollOk r top bot n at') ⟨0, r, wd, mkL cs.length (scrollF (top.toNat * wd.toNat) ((bot + 1 - top).toNat * wd.toNat) (n * wd) (fun i => cs.getD i (0, 0)) (32, at')), scrollB wd.toNat top.toNat (max 0 (min n (bot + 1))).toNat (fun i => cs.getD i (0, 0)) bs⟩ := rfl
theorem lastL_length (k : Nat) (l : List (Int × Int)) : (lastL k l).length = min l.length k := by unfold lastL; rw [List.length_drop]; omega
theorem scrollRes_len (r wd : Int) (cs bs : List (Int × Int)) (top bot n at' : Int) : (scrollRes r wd cs bs top bot n at').cs.length ≤ 72 ∧ (scrollRes r wd cs bs top bot n at').bs.length ≤ 60 := gres_len (fun h => by
  obtain ⟨R, W, e1, e2, n1, n2, n3, n4, n5, n6, n7, n8, n9, n10⟩ := h.nats
  refine ⟨by rw [mkL_length]; exact n9, ?_⟩
  show (scrollB _ _ _ _ _).length ≤ 60
  unfold scrollB
  split
  · rw [lastL_length]
    omega
  · exact n10)
theorem lastL_short {k : Nat} {l : List (Int × Int)} (h : l.length ≤ k) : lastL k l = l := by
  unfold lastL
  rw [show l.length - k = 0 by omega, List.drop_zero]
theorem lastL_lastL (k : Nat) (x y : List (Int × Int)) : lastL k (lastL k x ++ y) = lastL k (x ++ y) := by
  unfold lastL
  rw [List.length_append, List.length_append, List.length_drop, List.drop_append, List.drop_append, List.drop_drop, List.length_drop]
  congr 2 <;> omega
/-- One row more that left: kept behind the others, the first one let go where there are more than five. -/
theorem scrollB_succ {W k : Nat} {f g : Nat → Int × Int} {bs : List (Int × Int)} (hg : ∀ i, i < W → g i = f (k * W + i)) : lastL (5 * W) (scrollB W 0 k f bs ++ mkL W g) = scrollB W 0 (k + 1) f bs := by
  unfold scrollB
  rw [if_pos rfl, if_pos rfl, lastL_lastL, List.append_assoc, Nat.add_mul, Nat.one_mul, mkL_add, mkL_congr hg]
theorem scrollF_same (A L : Nat) (f : Nat → Int × Int) (bl : Int × Int) (i : Nat) : scrollF A L 0 f bl i = f i := by
  unfold scrollF slideF
  by_cases h : A ≤ i ∧ i < A + L
  · rw [if_pos h, if_pos (by omega)]
    dsimp only
    rw [show A + (((i - A : Nat) : Int) + 0).toNat = i by omega]
  · rw [if_neg h]
theorem scrollF_up (A L k m : Nat) (f : Nat → Int × Int) (bl : Int × Int) (i : Nat) : scrollF A L (m : Int) (scrollF A L (k : Int) f bl) bl i = scrollF A L ((k + m : Nat) : Int) f bl i := by
  unfold scrollF slideF
  by_cases h : A ≤ i ∧ i < A + L
  · rw [if_pos h, if_pos h]
    by_cases h1 : 0 ≤ ((i - A : Nat) : Int) + (m : Int) ∧ ((i - A : Nat) : Int) + (m : Int) < L
    · rw [if_pos h1]
      dsimp only
      rw [if_pos (by omega)]
      by_cases h2 : 0 ≤ ((i - A : Nat) : Int) + ((k + m : Nat) : Int) ∧ ((i - A : Nat) : Int) + ((k + m : Nat) : Int) < L
      · rw [if_pos h2, if_pos (by omega)]
        congr 1
        omega
      · rw [if_neg h2, if_neg (by omega)]
    · rw [if_neg h1, if_neg (by omega)]
  · rw [if_neg h, if_neg h, if_neg h]
theorem scrollF_down (A L k m : Nat) (f : Nat → Int × Int) (bl : Int × Int) (i : Nat) : scrollF A L (-(m : Int)) (scrollF A L (-(k : Int)) f bl) bl i = scrollF A L (-((k + m : Nat) : Int)) f bl i := by
  unfold scrollF slideF
  by_cases h : A ≤ i ∧ i < A + L
  · rw [if_pos h, if_pos h]
    by_cases h1 : 0 ≤ ((i - A : Nat) : Int) + (-(m : Int)) ∧ ((i - A : Nat) : Int) + (-(m : Int)) < L
    · rw [if_pos h1]
      dsimp only
      rw [if_pos (by omega)]
      by_cases h2 : 0 ≤ ((i - A : Nat) : Int) + (-((k + m : Nat) : Int)) ∧ ((i - A : Nat) : Int) + (-((k + m : Nat) : Int)) < L
      · rw [if_pos h2, if_pos (by omega)]
        congr 1
        omega
      · rw [if_neg h2, if_neg (by omega)]
    · rw [if_neg h1, if_neg (by omega)]
  · rw [if_neg h, if_neg h, if_neg h]
/-- Farther than there are rows is as far as there are rows. -/
theorem scrollF_far {A L : Nat} {n m : Int} {f : Nat → Int × Int} {bl : Int × Int} (h : ((L : Int) ≤ n ∧ (L : Int) ≤ m) ∨ (n ≤ -(L : Int) ∧ m ≤ -(L : Int)) ∨ n = m) (i : Nat) : scrollF A L n f bl i = scrollF A L m f bl i := by
  rcases h with h | h | rfl
  · unfold scrollF slideF
    by_cases h1 : A ≤ i ∧ i < A + L
    · rw [if_pos h1, if_pos h1, if_neg (by omega), if_neg (by omega)]
    · rw [if_neg h1, if_neg h1]
  · unfold scrollF slideF
    by_cases h1 : A ≤ i ∧ i < A + L
    · rw [if_pos h1, if_pos h1, if_neg (by omega), if_neg (by omega)]
    · rw [if_neg h1, if_neg h1]
  · rfl
theorem scrollB_drop {W lv q Hb : Nat} {f : Nat → Int × Int} {bs : List (Int × Int)} (hq : q = lv * W) (hb : bs.length = Hb * W) : scrollB W 0 lv f bs = List.drop ((Hb + lv - 5) * W) (bs ++ mkL q f) := by
  subst hq
  unfold scrollB lastL
  rw [if_pos rfl, List.length_append, mkL_length, hb, ← Nat.add_mul, ← Nat.sub_mul]
theorem scrollB_low {W T lv : Nat} {f : Nat → Int × Int} {bs : List (Int × Int)} (h : ¬ T = 0) : scrollB W T lv f bs = bs := if_neg h
theorem rows_pos {T B W : Nat} (h : T ≤ B) (h1 : 0 < W) : 0 < (B + 1) * W - T * W := by
  rw [← Nat.sub_mul]
  exact Nat.mul_pos (by omega) h1
theorem mul_small {n : Int} {W : Nat} (h : -9 ≤ n ∧ n ≤ 9) (h1 : W ≤ 12) : -108 ≤ n * (W : Int) ∧ n * (W : Int) ≤ 108 := by
  have a := Int.mul_le_mul_of_nonneg_right h.2 (show (0 : Int) ≤ (W : Int) by omega)
  have b := Int.mul_le_mul_of_nonneg_right h.1 (show (0 : Int) ≤ (W : Int) by omega)
  omega
/-- A scroll of a grid without a fault, in naturals. -/
theorem scroll_nats {r wd top bot : Int} {cs bs : List (Int × Int)} (h : GFine r wd cs bs) (h0 : 0 ≤ top ∧ top ≤ bot) (h1 : 0 ≤ bot ∧ bot ≤ r - 1) : ∃ T B W : Nat, top = (T : Int) ∧ bot = (B : Int) ∧ wd = (W : Int) ∧ T ≤ B ∧ B ≤ 5 ∧ 2 ≤ W ∧ W ≤ 12 ∧ T * W ≤ (B + 1) * W ∧ (B + 1) * W ≤ cs.length ∧ ∃ Hb, Hb ≤ 5 ∧ bs.length = Hb * W := by
  obtain ⟨R, W, rfl, rfl, n1, n2, n3, n4, n5, n6, n7, n8, n9, n10⟩ := h.nats
  obtain ⟨T, rfl⟩ : ∃ Y : Nat, top = Y := ⟨top.toNat, by omega⟩
  obtain ⟨B, rfl⟩ : ∃ X : Nat, bot = X := ⟨bot.toNat, by omega⟩
  have hd : bs.length = bs.length / W * W := (Nat.div_mul_cancel (Nat.dvd_of_mod_eq_zero n7)).symm
  refine ⟨T, B, W, rfl, rfl, rfl, by omega, by omega, by omega, by omega, Nat.mul_le_mul_right W (by omega), by rw [n5]; exact Nat.mul_le_mul_right W (by omega), bs.length / W, ?_, hd⟩
  exact Nat.div_le_of_le_mul (by rw [Nat.mul_comm]; exact n6)

theorem own_spotG {w : World} {base n : Nat} {e : TypeId} {v : Value} {xs : List (Int × Int)} (h : w.ownsRow base e 2 v n (pvs xs)) (hb : base < w.heap.size) : ∃ bb a cap, v = .slice a n cap ∧ SlAt v bb 0 n cap ∧ base ≤ bb ∧ bb < w.heap.size ∧ (v.ownBlock = some bb ∨ bb = base) ∧ PairsAt bb (bb + 1) w v xs ∧ xs.length = n := by
  by_cases h0 : 0 < n
  · obtain ⟨b, cap, rfl, hc, hl, h1, h2, hr⟩ := own_row h h0
    refine ⟨b, _, cap, rfl, ⟨hc, _, rfl, fun _ => rfl⟩, h1, h2, .inl rfl, ⟨_, _, by rw [hl], .inr ⟨b, 0, rfl, Nat.le_refl _, Nat.lt_succ_self _, fun i hi => hr i (by omega)⟩⟩, hl⟩
  · obtain ⟨a, cap, rfl, hc⟩ := own_room2 h
    have hl : xs.length = n := by
      have := h.1
      rw [pvs_length] at this
      omega
    obtain rfl : n = 0 := by omega
    obtain rfl := List.length_eq_zero_iff.1 hl
    exact ⟨base, a, cap, rfl, ⟨hc, a, rfl, fun h => by omega⟩, Nat.le_refl _, hb, .inr rfl, PairsAt.nil _ _ _ _ _, rfl⟩
theorem pairs_drop {w : World} {bb n cap k hi cap' : Nat} {v v' : Value} {xs : List (Int × Int)} (h : PairsAt bb hi w v xs) (hs : SlAt v bb 0 n cap) (hs' : SlAt v' bb (0 + k * 2) (n - k) cap') (hl : xs.length = n) (hk : k ≤ n) : PairsAt bb hi w v' (xs.drop k) := by
  obtain ⟨_, a', rfl, ha'⟩ := hs'
  obtain ⟨_, a, rfl, ha⟩ := hs
  by_cases h0 : n - k = 0
  · rw [h0, List.drop_eq_nil_of_le (by omega)]
    exact PairsAt.nil _ _ _ _ _
  · obtain ⟨a2, c2, e, h⟩ := h
    injection e with e1 e2 e3
    refine ⟨_, _, by rw [List.length_drop, hl], .inr ?_⟩
    rcases h with h | ⟨b, off, h1, h2, h3, h4⟩
    · rw [h] at hl; simp at hl; omega
    · rw [← e1, ha (by omega)] at h1
      injection h1 with h1
      injection h1 with e4 e5
      subst e4
      subst e5
      refine ⟨_, _, ha' (by omega), h2, h3, fun i hi => ?_⟩
      rw [List.length_drop] at hi
      have := h4 (k + i) (by omega)
      rw [List.getD_eq_getElem?_getD, List.getElem?_drop, ← List.getD_eq_getElem?_getD, show 0 + k * 2 + i * 2 = 0 + (k + i) * 2 by omega]
      exact this
theorem pairs_touch {w w' : World} {lo hi b p q : Nat} {v : Value} {xs : List (Int × Int)} (h : PairsAt lo hi w v xs) (t : Touch b p q w w') (hb : b < lo) (hs : hi ≤ w.heap.size) : PairsAt lo hi w' v xs :=
  h.of_blocks fun i h1 h2 => t.block i (by omega) (by omega)
theorem GrowTo.cellAt {w w' : World} {v v' u : Value} {b o : Nat} (h : GrowTo w w' v v') (c : w.cell? ⟨b, o, none⟩ = some u) (hne : some b ≠ v.ownBlock) : w'.cell? ⟨b, o, none⟩ = some u := (h.cell (block_lt_of_cell c) hne).trans c
/-- What a result holds, whose second list lies in one block. -/
theorem gown_of2 {w w' : World} {base bb bx n cx : Nat} {F : Nat → Int × Int} {y : Value} {bs : List (Int × Int)} (hr : Row w bx 0 n F) (h1 : base ≤ bx) (p2 : PairsAt bb (bb + 1) w y bs) (hb : bx < bb) (hbb : bb < w.heap.size)
    (hs : w.heap.size ≤ w'.heap.size) (hk : ∀ k, k < w.heap.size → w'.heap[k]? = w.heap[k]? ∨ k < base) : GOwn base w'.heap.size w' (.slice (some ⟨bx, 0, none⟩) n cx) y (mkL n F) bs := by
  have p1 : PairsAt bx (bx + 1) w (.slice (some ⟨bx, 0, none⟩) n cx) (mkL n F) := PairsAt.of_row hr (Nat.le_refl _) (Nat.lt_succ_self _)
  refine ((GOwn.of (lo := base) (hi := w.heap.size) p1 p2 h1 (by omega) (by omega) (by omega) (.inl (by omega))).of_blocks (fun i h1 h2 => ?_)).mono (Nat.le_refl _) hs
  rcases hk i h2 with h | h
  · exact h
  · omega

end Go.Proofs.Ytknkbihjboadjaa
