/-
  What ScrollGrid answers, of the program.
-/
import Derived.Test.YtbndncfkkhjkoaiGridRes
import Derived.Test.YtbndncfkkhjkoaiSlideFns
import Derived.Test.YtbndncfkkhjkoaiShiftFns
import Derived.Test.YtbndncfkkhjkoaiFollowed
import Derived.Test.YtbndncfkkhjkoaiLastFns
import Derived.Test.YtbndncfkkhjkoaiUntil
import Derived.Deep.RegionHeld3
import Derived.Deep.RegionHeld
namespace Go.Proofs.Ytbndncfkkhjkoai
open Go.ChangeShapes Go.WideShapes Go.ChangeAt Go.RowKit
set_option linter.unusedVariables false
set_option linter.unusedSimpArgs false
set_option maxRecDepth 20000

def lastL (k : Nat) (l : List (Int × Int)) : List (Int × Int) := l.drop (l.length - k)
def scrollOk (r top bot n at' : Int) : Bool := decide (0 ≤ top ∧ top ≤ bot) && (decide (0 ≤ bot ∧ bot ≤ r - 1) && (decide (-9 ≤ n ∧ n ≤ 9) && atB at'))
/-- The L cells from place A on go n places towards the first one of them. -/
def scrollF (A L : Nat) (n : Int) (f : Nat → Int × Int) (bl : Int × Int) (i : Nat) : Int × Int := if A ≤ i ∧ i < A + L then slideF L n (fun j => f (A + j)) bl (i - A) else f i
def scrollB (W top : Nat) (k : Nat) (f : Nat → Int × Int) (bs : List (Int × Int)) : List (Int × Int) := if top = 0 then lastL (5 * W) (bs ++ mkL (k * W) f) else bs
def scrollRes (r wd : Int) (cs bs : List (Int × Int)) (top bot n at' : Int) : GRes := gres r wd cs bs (scrollOk r top bot n at') ⟨0, r, wd, mkL cs.length (scrollF (top.toNat * wd.toNat) ((bot + 1 - top).toNat * wd.toNat) (n * wd) (fun i => cs.getD i (0, 0)) (32, at')), scrollB wd.toNat top.toNat (max 0 (min n (bot + 1))).toNat (fun i => cs.getD i (0, 0)) bs⟩
theorem scrollRes_def (r wd : Int) (cs bs : List (Int × Int)) (top bot n at' : Int) : scrollRes r wd cs bs top bot n at' = gres r wd cs bs (scrollOk r top bot n at') ⟨0, r, wd, mkL cs.length (scrollF (top.toNat * wd.toNat) ((bot + 1 - top).toNat * wd.toNat) (n * wd) (fun i => cs.getD i (0, 0)) (32, at')), scrollB wd.toNat top.toNat (max 0 (min n (bot + 1))).toNat (fun i => cs.getD i (0, 0)) bs⟩ := rfl
theorem lastL_length (k : Nat) (l : List (Int × Int)) : (lastL k l).length = min l.length k := by unfold lastL; rw [List.length_drop]; omega
theorem scrollRes_len (r wd : Int) (cs bs : List (Int × Int)) (top bot n at' : Int) : (scrollRes r wd cs bs top bot n at').cs.length ≤ 72 ∧ (scrollRes r wd cs bs top bot n at').bs.length ≤ 60 := gres_len (fun h => by
  obtain ⟨R, W, e1, e2, n1, n2, n3, n4, n5, n6, n7, n8, n9, n10⟩ := h.nats
  refine ⟨by rw [mkL_length]; exact n9, ?_⟩
  show (scrollB _ _ _ _ _).length ≤ 60
  unfold scrollB
  split
  · rw [lastL_length]
    omega
  · exact n10)
theorem lastL_short {k : Nat} {l : List (Int × Int)} (h : l.length ≤ k) : lastL k l = l := by
  unfold lastL
  rw [show l.length - k = 0 by omega, List.drop_zero]
theorem lastL_lastL (k : Nat) (x y : List (Int × Int)) : lastL k (lastL k x ++ y) = lastL k (x ++ y) := by
  unfold lastL
  rw [List.length_append, List.length_append, List.length_drop, List.drop_append, List.drop_append, List.drop_drop, List.length_drop]
  congr 2 <;> omega
/-- One row more that left: kept behind the others, the first one let go where there are more than five. -/
theorem scrollB_succ {W k : Nat} {f g : Nat → Int × Int} {bs : List (Int × Int)} (hg : ∀ i, i < W → g i = f (k * W + i)) : lastL (5 * W) (scrollB W 0 k f bs ++ mkL W g) = scrollB W 0 (k + 1) f bs := by
  unfold scrollB
  rw [if_pos rfl, if_pos rfl, lastL_lastL, List.append_assoc, Nat.add_mul, Nat.one_mul, mkL_add, mkL_congr hg]
theorem scrollF_same (A L : Nat) (f : Nat → Int × Int) (bl : Int × Int) (i : Nat) : scrollF A L 0 f bl i = f i := by
  unfold scrollF slideF
  by_cases h : A ≤ i ∧ i < A + L
  · rw [if_pos h, if_pos (by omega)]
    dsimp only
    rw [show A + (((i - A : Nat) : Int) + 0).toNat = i by omega]
  · rw [if_neg h]
theorem scrollF_up (A L k m : Nat) (f : Nat → Int × Int) (bl : Int × Int) (i : Nat) : scrollF A L (m : Int) (scrollF A L (k : Int) f bl) bl i = scrollF A L ((k + m : Nat) : Int) f bl i := by
  unfold scrollF slideF
  by_cases h : A ≤ i ∧ i < A + L
  · rw [if_pos h, if_pos h]
    by_cases h1 : 0 ≤ ((i - A : Nat) : Int) + (m : Int) ∧ ((i - A : Nat) : Int) + (m : Int) < L
    · rw [if_pos h1]
      dsimp only
      rw [if_pos (by omega)]
      by_cases h2 : 0 ≤ ((i - A : Nat) : Int) + ((k + m : Nat) : Int) ∧ ((i - A : Nat) : Int) + ((k + m : Nat) : Int) < L
      · rw [if_pos h2, if_pos (by omega)]
        congr 1
        omega
      · rw [if_neg h2, if_neg (by omega)]
    · rw [if_neg h1, if_neg (by omega)]
  · rw [if_neg h, if_neg h, if_neg h]
theorem scrollF_down (A L k m : Nat) (f : Nat → Int × Int) (bl : Int × Int) (i : Nat) : scrollF A L (-(m : Int)) (scrollF A L (-(k : Int)) f bl) bl i = scrollF A L (-((k + m : Nat) : Int)) f bl i := by
  unfold scrollF slideF
  by_cases h : A ≤ i ∧ i < A + L
  · rw [if_pos h, if_pos h]
    by_cases h1 : 0 ≤ ((i - A : Nat) : Int) + (-(m : Int)) ∧ ((i - A : Nat) : Int) + (-(m : Int)) < L
    · rw [if_pos h1]
      dsimp only
      rw [if_pos (by omega)]
      by_cases h2 : 0 ≤ ((i - A : Nat) : Int) + (-((k + m : Nat) : Int)) ∧ ((i - A : Nat) : Int) + (-((k + m : Nat) : Int)) < L
      · rw [if_pos h2, if_pos (by omega)]
        congr 1
        omega
      · rw [if_neg h2, if_neg (by omega)]
    · rw [if_neg h1, if_neg (by omega)]
  · rw [if_neg h, if_neg h, if_neg h]
/-- Farther than there are rows is as far as there are rows. -/
theorem scrollF_far {A L : Nat} {n m : Int} {f : Nat → Int × Int} {bl : Int × Int} (h : ((L : Int) ≤ n ∧ (L : Int) ≤ m) ∨ (n ≤ -(L : Int) ∧ m ≤ -(L : Int)) ∨ n = m) (i : Nat) : scrollF A L n f bl i = scrollF A L m f bl i := by
  rcases h with h | h | rfl
  · unfold scrollF slideF
    by_cases h1 : A ≤ i ∧ i < A + L
    · rw [if_pos h1, if_pos h1, if_neg (by omega), if_neg (by omega)]
    · rw [if_neg h1, if_neg h1]
  · unfold scrollF slideF
    by_cases h1 : A ≤ i ∧ i < A + L
    · rw [if_pos h1, if_pos h1, if_neg (by omega), if_neg (by omega)]
    · rw [if_neg h1, if_neg h1]
  · rfl
theorem scrollB_drop {W lv q Hb : Nat} {f : Nat → Int × Int} {bs : List (Int × Int)} (hq : q = lv * W) (hb : bs.length = Hb * W) : scrollB W 0 lv f bs = List.drop ((Hb + lv - 5) * W) (bs ++ mkL q f) := by
  subst hq
  unfold scrollB lastL
  rw [if_pos rfl, List.length_append, mkL_length, hb, ← Nat.add_mul, ← Nat.sub_mul]
theorem scrollB_low {W T lv : Nat} {f : Nat → Int × Int} {bs : List (Int × Int)} (h : ¬ T = 0) : scrollB W T lv f bs = bs := if_neg h
theorem rows_pos {T B W : Nat} (h : T ≤ B) (h1 : 0 < W) : 0 < (B + 1) * W - T * W := by
  rw [← Nat.sub_mul]
  exact Nat.mul_pos (by omega) h1
theorem mul_small {n : Int} {W : Nat} (h : -9 ≤ n ∧ n ≤ 9) (h1 : W ≤ 12) : -108 ≤ n * (W : Int) ∧ n * (W : Int) ≤ 108 := by
  have a := Int.mul_le_mul_of_nonneg_right h.2 (show (0 : Int) ≤ (W : Int) by omega)
  have b := Int.mul_le_mul_of_nonneg_right h.1 (show (0 : Int) ≤ (W : Int) by omega)
  omega
/-- A scroll of a grid without a fault, in naturals. -/
theorem scroll_nats {r wd top bot : Int} {cs bs : List (Int × Int)} (h : GFine r wd cs bs) (h0 : 0 ≤ top ∧ top ≤ bot) (h1 : 0 ≤ bot ∧ bot ≤ r - 1) : ∃ T B W : Nat, top = (T : Int) ∧ bot = (B : Int) ∧ wd = (W : Int) ∧ T ≤ B ∧ B ≤ 5 ∧ 2 ≤ W ∧ W ≤ 12 ∧ T * W ≤ (B + 1) * W ∧ (B + 1) * W ≤ cs.length ∧ ∃ Hb, Hb ≤ 5 ∧ bs.length = Hb * W := by
  obtain ⟨R, W, rfl, rfl, n1, n2, n3, n4, n5, n6, n7, n8, n9, n10⟩ := h.nats
  obtain ⟨T, rfl⟩ : ∃ Y : Nat, top = Y := ⟨top.toNat, by omega⟩
  obtain ⟨B, rfl⟩ : ∃ X : Nat, bot = X := ⟨bot.toNat, by omega⟩
  have hd : bs.length = bs.length / W * W := (Nat.div_mul_cancel (Nat.dvd_of_mod_eq_zero n7)).symm
  refine ⟨T, B, W, rfl, rfl, rfl, by omega, by omega, by omega, by omega, Nat.mul_le_mul_right W (by omega), by rw [n5]; exact Nat.mul_le_mul_right W (by omega), bs.length / W, ?_, hd⟩
  exact Nat.div_le_of_le_mul (by rw [Nat.mul_comm]; exact n6)

theorem own_spot {w : World} {base n : Nat} {e : TypeId} {v : Value} {xs : List (Int × Int)} (h : w.ownsRow base e 2 v n (pvs xs)) (hb : base < w.heap.size) : ∃ bb a cap, v = .slice a n cap ∧ SlAt v bb 0 n cap ∧ base ≤ bb ∧ bb < w.heap.size ∧ (v.ownBlock = some bb ∨ bb = base) ∧ PairsAt bb (bb + 1) w v xs ∧ xs.length = n := by
  by_cases h0 : 0 < n
  · obtain ⟨b, cap, rfl, hc, hl, h1, h2, hr⟩ := own_row h h0
    refine ⟨b, _, cap, rfl, ⟨hc, _, rfl, fun _ => rfl⟩, h1, h2, .inl rfl, ⟨_, _, by rw [hl], .inr ⟨b, 0, rfl, Nat.le_refl _, Nat.lt_succ_self _, fun i hi => hr i (by omega)⟩⟩, hl⟩
  · obtain ⟨a, cap, rfl, hc⟩ := own_room2 h
    have hl : xs.length = n := by
      have := h.1
      rw [pvs_length] at this
      omega
    obtain rfl : n = 0 := by omega
    obtain rfl := List.length_eq_zero_iff.1 hl
    exact ⟨base, a, cap, rfl, ⟨hc, a, rfl, fun h => by omega⟩, Nat.le_refl _, hb, .inr rfl, PairsAt.nil _ _ _ _ _, rfl⟩
theorem pairs_drop {w : World} {bb n cap k hi cap' : Nat} {v v' : Value} {xs : List (Int × Int)} (h : PairsAt bb hi w v xs) (hs : SlAt v bb 0 n cap) (hs' : SlAt v' bb (0 + k * 2) (n - k) cap') (hl : xs.length = n) (hk : k ≤ n) : PairsAt bb hi w v' (xs.drop k) := by
  obtain ⟨_, a', rfl, ha'⟩ := hs'
  obtain ⟨_, a, rfl, ha⟩ := hs
  by_cases h0 : n - k = 0
  · rw [h0, List.drop_eq_nil_of_le (by omega)]
    exact PairsAt.nil _ _ _ _ _
  · obtain ⟨a2, c2, e, h⟩ := h
    injection e with e1 e2 e3
    refine ⟨_, _, by rw [List.length_drop, hl], .inr ?_⟩
    rcases h with h | ⟨b, off, h1, h2, h3, h4⟩
    · rw [h] at hl; simp at hl; omega
    · rw [← e1, ha (by omega)] at h1
      injection h1 with h1
      injection h1 with e4 e5
      subst e4
      subst e5
      refine ⟨_, _, ha' (by omega), h2, h3, fun i hi => ?_⟩
      rw [List.length_drop] at hi
      have := h4 (k + i) (by omega)
      rw [List.getD_eq_getElem?_getD, List.getElem?_drop, ← List.getD_eq_getElem?_getD, show 0 + k * 2 + i * 2 = 0 + (k + i) * 2 by omega]
      exact this
theorem pairs_touch {w w' : World} {lo hi b p q : Nat} {v : Value} {xs : List (Int × Int)} (h : PairsAt lo hi w v xs) (t : Touch b p q w w') (hb : b < lo) (hs : hi ≤ w.heap.size) : PairsAt lo hi w' v xs :=
  h.of_blocks fun i h1 h2 => t.block i (by omega) (by omega)
theorem GrowTo.cellAt {w w' : World} {v v' u : Value} {b o : Nat} (h : GrowTo w w' v v') (c : w.cell? ⟨b, o, none⟩ = some u) (hne : some b ≠ v.ownBlock) : w'.cell? ⟨b, o, none⟩ = some u := (h.cell (block_lt_of_cell c) hne).trans c
/-- What a result holds, whose second list lies in one block. -/
theorem gown_of2 {w w' : World} {base bb bx n cx : Nat} {F : Nat → Int × Int} {y : Value} {bs : List (Int × Int)} (hr : Row w bx 0 n F) (h1 : base ≤ bx) (p2 : PairsAt bb (bb + 1) w y bs) (hb : bx < bb) (hbb : bb < w.heap.size)
    (hs : w.heap.size ≤ w'.heap.size) (hk : ∀ k, k < w.heap.size → w'.heap[k]? = w.heap[k]? ∨ k < base) : GOwn base w'.heap.size w' (.slice (some ⟨bx, 0, none⟩) n cx) y (mkL n F) bs := by
  have p1 : PairsAt bx (bx + 1) w (.slice (some ⟨bx, 0, none⟩) n cx) (mkL n F) := PairsAt.of_row hr (Nat.le_refl _) (Nat.lt_succ_self _)
  refine ((GOwn.of (lo := base) (hi := w.heap.size) p1 p2 h1 (by omega) (by omega) (by omega) (.inl (by omega))).of_blocks (fun i h1 h2 => ?_)).mono (Nat.le_refl _) hs
  rcases hk i h2 with h | h
  · exact h
  · omega

set_option maxHeartbeats 2000000 in
theorem implScrollGrid_calls (r wd : Int) (cs bs : List (Int × Int)) (top bot n at' : Int) (v1 v2 : Value) (w : World) (hn1 : cs.length ≤ 1048576) (hn2 : bs.length ≤ 1048576) (h1 : PRead w v1 cs) (h2 : PRead w v2 bs) :
    Calls Try.prog 22 #[.agg #[.int .i64 r, .int .i64 wd, v1, v2], .int .i64 top, .int .i64 bot, .int .i64 n, .int .i64 at'] w fun e w' => ∃ v5 v6, e = .returned (.agg #[.int .i64 (scrollRes r wd cs bs top bot n at').code, .int .i64 (scrollRes r wd cs bs top bot n at').rows, .int .i64 (scrollRes r wd cs bs top bot n at').wd, v5, v6]) ∧ GOwn w.heap.size w'.heap.size w' v5 v6 (scrollRes r wd cs bs top bot n at').cs (scrollRes r wd cs bs top bot n at').bs ∧ Below w.heap.size w w' := by
  have h1' := h1
  obtain ⟨a1, c1, rfl, hx1⟩ := h1'
  clear hx1
  have h2' := h2
  obtain ⟨a2, c2, rfl, hx2⟩ := h2'
  clear hx2
  have hb0 : Below w.heap.size w ((w.alloc (.cells #[.int .i64 r, .int .i64 wd, .slice a1 cs.length c1, .slice a2 bs.length c2] 24)).alloc (.cells #[.int .i64 0, .int .i64 0, .int .i64 0, .slice none 0 0, .slice none 0 0] 26)) := (by repeat' (first | with_reducible exact Below.refl _ _ | with_reducible assumption | with_reducible refine Below.drew ?_ | with_reducible refine Below.alloc ?_ ?_ _ | with_reducible refine Below.setCell ?_ ?_ _ | (simp; done) | (simp; omega) | omega))
  have HF := implGridFault_calls r wd cs bs _ _ ((w.alloc (.cells #[.int .i64 r, .int .i64 wd, .slice a1 cs.length c1, .slice a2 bs.length c2] 24)).alloc (.cells #[.int .i64 0, .int .i64 0, .int .i64 0, .slice none 0 0, .slice none 0 0] 26)) hn1 hn2 (h1.below hb0) (h2.below hb0)
  have hbd : gridCode r wd cs bs = 0 → 1 ≤ r ∧ r ≤ 6 ∧ 2 ≤ wd ∧ wd ≤ 12 := fun h => fine_bounds (gfine_of_code h)
  by_cases hG : gridCode r wd cs bs = 0
  · cases k0 : decide (0 ≤ top ∧ top ≤ bot) with
    | false =>
      obtain ⟨g1, g2, g3, g4⟩ := hbd hG
      rw [scrollRes_def, gres_bad hG (by unfold scrollOk; first | (rw [k0]; rfl) | (rw [k0, k1]; rfl) | (rw [k0, k1, k2]; rfl) | (rw [k0, k1, k2, k3]; rfl))]
      rw [hG] at HF
      simp only [gbad]
      go_enter Try.func22, Try.ntmps22
      go_wp2_with fail
      refine HF.mono ?_
      rintro e w1 ⟨rfl, hb1⟩
      have A0 : w1.cell? ⟨w.heap.size, 0, none⟩ = some (.int .i64 r) := cellb hb1 (by simp [go_sem])
      have A1 : w1.cell? ⟨w.heap.size, 1, none⟩ = some (.int .i64 wd) := cellb hb1 (by simp [go_sem])
      have A2 : w1.cell? ⟨w.heap.size, 2, none⟩ = some (.slice a1 cs.length c1) := cellb hb1 (by simp [go_sem])
      have A3 : w1.cell? ⟨w.heap.size, 3, none⟩ = some (.slice a2 bs.length c2) := cellb hb1 (by simp [go_sem])
      have R0 : w1.cell? ⟨w.heap.size + 1, 0, none⟩ = some (.int .i64 0) := cellb hb1 (by simp [go_sem])
      have Z0 : w1.frozen? ⟨w.heap.size + 1, 0, none⟩ = false := by rw [hb1.frozen (p := ⟨w.heap.size + 1, 0, none⟩) (by simp)]; simp [go_sem]
      have R1 : w1.cell? ⟨w.heap.size + 1, 1, none⟩ = some (.int .i64 0) := cellb hb1 (by simp [go_sem])
      have Z1 : w1.frozen? ⟨w.heap.size + 1, 1, none⟩ = false := by rw [hb1.frozen (p := ⟨w.heap.size + 1, 1, none⟩) (by simp)]; simp [go_sem]
      have R2 : w1.cell? ⟨w.heap.size + 1, 2, none⟩ = some (.int .i64 0) := cellb hb1 (by simp [go_sem])
      have Z2 : w1.frozen? ⟨w.heap.size + 1, 2, none⟩ = false := by rw [hb1.frozen (p := ⟨w.heap.size + 1, 2, none⟩) (by simp)]; simp [go_sem]
      have R3 : w1.cell? ⟨w.heap.size + 1, 3, none⟩ = some (.slice none 0 0) := cellb hb1 (by simp [go_sem])
      have Z3 : w1.frozen? ⟨w.heap.size + 1, 3, none⟩ = false := by rw [hb1.frozen (p := ⟨w.heap.size + 1, 3, none⟩) (by simp)]; simp [go_sem]
      have R4 : w1.cell? ⟨w.heap.size + 1, 4, none⟩ = some (.slice none 0 0) := cellb hb1 (by simp [go_sem])
      have Z4 : w1.frozen? ⟨w.heap.size + 1, 4, none⟩ = false := by rw [hb1.frozen (p := ⟨w.heap.size + 1, 4, none⟩) (by simp)]; simp [go_sem]
      have hs1 : w.heap.size + 2 ≤ w1.heap.size := by have := hb1.size; simp at this; omega
      have b1 : Below w.heap.size w w1 := hb0.trans (hb1.mono (by simp; omega))
      clear hb1 hb0 HF
      go_wp2_with (first
        | (go_at_call 53; refine (isFromTo_calls _ _ _ _).mono ?_; rintro e w' ⟨rfl, hw⟩; rw [hw]; clear hw w'; first | rw [k0] | rw [k1] | rw [k2])
        | (go_at_call 54; refine (isAttr_calls _ _).mono ?_; rintro e w' ⟨rfl, hw⟩; rw [hw]; clear hw w'; rw [k3]))
      have hr := res5 (w := w1) (r := w.heap.size + 1) (.int .i64 3) (.int .i64 0) (.int .i64 0) (.slice none 0 0) (.slice none 0 0) R0 R1 R2 R3 R4
      go_wp2
      refine bodyPost_ret (v := .agg #[.int .i64 3, .int .i64 0, .int .i64 0, .slice none 0 0, .slice none 0 0]) (by simp only [results, Try.results22]; simp [go_sem, hr.1, hr.2.1, hr.2.2.1, hr.2.2.2.1, hr.2.2.2.2]) rfl ⟨_, _, rfl, ?_, b1.trans (show Below w.heap.size w1 _ from (by repeat' (first | with_reducible exact Below.refl _ _ | with_reducible assumption | with_reducible refine Below.drew ?_ | with_reducible refine Below.alloc ?_ ?_ _ | with_reducible refine Below.setCell ?_ ?_ _ | (simp; done) | (simp; omega) | omega)))⟩
      exact GOwn.nil _ _ _ (by have := b1.size; simp [World.setCell]; omega)
    | true =>
      cases k1 : decide (0 ≤ bot ∧ bot ≤ r - 1) with
      | false =>
        obtain ⟨g1, g2, g3, g4⟩ := hbd hG
        rw [scrollRes_def, gres_bad hG (by unfold scrollOk; first | (rw [k0]; rfl) | (rw [k0, k1]; rfl) | (rw [k0, k1, k2]; rfl) | (rw [k0, k1, k2, k3]; rfl))]
        rw [hG] at HF
        simp only [gbad]
        go_enter Try.func22, Try.ntmps22
        go_wp2_with fail
        refine HF.mono ?_
        rintro e w1 ⟨rfl, hb1⟩
        have A0 : w1.cell? ⟨w.heap.size, 0, none⟩ = some (.int .i64 r) := cellb hb1 (by simp [go_sem])
        have A1 : w1.cell? ⟨w.heap.size, 1, none⟩ = some (.int .i64 wd) := cellb hb1 (by simp [go_sem])
        have A2 : w1.cell? ⟨w.heap.size, 2, none⟩ = some (.slice a1 cs.length c1) := cellb hb1 (by simp [go_sem])
        have A3 : w1.cell? ⟨w.heap.size, 3, none⟩ = some (.slice a2 bs.length c2) := cellb hb1 (by simp [go_sem])
        have R0 : w1.cell? ⟨w.heap.size + 1, 0, none⟩ = some (.int .i64 0) := cellb hb1 (by simp [go_sem])
        have Z0 : w1.frozen? ⟨w.heap.size + 1, 0, none⟩ = false := by rw [hb1.frozen (p := ⟨w.heap.size + 1, 0, none⟩) (by simp)]; simp [go_sem]
        have R1 : w1.cell? ⟨w.heap.size + 1, 1, none⟩ = some (.int .i64 0) := cellb hb1 (by simp [go_sem])
        have Z1 : w1.frozen? ⟨w.heap.size + 1, 1, none⟩ = false := by rw [hb1.frozen (p := ⟨w.heap.size + 1, 1, none⟩) (by simp)]; simp [go_sem]
        have R2 : w1.cell? ⟨w.heap.size + 1, 2, none⟩ = some (.int .i64 0) := cellb hb1 (by simp [go_sem])
        have Z2 : w1.frozen? ⟨w.heap.size + 1, 2, none⟩ = false := by rw [hb1.frozen (p := ⟨w.heap.size + 1, 2, none⟩) (by simp)]; simp [go_sem]
        have R3 : w1.cell? ⟨w.heap.size + 1, 3, none⟩ = some (.slice none 0 0) := cellb hb1 (by simp [go_sem])
        have Z3 : w1.frozen? ⟨w.heap.size + 1, 3, none⟩ = false := by rw [hb1.frozen (p := ⟨w.heap.size + 1, 3, none⟩) (by simp)]; simp [go_sem]
        have R4 : w1.cell? ⟨w.heap.size + 1, 4, none⟩ = some (.slice none 0 0) := cellb hb1 (by simp [go_sem])
        have Z4 : w1.frozen? ⟨w.heap.size + 1, 4, none⟩ = false := by rw [hb1.frozen (p := ⟨w.heap.size + 1, 4, none⟩) (by simp)]; simp [go_sem]
        have hs1 : w.heap.size + 2 ≤ w1.heap.size := by have := hb1.size; simp at this; omega
        have b1 : Below w.heap.size w w1 := hb0.trans (hb1.mono (by simp; omega))
        clear hb1 hb0 HF
        go_wp2_with (first
          | (go_at_call 53; refine (isFromTo_calls _ _ _ _).mono ?_; rintro e w' ⟨rfl, hw⟩; rw [hw]; clear hw w'; first | rw [k0] | rw [k1] | rw [k2])
          | (go_at_call 54; refine (isAttr_calls _ _).mono ?_; rintro e w' ⟨rfl, hw⟩; rw [hw]; clear hw w'; rw [k3]))
        have hr := res5 (w := w1) (r := w.heap.size + 1) (.int .i64 3) (.int .i64 0) (.int .i64 0) (.slice none 0 0) (.slice none 0 0) R0 R1 R2 R3 R4
        go_wp2
        refine bodyPost_ret (v := .agg #[.int .i64 3, .int .i64 0, .int .i64 0, .slice none 0 0, .slice none 0 0]) (by simp only [results, Try.results22]; simp [go_sem, hr.1, hr.2.1, hr.2.2.1, hr.2.2.2.1, hr.2.2.2.2]) rfl ⟨_, _, rfl, ?_, b1.trans (show Below w.heap.size w1 _ from (by repeat' (first | with_reducible exact Below.refl _ _ | with_reducible assumption | with_reducible refine Below.drew ?_ | with_reducible refine Below.alloc ?_ ?_ _ | with_reducible refine Below.setCell ?_ ?_ _ | (simp; done) | (simp; omega) | omega)))⟩
        exact GOwn.nil _ _ _ (by have := b1.size; simp [World.setCell]; omega)
      | true =>
        cases k2 : decide (-9 ≤ n ∧ n ≤ 9) with
        | false =>
          obtain ⟨g1, g2, g3, g4⟩ := hbd hG
          rw [scrollRes_def, gres_bad hG (by unfold scrollOk; first | (rw [k0]; rfl) | (rw [k0, k1]; rfl) | (rw [k0, k1, k2]; rfl) | (rw [k0, k1, k2, k3]; rfl))]
          rw [hG] at HF
          simp only [gbad]
          go_enter Try.func22, Try.ntmps22
          go_wp2_with fail
          refine HF.mono ?_
          rintro e w1 ⟨rfl, hb1⟩
          have A0 : w1.cell? ⟨w.heap.size, 0, none⟩ = some (.int .i64 r) := cellb hb1 (by simp [go_sem])
          have A1 : w1.cell? ⟨w.heap.size, 1, none⟩ = some (.int .i64 wd) := cellb hb1 (by simp [go_sem])
          have A2 : w1.cell? ⟨w.heap.size, 2, none⟩ = some (.slice a1 cs.length c1) := cellb hb1 (by simp [go_sem])
          have A3 : w1.cell? ⟨w.heap.size, 3, none⟩ = some (.slice a2 bs.length c2) := cellb hb1 (by simp [go_sem])
          have R0 : w1.cell? ⟨w.heap.size + 1, 0, none⟩ = some (.int .i64 0) := cellb hb1 (by simp [go_sem])
          have Z0 : w1.frozen? ⟨w.heap.size + 1, 0, none⟩ = false := by rw [hb1.frozen (p := ⟨w.heap.size + 1, 0, none⟩) (by simp)]; simp [go_sem]
          have R1 : w1.cell? ⟨w.heap.size + 1, 1, none⟩ = some (.int .i64 0) := cellb hb1 (by simp [go_sem])
          have Z1 : w1.frozen? ⟨w.heap.size + 1, 1, none⟩ = false := by rw [hb1.frozen (p := ⟨w.heap.size + 1, 1, none⟩) (by simp)]; simp [go_sem]
          have R2 : w1.cell? ⟨w.heap.size + 1, 2, none⟩ = some (.int .i64 0) := cellb hb1 (by simp [go_sem])
          have Z2 : w1.frozen? ⟨w.heap.size + 1, 2, none⟩ = false := by rw [hb1.frozen (p := ⟨w.heap.size + 1, 2, none⟩) (by simp)]; simp [go_sem]
          have R3 : w1.cell? ⟨w.heap.size + 1, 3, none⟩ = some (.slice none 0 0) := cellb hb1 (by simp [go_sem])
          have Z3 : w1.frozen? ⟨w.heap.size + 1, 3, none⟩ = false := by rw [hb1.frozen (p := ⟨w.heap.size + 1, 3, none⟩) (by simp)]; simp [go_sem]
          have R4 : w1.cell? ⟨w.heap.size + 1, 4, none⟩ = some (.slice none 0 0) := cellb hb1 (by simp [go_sem])
          have Z4 : w1.frozen? ⟨w.heap.size + 1, 4, none⟩ = false := by rw [hb1.frozen (p := ⟨w.heap.size + 1, 4, none⟩) (by simp)]; simp [go_sem]
          have hs1 : w.heap.size + 2 ≤ w1.heap.size := by have := hb1.size; simp at this; omega
          have b1 : Below w.heap.size w w1 := hb0.trans (hb1.mono (by simp; omega))
          clear hb1 hb0 HF
          go_wp2_with (first
            | (go_at_call 53; refine (isFromTo_calls _ _ _ _).mono ?_; rintro e w' ⟨rfl, hw⟩; rw [hw]; clear hw w'; first | rw [k0] | rw [k1] | rw [k2])
            | (go_at_call 54; refine (isAttr_calls _ _).mono ?_; rintro e w' ⟨rfl, hw⟩; rw [hw]; clear hw w'; rw [k3]))
          have hr := res5 (w := w1) (r := w.heap.size + 1) (.int .i64 3) (.int .i64 0) (.int .i64 0) (.slice none 0 0) (.slice none 0 0) R0 R1 R2 R3 R4
          go_wp2
          refine bodyPost_ret (v := .agg #[.int .i64 3, .int .i64 0, .int .i64 0, .slice none 0 0, .slice none 0 0]) (by simp only [results, Try.results22]; simp [go_sem, hr.1, hr.2.1, hr.2.2.1, hr.2.2.2.1, hr.2.2.2.2]) rfl ⟨_, _, rfl, ?_, b1.trans (show Below w.heap.size w1 _ from (by repeat' (first | with_reducible exact Below.refl _ _ | with_reducible assumption | with_reducible refine Below.drew ?_ | with_reducible refine Below.alloc ?_ ?_ _ | with_reducible refine Below.setCell ?_ ?_ _ | (simp; done) | (simp; omega) | omega)))⟩
          exact GOwn.nil _ _ _ (by have := b1.size; simp [World.setCell]; omega)
        | true =>
          cases k3 : atB at' with
          | false =>
            obtain ⟨g1, g2, g3, g4⟩ := hbd hG
            rw [scrollRes_def, gres_bad hG (by unfold scrollOk; first | (rw [k0]; rfl) | (rw [k0, k1]; rfl) | (rw [k0, k1, k2]; rfl) | (rw [k0, k1, k2, k3]; rfl))]
            rw [hG] at HF
            simp only [gbad]
            go_enter Try.func22, Try.ntmps22
            go_wp2_with fail
            refine HF.mono ?_
            rintro e w1 ⟨rfl, hb1⟩
            have A0 : w1.cell? ⟨w.heap.size, 0, none⟩ = some (.int .i64 r) := cellb hb1 (by simp [go_sem])
            have A1 : w1.cell? ⟨w.heap.size, 1, none⟩ = some (.int .i64 wd) := cellb hb1 (by simp [go_sem])
            have A2 : w1.cell? ⟨w.heap.size, 2, none⟩ = some (.slice a1 cs.length c1) := cellb hb1 (by simp [go_sem])
            have A3 : w1.cell? ⟨w.heap.size, 3, none⟩ = some (.slice a2 bs.length c2) := cellb hb1 (by simp [go_sem])
            have R0 : w1.cell? ⟨w.heap.size + 1, 0, none⟩ = some (.int .i64 0) := cellb hb1 (by simp [go_sem])
            have Z0 : w1.frozen? ⟨w.heap.size + 1, 0, none⟩ = false := by rw [hb1.frozen (p := ⟨w.heap.size + 1, 0, none⟩) (by simp)]; simp [go_sem]
            have R1 : w1.cell? ⟨w.heap.size + 1, 1, none⟩ = some (.int .i64 0) := cellb hb1 (by simp [go_sem])
            have Z1 : w1.frozen? ⟨w.heap.size + 1, 1, none⟩ = false := by rw [hb1.frozen (p := ⟨w.heap.size + 1, 1, none⟩) (by simp)]; simp [go_sem]
            have R2 : w1.cell? ⟨w.heap.size + 1, 2, none⟩ = some (.int .i64 0) := cellb hb1 (by simp [go_sem])
            have Z2 : w1.frozen? ⟨w.heap.size + 1, 2, none⟩ = false := by rw [hb1.frozen (p := ⟨w.heap.size + 1, 2, none⟩) (by simp)]; simp [go_sem]
            have R3 : w1.cell? ⟨w.heap.size + 1, 3, none⟩ = some (.slice none 0 0) := cellb hb1 (by simp [go_sem])
            have Z3 : w1.frozen? ⟨w.heap.size + 1, 3, none⟩ = false := by rw [hb1.frozen (p := ⟨w.heap.size + 1, 3, none⟩) (by simp)]; simp [go_sem]
            have R4 : w1.cell? ⟨w.heap.size + 1, 4, none⟩ = some (.slice none 0 0) := cellb hb1 (by simp [go_sem])
            have Z4 : w1.frozen? ⟨w.heap.size + 1, 4, none⟩ = false := by rw [hb1.frozen (p := ⟨w.heap.size + 1, 4, none⟩) (by simp)]; simp [go_sem]
            have hs1 : w.heap.size + 2 ≤ w1.heap.size := by have := hb1.size; simp at this; omega
            have b1 : Below w.heap.size w w1 := hb0.trans (hb1.mono (by simp; omega))
            clear hb1 hb0 HF
            go_wp2_with (first
              | (go_at_call 53; refine (isFromTo_calls _ _ _ _).mono ?_; rintro e w' ⟨rfl, hw⟩; rw [hw]; clear hw w'; first | rw [k0] | rw [k1] | rw [k2])
              | (go_at_call 54; refine (isAttr_calls _ _).mono ?_; rintro e w' ⟨rfl, hw⟩; rw [hw]; clear hw w'; rw [k3]))
            have hr := res5 (w := w1) (r := w.heap.size + 1) (.int .i64 3) (.int .i64 0) (.int .i64 0) (.slice none 0 0) (.slice none 0 0) R0 R1 R2 R3 R4
            go_wp2
            refine bodyPost_ret (v := .agg #[.int .i64 3, .int .i64 0, .int .i64 0, .slice none 0 0, .slice none 0 0]) (by simp only [results, Try.results22]; simp [go_sem, hr.1, hr.2.1, hr.2.2.1, hr.2.2.2.1, hr.2.2.2.2]) rfl ⟨_, _, rfl, ?_, b1.trans (show Below w.heap.size w1 _ from (by repeat' (first | with_reducible exact Below.refl _ _ | with_reducible assumption | with_reducible refine Below.drew ?_ | with_reducible refine Below.alloc ?_ ?_ _ | with_reducible refine Below.setCell ?_ ?_ _ | (simp; done) | (simp; omega) | omega)))⟩
            exact GOwn.nil _ _ _ (by have := b1.size; simp [World.setCell]; omega)
          | true =>
            obtain ⟨g1, g2, g3, g4⟩ := hbd hG
            rw [scrollRes_def, gres_ok hG (by unfold scrollOk; rw [k0, k1, k2, k3]; rfl)]
            rw [hG] at HF
            have hfine := gfine_of_code hG
            obtain ⟨n1, n2, hq, n8, n9, n10⟩ := hfine.short
            obtain ⟨T, B, W, rfl, rfl, eW, q1, q2, q3, q4, q5, q6, Hb, q7, q8⟩ := scroll_nats hfine (of_decide_eq_true k0) (of_decide_eq_true k1)
            clear hfine hG hbd
            have j2 := of_decide_eq_true k2
            have eW' : wd.toNat = W := by omega
            rw [eW', Int.toNat_natCast, show ((B : Int) + 1 - (T : Int)).toNat = B + 1 - T by omega]
            obtain ⟨lv, hlv⟩ : ∃ lv : Nat, max 0 (min n ((B : Int) + 1)) = (lv : Int) := ⟨(max 0 (min n ((B : Int) + 1))).toNat, by omega⟩
            rw [show (max 0 (min n ((B : Int) + 1))).toNat = lv by omega]
            have EW := hide eW
            have Q8 := hide q8
            clear eW eW' q8
            go_enter Try.func22, Try.ntmps22
            go_wp2_with fail
            refine HF.mono ?_
            rintro e w1 ⟨rfl, hb1⟩
            have A0 : w1.cell? ⟨w.heap.size, 0, none⟩ = some (.int .i64 r) := cellb hb1 (by simp [go_sem])
            have A1 : w1.cell? ⟨w.heap.size, 1, none⟩ = some (.int .i64 wd) := cellb hb1 (by simp [go_sem])
            have A2 : w1.cell? ⟨w.heap.size, 2, none⟩ = some (.slice a1 cs.length c1) := cellb hb1 (by simp [go_sem])
            have A3 : w1.cell? ⟨w.heap.size, 3, none⟩ = some (.slice a2 bs.length c2) := cellb hb1 (by simp [go_sem])
            have R0 : w1.cell? ⟨w.heap.size + 1, 0, none⟩ = some (.int .i64 0) := cellb hb1 (by simp [go_sem])
            have Z0 : w1.frozen? ⟨w.heap.size + 1, 0, none⟩ = false := by rw [hb1.frozen (p := ⟨w.heap.size + 1, 0, none⟩) (by simp)]; simp [go_sem]
            have R1 : w1.cell? ⟨w.heap.size + 1, 1, none⟩ = some (.int .i64 0) := cellb hb1 (by simp [go_sem])
            have Z1 : w1.frozen? ⟨w.heap.size + 1, 1, none⟩ = false := by rw [hb1.frozen (p := ⟨w.heap.size + 1, 1, none⟩) (by simp)]; simp [go_sem]
            have R2 : w1.cell? ⟨w.heap.size + 1, 2, none⟩ = some (.int .i64 0) := cellb hb1 (by simp [go_sem])
            have Z2 : w1.frozen? ⟨w.heap.size + 1, 2, none⟩ = false := by rw [hb1.frozen (p := ⟨w.heap.size + 1, 2, none⟩) (by simp)]; simp [go_sem]
            have R3 : w1.cell? ⟨w.heap.size + 1, 3, none⟩ = some (.slice none 0 0) := cellb hb1 (by simp [go_sem])
            have Z3 : w1.frozen? ⟨w.heap.size + 1, 3, none⟩ = false := by rw [hb1.frozen (p := ⟨w.heap.size + 1, 3, none⟩) (by simp)]; simp [go_sem]
            have R4 : w1.cell? ⟨w.heap.size + 1, 4, none⟩ = some (.slice none 0 0) := cellb hb1 (by simp [go_sem])
            have Z4 : w1.frozen? ⟨w.heap.size + 1, 4, none⟩ = false := by rw [hb1.frozen (p := ⟨w.heap.size + 1, 4, none⟩) (by simp)]; simp [go_sem]
            have hs1 : w.heap.size + 2 ≤ w1.heap.size := by have := hb1.size; simp at this; omega
            have b1 : Below w.heap.size w w1 := hb0.trans (hb1.mono (by simp; omega))
            clear hb1 hb0 HF
            go_wp2_with (first
              | (go_at_call 53; refine (isFromTo_calls _ _ _ _).mono ?_; rintro e w' ⟨rfl, hw⟩; rw [hw]; clear hw w'; first | rw [k0] | rw [k1] | rw [k2])
              | (go_at_call 54; refine (isAttr_calls _ _).mono ?_; rintro e w' ⟨rfl, hw⟩; rw [hw]; clear hw w'; rw [k3]))
            refine (sheetsOf_calls r wd cs bs _ _ w1 hn1 hn2 (h1.below b1) (h2.below b1)).mono ?_
            rintro e w2 ⟨x, y, m, rfl, m1, m2, ox, xm, oy, hb2⟩
            replace A0 := cellb hb2 A0
            replace A1 := cellb hb2 A1
            replace A2 := cellb hb2 A2
            replace A3 := cellb hb2 A3
            replace R0 := cellb hb2 R0
            replace R1 := cellb hb2 R1
            replace R2 := cellb hb2 R2
            replace R3 := cellb hb2 R3
            replace R4 := cellb hb2 R4
            replace Z0 : w2.frozen? ⟨w.heap.size + 1, 0, none⟩ = false := by rw [hb2.frozen (p := ⟨w.heap.size + 1, 0, none⟩) (by simp; omega)]; exact Z0
            replace Z1 : w2.frozen? ⟨w.heap.size + 1, 1, none⟩ = false := by rw [hb2.frozen (p := ⟨w.heap.size + 1, 1, none⟩) (by simp; omega)]; exact Z1
            replace Z2 : w2.frozen? ⟨w.heap.size + 1, 2, none⟩ = false := by rw [hb2.frozen (p := ⟨w.heap.size + 1, 2, none⟩) (by simp; omega)]; exact Z2
            replace Z3 : w2.frozen? ⟨w.heap.size + 1, 3, none⟩ = false := by rw [hb2.frozen (p := ⟨w.heap.size + 1, 3, none⟩) (by simp; omega)]; exact Z3
            replace Z4 : w2.frozen? ⟨w.heap.size + 1, 4, none⟩ = false := by rw [hb2.frozen (p := ⟨w.heap.size + 1, 4, none⟩) (by simp; omega)]; exact Z4
            have b2 := b1.trans (hb2.mono b1.size)
            have hs2 : w1.heap.size ≤ w2.heap.size := hb2.size
            obtain ⟨bx, cx, rfl, hcx, _, x1, x2, hrow⟩ := own_row ox n8
            obtain ⟨ay, cy, rfl, hyc⟩ := own_room2 oy
            have x3 : bx < m := xm bx rfl
            have HX := hide hrow
            have HY := hide oy
            have HL := hide oy.lt
            clear hrow oy ox xm hb2
            by_cases hT : T = 0
            · subst hT
              obtain ⟨mn, hmn⟩ : ∃ mn, (if (B : Int) + 1 < n then (B : Int) + 1 else n) = mn := ⟨_, rfl⟩
              have hmx : (if 0 < mn then mn else 0) = (lv : Int) := by rw [← hmn]; split <;> split <;> omega
              have hlb : lv ≤ B + 1 := by omega
              clear hlv
              go_wp2_with fail
              have hb3 : Below w2.heap.size w2 ((w2.alloc (.cells #[.int .i64 wd, .slice (some ⟨bx, 0, none⟩) cs.length cx] 53)).alloc (.cells #[.int .i64 wd, .slice ay bs.length cy] 53)) := (by repeat' (first | with_reducible exact Below.refl _ _ | with_reducible assumption | with_reducible refine Below.drew ?_ | with_reducible refine Below.alloc ?_ ?_ _ | with_reducible refine Below.setCell ?_ ?_ _ | (simp; done) | (simp; omega) | omega))
              have S0 : ((w2.alloc (.cells #[.int .i64 wd, .slice (some ⟨bx, 0, none⟩) cs.length cx] 53)).alloc (.cells #[.int .i64 wd, .slice ay bs.length cy] 53)).cell? ⟨w2.heap.size, 0, none⟩ = some (.int .i64 wd) := by simp [go_sem]
              have S1 : ((w2.alloc (.cells #[.int .i64 wd, .slice (some ⟨bx, 0, none⟩) cs.length cx] 53)).alloc (.cells #[.int .i64 wd, .slice ay bs.length cy] 53)).cell? ⟨w2.heap.size, 1, none⟩ = some (.slice (some ⟨bx, 0, none⟩) cs.length cx) := by simp [go_sem]
              have U0 : ((w2.alloc (.cells #[.int .i64 wd, .slice (some ⟨bx, 0, none⟩) cs.length cx] 53)).alloc (.cells #[.int .i64 wd, .slice ay bs.length cy] 53)).cell? ⟨w2.heap.size + 1, 0, none⟩ = some (.int .i64 wd) := by simp [go_sem]
              have U1 : ((w2.alloc (.cells #[.int .i64 wd, .slice (some ⟨bx, 0, none⟩) cs.length cx] 53)).alloc (.cells #[.int .i64 wd, .slice ay bs.length cy] 53)).cell? ⟨w2.heap.size + 1, 1, none⟩ = some (.slice ay bs.length cy) := by simp [go_sem]
              have ZU0 : ((w2.alloc (.cells #[.int .i64 wd, .slice (some ⟨bx, 0, none⟩) cs.length cx] 53)).alloc (.cells #[.int .i64 wd, .slice ay bs.length cy] 53)).frozen? ⟨w2.heap.size + 1, 0, none⟩ = false := by simp [go_sem]
              have ZU1 : ((w2.alloc (.cells #[.int .i64 wd, .slice (some ⟨bx, 0, none⟩) cs.length cx] 53)).alloc (.cells #[.int .i64 wd, .slice ay bs.length cy] 53)).frozen? ⟨w2.heap.size + 1, 1, none⟩ = false := by simp [go_sem]
              have hs3 : ((w2.alloc (.cells #[.int .i64 wd, .slice (some ⟨bx, 0, none⟩) cs.length cx] 53)).alloc (.cells #[.int .i64 wd, .slice ay bs.length cy] 53)).heap.size = w2.heap.size + 2 := by simp
              generalize ((w2.alloc (.cells #[.int .i64 wd, .slice (some ⟨bx, 0, none⟩) cs.length cx] 53)).alloc (.cells #[.int .i64 wd, .slice ay bs.length cy] 53)) = w3 at *
              replace A0 := cellb hb3 A0
              replace A1 := cellb hb3 A1
              replace A2 := cellb hb3 A2
              replace A3 := cellb hb3 A3
              replace R0 := cellb hb3 R0
              replace R1 := cellb hb3 R1
              replace R2 := cellb hb3 R2
              replace R3 := cellb hb3 R3
              replace R4 := cellb hb3 R4
              replace Z0 : w3.frozen? ⟨w.heap.size + 1, 0, none⟩ = false := by rw [hb3.frozen (p := ⟨w.heap.size + 1, 0, none⟩) (by simp; omega)]; exact Z0
              replace Z1 : w3.frozen? ⟨w.heap.size + 1, 1, none⟩ = false := by rw [hb3.frozen (p := ⟨w.heap.size + 1, 1, none⟩) (by simp; omega)]; exact Z1
              replace Z2 : w3.frozen? ⟨w.heap.size + 1, 2, none⟩ = false := by rw [hb3.frozen (p := ⟨w.heap.size + 1, 2, none⟩) (by simp; omega)]; exact Z2
              replace Z3 : w3.frozen? ⟨w.heap.size + 1, 3, none⟩ = false := by rw [hb3.frozen (p := ⟨w.heap.size + 1, 3, none⟩) (by simp; omega)]; exact Z3
              replace Z4 : w3.frozen? ⟨w.heap.size + 1, 4, none⟩ = false := by rw [hb3.frozen (p := ⟨w.heap.size + 1, 4, none⟩) (by simp; omega)]; exact Z4
              have b3 := b2.trans (hb3.mono b2.size)
              replace HX := hide (HX.out.below hb3 x2)
              replace HY := hide (own_below HY.out hb3)
              clear hb3 b2
              clear hmn hmx
              obtain ⟨q, hqe⟩ : ∃ q, q = lv * W := ⟨_, rfl⟩
              have hq1 : q ≤ (B + 1) * W := by rw [hqe]; exact Nat.mul_le_mul_right W hlb
              have HQ := hide hqe
              clear hqe
              refine till_region [6] (S := (fun w' => w'.cell? ⟨w2.heap.size, 0, none⟩ = some (.int .i64 wd) ∧ w'.cell? ⟨w2.heap.size, 1, none⟩ = some (.slice (some ⟨bx, 0, none⟩) cs.length cx) ∧ w'.cell? ⟨w2.heap.size + 1, 0, none⟩ = some (.int .i64 wd) ∧ w'.cell? ⟨w2.heap.size + 1, 1, none⟩ = some (.slice ay bs.length cy))) (by kernel_rfl) ?_ (fun hHeld => ?_)
              · (try dsimp only); exact ⟨S0, S1, U0, U1⟩
              refine till_take (i := 0) (oi := ⟨_, _, _, _, _, _⟩) (v := ?_) rfl (by kernel_rfl) (by kernel_rfl) (by kernel_rfl) (by kernel_rfl) (fun _ _ _ h => h) (Or.inl ⟨by rfl, ?_⟩) hHeld ?_
              rotate_left
              · (intro w hSw; (try dsimp only at hSw); go_simp; try (with_reducible rfl))
              try simp only [Act.put, List.setIfInBounds_toArray, List.set_cons_zero, List.set_cons_succ]
              refine till_take (i := 1) (oi := ⟨_, _, _, _, _, _⟩) (v := ?_) rfl (by kernel_rfl) (by kernel_rfl) (by kernel_rfl) (by kernel_rfl) (fun _ _ _ h => h) (Or.inl ⟨by rfl, ?_⟩) hHeld ?_
              rotate_left
              · (intro w hSw; (try dsimp only at hSw); go_simp; try (with_reducible rfl))
              try simp only [Act.put, List.setIfInBounds_toArray, List.set_cons_zero, List.set_cons_succ]
              refine till_take (i := 2) (oi := ⟨_, _, _, _, _, _⟩) (v := ?_) rfl (by kernel_rfl) (by kernel_rfl) (by kernel_rfl) (by kernel_rfl) (fun _ _ _ h => h) (Or.inl ⟨by rfl, ?_⟩) hHeld ?_
              rotate_left
              · (intro w hSw; (try dsimp only at hSw); go_simp; try (with_reducible rfl))
              try simp only [Act.put, List.setIfInBounds_toArray, List.set_cons_zero, List.set_cons_succ]
              refine till_ready (rs := [3]) (by kernel_rfl) (by simp) ?_
              refine EachTill.cons (o := ⟨_, _, _, _, _, _⟩) rfl (fun K hK => ?_) EachTill.nil
              go_simp
              go_at_call 56
              refine (part_calls wd 0 (lv : Int) bx 0 cs.length cx 0 q _ ⟨hcx, _, rfl, fun _ => rfl⟩ (by simp) (by rw [EW.out, HQ.out, Int.natCast_mul]) (by omega) (by omega) hn1 _).mono ?_
              rintro e w4 ⟨vp, rfl, hslp, hb4⟩
              simp only [Nat.zero_mul, Nat.add_zero, Nat.sub_zero] at hslp
              obtain ⟨hcp, ap, rfl, hap⟩ := hslp
              have HAP := hide hap
              clear hap
              replace hb4 : Below w3.heap.size w3 w4 := (below_drewN (Below.refl _ _) 1).trans hb4
              have hs4 : w3.heap.size ≤ w4.heap.size := hb4.size
              replace A0 := cellb hb4 A0
              replace A1 := cellb hb4 A1
              replace A2 := cellb hb4 A2
              replace A3 := cellb hb4 A3
              replace R0 := cellb hb4 R0
              replace R1 := cellb hb4 R1
              replace R2 := cellb hb4 R2
              replace R3 := cellb hb4 R3
              replace R4 := cellb hb4 R4
              replace S0 := cellb hb4 S0
              replace S1 := cellb hb4 S1
              replace U0 := cellb hb4 U0
              replace U1 := cellb hb4 U1
              replace Z0 : w4.frozen? ⟨w.heap.size + 1, 0, none⟩ = false := by rw [hb4.frozen (p := ⟨w.heap.size + 1, 0, none⟩) (by simp; omega)]; exact Z0
              replace Z1 : w4.frozen? ⟨w.heap.size + 1, 1, none⟩ = false := by rw [hb4.frozen (p := ⟨w.heap.size + 1, 1, none⟩) (by simp; omega)]; exact Z1
              replace Z2 : w4.frozen? ⟨w.heap.size + 1, 2, none⟩ = false := by rw [hb4.frozen (p := ⟨w.heap.size + 1, 2, none⟩) (by simp; omega)]; exact Z2
              replace Z3 : w4.frozen? ⟨w.heap.size + 1, 3, none⟩ = false := by rw [hb4.frozen (p := ⟨w.heap.size + 1, 3, none⟩) (by simp; omega)]; exact Z3
              replace Z4 : w4.frozen? ⟨w.heap.size + 1, 4, none⟩ = false := by rw [hb4.frozen (p := ⟨w.heap.size + 1, 4, none⟩) (by simp; omega)]; exact Z4
              have b4 := b3.trans (hb4.mono b3.size)
              replace HX := hide (HX.out.below hb4 (by omega))
              replace ZU0 : w4.frozen? ⟨w2.heap.size + 1, 0, none⟩ = false := by rw [hb4.frozen (p := ⟨w2.heap.size + 1, 0, none⟩) (by simp; omega)]; exact ZU0
              replace ZU1 : w4.frozen? ⟨w2.heap.size + 1, 1, none⟩ = false := by rw [hb4.frozen (p := ⟨w2.heap.size + 1, 1, none⟩) (by simp; omega)]; exact ZU1
              replace HY := hide (own_below HY.out hb4)
              clear b3 hb4
              try go_wp2_with fail
              refine hK.out _ _ ?_ ?_
              · (try dsimp only); exact ⟨S0, S1, U0, U1⟩
              clear hHeld hK K
              intro hHeld
              try simp only [Act.put, List.setIfInBounds_toArray, List.set_cons_zero, List.set_cons_succ]
              refine till_ready (rs := [4]) (by kernel_rfl) (by simp) ?_
              refine EachTill.cons (o := ⟨_, _, _, _, _, _⟩) rfl (fun K hK => ?_) EachTill.nil
              go_simp
              go_at_call 55
              refine (followedBy_calls wd m bs.length W lv q cx bx 0 ap _ bs (fun i => cs.getD i (0, 0)) w4 HY.out (by omega) (fun i hi => (HX.out i (by omega)).1) (fun e => by have := (HL.out bx e.symm).1; omega) HQ.out EW.out (by omega) (by omega) (by omega) hcp HAP.out (by omega) (by omega)).mono ?_
              rintro e w5 ⟨vf, rfl, of, gf⟩
              have hs5 : w4.heap.size ≤ w5.heap.size := gf.grown.size
              replace A0 := gf.cellAt A0 (fun e => by have := HL.out _ e.symm; omega)
              replace A1 := gf.cellAt A1 (fun e => by have := HL.out _ e.symm; omega)
              replace A2 := gf.cellAt A2 (fun e => by have := HL.out _ e.symm; omega)
              replace A3 := gf.cellAt A3 (fun e => by have := HL.out _ e.symm; omega)
              replace R0 := gf.cellAt R0 (fun e => by have := HL.out _ e.symm; omega)
              replace R1 := gf.cellAt R1 (fun e => by have := HL.out _ e.symm; omega)
              replace R2 := gf.cellAt R2 (fun e => by have := HL.out _ e.symm; omega)
              replace R3 := gf.cellAt R3 (fun e => by have := HL.out _ e.symm; omega)
              replace R4 := gf.cellAt R4 (fun e => by have := HL.out _ e.symm; omega)
              replace S0 := gf.cellAt S0 (fun e => by have := HL.out _ e.symm; omega)
              replace S1 := gf.cellAt S1 (fun e => by have := HL.out _ e.symm; omega)
              replace U0 := gf.cellAt U0 (fun e => by have := HL.out _ e.symm; omega)
              replace U1 := gf.cellAt U1 (fun e => by have := HL.out _ e.symm; omega)
              replace Z0 : w5.frozen? ⟨w.heap.size + 1, 0, none⟩ = false := (gf.frozen (by omega) (fun e => by have := HL.out _ e.symm; omega)).trans Z0
              replace Z1 : w5.frozen? ⟨w.heap.size + 1, 1, none⟩ = false := (gf.frozen (by omega) (fun e => by have := HL.out _ e.symm; omega)).trans Z1
              replace Z2 : w5.frozen? ⟨w.heap.size + 1, 2, none⟩ = false := (gf.frozen (by omega) (fun e => by have := HL.out _ e.symm; omega)).trans Z2
              replace Z3 : w5.frozen? ⟨w.heap.size + 1, 3, none⟩ = false := (gf.frozen (by omega) (fun e => by have := HL.out _ e.symm; omega)).trans Z3
              replace Z4 : w5.frozen? ⟨w.heap.size + 1, 4, none⟩ = false := (gf.frozen (by omega) (fun e => by have := HL.out _ e.symm; omega)).trans Z4
              replace ZU0 : w5.frozen? ⟨w2.heap.size + 1, 0, none⟩ = false := (gf.frozen (by omega) (fun e => by have := HL.out _ e.symm; omega)).trans ZU0
              replace ZU1 : w5.frozen? ⟨w2.heap.size + 1, 1, none⟩ = false := (gf.frozen (by omega) (fun e => by have := HL.out _ e.symm; omega)).trans ZU1
              have b5 := b4.trans (gf.below (base := w.heap.size) (by omega) (fun k hk => by have := HL.out k hk; omega))
              replace HX := hide (HX.out.block (gf.block (by omega) (fun e => by have := HL.out _ e.symm; omega)))
              have hsf := gf.spot
              clear b4 gf HY HAP
              obtain ⟨bb, af, cf, rfl, hslf, m3, bbs, hob, hpf, hlf⟩ := own_spot of (by omega)
              have BBN : bb ≠ w2.heap.size + 1 := by
                rcases hob with h | h
                · rcases hsf with e | ⟨k, e, hk⟩
                  · have := HL.out bb (by rw [← e]; exact h)
                    omega
                  · rw [h] at e
                    injection e with e
                    omega
                · omega
              clear hob hsf
              have HP := hide hpf
              have HSL := hide hslf
              have HLF := hide hlf
              clear hpf hslf hlf of
              try go_wp2_with fail
              refine hK.out _ _ ?_ ?_
              · (try dsimp only); exact ⟨S0, S1, U0, U1⟩
              clear hHeld hK K
              intro hHeld
              try simp only [Act.put, List.setIfInBounds_toArray, List.set_cons_zero, List.set_cons_succ]
              refine till_ready (rs := [5]) (by kernel_rfl) (by simp) ?_
              refine EachTill.cons (o := ⟨_, _, _, _, _, _⟩) rfl (fun K hK => ?_) EachTill.nil
              go_simp
              go_at_call 57
              refine (last_calls wd bb 0 (bs.length + q) cf (Hb + lv) W _ HSL.out (by rw [Q8.out, HQ.out, Nat.add_mul]) EW.out (by omega) (by omega) (by omega) (by omega) _).mono ?_
              rintro e w6 ⟨vl, rfl, hsll, hb6⟩
              replace HP := hide (pairs_drop HP.out HSL.out hsll HLF.out (by rw [Q8.out, HQ.out, ← Nat.add_mul]; exact Nat.mul_le_mul_right W (by omega)))
              obtain ⟨_, al, rfl, _⟩ := hsll
              obtain ⟨nl, hnl⟩ : ∃ nl, nl = bs.length + q - (Hb + lv - 5) * W := ⟨_, rfl⟩
              obtain ⟨cl, hcl⟩ : ∃ cl, cl = cf - (Hb + lv - 5) * W := ⟨_, rfl⟩
              rw [← hnl, ← hcl] at HP
              rw [← hnl, ← hcl]
              clear hnl hcl
              have hs6 : w5.heap.size ≤ w6.heap.size := hb6.size
              replace A0 := cellb hb6 A0
              replace A1 := cellb hb6 A1
              replace A2 := cellb hb6 A2
              replace A3 := cellb hb6 A3
              replace R0 := cellb hb6 R0
              replace R1 := cellb hb6 R1
              replace R2 := cellb hb6 R2
              replace R3 := cellb hb6 R3
              replace R4 := cellb hb6 R4
              replace S0 := cellb hb6 S0
              replace S1 := cellb hb6 S1
              replace U0 := cellb hb6 U0
              replace U1 := cellb hb6 U1
              replace Z0 : w6.frozen? ⟨w.heap.size + 1, 0, none⟩ = false := by rw [hb6.frozen (p := ⟨w.heap.size + 1, 0, none⟩) (by simp; omega)]; exact Z0
              replace Z1 : w6.frozen? ⟨w.heap.size + 1, 1, none⟩ = false := by rw [hb6.frozen (p := ⟨w.heap.size + 1, 1, none⟩) (by simp; omega)]; exact Z1
              replace Z2 : w6.frozen? ⟨w.heap.size + 1, 2, none⟩ = false := by rw [hb6.frozen (p := ⟨w.heap.size + 1, 2, none⟩) (by simp; omega)]; exact Z2
              replace Z3 : w6.frozen? ⟨w.heap.size + 1, 3, none⟩ = false := by rw [hb6.frozen (p := ⟨w.heap.size + 1, 3, none⟩) (by simp; omega)]; exact Z3
              replace Z4 : w6.frozen? ⟨w.heap.size + 1, 4, none⟩ = false := by rw [hb6.frozen (p := ⟨w.heap.size + 1, 4, none⟩) (by simp; omega)]; exact Z4
              have b6 := b5.trans (hb6.mono b5.size)
              replace HX := hide (HX.out.below hb6 (by omega))
              replace ZU0 : w6.frozen? ⟨w2.heap.size + 1, 0, none⟩ = false := by rw [hb6.frozen (p := ⟨w2.heap.size + 1, 0, none⟩) (by simp; omega)]; exact ZU0
              replace ZU1 : w6.frozen? ⟨w2.heap.size + 1, 1, none⟩ = false := by rw [hb6.frozen (p := ⟨w2.heap.size + 1, 1, none⟩) (by simp; omega)]; exact ZU1
              replace HP := hide (HP.out.below hb6 (by omega))
              clear b5 hb6
              try go_wp2_with fail
              refine hK.out _ _ ?_ ?_
              · (try dsimp only); exact ⟨S0, S1, U0, U1⟩
              clear hHeld hK K
              intro hHeld
              try simp only [Act.put, List.setIfInBounds_toArray, List.set_cons_zero, List.set_cons_succ]
              refine till_ready (rs := [6]) (by kernel_rfl) (by simp) ?_
              refine EachTill.last (o := ⟨_, _, _, _, _, _⟩) rfl rfl (fun K hK => ?_) EachTill.nil
              go_simp
              have ht7 : Touch (w2.heap.size + 1) 0 2 w6 ((w6.setCell ⟨w2.heap.size + 1, 0, none⟩ (.int .i64 wd)).setCell ⟨w2.heap.size + 1, 1, none⟩ (.slice al nl cl)) := ((Touch.refl _ _ _ _).setCell (by omega) (by omega) _).setCell (by omega) (by omega) _
              obtain ⟨V0, V1⟩ := res2 (w := w6) (r := w2.heap.size + 1) (.int .i64 wd) (.slice al nl cl) U0 U1
              generalize ((w6.setCell ⟨w2.heap.size + 1, 0, none⟩ (.int .i64 wd)).setCell ⟨w2.heap.size + 1, 1, none⟩ (.slice al nl cl)) = w7 at *
              clear U0 U1
              replace A0 := ht7.cellAt A0 (by omega)
              replace A1 := ht7.cellAt A1 (by omega)
              replace A2 := ht7.cellAt A2 (by omega)
              replace A3 := ht7.cellAt A3 (by omega)
              replace R0 := ht7.cellAt R0 (by omega)
              replace R1 := ht7.cellAt R1 (by omega)
              replace R2 := ht7.cellAt R2 (by omega)
              replace R3 := ht7.cellAt R3 (by omega)
              replace R4 := ht7.cellAt R4 (by omega)
              replace S0 := ht7.cellAt S0 (by omega)
              replace S1 := ht7.cellAt S1 (by omega)
              replace Z0 := ht7.frozenAt (by omega) Z0
              replace Z1 := ht7.frozenAt (by omega) Z1
              replace Z2 := ht7.frozenAt (by omega) Z2
              replace Z3 := ht7.frozenAt (by omega) Z3
              replace Z4 := ht7.frozenAt (by omega) Z4
              have U0 := V0
              have U1 := V1
              clear V0 V1
              have b7 : Below w.heap.size w w7 := b6.trans (ht7.below (by omega) (by omega))
              have hs7 : w6.heap.size ≤ w7.heap.size := ht7.size
              replace HX := hide (HX.out.touch ht7 (by omega))
              replace HP := hide (HP.out.of_blocks fun i h1 h2 => ht7.block i (by omega) (by omega))
              clear b6 ht7 ZU0 ZU1
              refine hK.out _ _ ?_ ?_
              · (try dsimp only); skip
              clear hHeld hK K
              intro hHeld
              try simp only [Act.put, List.setIfInBounds_toArray, List.set_cons_zero, List.set_cons_succ]
              refine till_done (by kernel_rfl) ?_ _
              clear hHeld
              clear HSL HLF
              go_wp2_with fail
              obtain ⟨p, hpe⟩ : ∃ p, p = 0 * W := ⟨_, rfl⟩
              obtain ⟨u, hue⟩ : ∃ u, u = (B + 1) * W := ⟨_, rfl⟩
              have LPOS : 0 < u - p := by rw [hpe, hue]; exact rows_pos (by omega) (by omega)
              have HPE := hide hpe
              have HUE := hide hue
              have p5 : p ≤ u := by omega
              have p6 : u ≤ cs.length := by rw [hue]; exact q6
              clear hpe hue
              have z1 : IntKind.i64.wrap ((B : Int) + 1) = (B : Int) + 1 := wrap_small (by omega) (by omega)
              have z2 : IntKind.i64.wrap (n * wd) = n * wd := by obtain ⟨p1, p2⟩ := mul_small j2 q4; rw [EW.out]; exact wrap_small (by omega) (by omega)
              have fs := fld_sheet1
              refine wp_region_held_drew (S := (fun w' => w'.cell? ⟨w2.heap.size, 0, none⟩ = some (.int .i64 wd) ∧ w'.cell? ⟨w2.heap.size, 1, none⟩ = some (.slice (some ⟨bx, 0, none⟩) cs.length cx) ∧ w'.cell? ⟨w.heap.size, 1, none⟩ = some (.int .i64 wd))) (by kernel_rfl) ?_ (fun hHeld => ?_)
              · (try dsimp only); exact ⟨S0, S1, A1⟩
              refine wpAnyH_take (i := 0) (oi := ⟨_, _, _, _, _, _⟩) (v := ?_) rfl (by kernel_rfl) (by kernel_rfl) (by kernel_rfl) (fun _ _ _ h => h) (Or.inl ⟨by rfl, ?_⟩) hHeld ?_
              rotate_left
              · (intro w hSw; (try dsimp only at hSw); go_simp; try (with_reducible rfl))
              try simp only [Act.put, List.setIfInBounds_toArray, List.set_cons_zero, List.set_cons_succ]
              refine wpAnyH_take (i := 1) (oi := ⟨_, _, _, _, _, _⟩) (v := ?_) rfl (by kernel_rfl) (by kernel_rfl) (by kernel_rfl) (fun _ _ _ h => h) (Or.inl ⟨by rfl, ?_⟩) hHeld ?_
              rotate_left
              · (intro w hSw; (try dsimp only at hSw); go_simp; try (with_reducible rfl))
              try simp only [Act.put, List.setIfInBounds_toArray, List.set_cons_zero, List.set_cons_succ]
              refine wpAnyH_take (i := 2) (oi := ⟨_, _, _, _, _, _⟩) (v := ?_) rfl (by kernel_rfl) (by kernel_rfl) (by kernel_rfl) (fun _ _ _ h => h) (Or.inl ⟨by rfl, ?_⟩) hHeld ?_
              rotate_left
              · (intro w hSw; (try dsimp only at hSw); go_simp; try (with_reducible rfl))
              try simp only [Act.put, List.setIfInBounds_toArray, List.set_cons_zero, List.set_cons_succ]
              refine wpAnyH_take (i := 3) (oi := ⟨_, _, _, _, _, _⟩) (v := ?_) rfl (by kernel_rfl) (by kernel_rfl) (by kernel_rfl) (fun _ _ _ h => h) (Or.inl ⟨by rfl, ?_⟩) hHeld ?_
              rotate_left
              · (intro w hSw; (try dsimp only at hSw); go_simp; try (with_reducible rfl))
              try simp only [Act.put, List.setIfInBounds_toArray, List.set_cons_zero, List.set_cons_succ]
              refine wpAnyH_take (i := 6) (oi := ⟨_, _, _, _, _, _⟩) (v := ?_) rfl (by kernel_rfl) (by kernel_rfl) (by kernel_rfl) (fun _ _ _ h => h) (Or.inl ⟨by rfl, ?_⟩) hHeld ?_
              rotate_left
              · (intro w hSw; (try dsimp only at hSw); go_simp; try (with_reducible rfl))
              try simp only [Act.put, List.setIfInBounds_toArray, List.set_cons_zero, List.set_cons_succ]
              refine wpAnyH_take (i := 7) (oi := ⟨_, _, _, _, _, _⟩) (v := ?_) rfl (by kernel_rfl) (by kernel_rfl) (by kernel_rfl) (fun _ _ _ h => h) (Or.inl ⟨by rfl, ?_⟩) hHeld ?_
              rotate_left
              · (intro w hSw; (try dsimp only at hSw); go_simp; try (with_reducible rfl))
              try simp only [Act.put, List.setIfInBounds_toArray, List.set_cons_zero, List.set_cons_succ]
              refine wpAnyH_take (i := 8) (oi := ⟨_, _, _, _, _, _⟩) (v := ?_) rfl (by kernel_rfl) (by kernel_rfl) (by kernel_rfl) (fun _ _ _ h => h) (Or.inl ⟨by rfl, ?_⟩) hHeld ?_
              rotate_left
              · (intro w hSw; (try dsimp only at hSw); go_simp; try (with_reducible rfl))
              try simp only [Act.put, List.setIfInBounds_toArray, List.set_cons_zero, List.set_cons_succ]
              refine wpAnyH_take (i := 9) (oi := ⟨_, _, _, _, _, _⟩) (v := ?_) rfl (by kernel_rfl) (by kernel_rfl) (by kernel_rfl) (fun _ _ _ h => h) (Or.inl ⟨by rfl, ?_⟩) hHeld ?_
              rotate_left
              · (intro w hSw; (try dsimp only at hSw); go_simp; try (with_reducible rfl))
              try simp only [Act.put, List.setIfInBounds_toArray, List.set_cons_zero, List.set_cons_succ]
              refine wpAnyH_take (i := 10) (oi := ⟨_, _, _, _, _, _⟩) (v := ?_) rfl (by kernel_rfl) (by kernel_rfl) (by kernel_rfl) (fun _ _ _ h => h) (Or.inl ⟨by rfl, ?_⟩) hHeld ?_
              rotate_left
              · (intro w hSw; (try dsimp only at hSw); go_simp; try (with_reducible rfl))
              try simp only [Act.put, List.setIfInBounds_toArray, List.set_cons_zero, List.set_cons_succ]
              refine wpAnyH_ready (rs := [4]) (by kernel_rfl) (by simp) ?_
              refine AllReadyH.cons (o := ⟨_, _, _, _, _, _⟩) rfl (fun K hK => ?_) AllReadyH.nil
              go_simp
              go_at_call 56
              refine (part_calls wd 0 ((B : Int) + 1) bx 0 cs.length cx p u _ ⟨hcx, _, rfl, fun _ => rfl⟩ (by rw [EW.out, HPE.out, Int.natCast_mul]; simp) (by rw [EW.out, HUE.out, Int.natCast_mul]; rfl) p5 p6 hn1 _).mono ?_
              rintro e wp ⟨vp, rfl, ⟨hcp, ap, rfl, hap⟩, hbp⟩
              obtain rfl := hap LPOS
              rw [Nat.zero_add]
              replace hbp : Below w7.heap.size w7 wp := (below_drewN (Below.refl _ _) 1).trans hbp
              have hsp : w7.heap.size ≤ wp.heap.size := hbp.size
              replace A0 := cellb hbp A0
              replace A1 := cellb hbp A1
              replace A2 := cellb hbp A2
              replace A3 := cellb hbp A3
              replace R0 := cellb hbp R0
              replace R1 := cellb hbp R1
              replace R2 := cellb hbp R2
              replace R3 := cellb hbp R3
              replace R4 := cellb hbp R4
              replace S0 := cellb hbp S0
              replace S1 := cellb hbp S1
              replace U0 := cellb hbp U0
              replace U1 := cellb hbp U1
              replace Z0 : wp.frozen? ⟨w.heap.size + 1, 0, none⟩ = false := by rw [hbp.frozen (p := ⟨w.heap.size + 1, 0, none⟩) (by simp; omega)]; exact Z0
              replace Z1 : wp.frozen? ⟨w.heap.size + 1, 1, none⟩ = false := by rw [hbp.frozen (p := ⟨w.heap.size + 1, 1, none⟩) (by simp; omega)]; exact Z1
              replace Z2 : wp.frozen? ⟨w.heap.size + 1, 2, none⟩ = false := by rw [hbp.frozen (p := ⟨w.heap.size + 1, 2, none⟩) (by simp; omega)]; exact Z2
              replace Z3 : wp.frozen? ⟨w.heap.size + 1, 3, none⟩ = false := by rw [hbp.frozen (p := ⟨w.heap.size + 1, 3, none⟩) (by simp; omega)]; exact Z3
              replace Z4 : wp.frozen? ⟨w.heap.size + 1, 4, none⟩ = false := by rw [hbp.frozen (p := ⟨w.heap.size + 1, 4, none⟩) (by simp; omega)]; exact Z4
              have bp := b7.trans (hbp.mono b7.size)
              replace HX := hide (HX.out.below hbp (by omega))
              replace HP := hide (HP.out.below hbp (by omega))
              clear b7 hbp
              try go_wp2_with fail
              refine hK.out _ _ ?_ ?_
              · (try dsimp only); exact ⟨S0, S1, A1⟩
              clear hHeld hK K
              intro hHeld
              try simp only [Act.put, List.setIfInBounds_toArray, List.set_cons_zero, List.set_cons_succ]
              refine wpAnyH_take (i := 5) (oi := ⟨_, _, _, _, _, _⟩) (v := ?_) rfl (by kernel_rfl) (by kernel_rfl) (by kernel_rfl) (fun _ _ _ h => h) (Or.inl ⟨by rfl, ?_⟩) hHeld ?_
              rotate_left
              · (intro w hSw; (try dsimp only at hSw); go_simp; try (with_reducible rfl))
              try simp only [Act.put, List.setIfInBounds_toArray, List.set_cons_zero, List.set_cons_succ]
              refine wpAnyH_ready (rs := [11]) (by kernel_rfl) (by simp) ?_
              refine AllReadyH.cons (o := ⟨_, _, _, _, _, _⟩) rfl (fun K hK => ?_) AllReadyH.nil
              go_simp
              go_at_call 34
              refine (blankOf_calls at' _).mono ?_
              rintro e wq ⟨rfl, hbq⟩
              have hsq : wp.heap.size ≤ wq.heap.size := hbq.size
              replace A0 := cellb hbq A0
              replace A1 := cellb hbq A1
              replace A2 := cellb hbq A2
              replace A3 := cellb hbq A3
              replace R0 := cellb hbq R0
              replace R1 := cellb hbq R1
              replace R2 := cellb hbq R2
              replace R3 := cellb hbq R3
              replace R4 := cellb hbq R4
              replace S0 := cellb hbq S0
              replace S1 := cellb hbq S1
              replace U0 := cellb hbq U0
              replace U1 := cellb hbq U1
              replace Z0 : wq.frozen? ⟨w.heap.size + 1, 0, none⟩ = false := by rw [hbq.frozen (p := ⟨w.heap.size + 1, 0, none⟩) (by simp; omega)]; exact Z0
              replace Z1 : wq.frozen? ⟨w.heap.size + 1, 1, none⟩ = false := by rw [hbq.frozen (p := ⟨w.heap.size + 1, 1, none⟩) (by simp; omega)]; exact Z1
              replace Z2 : wq.frozen? ⟨w.heap.size + 1, 2, none⟩ = false := by rw [hbq.frozen (p := ⟨w.heap.size + 1, 2, none⟩) (by simp; omega)]; exact Z2
              replace Z3 : wq.frozen? ⟨w.heap.size + 1, 3, none⟩ = false := by rw [hbq.frozen (p := ⟨w.heap.size + 1, 3, none⟩) (by simp; omega)]; exact Z3
              replace Z4 : wq.frozen? ⟨w.heap.size + 1, 4, none⟩ = false := by rw [hbq.frozen (p := ⟨w.heap.size + 1, 4, none⟩) (by simp; omega)]; exact Z4
              have bq := bp.trans (hbq.mono bp.size)
              replace HX := hide (HX.out.below hbq (by omega))
              replace HP := hide (HP.out.below hbq (by omega))
              clear bp hbq
              try go_wp2_with fail
              refine hK.out _ _ ?_ ?_
              · (try dsimp only); exact ⟨S0, S1, A1⟩
              clear hHeld hK K
              intro hHeld
              try simp only [Act.put, List.setIfInBounds_toArray, List.set_cons_zero, List.set_cons_succ]
              refine wpAnyH_ready (rs := [12]) (by kernel_rfl) (by simp) ?_
              refine AllReadyH.cons (o := ⟨_, _, _, _, _, _⟩) rfl (fun K hK => ?_) AllReadyH.nil
              go_simp
              go_at_call 58
              refine (slide_calls bx (p * 2) (u - p) (cx - p) _ (fun i => cs.getD (p + i) (0, 0)) (n * wd) 32 at' wq ⟨by omega, _, rfl, fun _ => rfl⟩ (by have h := HX.out.sub p (u - p) (by omega); rw [Nat.zero_add] at h; exact h) (by omega) (by omega) LPOS).mono ?_
              rintro e wr ⟨⟨ur, rfl⟩, hrr, htr⟩
              replace A0 := htr.cellAt A0 (by omega)
              replace A1 := htr.cellAt A1 (by omega)
              replace A2 := htr.cellAt A2 (by omega)
              replace A3 := htr.cellAt A3 (by omega)
              replace R0 := htr.cellAt R0 (by omega)
              replace R1 := htr.cellAt R1 (by omega)
              replace R2 := htr.cellAt R2 (by omega)
              replace R3 := htr.cellAt R3 (by omega)
              replace R4 := htr.cellAt R4 (by omega)
              replace S0 := htr.cellAt S0 (by omega)
              replace S1 := htr.cellAt S1 (by omega)
              replace U0 := htr.cellAt U0 (by omega)
              replace U1 := htr.cellAt U1 (by omega)
              replace Z0 := htr.frozenAt (by omega) Z0
              replace Z1 := htr.frozenAt (by omega) Z1
              replace Z2 := htr.frozenAt (by omega) Z2
              replace Z3 := htr.frozenAt (by omega) Z3
              replace Z4 := htr.frozenAt (by omega) Z4
              have br : Below w.heap.size w wr := bq.trans (htr.below (by omega) (by omega))
              have hsr : wq.heap.size ≤ wr.heap.size := htr.size
              replace HP := hide (pairs_touch HP.out htr (by omega) (by omega))
              replace HX := hide (HX.out.join (k := p) (m := u - p) (by rw [Nat.zero_add, Nat.zero_add, Nat.add_mul]; exact htr) (by rw [Nat.zero_add]; exact hrr) (by omega))
              clear hrr htr bq
              try go_wp2_with fail
              refine hK.out _ _ ?_ ?_
              · (try dsimp only); exact ⟨S0, S1, A1⟩
              clear hHeld hK K
              intro hHeld
              try simp only [Act.put, List.setIfInBounds_toArray, List.set_cons_zero, List.set_cons_succ]
              refine wpAnyH_done (by kernel_rfl) ?_ _
              clear hHeld
              go_wp2_with fail
              refine (gridOf_calls wd wd n1 n2 (some ⟨bx, 0, none⟩) al cs.length (nl) cx cl hn1 wr).mono ?_
              rintro e w8 ⟨rfl, hb8⟩
              rw [hq.out]
              replace R0 := cellb hb8 R0
              replace R1 := cellb hb8 R1
              replace R2 := cellb hb8 R2
              replace R3 := cellb hb8 R3
              replace R4 := cellb hb8 R4
              replace Z0 : w8.frozen? ⟨w.heap.size + 1, 0, none⟩ = false := by rw [hb8.frozen (p := ⟨w.heap.size + 1, 0, none⟩) (by simp; omega)]; exact Z0
              replace Z1 : w8.frozen? ⟨w.heap.size + 1, 1, none⟩ = false := by rw [hb8.frozen (p := ⟨w.heap.size + 1, 1, none⟩) (by simp; omega)]; exact Z1
              replace Z2 : w8.frozen? ⟨w.heap.size + 1, 2, none⟩ = false := by rw [hb8.frozen (p := ⟨w.heap.size + 1, 2, none⟩) (by simp; omega)]; exact Z2
              replace Z3 : w8.frozen? ⟨w.heap.size + 1, 3, none⟩ = false := by rw [hb8.frozen (p := ⟨w.heap.size + 1, 3, none⟩) (by simp; omega)]; exact Z3
              replace Z4 : w8.frozen? ⟨w.heap.size + 1, 4, none⟩ = false := by rw [hb8.frozen (p := ⟨w.heap.size + 1, 4, none⟩) (by simp; omega)]; exact Z4
              have b8 := br.trans (hb8.mono br.size)
              have hs8 : wr.heap.size ≤ w8.heap.size := hb8.size
              have HX8 := hide (HX.out.below hb8 (by omega))
              have HP8 := hide (HP.out.below hb8 (by omega))
              clear hb8 HX HP
              have hr := res5 (w := w8) (r := w.heap.size + 1) (.int .i64 0) (.int .i64 r) (.int .i64 wd) (.slice (some ⟨bx, 0, none⟩) cs.length cx) (.slice al nl cl) R0 R1 R2 R3 R4
              go_wp2
              refine bodyPost_ret (v := .agg #[.int .i64 0, .int .i64 r, .int .i64 wd, .slice (some ⟨bx, 0, none⟩) cs.length cx, .slice al nl cl]) (by simp only [results, Try.results22]; simp [go_sem, hr.1, hr.2.1, hr.2.2.1, hr.2.2.2.1, hr.2.2.2.2]) rfl ⟨_, _, rfl, ?_, b8.trans (show Below w.heap.size w8 _ from (by repeat' (first | with_reducible exact Below.refl _ _ | with_reducible assumption | with_reducible refine Below.drew ?_ | with_reducible refine Below.alloc ?_ ?_ _ | with_reducible refine Below.setCell ?_ ?_ _ | (simp; done) | (simp; omega) | omega)))⟩
              rw [scrollB_drop HQ.out Q8.out]
              refine (gown_of2 (w := w8) (base := w1.heap.size) (bb := bb) (HX8.out.congr (fun i hi => ?_)) (by omega) HP8.out (by omega) (by omega) (by simp [World.setCell]) (fun k _ => ?_)).mono (by omega) (Nat.le_refl _)
              · unfold scrollF
                rw [Nat.sub_mul, ← HPE.out, ← HUE.out]
              · by_cases hk : k < w1.heap.size
                · exact .inr hk
                · left
                  simp only [World.setCell, Array.getElem?_modify]
                  repeat rw [if_neg (by omega)]
            · have hT0 : ¬ (T : Int) = 0 := by omega
              clear hlv
              go_wp2_with fail
              have hb3 : Below w2.heap.size w2 ((w2.alloc (.cells #[.int .i64 wd, .slice (some ⟨bx, 0, none⟩) cs.length cx] 53)).alloc (.cells #[.int .i64 wd, .slice ay bs.length cy] 53)) := (by repeat' (first | with_reducible exact Below.refl _ _ | with_reducible assumption | with_reducible refine Below.drew ?_ | with_reducible refine Below.alloc ?_ ?_ _ | with_reducible refine Below.setCell ?_ ?_ _ | (simp; done) | (simp; omega) | omega))
              have S0 : ((w2.alloc (.cells #[.int .i64 wd, .slice (some ⟨bx, 0, none⟩) cs.length cx] 53)).alloc (.cells #[.int .i64 wd, .slice ay bs.length cy] 53)).cell? ⟨w2.heap.size, 0, none⟩ = some (.int .i64 wd) := by simp [go_sem]
              have S1 : ((w2.alloc (.cells #[.int .i64 wd, .slice (some ⟨bx, 0, none⟩) cs.length cx] 53)).alloc (.cells #[.int .i64 wd, .slice ay bs.length cy] 53)).cell? ⟨w2.heap.size, 1, none⟩ = some (.slice (some ⟨bx, 0, none⟩) cs.length cx) := by simp [go_sem]
              have U0 : ((w2.alloc (.cells #[.int .i64 wd, .slice (some ⟨bx, 0, none⟩) cs.length cx] 53)).alloc (.cells #[.int .i64 wd, .slice ay bs.length cy] 53)).cell? ⟨w2.heap.size + 1, 0, none⟩ = some (.int .i64 wd) := by simp [go_sem]
              have U1 : ((w2.alloc (.cells #[.int .i64 wd, .slice (some ⟨bx, 0, none⟩) cs.length cx] 53)).alloc (.cells #[.int .i64 wd, .slice ay bs.length cy] 53)).cell? ⟨w2.heap.size + 1, 1, none⟩ = some (.slice ay bs.length cy) := by simp [go_sem]
              have ZU0 : ((w2.alloc (.cells #[.int .i64 wd, .slice (some ⟨bx, 0, none⟩) cs.length cx] 53)).alloc (.cells #[.int .i64 wd, .slice ay bs.length cy] 53)).frozen? ⟨w2.heap.size + 1, 0, none⟩ = false := by simp [go_sem]
              have ZU1 : ((w2.alloc (.cells #[.int .i64 wd, .slice (some ⟨bx, 0, none⟩) cs.length cx] 53)).alloc (.cells #[.int .i64 wd, .slice ay bs.length cy] 53)).frozen? ⟨w2.heap.size + 1, 1, none⟩ = false := by simp [go_sem]
              have hs3 : ((w2.alloc (.cells #[.int .i64 wd, .slice (some ⟨bx, 0, none⟩) cs.length cx] 53)).alloc (.cells #[.int .i64 wd, .slice ay bs.length cy] 53)).heap.size = w2.heap.size + 2 := by simp
              generalize ((w2.alloc (.cells #[.int .i64 wd, .slice (some ⟨bx, 0, none⟩) cs.length cx] 53)).alloc (.cells #[.int .i64 wd, .slice ay bs.length cy] 53)) = w3 at *
              replace A0 := cellb hb3 A0
              replace A1 := cellb hb3 A1
              replace A2 := cellb hb3 A2
              replace A3 := cellb hb3 A3
              replace R0 := cellb hb3 R0
              replace R1 := cellb hb3 R1
              replace R2 := cellb hb3 R2
              replace R3 := cellb hb3 R3
              replace R4 := cellb hb3 R4
              replace Z0 : w3.frozen? ⟨w.heap.size + 1, 0, none⟩ = false := by rw [hb3.frozen (p := ⟨w.heap.size + 1, 0, none⟩) (by simp; omega)]; exact Z0
              replace Z1 : w3.frozen? ⟨w.heap.size + 1, 1, none⟩ = false := by rw [hb3.frozen (p := ⟨w.heap.size + 1, 1, none⟩) (by simp; omega)]; exact Z1
              replace Z2 : w3.frozen? ⟨w.heap.size + 1, 2, none⟩ = false := by rw [hb3.frozen (p := ⟨w.heap.size + 1, 2, none⟩) (by simp; omega)]; exact Z2
              replace Z3 : w3.frozen? ⟨w.heap.size + 1, 3, none⟩ = false := by rw [hb3.frozen (p := ⟨w.heap.size + 1, 3, none⟩) (by simp; omega)]; exact Z3
              replace Z4 : w3.frozen? ⟨w.heap.size + 1, 4, none⟩ = false := by rw [hb3.frozen (p := ⟨w.heap.size + 1, 4, none⟩) (by simp; omega)]; exact Z4
              have b3 := b2.trans (hb3.mono b2.size)
              replace HX := hide (HX.out.below hb3 x2)
              replace HY := hide (own_below HY.out hb3)
              clear hb3 b2
              obtain ⟨bb, _, _, _, _, m3, bbs, _, hpf, _⟩ := own_spot HY.out (by omega)
              have HP := hide hpf
              clear hpf HY
              obtain ⟨p, hpe⟩ : ∃ p, p = T * W := ⟨_, rfl⟩
              obtain ⟨u, hue⟩ : ∃ u, u = (B + 1) * W := ⟨_, rfl⟩
              have LPOS : 0 < u - p := by rw [hpe, hue]; exact rows_pos (by omega) (by omega)
              have HPE := hide hpe
              have HUE := hide hue
              have p5 : p ≤ u := by omega
              have p6 : u ≤ cs.length := by rw [hue]; exact q6
              clear hpe hue
              have z1 : IntKind.i64.wrap ((B : Int) + 1) = (B : Int) + 1 := wrap_small (by omega) (by omega)
              have z2 : IntKind.i64.wrap (n * wd) = n * wd := by obtain ⟨p1, p2⟩ := mul_small j2 q4; rw [EW.out]; exact wrap_small (by omega) (by omega)
              have fs := fld_sheet1
              refine wp_region_held_drew (S := (fun w' => w'.cell? ⟨w2.heap.size, 0, none⟩ = some (.int .i64 wd) ∧ w'.cell? ⟨w2.heap.size, 1, none⟩ = some (.slice (some ⟨bx, 0, none⟩) cs.length cx) ∧ w'.cell? ⟨w.heap.size, 1, none⟩ = some (.int .i64 wd))) (by kernel_rfl) ?_ (fun hHeld => ?_)
              · (try dsimp only); exact ⟨S0, S1, A1⟩
              refine wpAnyH_take (i := 0) (oi := ⟨_, _, _, _, _, _⟩) (v := ?_) rfl (by kernel_rfl) (by kernel_rfl) (by kernel_rfl) (fun _ _ _ h => h) (Or.inl ⟨by rfl, ?_⟩) hHeld ?_
              rotate_left
              · (intro w hSw; (try dsimp only at hSw); go_simp; try (with_reducible rfl))
              try simp only [Act.put, List.setIfInBounds_toArray, List.set_cons_zero, List.set_cons_succ]
              refine wpAnyH_take (i := 1) (oi := ⟨_, _, _, _, _, _⟩) (v := ?_) rfl (by kernel_rfl) (by kernel_rfl) (by kernel_rfl) (fun _ _ _ h => h) (Or.inl ⟨by rfl, ?_⟩) hHeld ?_
              rotate_left
              · (intro w hSw; (try dsimp only at hSw); go_simp; try (with_reducible rfl))
              try simp only [Act.put, List.setIfInBounds_toArray, List.set_cons_zero, List.set_cons_succ]
              refine wpAnyH_take (i := 2) (oi := ⟨_, _, _, _, _, _⟩) (v := ?_) rfl (by kernel_rfl) (by kernel_rfl) (by kernel_rfl) (fun _ _ _ h => h) (Or.inl ⟨by rfl, ?_⟩) hHeld ?_
              rotate_left
              · (intro w hSw; (try dsimp only at hSw); go_simp; try (with_reducible rfl))
              try simp only [Act.put, List.setIfInBounds_toArray, List.set_cons_zero, List.set_cons_succ]
              refine wpAnyH_take (i := 3) (oi := ⟨_, _, _, _, _, _⟩) (v := ?_) rfl (by kernel_rfl) (by kernel_rfl) (by kernel_rfl) (fun _ _ _ h => h) (Or.inl ⟨by rfl, ?_⟩) hHeld ?_
              rotate_left
              · (intro w hSw; (try dsimp only at hSw); go_simp; try (with_reducible rfl))
              try simp only [Act.put, List.setIfInBounds_toArray, List.set_cons_zero, List.set_cons_succ]
              refine wpAnyH_take (i := 6) (oi := ⟨_, _, _, _, _, _⟩) (v := ?_) rfl (by kernel_rfl) (by kernel_rfl) (by kernel_rfl) (fun _ _ _ h => h) (Or.inl ⟨by rfl, ?_⟩) hHeld ?_
              rotate_left
              · (intro w hSw; (try dsimp only at hSw); go_simp; try (with_reducible rfl))
              try simp only [Act.put, List.setIfInBounds_toArray, List.set_cons_zero, List.set_cons_succ]
              refine wpAnyH_take (i := 7) (oi := ⟨_, _, _, _, _, _⟩) (v := ?_) rfl (by kernel_rfl) (by kernel_rfl) (by kernel_rfl) (fun _ _ _ h => h) (Or.inl ⟨by rfl, ?_⟩) hHeld ?_
              rotate_left
              · (intro w hSw; (try dsimp only at hSw); go_simp; try (with_reducible rfl))
              try simp only [Act.put, List.setIfInBounds_toArray, List.set_cons_zero, List.set_cons_succ]
              refine wpAnyH_take (i := 8) (oi := ⟨_, _, _, _, _, _⟩) (v := ?_) rfl (by kernel_rfl) (by kernel_rfl) (by kernel_rfl) (fun _ _ _ h => h) (Or.inl ⟨by rfl, ?_⟩) hHeld ?_
              rotate_left
              · (intro w hSw; (try dsimp only at hSw); go_simp; try (with_reducible rfl))
              try simp only [Act.put, List.setIfInBounds_toArray, List.set_cons_zero, List.set_cons_succ]
              refine wpAnyH_take (i := 9) (oi := ⟨_, _, _, _, _, _⟩) (v := ?_) rfl (by kernel_rfl) (by kernel_rfl) (by kernel_rfl) (fun _ _ _ h => h) (Or.inl ⟨by rfl, ?_⟩) hHeld ?_
              rotate_left
              · (intro w hSw; (try dsimp only at hSw); go_simp; try (with_reducible rfl))
              try simp only [Act.put, List.setIfInBounds_toArray, List.set_cons_zero, List.set_cons_succ]
              refine wpAnyH_take (i := 10) (oi := ⟨_, _, _, _, _, _⟩) (v := ?_) rfl (by kernel_rfl) (by kernel_rfl) (by kernel_rfl) (fun _ _ _ h => h) (Or.inl ⟨by rfl, ?_⟩) hHeld ?_
              rotate_left
              · (intro w hSw; (try dsimp only at hSw); go_simp; try (with_reducible rfl))
              try simp only [Act.put, List.setIfInBounds_toArray, List.set_cons_zero, List.set_cons_succ]
              refine wpAnyH_ready (rs := [4]) (by kernel_rfl) (by simp) ?_
              refine AllReadyH.cons (o := ⟨_, _, _, _, _, _⟩) rfl (fun K hK => ?_) AllReadyH.nil
              go_simp
              go_at_call 56
              refine (part_calls wd (T : Int) ((B : Int) + 1) bx 0 cs.length cx p u _ ⟨hcx, _, rfl, fun _ => rfl⟩ (by rw [EW.out, HPE.out, Int.natCast_mul]) (by rw [EW.out, HUE.out, Int.natCast_mul]; rfl) p5 p6 hn1 _).mono ?_
              rintro e wp ⟨vp, rfl, ⟨hcp, ap, rfl, hap⟩, hbp⟩
              obtain rfl := hap LPOS
              rw [Nat.zero_add]
              replace hbp : Below w3.heap.size w3 wp := (below_drewN (Below.refl _ _) 1).trans hbp
              have hsp : w3.heap.size ≤ wp.heap.size := hbp.size
              replace A0 := cellb hbp A0
              replace A1 := cellb hbp A1
              replace A2 := cellb hbp A2
              replace A3 := cellb hbp A3
              replace R0 := cellb hbp R0
              replace R1 := cellb hbp R1
              replace R2 := cellb hbp R2
              replace R3 := cellb hbp R3
              replace R4 := cellb hbp R4
              replace S0 := cellb hbp S0
              replace S1 := cellb hbp S1
              replace U0 := cellb hbp U0
              replace U1 := cellb hbp U1
              replace Z0 : wp.frozen? ⟨w.heap.size + 1, 0, none⟩ = false := by rw [hbp.frozen (p := ⟨w.heap.size + 1, 0, none⟩) (by simp; omega)]; exact Z0
              replace Z1 : wp.frozen? ⟨w.heap.size + 1, 1, none⟩ = false := by rw [hbp.frozen (p := ⟨w.heap.size + 1, 1, none⟩) (by simp; omega)]; exact Z1
              replace Z2 : wp.frozen? ⟨w.heap.size + 1, 2, none⟩ = false := by rw [hbp.frozen (p := ⟨w.heap.size + 1, 2, none⟩) (by simp; omega)]; exact Z2
              replace Z3 : wp.frozen? ⟨w.heap.size + 1, 3, none⟩ = false := by rw [hbp.frozen (p := ⟨w.heap.size + 1, 3, none⟩) (by simp; omega)]; exact Z3
              replace Z4 : wp.frozen? ⟨w.heap.size + 1, 4, none⟩ = false := by rw [hbp.frozen (p := ⟨w.heap.size + 1, 4, none⟩) (by simp; omega)]; exact Z4
              have bp := b3.trans (hbp.mono b3.size)
              replace HX := hide (HX.out.below hbp (by omega))
              replace HP := hide (HP.out.below hbp (by omega))
              clear b3 hbp
              try go_wp2_with fail
              refine hK.out _ _ ?_ ?_
              · (try dsimp only); exact ⟨S0, S1, A1⟩
              clear hHeld hK K
              intro hHeld
              try simp only [Act.put, List.setIfInBounds_toArray, List.set_cons_zero, List.set_cons_succ]
              refine wpAnyH_take (i := 5) (oi := ⟨_, _, _, _, _, _⟩) (v := ?_) rfl (by kernel_rfl) (by kernel_rfl) (by kernel_rfl) (fun _ _ _ h => h) (Or.inl ⟨by rfl, ?_⟩) hHeld ?_
              rotate_left
              · (intro w hSw; (try dsimp only at hSw); go_simp; try (with_reducible rfl))
              try simp only [Act.put, List.setIfInBounds_toArray, List.set_cons_zero, List.set_cons_succ]
              refine wpAnyH_ready (rs := [11]) (by kernel_rfl) (by simp) ?_
              refine AllReadyH.cons (o := ⟨_, _, _, _, _, _⟩) rfl (fun K hK => ?_) AllReadyH.nil
              go_simp
              go_at_call 34
              refine (blankOf_calls at' _).mono ?_
              rintro e wq ⟨rfl, hbq⟩
              have hsq : wp.heap.size ≤ wq.heap.size := hbq.size
              replace A0 := cellb hbq A0
              replace A1 := cellb hbq A1
              replace A2 := cellb hbq A2
              replace A3 := cellb hbq A3
              replace R0 := cellb hbq R0
              replace R1 := cellb hbq R1
              replace R2 := cellb hbq R2
              replace R3 := cellb hbq R3
              replace R4 := cellb hbq R4
              replace S0 := cellb hbq S0
              replace S1 := cellb hbq S1
              replace U0 := cellb hbq U0
              replace U1 := cellb hbq U1
              replace Z0 : wq.frozen? ⟨w.heap.size + 1, 0, none⟩ = false := by rw [hbq.frozen (p := ⟨w.heap.size + 1, 0, none⟩) (by simp; omega)]; exact Z0
              replace Z1 : wq.frozen? ⟨w.heap.size + 1, 1, none⟩ = false := by rw [hbq.frozen (p := ⟨w.heap.size + 1, 1, none⟩) (by simp; omega)]; exact Z1
              replace Z2 : wq.frozen? ⟨w.heap.size + 1, 2, none⟩ = false := by rw [hbq.frozen (p := ⟨w.heap.size + 1, 2, none⟩) (by simp; omega)]; exact Z2
              replace Z3 : wq.frozen? ⟨w.heap.size + 1, 3, none⟩ = false := by rw [hbq.frozen (p := ⟨w.heap.size + 1, 3, none⟩) (by simp; omega)]; exact Z3
              replace Z4 : wq.frozen? ⟨w.heap.size + 1, 4, none⟩ = false := by rw [hbq.frozen (p := ⟨w.heap.size + 1, 4, none⟩) (by simp; omega)]; exact Z4
              have bq := bp.trans (hbq.mono bp.size)
              replace HX := hide (HX.out.below hbq (by omega))
              replace HP := hide (HP.out.below hbq (by omega))
              clear bp hbq
              try go_wp2_with fail
              refine hK.out _ _ ?_ ?_
              · (try dsimp only); exact ⟨S0, S1, A1⟩
              clear hHeld hK K
              intro hHeld
              try simp only [Act.put, List.setIfInBounds_toArray, List.set_cons_zero, List.set_cons_succ]
              refine wpAnyH_ready (rs := [12]) (by kernel_rfl) (by simp) ?_
              refine AllReadyH.cons (o := ⟨_, _, _, _, _, _⟩) rfl (fun K hK => ?_) AllReadyH.nil
              go_simp
              go_at_call 58
              refine (slide_calls bx (p * 2) (u - p) (cx - p) _ (fun i => cs.getD (p + i) (0, 0)) (n * wd) 32 at' wq ⟨by omega, _, rfl, fun _ => rfl⟩ (by have h := HX.out.sub p (u - p) (by omega); rw [Nat.zero_add] at h; exact h) (by omega) (by omega) LPOS).mono ?_
              rintro e wr ⟨⟨ur, rfl⟩, hrr, htr⟩
              replace A0 := htr.cellAt A0 (by omega)
              replace A1 := htr.cellAt A1 (by omega)
              replace A2 := htr.cellAt A2 (by omega)
              replace A3 := htr.cellAt A3 (by omega)
              replace R0 := htr.cellAt R0 (by omega)
              replace R1 := htr.cellAt R1 (by omega)
              replace R2 := htr.cellAt R2 (by omega)
              replace R3 := htr.cellAt R3 (by omega)
              replace R4 := htr.cellAt R4 (by omega)
              replace S0 := htr.cellAt S0 (by omega)
              replace S1 := htr.cellAt S1 (by omega)
              replace U0 := htr.cellAt U0 (by omega)
              replace U1 := htr.cellAt U1 (by omega)
              replace Z0 := htr.frozenAt (by omega) Z0
              replace Z1 := htr.frozenAt (by omega) Z1
              replace Z2 := htr.frozenAt (by omega) Z2
              replace Z3 := htr.frozenAt (by omega) Z3
              replace Z4 := htr.frozenAt (by omega) Z4
              have br : Below w.heap.size w wr := bq.trans (htr.below (by omega) (by omega))
              have hsr : wq.heap.size ≤ wr.heap.size := htr.size
              replace HP := hide (pairs_touch HP.out htr (by omega) (by omega))
              replace HX := hide (HX.out.join (k := p) (m := u - p) (by rw [Nat.zero_add, Nat.zero_add, Nat.add_mul]; exact htr) (by rw [Nat.zero_add]; exact hrr) (by omega))
              clear hrr htr bq
              try go_wp2_with fail
              refine hK.out _ _ ?_ ?_
              · (try dsimp only); exact ⟨S0, S1, A1⟩
              clear hHeld hK K
              intro hHeld
              try simp only [Act.put, List.setIfInBounds_toArray, List.set_cons_zero, List.set_cons_succ]
              refine wpAnyH_done (by kernel_rfl) ?_ _
              clear hHeld
              go_wp2_with fail
              refine (gridOf_calls wd wd n1 n2 (some ⟨bx, 0, none⟩) ay cs.length (bs.length) cx cy hn1 wr).mono ?_
              rintro e w8 ⟨rfl, hb8⟩
              rw [hq.out]
              replace R0 := cellb hb8 R0
              replace R1 := cellb hb8 R1
              replace R2 := cellb hb8 R2
              replace R3 := cellb hb8 R3
              replace R4 := cellb hb8 R4
              replace Z0 : w8.frozen? ⟨w.heap.size + 1, 0, none⟩ = false := by rw [hb8.frozen (p := ⟨w.heap.size + 1, 0, none⟩) (by simp; omega)]; exact Z0
              replace Z1 : w8.frozen? ⟨w.heap.size + 1, 1, none⟩ = false := by rw [hb8.frozen (p := ⟨w.heap.size + 1, 1, none⟩) (by simp; omega)]; exact Z1
              replace Z2 : w8.frozen? ⟨w.heap.size + 1, 2, none⟩ = false := by rw [hb8.frozen (p := ⟨w.heap.size + 1, 2, none⟩) (by simp; omega)]; exact Z2
              replace Z3 : w8.frozen? ⟨w.heap.size + 1, 3, none⟩ = false := by rw [hb8.frozen (p := ⟨w.heap.size + 1, 3, none⟩) (by simp; omega)]; exact Z3
              replace Z4 : w8.frozen? ⟨w.heap.size + 1, 4, none⟩ = false := by rw [hb8.frozen (p := ⟨w.heap.size + 1, 4, none⟩) (by simp; omega)]; exact Z4
              have b8 := br.trans (hb8.mono br.size)
              have hs8 : wr.heap.size ≤ w8.heap.size := hb8.size
              have HX8 := hide (HX.out.below hb8 (by omega))
              have HP8 := hide (HP.out.below hb8 (by omega))
              clear hb8 HX HP
              have hr := res5 (w := w8) (r := w.heap.size + 1) (.int .i64 0) (.int .i64 r) (.int .i64 wd) (.slice (some ⟨bx, 0, none⟩) cs.length cx) (.slice ay bs.length cy) R0 R1 R2 R3 R4
              go_wp2
              refine bodyPost_ret (v := .agg #[.int .i64 0, .int .i64 r, .int .i64 wd, .slice (some ⟨bx, 0, none⟩) cs.length cx, .slice ay bs.length cy]) (by simp only [results, Try.results22]; simp [go_sem, hr.1, hr.2.1, hr.2.2.1, hr.2.2.2.1, hr.2.2.2.2]) rfl ⟨_, _, rfl, ?_, b8.trans (show Below w.heap.size w8 _ from (by repeat' (first | with_reducible exact Below.refl _ _ | with_reducible assumption | with_reducible refine Below.drew ?_ | with_reducible refine Below.alloc ?_ ?_ _ | with_reducible refine Below.setCell ?_ ?_ _ | (simp; done) | (simp; omega) | omega)))⟩
              rw [scrollB_low hT]
              refine (gown_of2 (w := w8) (base := w1.heap.size) (bb := bb) (HX8.out.congr (fun i hi => ?_)) (by omega) HP8.out (by omega) (by omega) (by simp [World.setCell]) (fun k _ => ?_)).mono (by omega) (Nat.le_refl _)
              · unfold scrollF
                rw [Nat.sub_mul, ← HPE.out, ← HUE.out]
              · by_cases hk : k < w1.heap.size
                · exact .inr hk
                · left
                  simp only [World.setCell, Array.getElem?_modify]
                  repeat rw [if_neg (by omega)]
  · rw [scrollRes_def, gres_fault hG]
    generalize gridCode r wd cs bs = code at *
    have hcb : (code != 0) = true := by simpa using hG
    simp only [gbad]
    go_enter Try.func22, Try.ntmps22
    go_wp2_with fail
    refine HF.mono ?_
    rintro e w1 ⟨rfl, hb1⟩
    have A0 : w1.cell? ⟨w.heap.size, 0, none⟩ = some (.int .i64 r) := cellb hb1 (by simp [go_sem])
    have A1 : w1.cell? ⟨w.heap.size, 1, none⟩ = some (.int .i64 wd) := cellb hb1 (by simp [go_sem])
    have A2 : w1.cell? ⟨w.heap.size, 2, none⟩ = some (.slice a1 cs.length c1) := cellb hb1 (by simp [go_sem])
    have A3 : w1.cell? ⟨w.heap.size, 3, none⟩ = some (.slice a2 bs.length c2) := cellb hb1 (by simp [go_sem])
    have R0 : w1.cell? ⟨w.heap.size + 1, 0, none⟩ = some (.int .i64 0) := cellb hb1 (by simp [go_sem])
    have Z0 : w1.frozen? ⟨w.heap.size + 1, 0, none⟩ = false := by rw [hb1.frozen (p := ⟨w.heap.size + 1, 0, none⟩) (by simp)]; simp [go_sem]
    have R1 : w1.cell? ⟨w.heap.size + 1, 1, none⟩ = some (.int .i64 0) := cellb hb1 (by simp [go_sem])
    have Z1 : w1.frozen? ⟨w.heap.size + 1, 1, none⟩ = false := by rw [hb1.frozen (p := ⟨w.heap.size + 1, 1, none⟩) (by simp)]; simp [go_sem]
    have R2 : w1.cell? ⟨w.heap.size + 1, 2, none⟩ = some (.int .i64 0) := cellb hb1 (by simp [go_sem])
    have Z2 : w1.frozen? ⟨w.heap.size + 1, 2, none⟩ = false := by rw [hb1.frozen (p := ⟨w.heap.size + 1, 2, none⟩) (by simp)]; simp [go_sem]
    have R3 : w1.cell? ⟨w.heap.size + 1, 3, none⟩ = some (.slice none 0 0) := cellb hb1 (by simp [go_sem])
    have Z3 : w1.frozen? ⟨w.heap.size + 1, 3, none⟩ = false := by rw [hb1.frozen (p := ⟨w.heap.size + 1, 3, none⟩) (by simp)]; simp [go_sem]
    have R4 : w1.cell? ⟨w.heap.size + 1, 4, none⟩ = some (.slice none 0 0) := cellb hb1 (by simp [go_sem])
    have Z4 : w1.frozen? ⟨w.heap.size + 1, 4, none⟩ = false := by rw [hb1.frozen (p := ⟨w.heap.size + 1, 4, none⟩) (by simp)]; simp [go_sem]
    have hs1 : w.heap.size + 2 ≤ w1.heap.size := by have := hb1.size; simp at this; omega
    have b1 : Below w.heap.size w w1 := hb0.trans (hb1.mono (by simp; omega))
    clear hb1 hb0 HF
    have hr := res5 (w := w1) (r := w.heap.size + 1) (.int .i64 code) (.int .i64 0) (.int .i64 0) (.slice none 0 0) (.slice none 0 0) R0 R1 R2 R3 R4
    go_wp2
    refine bodyPost_ret (v := .agg #[.int .i64 code, .int .i64 0, .int .i64 0, .slice none 0 0, .slice none 0 0]) (by simp only [results, Try.results22]; simp [go_sem, hr.1, hr.2.1, hr.2.2.1, hr.2.2.2.1, hr.2.2.2.2]) rfl ⟨_, _, rfl, ?_, b1.trans (show Below w.heap.size w1 _ from (by repeat' (first | with_reducible exact Below.refl _ _ | with_reducible assumption | with_reducible refine Below.drew ?_ | with_reducible refine Below.alloc ?_ ?_ _ | with_reducible refine Below.setCell ?_ ?_ _ | (simp; done) | (simp; omega) | omega)))⟩
    exact GOwn.nil _ _ _ (by have := b1.size; simp [World.setCell]; omega)

end Go.Proofs.Ytbndncfkkhjkoai
