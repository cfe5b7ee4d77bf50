/-
  What ResizeGrid answers, of the program.
-/
import Derived.Test.YtknkbihjboadjaaResizeFns
import Derived.Test.YtknkbihjboadjaaGridRes
import Derived.Deep.RegionHeld3
import Derived.Deep.RegionHeld
namespace Go.Proofs.Ytknkbihjboadjaa
set_option maxRecDepth 20000
open Go.ChangeShapes Go.WideShapes Go.ChangeAt Go.RowKit
set_option linter.unusedVariables false
set_option linter.unusedSimpArgs false
set_option maxRecDepth 20000

def resizeRes (r wd : Int) (cs bs : List (Int × Int)) (rows width : Int) : GRes := gres r wd cs bs (sizeB rows width) ⟨0, rows, width, mkL (rows.toNat * width.toNat) (fitF wd.toNat width.toNat (min rows.toNat r.toNat) (fun i => cs.getD i (0, 0)) (32, 0)), mkL (bs.length / wd.toNat * width.toNat) (fitF wd.toNat width.toNat (bs.length / wd.toNat) (fun i => bs.getD i (0, 0)) (32, 0))⟩
theorem resizeRes_def (r wd : Int) (cs bs : List (Int × Int)) (rows width : Int) : resizeRes r wd cs bs rows width = gres r wd cs bs (sizeB rows width) ⟨0, rows, width, mkL (rows.toNat * width.toNat) (fitF wd.toNat width.toNat (min rows.toNat r.toNat) (fun i => cs.getD i (0, 0)) (32, 0)), mkL (bs.length / wd.toNat * width.toNat) (fitF wd.toNat width.toNat (bs.length / wd.toNat) (fun i => bs.getD i (0, 0)) (32, 0))⟩ := rfl
/-- A resize of a grid without a fault, in naturals. -/
theorem resize_nats {r wd rows width : Int} {cs bs : List (Int × Int)} (h : GFine r wd cs bs) (hs : sizeB rows width = true) : ∃ R W R' W' Hb N' M' : Nat, r = (R : Int) ∧ wd = (W : Int) ∧ rows = (R' : Int) ∧ width = (W' : Int) ∧ 1 ≤ R ∧ R ≤ 6 ∧ 2 ≤ W ∧ W ≤ 12 ∧ 1 ≤ R' ∧ R' ≤ 6 ∧ 2 ≤ W' ∧ W' ≤ 12 ∧ Hb ≤ 5 ∧ N' ≤ 72 ∧ M' ≤ 60 ∧ 0 < N' ∧ cs.length = R * W ∧ bs.length = Hb * W ∧ bs.length / W = Hb ∧ N' = R' * W' ∧ M' = Hb * W' := by
  obtain ⟨R, W, rfl, rfl, n1, n2, n3, n4, n5, n6, n7, n8, n9, n10⟩ := h.nats
  obtain ⟨s1, s2, s3, s4, s5, s6⟩ := size_mul hs
  obtain ⟨R', rfl⟩ : ∃ X : Nat, rows = X := ⟨rows.toNat, by omega⟩
  obtain ⟨W', rfl⟩ : ∃ X : Nat, width = X := ⟨width.toNat, by omega⟩
  have hd : bs.length = bs.length / W * W := (Nat.div_mul_cancel (Nat.dvd_of_mod_eq_zero n7)).symm
  have hh : bs.length / W ≤ 5 := Nat.div_le_of_le_mul (by rw [Nat.mul_comm]; exact n6)
  have a1 : R' * W' ≤ 6 * W' := Nat.mul_le_mul_right W' (by omega)
  have a2 : 1 * W' ≤ R' * W' := Nat.mul_le_mul_right W' (by omega)
  have a3 : bs.length / W * W' ≤ 5 * W' := Nat.mul_le_mul_right W' hh
  exact ⟨R, W, R', W', bs.length / W, R' * W', bs.length / W * W', rfl, rfl, rfl, rfl, n1, n2, n3, n4, by omega, by omega, by omega, by omega, hh, by omega, by omega, by omega, n5, hd, rfl, rfl, rfl⟩
theorem resizeRes_len (r wd : Int) (cs bs : List (Int × Int)) (rows width : Int) : (resizeRes r wd cs bs rows width).cs.length ≤ 72 ∧ (resizeRes r wd cs bs rows width).bs.length ≤ 60 := by
  by_cases hs : sizeB rows width = true
  · refine gres_len (fun h => ?_)
    obtain ⟨R, W, R', W', Hb, N', M', rfl, rfl, rfl, rfl, _, _, _, _, _, _, _, _, _, n1, n2, _, _, _, n3, n4, n5⟩ := resize_nats h hs
    simp only [mkL_length, Int.toNat_natCast, n3, ← n4, ← n5]
    exact ⟨n1, n2⟩
  · rw [resizeRes_def, Bool.eq_false_iff.2 hs]
    by_cases hG : gridCode r wd cs bs = 0
    · rw [gres_bad hG rfl]; exact ⟨by simp [gbad], by simp [gbad]⟩
    · rw [gres_fault hG]; exact ⟨by simp [gbad], by simp [gbad]⟩
theorem own_rowr {w : World} {base n : Nat} {e : TypeId} {a : Option Addr} {cap : Nat} {xs : List (Int × Int)} (h : w.ownsRow base e 2 (.slice a n cap) n (pvs xs)) : ∃ b, RowR w b 0 n (fun i => xs.getD i (0, 0)) ∧ (0 < n → a = some ⟨b, 0, none⟩) ∧ (0 < n → b < w.heap.size) := by
  by_cases h0 : 0 < n
  · obtain ⟨b, c, e1, _, _, _, h2, hr⟩ := own_row h h0
    injection e1 with e1
    exact ⟨b, hr.read, fun _ => e1, fun _ => h2⟩
  · exact ⟨0, fun i hi => absurd hi (by omega), fun h => absurd h h0, fun h => absurd h h0⟩
/-- What a result holds, whose lists lie in two blocks. -/
theorem gown_two {w w' : World} {base bx by' n m cx cy : Nat} {F G : Nat → Int × Int} (hr : Row w bx 0 n F) (hg : Row w by' 0 m G) (h1 : base ≤ bx) (h2 : bx < by') (h3 : by' < w.heap.size) (hs : w.heap.size ≤ w'.heap.size) (hk : ∀ k, k < w.heap.size → w'.heap[k]? = w.heap[k]? ∨ k < base) :
    GOwn base w'.heap.size w' (.slice (some ⟨bx, 0, none⟩) n cx) (.slice (some ⟨by', 0, none⟩) m cy) (mkL n F) (mkL m G) := by
  have p1 : PairsAt bx (bx + 1) w (.slice (some ⟨bx, 0, none⟩) n cx) (mkL n F) := PairsAt.of_row hr (Nat.le_refl _) (Nat.lt_succ_self _)
  have p2 : PairsAt by' (by' + 1) w (.slice (some ⟨by', 0, none⟩) m cy) (mkL m G) := PairsAt.of_row hg (Nat.le_refl _) (Nat.lt_succ_self _)
  refine ((GOwn.of (lo := base) (hi := w.heap.size) p1 p2 h1 (by omega) (by omega) (by omega) (.inl (by omega))).of_blocks (fun i h1 h2 => ?_)).mono (Nat.le_refl _) hs
  rcases hk i h2 with h | h
  · exact h
  · omega

theorem rowr_below {w w' : World} {b off n : Nat} {f : Nat → Int × Int} (h : RowR w b off n f) (hb : Below w.heap.size w w') (hl : 0 < n → b < w.heap.size) : RowR w' b off n f := by
  by_cases h0 : 0 < n
  · exact h.below hb (hl h0)
  · exact fun i hi => absurd hi (by omega)

set_option maxHeartbeats 2000000 in
theorem implResizeGrid_calls (r wd : Int) (cs bs : List (Int × Int)) (rows width : Int) (v1 v2 : Value) (w : World) (hn1 : cs.length ≤ 1048576) (hn2 : bs.length ≤ 1048576) (h1 : PRead w v1 cs) (h2 : PRead w v2 bs) :
    Calls Try.prog 38 #[.agg #[.int .i64 r, .int .i64 wd, v1, v2], .int .i64 rows, .int .i64 width] w fun e w' => ∃ v5 v6, e = .returned (.agg #[.int .i64 (resizeRes r wd cs bs rows width).code, .int .i64 (resizeRes r wd cs bs rows width).rows, .int .i64 (resizeRes r wd cs bs rows width).wd, v5, v6]) ∧ GOwn w.heap.size w'.heap.size w' v5 v6 (resizeRes r wd cs bs rows width).cs (resizeRes r wd cs bs rows width).bs ∧ Below w.heap.size w w' := by
  have h1' := h1
  obtain ⟨a1, c1, rfl, hx1⟩ := h1'
  clear hx1
  have h2' := h2
  obtain ⟨a2, c2, rfl, hx2⟩ := h2'
  clear hx2
  have hb0 : Below w.heap.size w ((w.alloc (.cells #[.int .i64 r, .int .i64 wd, .slice a1 cs.length c1, .slice a2 bs.length c2] 32)).alloc (.cells #[.int .i64 0, .int .i64 0, .int .i64 0, .slice none 0 0, .slice none 0 0] 81)) := (by repeat' (first | with_reducible exact Below.refl _ _ | with_reducible assumption | with_reducible refine Below.drew ?_ | with_reducible refine Below.alloc ?_ ?_ _ | with_reducible refine Below.setCell ?_ ?_ _ | (simp; done) | (simp; omega) | omega))
  have HF := implGridFault_calls r wd cs bs _ _ ((w.alloc (.cells #[.int .i64 r, .int .i64 wd, .slice a1 cs.length c1, .slice a2 bs.length c2] 32)).alloc (.cells #[.int .i64 0, .int .i64 0, .int .i64 0, .slice none 0 0, .slice none 0 0] 81)) hn1 hn2 (h1.below hb0) (h2.below hb0)
  by_cases hG : gridCode r wd cs bs = 0
  · cases k0 : sizeB rows width with
    | false =>
      rw [resizeRes_def, gres_bad hG (by exact k0)]
      rw [hG] at HF
      simp only [gbad]
      go_enter Try.func38, Try.ntmps38
      go_wp2_with fail
      refine HF.mono ?_
      rintro e w1 ⟨rfl, hb1⟩
      have A0 : w1.cell? ⟨w.heap.size, 0, none⟩ = some (.int .i64 r) := cellb hb1 (by simp [go_sem])
      have A1 : w1.cell? ⟨w.heap.size, 1, none⟩ = some (.int .i64 wd) := cellb hb1 (by simp [go_sem])
      have A2 : w1.cell? ⟨w.heap.size, 2, none⟩ = some (.slice a1 cs.length c1) := cellb hb1 (by simp [go_sem])
      have A3 : w1.cell? ⟨w.heap.size, 3, none⟩ = some (.slice a2 bs.length c2) := cellb hb1 (by simp [go_sem])
      have R0 : w1.cell? ⟨w.heap.size + 1, 0, none⟩ = some (.int .i64 0) := cellb hb1 (by simp [go_sem])
      have Z0 : w1.frozen? ⟨w.heap.size + 1, 0, none⟩ = false := by rw [hb1.frozen (p := ⟨w.heap.size + 1, 0, none⟩) (by simp)]; simp [go_sem]
      have R1 : w1.cell? ⟨w.heap.size + 1, 1, none⟩ = some (.int .i64 0) := cellb hb1 (by simp [go_sem])
      have Z1 : w1.frozen? ⟨w.heap.size + 1, 1, none⟩ = false := by rw [hb1.frozen (p := ⟨w.heap.size + 1, 1, none⟩) (by simp)]; simp [go_sem]
      have R2 : w1.cell? ⟨w.heap.size + 1, 2, none⟩ = some (.int .i64 0) := cellb hb1 (by simp [go_sem])
      have Z2 : w1.frozen? ⟨w.heap.size + 1, 2, none⟩ = false := by rw [hb1.frozen (p := ⟨w.heap.size + 1, 2, none⟩) (by simp)]; simp [go_sem]
      have R3 : w1.cell? ⟨w.heap.size + 1, 3, none⟩ = some (.slice none 0 0) := cellb hb1 (by simp [go_sem])
      have Z3 : w1.frozen? ⟨w.heap.size + 1, 3, none⟩ = false := by rw [hb1.frozen (p := ⟨w.heap.size + 1, 3, none⟩) (by simp)]; simp [go_sem]
      have R4 : w1.cell? ⟨w.heap.size + 1, 4, none⟩ = some (.slice none 0 0) := cellb hb1 (by simp [go_sem])
      have Z4 : w1.frozen? ⟨w.heap.size + 1, 4, none⟩ = false := by rw [hb1.frozen (p := ⟨w.heap.size + 1, 4, none⟩) (by simp)]; simp [go_sem]
      have hs1 : w.heap.size + 2 ≤ w1.heap.size := by have := hb1.size; simp at this; omega
      have b1 : Below w.heap.size w w1 := hb0.trans (hb1.mono (by simp; omega))
      clear hb1 hb0 HF
      go_wp2_with (first
        | (go_at_call 86; refine (isSize_calls _ _ _).mono ?_; rintro e w' ⟨rfl, hw⟩; rw [hw, k0]; clear hw w'))
      have hr := res5 (w := w1) (r := w.heap.size + 1) (.int .i64 3) (.int .i64 0) (.int .i64 0) (.slice none 0 0) (.slice none 0 0) R0 R1 R2 R3 R4
      go_wp2
      refine bodyPost_ret (v := .agg #[.int .i64 3, .int .i64 0, .int .i64 0, .slice none 0 0, .slice none 0 0]) (by simp only [results, Try.results38]; simp [go_sem, hr.1, hr.2.1, hr.2.2.1, hr.2.2.2.1, hr.2.2.2.2]) rfl ⟨_, _, rfl, ?_, b1.trans (show Below w.heap.size w1 _ from (by repeat' (first | with_reducible exact Below.refl _ _ | with_reducible assumption | with_reducible refine Below.drew ?_ | with_reducible refine Below.alloc ?_ ?_ _ | with_reducible refine Below.setCell ?_ ?_ _ | (simp; done) | (simp; omega) | omega)))⟩
      exact GOwn.nil _ _ _ (by have := b1.size; simp [World.setCell]; omega)
    | true =>
      rw [resizeRes_def, gres_ok hG k0]
      rw [hG] at HF
      have hfine := gfine_of_code hG
      obtain ⟨n1, n2, hq, n8, n9, n10⟩ := hfine.short
      obtain ⟨R, W, R', W', Hb, N', M', eR, eW, rfl, rfl, p1, p2, p3, p4, p5, p6, p7, p8, p9, p10, p11, p12, e1, e2, e3, e4, e5⟩ := resize_nats hfine k0
      clear hfine hG
      have eW' : wd.toNat = W := by omega
      have eR' : r.toNat = R := by omega
      simp only [eW', eR', Int.toNat_natCast, e3, ← e4, ← e5]
      have EW := hide eW
      have E1 := hide e1
      have E2 := hide e2
      have E4 := hide e4
      have E5 := hide e5
      have eq1 : ((N' : Nat) : Int) / (W' : Int) = (R' : Int) := by rw [e4]; exact rows_back (by omega)
      have EQ1 := hide eq1
      have eq2 : (bs.length : Int) / wd = (Hb : Int) := by rw [e2, eW]; exact rows_back (by omega)
      have EQ2 := hide eq2
      clear eW eW' eR eR' e1 e2 e3 e4 e5 eq1 eq2
      go_enter Try.func38, Try.ntmps38
      go_wp2_with fail
      refine HF.mono ?_
      rintro e w1 ⟨rfl, hb1⟩
      have A0 : w1.cell? ⟨w.heap.size, 0, none⟩ = some (.int .i64 r) := cellb hb1 (by simp [go_sem])
      have A1 : w1.cell? ⟨w.heap.size, 1, none⟩ = some (.int .i64 wd) := cellb hb1 (by simp [go_sem])
      have A2 : w1.cell? ⟨w.heap.size, 2, none⟩ = some (.slice a1 cs.length c1) := cellb hb1 (by simp [go_sem])
      have A3 : w1.cell? ⟨w.heap.size, 3, none⟩ = some (.slice a2 bs.length c2) := cellb hb1 (by simp [go_sem])
      have R0 : w1.cell? ⟨w.heap.size + 1, 0, none⟩ = some (.int .i64 0) := cellb hb1 (by simp [go_sem])
      have Z0 : w1.frozen? ⟨w.heap.size + 1, 0, none⟩ = false := by rw [hb1.frozen (p := ⟨w.heap.size + 1, 0, none⟩) (by simp)]; simp [go_sem]
      have R1 : w1.cell? ⟨w.heap.size + 1, 1, none⟩ = some (.int .i64 0) := cellb hb1 (by simp [go_sem])
      have Z1 : w1.frozen? ⟨w.heap.size + 1, 1, none⟩ = false := by rw [hb1.frozen (p := ⟨w.heap.size + 1, 1, none⟩) (by simp)]; simp [go_sem]
      have R2 : w1.cell? ⟨w.heap.size + 1, 2, none⟩ = some (.int .i64 0) := cellb hb1 (by simp [go_sem])
      have Z2 : w1.frozen? ⟨w.heap.size + 1, 2, none⟩ = false := by rw [hb1.frozen (p := ⟨w.heap.size + 1, 2, none⟩) (by simp)]; simp [go_sem]
      have R3 : w1.cell? ⟨w.heap.size + 1, 3, none⟩ = some (.slice none 0 0) := cellb hb1 (by simp [go_sem])
      have Z3 : w1.frozen? ⟨w.heap.size + 1, 3, none⟩ = false := by rw [hb1.frozen (p := ⟨w.heap.size + 1, 3, none⟩) (by simp)]; simp [go_sem]
      have R4 : w1.cell? ⟨w.heap.size + 1, 4, none⟩ = some (.slice none 0 0) := cellb hb1 (by simp [go_sem])
      have Z4 : w1.frozen? ⟨w.heap.size + 1, 4, none⟩ = false := by rw [hb1.frozen (p := ⟨w.heap.size + 1, 4, none⟩) (by simp)]; simp [go_sem]
      have hs1 : w.heap.size + 2 ≤ w1.heap.size := by have := hb1.size; simp at this; omega
      have b1 : Below w.heap.size w w1 := hb0.trans (hb1.mono (by simp; omega))
      clear hb1 hb0 HF
      go_wp2_with (first
        | (go_at_call 86; refine (isSize_calls _ _ _).mono ?_; rintro e w' ⟨rfl, hw⟩; rw [hw, k0]; clear hw w'))
      refine (sheetsOf_calls r wd cs bs _ _ w1 hn1 hn2 (h1.below b1) (h2.below b1)).mono ?_
      rintro e w2 ⟨x, y, m, rfl, m1, m2, ox, xm, oy, hb2⟩
      replace A0 := cellb hb2 A0
      replace A1 := cellb hb2 A1
      replace A2 := cellb hb2 A2
      replace A3 := cellb hb2 A3
      replace R0 := cellb hb2 R0
      replace R1 := cellb hb2 R1
      replace R2 := cellb hb2 R2
      replace R3 := cellb hb2 R3
      replace R4 := cellb hb2 R4
      replace Z0 : w2.frozen? ⟨w.heap.size + 1, 0, none⟩ = false := by rw [hb2.frozen (p := ⟨w.heap.size + 1, 0, none⟩) (by simp; omega)]; exact Z0
      replace Z1 : w2.frozen? ⟨w.heap.size + 1, 1, none⟩ = false := by rw [hb2.frozen (p := ⟨w.heap.size + 1, 1, none⟩) (by simp; omega)]; exact Z1
      replace Z2 : w2.frozen? ⟨w.heap.size + 1, 2, none⟩ = false := by rw [hb2.frozen (p := ⟨w.heap.size + 1, 2, none⟩) (by simp; omega)]; exact Z2
      replace Z3 : w2.frozen? ⟨w.heap.size + 1, 3, none⟩ = false := by rw [hb2.frozen (p := ⟨w.heap.size + 1, 3, none⟩) (by simp; omega)]; exact Z3
      replace Z4 : w2.frozen? ⟨w.heap.size + 1, 4, none⟩ = false := by rw [hb2.frozen (p := ⟨w.heap.size + 1, 4, none⟩) (by simp; omega)]; exact Z4
      have b2 := b1.trans (hb2.mono b1.size)
      have hs2 : w1.heap.size ≤ w2.heap.size := hb2.size
      obtain ⟨bx, cx, rfl, hcx, _, x1, x2, hrow⟩ := own_row ox n8
      obtain ⟨ay, cy, rfl, hyc⟩ := own_room2 oy
      have HX := hide hrow
      have HY := hide oy
      clear hrow oy ox xm hb2
      go_wp2_with fail
      have hb3 : Below w2.heap.size w2 ((w2.alloc (.cells #[.int .i64 wd, .slice (some ⟨bx, 0, none⟩) cs.length cx] 93)).alloc (.cells #[.int .i64 wd, .slice ay bs.length cy] 93)) := (by repeat' (first | with_reducible exact Below.refl _ _ | with_reducible assumption | with_reducible refine Below.drew ?_ | with_reducible refine Below.alloc ?_ ?_ _ | with_reducible refine Below.setCell ?_ ?_ _ | (simp; done) | (simp; omega) | omega))
      have S0 : ((w2.alloc (.cells #[.int .i64 wd, .slice (some ⟨bx, 0, none⟩) cs.length cx] 93)).alloc (.cells #[.int .i64 wd, .slice ay bs.length cy] 93)).cell? ⟨w2.heap.size, 0, none⟩ = some (.int .i64 wd) := by simp [go_sem]
      have S1 : ((w2.alloc (.cells #[.int .i64 wd, .slice (some ⟨bx, 0, none⟩) cs.length cx] 93)).alloc (.cells #[.int .i64 wd, .slice ay bs.length cy] 93)).cell? ⟨w2.heap.size, 1, none⟩ = some (.slice (some ⟨bx, 0, none⟩) cs.length cx) := by simp [go_sem]
      have U0 : ((w2.alloc (.cells #[.int .i64 wd, .slice (some ⟨bx, 0, none⟩) cs.length cx] 93)).alloc (.cells #[.int .i64 wd, .slice ay bs.length cy] 93)).cell? ⟨w2.heap.size + 1, 0, none⟩ = some (.int .i64 wd) := by simp [go_sem]
      have U1 : ((w2.alloc (.cells #[.int .i64 wd, .slice (some ⟨bx, 0, none⟩) cs.length cx] 93)).alloc (.cells #[.int .i64 wd, .slice ay bs.length cy] 93)).cell? ⟨w2.heap.size + 1, 1, none⟩ = some (.slice ay bs.length cy) := by simp [go_sem]
      have hs3 : ((w2.alloc (.cells #[.int .i64 wd, .slice (some ⟨bx, 0, none⟩) cs.length cx] 93)).alloc (.cells #[.int .i64 wd, .slice ay bs.length cy] 93)).heap.size = w2.heap.size + 2 := by simp
      generalize ((w2.alloc (.cells #[.int .i64 wd, .slice (some ⟨bx, 0, none⟩) cs.length cx] 93)).alloc (.cells #[.int .i64 wd, .slice ay bs.length cy] 93)) = w3 at *
      replace A0 := cellb hb3 A0
      replace A1 := cellb hb3 A1
      replace A2 := cellb hb3 A2
      replace A3 := cellb hb3 A3
      replace R0 := cellb hb3 R0
      replace R1 := cellb hb3 R1
      replace R2 := cellb hb3 R2
      replace R3 := cellb hb3 R3
      replace R4 := cellb hb3 R4
      replace Z0 : w3.frozen? ⟨w.heap.size + 1, 0, none⟩ = false := by rw [hb3.frozen (p := ⟨w.heap.size + 1, 0, none⟩) (by simp; omega)]; exact Z0
      replace Z1 : w3.frozen? ⟨w.heap.size + 1, 1, none⟩ = false := by rw [hb3.frozen (p := ⟨w.heap.size + 1, 1, none⟩) (by simp; omega)]; exact Z1
      replace Z2 : w3.frozen? ⟨w.heap.size + 1, 2, none⟩ = false := by rw [hb3.frozen (p := ⟨w.heap.size + 1, 2, none⟩) (by simp; omega)]; exact Z2
      replace Z3 : w3.frozen? ⟨w.heap.size + 1, 3, none⟩ = false := by rw [hb3.frozen (p := ⟨w.heap.size + 1, 3, none⟩) (by simp; omega)]; exact Z3
      replace Z4 : w3.frozen? ⟨w.heap.size + 1, 4, none⟩ = false := by rw [hb3.frozen (p := ⟨w.heap.size + 1, 4, none⟩) (by simp; omega)]; exact Z4
      have b3 := b2.trans (hb3.mono b2.size)
      replace HX := hide (HX.out.below hb3 x2)
      replace HY := hide (own_below HY.out hb3)
      clear hb3 b2
      obtain ⟨by', hyr, hya, hyl⟩ := own_rowr HY.out
      have HYR := hide hyr
      have HYA := hide hya
      have HYL := hide hyl
      clear hyr hya hyl HY
      refine wp_region_held_drew (S := (fun w' => w'.cell? ⟨w2.heap.size, 0, none⟩ = some (.int .i64 wd) ∧ w'.cell? ⟨w2.heap.size, 1, none⟩ = some (.slice (some ⟨bx, 0, none⟩) cs.length cx) ∧ w'.cell? ⟨w2.heap.size + 1, 0, none⟩ = some (.int .i64 wd) ∧ w'.cell? ⟨w2.heap.size + 1, 1, none⟩ = some (.slice ay bs.length cy))) (by kernel_rfl) ?_ (fun hHeld => ?_)
      · (try dsimp only); exact ⟨S0, S1, U0, U1⟩
      refine wpAnyH_take (i := 0) (oi := ⟨_, _, _, _, _, _⟩) (v := ?_) rfl (by kernel_rfl) (by kernel_rfl) (by kernel_rfl) (fun _ _ _ h => h) (Or.inl ⟨by rfl, ?_⟩) hHeld ?_
      rotate_left
      · (intro w hSw; (try dsimp only at hSw); go_simp; try (with_reducible rfl))
      try simp only [Act.put, List.setIfInBounds_toArray, List.set_cons_zero, List.set_cons_succ]
      refine wpAnyH_take (i := 1) (oi := ⟨_, _, _, _, _, _⟩) (v := ?_) rfl (by kernel_rfl) (by kernel_rfl) (by kernel_rfl) (fun _ _ _ h => h) (Or.inl ⟨by rfl, ?_⟩) hHeld ?_
      rotate_left
      · (intro w hSw; (try dsimp only at hSw); go_simp; try (with_reducible rfl))
      try simp only [Act.put, List.setIfInBounds_toArray, List.set_cons_zero, List.set_cons_succ]
      refine wpAnyH_take (i := 2) (oi := ⟨_, _, _, _, _, _⟩) (v := ?_) rfl (by kernel_rfl) (by kernel_rfl) (by kernel_rfl) (fun _ _ _ h => h) (Or.inl ⟨by rfl, ?_⟩) hHeld ?_
      rotate_left
      · (intro w hSw; (try dsimp only at hSw); go_simp; try (with_reducible rfl))
      try simp only [Act.put, List.setIfInBounds_toArray, List.set_cons_zero, List.set_cons_succ]
      refine wpAnyH_take (i := 5) (oi := ⟨_, _, _, _, _, _⟩) (v := ?_) rfl (by kernel_rfl) (by kernel_rfl) (by kernel_rfl) (fun _ _ _ h => h) (Or.inl ⟨by rfl, ?_⟩) hHeld ?_
      rotate_left
      · (intro w hSw; (try dsimp only at hSw); go_simp; try (with_reducible rfl))
      try simp only [Act.put, List.setIfInBounds_toArray, List.set_cons_zero, List.set_cons_succ]
      refine wpAnyH_take (i := 6) (oi := ⟨_, _, _, _, _, _⟩) (v := ?_) rfl (by kernel_rfl) (by kernel_rfl) (by kernel_rfl) (fun _ _ _ h => h) (Or.inl ⟨by rfl, ?_⟩) hHeld ?_
      rotate_left
      · (intro w hSw; (try dsimp only at hSw); go_simp; try (with_reducible rfl))
      try simp only [Act.put, List.setIfInBounds_toArray, List.set_cons_zero, List.set_cons_succ]
      refine wpAnyH_take (i := 8) (oi := ⟨_, _, _, _, _, _⟩) (v := ?_) rfl (by kernel_rfl) (by kernel_rfl) (by kernel_rfl) (fun _ _ _ h => h) (Or.inl ⟨by rfl, ?_⟩) hHeld ?_
      rotate_left
      · (intro w hSw; (try dsimp only at hSw); go_simp; try (with_reducible rfl))
      try simp only [Act.put, List.setIfInBounds_toArray, List.set_cons_zero, List.set_cons_succ]
      refine wpAnyH_ready (rs := [3]) (by kernel_rfl) (by simp) ?_
      refine AllReadyH.cons (o := ⟨_, _, _, _, _, _⟩) rfl (fun K hK => ?_) AllReadyH.nil
      go_simp
      go_at_call 89
      refine (blankOf_calls 0 _).mono ?_
      rintro e w4 ⟨rfl, hb4⟩
      replace hb4 : Below w3.heap.size w3 w4 := (below_drewN (Below.refl _ _) 1).trans hb4
      have hs4 : w3.heap.size ≤ w4.heap.size := hb4.size
      replace A0 := cellb hb4 A0
      replace A1 := cellb hb4 A1
      replace A2 := cellb hb4 A2
      replace A3 := cellb hb4 A3
      replace R0 := cellb hb4 R0
      replace R1 := cellb hb4 R1
      replace R2 := cellb hb4 R2
      replace R3 := cellb hb4 R3
      replace R4 := cellb hb4 R4
      replace S0 := cellb hb4 S0
      replace S1 := cellb hb4 S1
      replace U0 := cellb hb4 U0
      replace U1 := cellb hb4 U1
      replace Z0 : w4.frozen? ⟨w.heap.size + 1, 0, none⟩ = false := by rw [hb4.frozen (p := ⟨w.heap.size + 1, 0, none⟩) (by simp; omega)]; exact Z0
      replace Z1 : w4.frozen? ⟨w.heap.size + 1, 1, none⟩ = false := by rw [hb4.frozen (p := ⟨w.heap.size + 1, 1, none⟩) (by simp; omega)]; exact Z1
      replace Z2 : w4.frozen? ⟨w.heap.size + 1, 2, none⟩ = false := by rw [hb4.frozen (p := ⟨w.heap.size + 1, 2, none⟩) (by simp; omega)]; exact Z2
      replace Z3 : w4.frozen? ⟨w.heap.size + 1, 3, none⟩ = false := by rw [hb4.frozen (p := ⟨w.heap.size + 1, 3, none⟩) (by simp; omega)]; exact Z3
      replace Z4 : w4.frozen? ⟨w.heap.size + 1, 4, none⟩ = false := by rw [hb4.frozen (p := ⟨w.heap.size + 1, 4, none⟩) (by simp; omega)]; exact Z4
      have b4 := b3.trans (hb4.mono b3.size)
      replace HX := hide (HX.out.below hb4 (by omega))
      replace HYR := hide (rowr_below HYR.out hb4 HYL.out)
      replace HYL := hide (fun h => Nat.lt_of_lt_of_le (HYL.out h) hs4)
      clear b3 hb4
      try go_wp2_with fail
      refine hK.out _ _ ?_ ?_
      · (try dsimp only); exact ⟨S0, S1, U0, U1⟩
      clear hHeld hK K
      intro hHeld
      try simp only [Act.put, List.setIfInBounds_toArray, List.set_cons_zero, List.set_cons_succ]
      refine wpAnyH_ready (rs := [4]) (by kernel_rfl) (by simp) ?_
      refine AllReadyH.cons (o := ⟨_, _, _, _, _, _⟩) rfl (fun K hK => ?_) AllReadyH.nil
      go_simp
      go_at_call 88
      refine (resized_calls wd (R' : Int) (W' : Int) 32 0 bx 0 R W cs.length cx R' W' N' _ _ w4 HX.out.read E1.out EW.out rfl rfl E4.out (by omega) (by omega) (by omega) (by omega) (by omega) (by omega) hcx (fun _ => rfl) (by omega) (by omega)).mono ?_
      rintro e w5 ⟨bo, rfl, o1, o2, hro, hb5⟩
      have hs5 : w4.heap.size ≤ w5.heap.size := hb5.size
      have HRO := hide hro
      clear hro
      replace A0 := cellb hb5 A0
      replace A1 := cellb hb5 A1
      replace A2 := cellb hb5 A2
      replace A3 := cellb hb5 A3
      replace R0 := cellb hb5 R0
      replace R1 := cellb hb5 R1
      replace R2 := cellb hb5 R2
      replace R3 := cellb hb5 R3
      replace R4 := cellb hb5 R4
      replace S0 := cellb hb5 S0
      replace S1 := cellb hb5 S1
      replace U0 := cellb hb5 U0
      replace U1 := cellb hb5 U1
      replace Z0 : w5.frozen? ⟨w.heap.size + 1, 0, none⟩ = false := by rw [hb5.frozen (p := ⟨w.heap.size + 1, 0, none⟩) (by simp; omega)]; exact Z0
      replace Z1 : w5.frozen? ⟨w.heap.size + 1, 1, none⟩ = false := by rw [hb5.frozen (p := ⟨w.heap.size + 1, 1, none⟩) (by simp; omega)]; exact Z1
      replace Z2 : w5.frozen? ⟨w.heap.size + 1, 2, none⟩ = false := by rw [hb5.frozen (p := ⟨w.heap.size + 1, 2, none⟩) (by simp; omega)]; exact Z2
      replace Z3 : w5.frozen? ⟨w.heap.size + 1, 3, none⟩ = false := by rw [hb5.frozen (p := ⟨w.heap.size + 1, 3, none⟩) (by simp; omega)]; exact Z3
      replace Z4 : w5.frozen? ⟨w.heap.size + 1, 4, none⟩ = false := by rw [hb5.frozen (p := ⟨w.heap.size + 1, 4, none⟩) (by simp; omega)]; exact Z4
      have b5 := b4.trans (hb5.mono b4.size)
      replace HYR := hide (rowr_below HYR.out hb5 HYL.out)
      replace HYL := hide (fun h => Nat.lt_of_lt_of_le (HYL.out h) hs5)
      clear HX
      clear b4 hb5
      try go_wp2_with fail
      refine hK.out _ _ ?_ ?_
      · (try dsimp only); exact ⟨S0, S1, U0, U1⟩
      clear hHeld hK K
      intro hHeld
      try simp only [Act.put, List.setIfInBounds_toArray, List.set_cons_zero, List.set_cons_succ]
      refine wpAnyH_ready (rs := [7]) (by kernel_rfl) (by simp) ?_
      refine AllReadyH.cons (o := ⟨_, _, _, _, _, _⟩) rfl (fun K hK => ?_) AllReadyH.nil
      go_simp
      go_at_call 90
      refine (height_calls wd n1 n2 ay bs.length cy hn2 _).mono ?_
      rintro e w6 ⟨rfl, hb6⟩
      rw [EQ2.out]
      have hs6 : w5.heap.size ≤ w6.heap.size := hb6.size
      replace A0 := cellb hb6 A0
      replace A1 := cellb hb6 A1
      replace A2 := cellb hb6 A2
      replace A3 := cellb hb6 A3
      replace R0 := cellb hb6 R0
      replace R1 := cellb hb6 R1
      replace R2 := cellb hb6 R2
      replace R3 := cellb hb6 R3
      replace R4 := cellb hb6 R4
      replace S0 := cellb hb6 S0
      replace S1 := cellb hb6 S1
      replace U0 := cellb hb6 U0
      replace U1 := cellb hb6 U1
      replace Z0 : w6.frozen? ⟨w.heap.size + 1, 0, none⟩ = false := by rw [hb6.frozen (p := ⟨w.heap.size + 1, 0, none⟩) (by simp; omega)]; exact Z0
      replace Z1 : w6.frozen? ⟨w.heap.size + 1, 1, none⟩ = false := by rw [hb6.frozen (p := ⟨w.heap.size + 1, 1, none⟩) (by simp; omega)]; exact Z1
      replace Z2 : w6.frozen? ⟨w.heap.size + 1, 2, none⟩ = false := by rw [hb6.frozen (p := ⟨w.heap.size + 1, 2, none⟩) (by simp; omega)]; exact Z2
      replace Z3 : w6.frozen? ⟨w.heap.size + 1, 3, none⟩ = false := by rw [hb6.frozen (p := ⟨w.heap.size + 1, 3, none⟩) (by simp; omega)]; exact Z3
      replace Z4 : w6.frozen? ⟨w.heap.size + 1, 4, none⟩ = false := by rw [hb6.frozen (p := ⟨w.heap.size + 1, 4, none⟩) (by simp; omega)]; exact Z4
      have b6 := b5.trans (hb6.mono b5.size)
      replace HRO := hide (HRO.out.below hb6 (by omega))
      replace HYR := hide (rowr_below HYR.out hb6 HYL.out)
      replace HYL := hide (fun h => Nat.lt_of_lt_of_le (HYL.out h) hs6)
      clear b5 hb6
      try go_wp2_with fail
      refine hK.out _ _ ?_ ?_
      · (try dsimp only); exact ⟨S0, S1, U0, U1⟩
      clear hHeld hK K
      intro hHeld
      try simp only [Act.put, List.setIfInBounds_toArray, List.set_cons_zero, List.set_cons_succ]
      refine wpAnyH_ready (rs := [9]) (by kernel_rfl) (by simp) ?_
      refine AllReadyH.cons (o := ⟨_, _, _, _, _, _⟩) rfl (fun K hK => ?_) AllReadyH.nil
      go_simp
      go_at_call 89
      refine (blankOf_calls 0 _).mono ?_
      rintro e w7 ⟨rfl, hb7⟩
      have hs7 : w6.heap.size ≤ w7.heap.size := hb7.size
      replace A0 := cellb hb7 A0
      replace A1 := cellb hb7 A1
      replace A2 := cellb hb7 A2
      replace A3 := cellb hb7 A3
      replace R0 := cellb hb7 R0
      replace R1 := cellb hb7 R1
      replace R2 := cellb hb7 R2
      replace R3 := cellb hb7 R3
      replace R4 := cellb hb7 R4
      replace S0 := cellb hb7 S0
      replace S1 := cellb hb7 S1
      replace U0 := cellb hb7 U0
      replace U1 := cellb hb7 U1
      replace Z0 : w7.frozen? ⟨w.heap.size + 1, 0, none⟩ = false := by rw [hb7.frozen (p := ⟨w.heap.size + 1, 0, none⟩) (by simp; omega)]; exact Z0
      replace Z1 : w7.frozen? ⟨w.heap.size + 1, 1, none⟩ = false := by rw [hb7.frozen (p := ⟨w.heap.size + 1, 1, none⟩) (by simp; omega)]; exact Z1
      replace Z2 : w7.frozen? ⟨w.heap.size + 1, 2, none⟩ = false := by rw [hb7.frozen (p := ⟨w.heap.size + 1, 2, none⟩) (by simp; omega)]; exact Z2
      replace Z3 : w7.frozen? ⟨w.heap.size + 1, 3, none⟩ = false := by rw [hb7.frozen (p := ⟨w.heap.size + 1, 3, none⟩) (by simp; omega)]; exact Z3
      replace Z4 : w7.frozen? ⟨w.heap.size + 1, 4, none⟩ = false := by rw [hb7.frozen (p := ⟨w.heap.size + 1, 4, none⟩) (by simp; omega)]; exact Z4
      have b7 := b6.trans (hb7.mono b6.size)
      replace HRO := hide (HRO.out.below hb7 (by omega))
      replace HYR := hide (rowr_below HYR.out hb7 HYL.out)
      replace HYL := hide (fun h => Nat.lt_of_lt_of_le (HYL.out h) hs7)
      clear b6 hb7
      try go_wp2_with fail
      refine hK.out _ _ ?_ ?_
      · (try dsimp only); exact ⟨S0, S1, U0, U1⟩
      clear hHeld hK K
      intro hHeld
      try simp only [Act.put, List.setIfInBounds_toArray, List.set_cons_zero, List.set_cons_succ]
      refine wpAnyH_ready (rs := [10]) (by kernel_rfl) (by simp) ?_
      refine AllReadyH.cons (o := ⟨_, _, _, _, _, _⟩) rfl (fun K hK => ?_) AllReadyH.nil
      go_simp
      go_at_call 88
      refine (resized_calls wd (Hb : Int) (W' : Int) 32 0 by' 0 Hb W bs.length cy Hb W' M' _ _ w7 HYR.out E2.out EW.out rfl rfl E5.out (by omega) (by omega) (by omega) (by omega) (by omega) (by omega) hyc HYA.out (by omega) (by omega)).mono ?_
      rintro e w8 ⟨bp, rfl, o3, o4, hrp, hb8⟩
      have hs8 : w7.heap.size ≤ w8.heap.size := hb8.size
      rw [Nat.min_self] at hrp
      have HRP := hide hrp
      clear hrp
      replace A0 := cellb hb8 A0
      replace A1 := cellb hb8 A1
      replace A2 := cellb hb8 A2
      replace A3 := cellb hb8 A3
      replace R0 := cellb hb8 R0
      replace R1 := cellb hb8 R1
      replace R2 := cellb hb8 R2
      replace R3 := cellb hb8 R3
      replace R4 := cellb hb8 R4
      replace S0 := cellb hb8 S0
      replace S1 := cellb hb8 S1
      replace U0 := cellb hb8 U0
      replace U1 := cellb hb8 U1
      replace Z0 : w8.frozen? ⟨w.heap.size + 1, 0, none⟩ = false := by rw [hb8.frozen (p := ⟨w.heap.size + 1, 0, none⟩) (by simp; omega)]; exact Z0
      replace Z1 : w8.frozen? ⟨w.heap.size + 1, 1, none⟩ = false := by rw [hb8.frozen (p := ⟨w.heap.size + 1, 1, none⟩) (by simp; omega)]; exact Z1
      replace Z2 : w8.frozen? ⟨w.heap.size + 1, 2, none⟩ = false := by rw [hb8.frozen (p := ⟨w.heap.size + 1, 2, none⟩) (by simp; omega)]; exact Z2
      replace Z3 : w8.frozen? ⟨w.heap.size + 1, 3, none⟩ = false := by rw [hb8.frozen (p := ⟨w.heap.size + 1, 3, none⟩) (by simp; omega)]; exact Z3
      replace Z4 : w8.frozen? ⟨w.heap.size + 1, 4, none⟩ = false := by rw [hb8.frozen (p := ⟨w.heap.size + 1, 4, none⟩) (by simp; omega)]; exact Z4
      have b8 := b7.trans (hb8.mono b7.size)
      replace HRO := hide (HRO.out.below hb8 (by omega))
      clear HYR HYL HYA
      clear b7 hb8
      try go_wp2_with fail
      refine hK.out _ _ ?_ ?_
      · (try dsimp only); exact ⟨S0, S1, U0, U1⟩
      clear hHeld hK K
      intro hHeld
      try simp only [Act.put, List.setIfInBounds_toArray, List.set_cons_zero, List.set_cons_succ]
      refine wpAnyH_ready (rs := [11]) (by kernel_rfl) (by simp) ?_
      refine AllReadyH.cons (o := ⟨_, _, _, _, _, _⟩) rfl (fun K hK => ?_) AllReadyH.nil
      go_simp
      go_at_call 87
      refine (gridOf_calls (W' : Int) (W' : Int) (by omega) (by omega) (some ⟨bo, 0, none⟩) (some ⟨bp, 0, none⟩) N' M' N' M' (by omega) w8).mono ?_
      rintro e w9 ⟨rfl, hb9⟩
      rw [EQ1.out]
      have hs9 : w8.heap.size ≤ w9.heap.size := hb9.size
      replace A0 := cellb hb9 A0
      replace A1 := cellb hb9 A1
      replace A2 := cellb hb9 A2
      replace A3 := cellb hb9 A3
      replace R0 := cellb hb9 R0
      replace R1 := cellb hb9 R1
      replace R2 := cellb hb9 R2
      replace R3 := cellb hb9 R3
      replace R4 := cellb hb9 R4
      replace S0 := cellb hb9 S0
      replace S1 := cellb hb9 S1
      replace U0 := cellb hb9 U0
      replace U1 := cellb hb9 U1
      replace Z0 : w9.frozen? ⟨w.heap.size + 1, 0, none⟩ = false := by rw [hb9.frozen (p := ⟨w.heap.size + 1, 0, none⟩) (by simp; omega)]; exact Z0
      replace Z1 : w9.frozen? ⟨w.heap.size + 1, 1, none⟩ = false := by rw [hb9.frozen (p := ⟨w.heap.size + 1, 1, none⟩) (by simp; omega)]; exact Z1
      replace Z2 : w9.frozen? ⟨w.heap.size + 1, 2, none⟩ = false := by rw [hb9.frozen (p := ⟨w.heap.size + 1, 2, none⟩) (by simp; omega)]; exact Z2
      replace Z3 : w9.frozen? ⟨w.heap.size + 1, 3, none⟩ = false := by rw [hb9.frozen (p := ⟨w.heap.size + 1, 3, none⟩) (by simp; omega)]; exact Z3
      replace Z4 : w9.frozen? ⟨w.heap.size + 1, 4, none⟩ = false := by rw [hb9.frozen (p := ⟨w.heap.size + 1, 4, none⟩) (by simp; omega)]; exact Z4
      have b9 := b8.trans (hb9.mono b8.size)
      replace HRO := hide (HRO.out.below hb9 (by omega))
      replace HRP := hide (HRP.out.below hb9 (by omega))
      clear b8 hb9
      try go_wp2_with fail
      refine hK.out _ _ ?_ ?_
      · (try dsimp only); exact ⟨S0, S1, U0, U1⟩
      clear hHeld hK K
      intro hHeld
      try simp only [Act.put, List.setIfInBounds_toArray, List.set_cons_zero, List.set_cons_succ]
      refine wpAnyH_ready (rs := [12]) (by kernel_rfl) (by simp) ?_
      refine AllReadyH.cons (o := ⟨_, _, _, _, _, _⟩) rfl (fun K hK => ?_) AllReadyH.nil
      go_simp
      have ht : Touch (w.heap.size + 1) 0 5 w9 (((((w9.setCell ⟨w.heap.size + 1, 0, none⟩ (.int .i64 0)).setCell ⟨w.heap.size + 1, 1, none⟩ (.int .i64 (R' : Int))).setCell ⟨w.heap.size + 1, 2, none⟩ (.int .i64 (W' : Int))).setCell ⟨w.heap.size + 1, 3, none⟩ (.slice (some ⟨bo, 0, none⟩) N' N')).setCell ⟨w.heap.size + 1, 4, none⟩ (.slice (some ⟨bp, 0, none⟩) M' M')) := ((((((Touch.refl _ _ _ _).setCell (by omega) (by omega) _).setCell (by omega) (by omega) _).setCell (by omega) (by omega) _).setCell (by omega) (by omega) _).setCell (by omega) (by omega) _)
      have hr := res5 (w := w9) (r := w.heap.size + 1) (.int .i64 0) (.int .i64 (R' : Int)) (.int .i64 (W' : Int)) (.slice (some ⟨bo, 0, none⟩) N' N') (.slice (some ⟨bp, 0, none⟩) M' M') R0 R1 R2 R3 R4
      generalize (((((w9.setCell ⟨w.heap.size + 1, 0, none⟩ (.int .i64 0)).setCell ⟨w.heap.size + 1, 1, none⟩ (.int .i64 (R' : Int))).setCell ⟨w.heap.size + 1, 2, none⟩ (.int .i64 (W' : Int))).setCell ⟨w.heap.size + 1, 3, none⟩ (.slice (some ⟨bo, 0, none⟩) N' N')).setCell ⟨w.heap.size + 1, 4, none⟩ (.slice (some ⟨bp, 0, none⟩) M' M')) = wx at *
      have bx' : Below w.heap.size w wx := b9.trans (ht.below (by omega) (by omega))
      have HT := hide ht
      replace S0 := ht.cellAt S0 (by omega)
      replace S1 := ht.cellAt S1 (by omega)
      replace U0 := ht.cellAt U0 (by omega)
      replace U1 := ht.cellAt U1 (by omega)
      clear ht b9
      refine hK.out _ _ ?_ ?_
      · (try dsimp only); exact ⟨S0, S1, U0, U1⟩
      clear hHeld hK K
      intro hHeld
      try simp only [Act.put, List.setIfInBounds_toArray, List.set_cons_zero, List.set_cons_succ]
      refine wpAnyH_done (by kernel_rfl) ?_ _
      clear hHeld
      go_wp2
      refine bodyPost_ret (v := .agg #[.int .i64 0, .int .i64 (R' : Int), .int .i64 (W' : Int), .slice (some ⟨bo, 0, none⟩) N' N', .slice (some ⟨bp, 0, none⟩) M' M']) (by simp only [results, Try.results38]; simp [go_sem, hr.1, hr.2.1, hr.2.2.1, hr.2.2.2.1, hr.2.2.2.2]) rfl ⟨_, _, rfl, ?_, bx'⟩
      exact (gown_two (w := w9) (base := w1.heap.size) HRO.out HRP.out (by omega) (by omega) (by omega) HT.out.size (fun k hk => by
        by_cases h : k < w1.heap.size
        · exact .inr h
        · exact .inl (HT.out.block k hk (by omega)))).mono (by omega) (Nat.le_refl _)
  · rw [resizeRes_def, gres_fault hG]
    generalize gridCode r wd cs bs = code at *
    have hcb : (code != 0) = true := by simpa using hG
    simp only [gbad]
    go_enter Try.func38, Try.ntmps38
    go_wp2_with fail
    refine HF.mono ?_
    rintro e w1 ⟨rfl, hb1⟩
    have A0 : w1.cell? ⟨w.heap.size, 0, none⟩ = some (.int .i64 r) := cellb hb1 (by simp [go_sem])
    have A1 : w1.cell? ⟨w.heap.size, 1, none⟩ = some (.int .i64 wd) := cellb hb1 (by simp [go_sem])
    have A2 : w1.cell? ⟨w.heap.size, 2, none⟩ = some (.slice a1 cs.length c1) := cellb hb1 (by simp [go_sem])
    have A3 : w1.cell? ⟨w.heap.size, 3, none⟩ = some (.slice a2 bs.length c2) := cellb hb1 (by simp [go_sem])
    have R0 : w1.cell? ⟨w.heap.size + 1, 0, none⟩ = some (.int .i64 0) := cellb hb1 (by simp [go_sem])
    have Z0 : w1.frozen? ⟨w.heap.size + 1, 0, none⟩ = false := by rw [hb1.frozen (p := ⟨w.heap.size + 1, 0, none⟩) (by simp)]; simp [go_sem]
    have R1 : w1.cell? ⟨w.heap.size + 1, 1, none⟩ = some (.int .i64 0) := cellb hb1 (by simp [go_sem])
    have Z1 : w1.frozen? ⟨w.heap.size + 1, 1, none⟩ = false := by rw [hb1.frozen (p := ⟨w.heap.size + 1, 1, none⟩) (by simp)]; simp [go_sem]
    have R2 : w1.cell? ⟨w.heap.size + 1, 2, none⟩ = some (.int .i64 0) := cellb hb1 (by simp [go_sem])
    have Z2 : w1.frozen? ⟨w.heap.size + 1, 2, none⟩ = false := by rw [hb1.frozen (p := ⟨w.heap.size + 1, 2, none⟩) (by simp)]; simp [go_sem]
    have R3 : w1.cell? ⟨w.heap.size + 1, 3, none⟩ = some (.slice none 0 0) := cellb hb1 (by simp [go_sem])
    have Z3 : w1.frozen? ⟨w.heap.size + 1, 3, none⟩ = false := by rw [hb1.frozen (p := ⟨w.heap.size + 1, 3, none⟩) (by simp)]; simp [go_sem]
    have R4 : w1.cell? ⟨w.heap.size + 1, 4, none⟩ = some (.slice none 0 0) := cellb hb1 (by simp [go_sem])
    have Z4 : w1.frozen? ⟨w.heap.size + 1, 4, none⟩ = false := by rw [hb1.frozen (p := ⟨w.heap.size + 1, 4, none⟩) (by simp)]; simp [go_sem]
    have hs1 : w.heap.size + 2 ≤ w1.heap.size := by have := hb1.size; simp at this; omega
    have b1 : Below w.heap.size w w1 := hb0.trans (hb1.mono (by simp; omega))
    clear hb1 hb0 HF
    have hr := res5 (w := w1) (r := w.heap.size + 1) (.int .i64 code) (.int .i64 0) (.int .i64 0) (.slice none 0 0) (.slice none 0 0) R0 R1 R2 R3 R4
    go_wp2
    refine bodyPost_ret (v := .agg #[.int .i64 code, .int .i64 0, .int .i64 0, .slice none 0 0, .slice none 0 0]) (by simp only [results, Try.results38]; simp [go_sem, hr.1, hr.2.1, hr.2.2.1, hr.2.2.2.1, hr.2.2.2.2]) rfl ⟨_, _, rfl, ?_, b1.trans (show Below w.heap.size w1 _ from (by repeat' (first | with_reducible exact Below.refl _ _ | with_reducible assumption | with_reducible refine Below.drew ?_ | with_reducible refine Below.alloc ?_ ?_ _ | with_reducible refine Below.setCell ?_ ?_ _ | (simp; done) | (simp; omega) | omega)))⟩
    exact GOwn.nil _ _ _ (by have := b1.size; simp [World.setCell]; omega)

end Go.Proofs.Ytknkbihjboadjaa
