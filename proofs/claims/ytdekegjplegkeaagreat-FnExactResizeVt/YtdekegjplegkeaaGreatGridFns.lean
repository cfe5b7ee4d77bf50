/-
  The laws' functions on grids and on their results: szGrid, toGrid, eqGrid, markGrid, heldGrid, eqGridResult, markGridResult, heldGridResult.
-/
import Derived.Test.YtdekegjplegkeaaGreatRows
import Derived.Test.YtdekegjplegkeaaGreatCellFns
import Derived.Test.YtdekegjplegkeaaGreatGridMem
namespace Go.Proofs.YtdekegjplegkeaaGreat
set_option maxRecDepth 20000
open Go.ChangeShapes Go.WideShapes Go.ChangeAt Go.RowKit
set_option linter.unusedVariables false
set_option linter.unusedSimpArgs false

set_option maxHeartbeats 400000 in
theorem szCellS_calls (n : Nat) (L : Int) (hL : 0 ≤ L) (hL2 : L ≤ 1048576) (a : Option Addr) (cap : Nat) (w : World) (hn : n ≤ maxLen) :
    Calls Tryz.prog 81 #[.slice a n cap, .int .i64 L] w fun e w' => e = .returned (.int .i64 (if (n : Int) ≤ L then L - n else -1)) ∧ w' = w := by
  unfold maxLen at hn
  by_cases h : (n : Int) ≤ L
  · rw [if_pos h]
    have hge : ¬ ((L - (n : Int)) < 0) := by omega
    go_enter Tryz.func81, Tryz.ntmps81
    go_wp2
    go_ret
    exact ⟨rfl, rfl⟩
  · rw [if_neg h]
    have hge : ((L - (n : Int)) < 0) := by omega
    go_enter Tryz.func81, Tryz.ntmps81
    go_wp2
    go_ret
    exact ⟨rfl, rfl⟩
set_option maxHeartbeats 400000 in
theorem szGrid_calls (r wd : Int) (n m : Nat) (a1 a2 : Option Addr) (c1 c2 : Nat) (L : Int) (hL : 0 ≤ L) (hL2 : L ≤ 1048576) (w : World) (hn : n ≤ maxLen) (hm : m ≤ maxLen) :
    Calls Tryz.prog 40 #[.agg #[.int .i64 r, .int .i64 wd, .slice a1 n c1, .slice a2 m c2], .int .i64 L] w fun e w' => e = .returned (.int .i64 (if (n : Int) + m ≤ L then L - n - m else -1)) ∧ Below w.heap.size w w' := by
  have hn' := hn
  unfold maxLen at hn'
  have hm' := hm
  unfold maxLen at hm'
  go_enter Tryz.func40, Tryz.ntmps40
  go_wp2_with fail
  refine (szCellS_calls n L hL hL2 a1 c1 _ hn).mono ?_
  rintro e w1 ⟨rfl, rfl⟩
  by_cases h : (n : Int) ≤ L
  · rw [if_pos h]
    have hge : ¬ ((L - (n : Int)) < 0) := by omega
    go_wp2_with fail
    refine (szCellS_calls m (L - n) (by omega) (by omega) a2 c2 _ hm).mono ?_
    rintro e w1 ⟨rfl, rfl⟩
    by_cases h2 : (m : Int) ≤ L - n
    · rw [if_pos h2]
      have hge2 : ¬ ((L - (n : Int) - m) < 0) := by omega
      go_wp2
      go_ret
      exact ⟨by first | rfl | (rw [if_pos (show (n : Int) + m ≤ L by omega)]; rfl), (by repeat' (first | with_reducible exact Below.refl _ _ | with_reducible assumption | with_reducible refine Below.drew ?_ | with_reducible refine Below.alloc ?_ ?_ _ | with_reducible refine Below.setCell ?_ ?_ _ | (simp; done) | (simp; omega) | omega))⟩
    · rw [if_neg h2]
      go_wp2
      go_ret
      exact ⟨by first | rfl | (rw [if_neg (show ¬ (n : Int) + m ≤ L by omega)]; rfl), (by repeat' (first | with_reducible exact Below.refl _ _ | with_reducible assumption | with_reducible refine Below.drew ?_ | with_reducible refine Below.alloc ?_ ?_ _ | with_reducible refine Below.setCell ?_ ?_ _ | (simp; done) | (simp; omega) | omega))⟩
  · rw [if_neg h]
    go_wp2
    go_ret
    exact ⟨by first | rfl | (rw [if_neg (show ¬ (n : Int) + m ≤ L by omega)]; rfl), (by repeat' (first | with_reducible exact Below.refl _ _ | with_reducible assumption | with_reducible refine Below.drew ?_ | with_reducible refine Below.alloc ?_ ?_ _ | with_reducible refine Below.setCell ?_ ?_ _ | (simp; done) | (simp; omega) | omega))⟩

set_option maxHeartbeats 1000000 in
theorem toGrid_calls (r wd : Int) (cs bs : List (Int × Int)) (v1 v2 : Value) (w : World) (hn1 : cs.length ≤ 1048576) (hn2 : bs.length ≤ 1048576) (h1 : PRead w v1 cs) (h2 : PRead w v2 bs) :
    Calls Tryz.prog 48 #[.agg #[.int .i64 r, .int .i64 wd, v1, v2]] w fun e w' => ∃ x y, e = .returned (.agg #[.int .i64 r, .int .i64 wd, x, y]) ∧ GOwn w.heap.size w'.heap.size w' x y cs bs ∧ Below w.heap.size w w' := by
  have h1' := h1
  obtain ⟨a1, c1, rfl, _⟩ := h1'
  have h2' := h2
  obtain ⟨a2, c2, rfl, _⟩ := h2'
  go_enter Tryz.func48, Tryz.ntmps48
  go_wp2_with fail
  refine (toCellS_calls cs _ _ hn1 (h1.below ?hb)).mono ?_
  case hb => exact (by repeat' (first | with_reducible exact Below.refl _ _ | with_reducible assumption | with_reducible refine Below.drew ?_ | with_reducible refine Below.alloc ?_ ?_ _ | with_reducible refine Below.setCell ?_ ?_ _ | (simp; done) | (simp; omega) | omega))
  rintro e w1 ⟨x, rfl, hx, hb1⟩
  have hW : Below w.heap.size w _ := Below.trans (b := _) ?hq (hb1.mono ?hq2)
  case hq => exact (by repeat' (first | with_reducible exact Below.refl _ _ | with_reducible assumption | with_reducible refine Below.drew ?_ | with_reducible refine Below.alloc ?_ ?_ _ | with_reducible refine Below.setCell ?_ ?_ _ | (simp; done) | (simp; omega) | omega))
  case hq2 => simp [World.setCell]; omega
  have hs1 : w.heap.size + 3 ≤ w1.heap.size := by have := hb1.size; simp [World.setCell] at this; omega
  have A3 : w1.cell? ⟨w.heap.size, 3, none⟩ = some (.slice a2 bs.length c2) := cellb hb1 (by simp [go_sem])
  have k0 : w1.cell? ⟨w.heap.size + 1, 0, none⟩ = some (.int .i64 0) := cellb hb1 (by simp [go_sem])
  have k1 : w1.cell? ⟨w.heap.size + 1, 1, none⟩ = some (.int .i64 0) := cellb hb1 (by simp [go_sem])
  have k2 : w1.cell? ⟨w.heap.size + 1, 2, none⟩ = some (.slice none 0 0) := cellb hb1 (by simp [go_sem])
  have k3 : w1.cell? ⟨w.heap.size + 1, 3, none⟩ = some (.slice none 0 0) := cellb hb1 (by simp [go_sem])
  have j0 : w1.cell? ⟨w.heap.size + 2, 0, none⟩ = some (.int .i64 r) := cellb hb1 (by simp [go_sem])
  have j1 : w1.cell? ⟨w.heap.size + 2, 1, none⟩ = some (.int .i64 wd) := cellb hb1 (by simp [go_sem])
  have j2 : w1.cell? ⟨w.heap.size + 2, 2, none⟩ = some (.slice none 0 0) := cellb hb1 (by simp [go_sem])
  have j3 : w1.cell? ⟨w.heap.size + 2, 3, none⟩ = some (.slice none 0 0) := cellb hb1 (by simp [go_sem])
  have fz : ∀ b o, b < w.heap.size + 3 → w.heap.size ≤ b → w1.frozen? ⟨b, o, none⟩ = false := fun b o hb hb' => by
    rw [hb1.frozen (p := ⟨b, o, none⟩) (by simp [World.setCell]; omega)]
    try simp only [World.frozen?_setCell]
    obtain rfl | rfl | rfl : b = w.heap.size ∨ b = w.heap.size + 1 ∨ b = w.heap.size + 2 := by omega
    all_goals simp [go_sem]
  have z0 := fz (w.heap.size + 1) 0 (by omega) (by omega)
  have z1 := fz (w.heap.size + 1) 1 (by omega) (by omega)
  have z2 := fz (w.heap.size + 1) 2 (by omega) (by omega)
  have z3 := fz (w.heap.size + 1) 3 (by omega) (by omega)
  have y2 := fz (w.heap.size + 2) 2 (by omega) (by omega)
  have y3 := fz (w.heap.size + 2) 3 (by omega) (by omega)
  obtain ⟨a3, c3, rfl, hx'⟩ := hx
  have hx : PairsAt (w.heap.size + 3) w1.heap.size w1 (.slice a3 cs.length c3) cs := PairsAt.mono ⟨a3, c3, rfl, hx'⟩ (by simp [World.setCell]) (Nat.le_refl _)
  clear hx' hb1 fz
  have t2 : Touch (w.heap.size + 2) 2 3 w1 (w1.setCell ⟨w.heap.size + 2, 2, none⟩ (.slice a3 cs.length c3)) := (Touch.refl _ _ _ _).setCell (by omega) (by omega) _
  have J2 : (w1.setCell ⟨w.heap.size + 2, 2, none⟩ (.slice a3 cs.length c3)).cell? ⟨w.heap.size + 2, 2, none⟩ = some (.slice a3 cs.length c3) := World.cell?_setCell_same _ _ _ j2
  go_wp2_with fail
  generalize (w1.setCell ⟨w.heap.size + 2, 2, none⟩ (.slice a3 cs.length c3)) = w2 at *
  have hW2 : Below w.heap.size w w2 := hW.trans (t2.below (by omega) (by omega))
  refine (toCellS_calls bs _ _ hn2 (h2.below hW2)).mono ?_
  rintro e w3 ⟨y, rfl, hy, hb3⟩
  have hs2 : w1.heap.size ≤ w2.heap.size := t2.size
  have hs3 : w2.heap.size ≤ w3.heap.size := hb3.size
  have hW3 : Below w.heap.size w w3 := hW2.trans (hb3.mono (by omega))
  replace k0 := cellb hb3 (t2.cellAt k0 (by omega))
  replace k1 := cellb hb3 (t2.cellAt k1 (by omega))
  replace k2 := cellb hb3 (t2.cellAt k2 (by omega))
  replace k3 := cellb hb3 (t2.cellAt k3 (by omega))
  replace j0 := cellb hb3 (t2.cellAt j0 (by omega))
  replace j1 := cellb hb3 (t2.cellAt j1 (by omega))
  replace j3 := cellb hb3 (t2.cellAt j3 (by omega))
  replace J2 := cellb hb3 J2
  replace z0 : w3.frozen? ⟨w.heap.size + 1, 0, none⟩ = false := by rw [hb3.frozen (p := ⟨w.heap.size + 1, 0, none⟩) (by simp; omega)]; exact t2.frozenAt (by omega) z0
  replace z1 : w3.frozen? ⟨w.heap.size + 1, 1, none⟩ = false := by rw [hb3.frozen (p := ⟨w.heap.size + 1, 1, none⟩) (by simp; omega)]; exact t2.frozenAt (by omega) z1
  replace z2 : w3.frozen? ⟨w.heap.size + 1, 2, none⟩ = false := by rw [hb3.frozen (p := ⟨w.heap.size + 1, 2, none⟩) (by simp; omega)]; exact t2.frozenAt (by omega) z2
  replace z3 : w3.frozen? ⟨w.heap.size + 1, 3, none⟩ = false := by rw [hb3.frozen (p := ⟨w.heap.size + 1, 3, none⟩) (by simp; omega)]; exact t2.frozenAt (by omega) z3
  replace y3 : w3.frozen? ⟨w.heap.size + 2, 3, none⟩ = false := by rw [hb3.frozen (p := ⟨w.heap.size + 2, 3, none⟩) (by simp; omega)]; exact t2.frozenAt (by omega) y3
  replace hx := (hx.within (t2.within (lo := w.heap.size) (hi := w.heap.size + 3) (by omega) (by omega)) (Nat.le_refl _) (by omega)).below hb3 (by omega)
  obtain ⟨a4, c4, rfl, hy'⟩ := hy
  have hy : PairsAt w2.heap.size w3.heap.size w3 (.slice a4 bs.length c4) bs := ⟨a4, c4, rfl, hy'⟩
  clear hy' t2 hb3 hW hW2 A3 j2 y2
  have J3 : (w3.setCell ⟨w.heap.size + 2, 3, none⟩ (.slice a4 bs.length c4)).cell? ⟨w.heap.size + 2, 3, none⟩ = some (.slice a4 bs.length c4) := World.cell?_setCell_same _ _ _ j3
  have t3 : Touch (w.heap.size + 2) 3 4 w3 (w3.setCell ⟨w.heap.size + 2, 3, none⟩ (.slice a4 bs.length c4)) := (Touch.refl _ _ _ _).setCell (by omega) (by omega) _
  have HR := hide (res4 (w := w3.setCell ⟨w.heap.size + 2, 3, none⟩ (.slice a4 bs.length c4)) (r := w.heap.size + 1) (.int .i64 r) (.int .i64 wd) (.slice a3 cs.length c3) (.slice a4 bs.length c4) (t3.cellAt k0 (by omega)) (t3.cellAt k1 (by omega)) (t3.cellAt k2 (by omega)) (t3.cellAt k3 (by omega)))
  have T0 := hide t3
  clear t3
  go_wp2
  have hr := HR.out
  refine bodyPost_ret (v := .agg #[.int .i64 r, .int .i64 wd, .slice a3 cs.length c3, .slice a4 bs.length c4]) (by simp only [results, Tryz.results48]; simp [go_sem, hr.1, hr.2.1, hr.2.2.1, hr.2.2.2]) rfl ⟨_, _, rfl, ?_, ?_⟩
  · refine (GOwn.of hx hy (lo := w.heap.size + 3) (hi := w3.heap.size) (by omega) (by omega) (by omega) (by omega) (by omega)).of_blocks ?_ |>.mono (by omega) (by simp [World.setCell])
    intro i hi _
    simp only [World.setCell, Array.getElem?_modify]
    repeat rw [if_neg (by omega)]
  · exact (by repeat' (first | with_reducible exact Below.refl _ _ | with_reducible assumption | with_reducible refine Below.drew ?_ | with_reducible refine Below.alloc ?_ ?_ _ | with_reducible refine Below.setCell ?_ ?_ _ | (simp; done) | (simp; omega) | omega))

set_option maxHeartbeats 400000 in
theorem eqGrid_calls (r wd : Int) (cs bs : List (Int × Int)) (u1 u2 v1 v2 : Value) (w : World) (hn1 : cs.length ≤ 1000000000) (hn2 : bs.length ≤ 1000000000) (h1 : PRead w u1 cs) (h2 : PRead w u2 bs) (h3 : PRead w v1 cs) (h4 : PRead w v2 bs) :
    Calls Tryz.prog 51 #[.agg #[.int .i64 r, .int .i64 wd, u1, u2], .agg #[.int .i64 r, .int .i64 wd, v1, v2]] w fun e w' => e = .returned (.bool true) ∧ Below w.heap.size w w' := by
  have h1' := h1
  obtain ⟨a1, c1, rfl, _⟩ := h1'
  have h2' := h2
  obtain ⟨a2, c2, rfl, _⟩ := h2'
  have h3' := h3
  obtain ⟨a3, c3, rfl, _⟩ := h3'
  have h4' := h4
  obtain ⟨a4, c4, rfl, _⟩ := h4'
  have hne1 : (r != r) = false := by simp
  have hne2 : (wd != wd) = false := by simp
  go_enter Tryz.func51, Tryz.ntmps51
  go_wp2_with fail
  have hb : Below w.heap.size w ((w.alloc (.cells #[.int .i64 r, .int .i64 wd, .slice a1 cs.length c1, .slice a2 bs.length c2] 35)).alloc (.cells #[.int .i64 r, .int .i64 wd, .slice a3 cs.length c3, .slice a4 bs.length c4] 35)) := (by repeat' (first | with_reducible exact Below.refl _ _ | with_reducible assumption | with_reducible refine Below.drew ?_ | with_reducible refine Below.alloc ?_ ?_ _ | with_reducible refine Below.setCell ?_ ?_ _ | (simp; done) | (simp; omega) | omega))
  refine (eqCellS_calls cs _ _ _ hn1 (h1.below hb) (h3.below hb)).mono ?_
  rintro e w1 ⟨rfl, hb1⟩
  have A3 : w1.cell? ⟨w.heap.size, 3, none⟩ = some (.slice a2 bs.length c2) := cellb hb1 (by simp)
  have B3 : w1.cell? ⟨w.heap.size + 1, 3, none⟩ = some (.slice a4 bs.length c4) := cellb hb1 (by simp)
  have hb2 := hb.trans (hb1.mono hb.size)
  clear hb1 hb
  go_wp2_with fail
  refine (eqCellS_calls bs _ _ _ hn2 (h2.below hb2) (h4.below hb2)).mono ?_
  rintro e w2 ⟨rfl, hb3⟩
  go_wp2
  go_ret
  exact ⟨rfl, hb2.trans (hb3.mono hb2.size)⟩

set_option maxHeartbeats 400000 in
theorem markGrid_calls (r wd : Int) (cs bs : List (Int × Int)) (k0 : Int) (lo hi : Nat) (x y : Value) (w : World) (hn1 : cs.length ≤ 1048576) (hn2 : bs.length ≤ 1048576) (hk : 0 ≤ k0) (hk0 : k0 ≤ 2000000) (hh : hi ≤ w.heap.size) (h : GOwn lo hi w x y cs bs) :
    Calls Tryz.prog 54 #[.agg #[.int .i64 r, .int .i64 wd, x, y], .int .i64 k0] w fun e w' => e = .returned (.int .i64 (k0 + 2 * cs.length + 2 * bs.length)) ∧ GOwn lo hi w' x y (marksP k0 cs.length) (marksP (k0 + 2 * cs.length) bs.length) ∧ Within lo hi w w' := by
  obtain ⟨l1, g1, l2, g2, e1, e2, e3, e4, e5, p1, p2⟩ := h.ex
  obtain ⟨a1, c1, a2, c2, rfl, rfl⟩ := h.forms
  have E5 := hide e5
  clear e5 h
  go_enter Tryz.func54, Tryz.ntmps54
  go_wp2_with fail
  have hb : Below w.heap.size w (w.alloc (.cells #[.int .i64 r, .int .i64 wd, .slice a1 cs.length c1, .slice a2 bs.length c2] 35)) := (by repeat' (first | with_reducible exact Below.refl _ _ | with_reducible assumption | with_reducible refine Below.drew ?_ | with_reducible refine Below.alloc ?_ ?_ _ | with_reducible refine Below.setCell ?_ ?_ _ | (simp; done) | (simp; omega) | omega))
  refine (markCellS_calls cs k0 l1 g1 _ _ (by omega) hk (by omega) (p1.below hb (by omega))).mono ?_
  rintro e w1 ⟨rfl, hm1, hw1⟩
  have A3 : w1.cell? ⟨w.heap.size, 3, none⟩ = some (.slice a2 bs.length c2) := hw1.cell (by simp) (by omega) (by simp)
  have p3 := (p2.below hb (by omega)).within hw1 (by simp; omega) (by have := E5.out; omega)
  have hs1 : w.heap.size + 1 ≤ w1.heap.size := by have := hw1.size; simp at this; omega
  go_wp2_with fail
  refine (markCellS_calls bs (k0 + 2 * cs.length) l2 g2 _ _ (by omega) (by omega) (by omega) p3).mono ?_
  rintro e w2 ⟨rfl, hm2, hw2⟩
  have hm1' := hm1.within hw2 (by omega) (by have := E5.out; omega)
  have hs2 := hw2.size
  go_wp2
  go_ret
  refine ⟨rfl, GOwn.of hm1' hm2 (by omega) (by omega) (by omega) (by omega) E5.out, (Within.of_below hb (Nat.le_refl _)).trans ((within_mono hw1 (by omega) (by omega)).trans (within_mono hw2 (by omega) (by omega)))⟩

set_option maxHeartbeats 400000 in
theorem heldGrid_calls (r wd : Int) (cs bs : List (Int × Int)) (k0 : Int) (x y : Value) (w : World) (hn1 : cs.length ≤ 1048576) (hn2 : bs.length ≤ 1048576) (hk : 0 ≤ k0) (hk0 : k0 ≤ 2000000) (h1 : PRead w x cs) (h2 : PRead w y bs)
    (m1 : ∀ i, i < cs.length → cs.getD i (0, 0) = ((k0 + 2 * i : Int), (k0 + 2 * i + 1 : Int))) (m2 : ∀ i, i < bs.length → bs.getD i (0, 0) = ((k0 + 2 * cs.length + 2 * i : Int), (k0 + 2 * cs.length + 2 * i + 1 : Int))) :
    Calls Tryz.prog 97 #[.agg #[.int .i64 r, .int .i64 wd, x, y], .int .i64 k0] w fun e w' => e = .returned (.int .i64 (k0 + 2 * cs.length + 2 * bs.length)) ∧ Below w.heap.size w w' := by
  have h1' := h1
  obtain ⟨a1, c1, rfl, _⟩ := h1'
  have h2' := h2
  obtain ⟨a2, c2, rfl, _⟩ := h2'
  go_enter Tryz.func97, Tryz.ntmps97
  go_wp2_with fail
  have hb : Below w.heap.size w (w.alloc (.cells #[.int .i64 r, .int .i64 wd, .slice a1 cs.length c1, .slice a2 bs.length c2] 35)) := (by repeat' (first | with_reducible exact Below.refl _ _ | with_reducible assumption | with_reducible refine Below.drew ?_ | with_reducible refine Below.alloc ?_ ?_ _ | with_reducible refine Below.setCell ?_ ?_ _ | (simp; done) | (simp; omega) | omega))
  refine (heldCellS_calls cs k0 _ _ (by omega) hk (by omega) (h1.below hb) m1).mono ?_
  rintro e w1 ⟨rfl, rfl⟩
  have hge : ¬ (k0 + 2 * (cs.length : Int) < 0) := by omega
  go_wp2_with fail
  refine (heldCellS_calls bs (k0 + 2 * cs.length) _ _ (by omega) (by omega) (by omega) (h2.below hb) m2).mono ?_
  rintro e w1 ⟨rfl, rfl⟩
  have hge2 : ¬ (k0 + 2 * (cs.length : Int) + 2 * (bs.length : Int) < 0) := by omega
  go_wp2
  go_ret
  exact ⟨rfl, hb⟩


end Go.Proofs.YtdekegjplegkeaaGreat
