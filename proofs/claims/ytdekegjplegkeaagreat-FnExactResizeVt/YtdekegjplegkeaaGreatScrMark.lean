/-
  The laws' marks on screens: markBoolS, heldBoolS, markScreen, heldScreen; eqScreenResult, markScreenResult, heldScreenResult.
-/
import Derived.Test.YtdekegjplegkeaaGreatScrFns
namespace Go.Proofs.YtdekegjplegkeaaGreat
set_option maxRecDepth 20000
open Go.ChangeShapes Go.WideShapes Go.ChangeAt Go.RowKit
set_option linter.unusedVariables false
set_option linter.unusedSimpArgs false
set_option maxRecDepth 20000

/-- The twenty-one cells of what a function of the screen answers. -/
def resA (c : Int) (s : Scr) (v1 v2 v3 v4 : Value) : Array Value := #[.int .i64 c, .int .i64 s.r, .int .i64 s.wd, v1, v2, .int .i64 s.y, .int .i64 s.x, .bool s.wrap, .int .i64 s.attr, .int .i64 s.top, .int .i64 s.bot, .bool s.org, .bool s.auto, .bool s.ins, v3, .int .i64 s.ky, .int .i64 s.kx, .int .i64 s.ka, v4, .int .i64 s.sh, .int .i64 s.bells]
theorem resA_0 (c : Int) (s : Scr) (v1 v2 v3 v4 : Value) : (resA c s v1 v2 v3 v4)[0]? = some (.int .i64 c) := rfl
theorem scr_ret {a b : Int} (h : a = b) : Ending.returned (.int .i64 a) = .returned (.int .i64 b) := by rw [h]
set_option maxHeartbeats 400000 in
theorem heldBools_calls (xs : List Bool) (k0 : Int) (v : Value) (w : World) (hn : xs.length ≤ 1000000000) (hk : 0 ≤ k0) (hk0 : k0 ≤ 1000000000) (h1 : BRead w v xs) (hm : ∀ i, i < xs.length → xs.getD i false = mk3 (k0 + i : Int)) :
    Calls Tryz.prog 98 #[v, .int .i64 k0] w fun e w' => e = .returned (.int .i64 (k0 + xs.length)) ∧ w' = w := by
  obtain ⟨a1, c1, rfl, h1⟩ := h1
  go_enter Tryz.func98, Tryz.ntmps98
  go_wp2
  go_loop [1, 5] (fun t i => ∃ k : Nat, k ≤ xs.length ∧ i = .int .i64 k ∧ t = .int .i64 (k0 + k)) (fun _ i => xs.length - (intOf i).toNat)
  case atStart => exact ⟨0, Nat.zero_le _, rfl, by simp⟩
  case round =>
    obtain ⟨k, hkk, rfl, rfl⟩ := hrel
    by_cases hlt : k < xs.length
    · have hpos : xs ≠ [] := by intro h; rw [h] at hlt; simp at hlt
      rcases h1 with h1 | ⟨b1, o1, rfl, h1⟩
      · exact absurd h1 hpos
      have g1 := h1 k hlt
      have e1 := hm k hlt
      rw [e1] at g1
      have hltI : (k : Int) < (xs.length : Int) := by omega
      clear h1 hpos e1 hm
      have hm3 : (((k0 + (k : Int)) % 3) == 0) = mk3 (k0 + k) := by unfold mk3; rw [Bool.eq_iff_iff]; simp
      have hne2 : ((mk3 (k0 + (k : Int))) != mk3 (k0 + k)) = false := by simp
      go_wp2
      go_round
      case rel => exact ⟨k + 1, by omega, by go_num, by go_num⟩
      case measure => simp [intOf]; omega
    · have hk' : k = xs.length := by omega
      subst hk'
      go_wp2
      go_ret
      exact ⟨rfl, rfl⟩

set_option maxHeartbeats 400000 in
theorem markBools_calls (xs : List Bool) (k0 : Int) (lo hi : Nat) (v : Value) (w : World) (hn : xs.length ≤ 1000000000) (hk : 0 ≤ k0) (hk0 : k0 ≤ 1000000000) (h1 : BoolsAt lo hi w v xs) :
    Calls Tryz.prog 55 #[v, .int .i64 k0] w fun e w' => e = .returned (.int .i64 (k0 + xs.length)) ∧ BoolsAt lo hi w' v (marksT k0 xs.length) ∧ Within lo hi w w' := by
  obtain ⟨a1, c1, rfl, h1⟩ := h1
  by_cases hnil : xs = []
  · subst hnil
    go_enter Tryz.func55, Tryz.ntmps55
    go_wp2
    go_loop [1, 5] (fun t i => t = .int .i64 k0 ∧ i = .int .i64 0) (fun _ i => 0)
    case atStart => exact ⟨rfl, rfl⟩
    case round =>
      obtain ⟨rfl, rfl⟩ := hrel
      go_wp2
      go_ret
      exact ⟨rfl, BoolsAt.nil _ _ _ _ _, Within.refl _ _ _⟩
  · rcases h1 with h1 | ⟨b, off, rfl, hl, hh, h1⟩
    · exact absurd h1 hnil
    go_enter Tryz.func55, Tryz.ntmps55
    go_wp2
    go_loopw [1, 5] (fun t i wr => ∃ k : Nat, k ≤ xs.length ∧ i = .int .i64 k ∧ t = .int .i64 (k0 + k) ∧ Within lo hi w wr ∧
        (∀ j, j < xs.length → wr.frozen? ⟨b, off + j, none⟩ = false) ∧ (∀ j, j < xs.length → ∃ u, wr.cell? ⟨b, off + j, none⟩ = some u) ∧ ∀ j, j < k → wr.cell? ⟨b, off + j, none⟩ = some (.bool (mk3 (k0 + j)))) (fun _ i _ => xs.length - (intOf i).toNat)
    case atStart => exact ⟨0, Nat.zero_le _, rfl, by simp, Within.refl _ _ _, fun j hj => (h1 j hj).2, fun j hj => ⟨_, (h1 j hj).1⟩, fun j hj => by omega⟩
    case round =>
      obtain ⟨k, hkk, rfl, rfl, hw, hf, hu, hc⟩ := hrel
      by_cases hlt : k < xs.length
      · have f1 := hf k hlt
        obtain ⟨u, g1⟩ := hu k hlt
        have hltI : (k : Int) < (xs.length : Int) := by omega
        have HF : Hid (∀ j, j < xs.length → wr.frozen? ⟨b, off + j, none⟩ = false) := hf
        have HU : Hid (∀ j, j < xs.length → ∃ u, wr.cell? ⟨b, off + j, none⟩ = some u) := hu
        have HC : Hid (∀ j, j < k → wr.cell? ⟨b, off + j, none⟩ = some (.bool (mk3 (k0 + j)))) := hc
        clear hf hu hc h1
        have hm3 : (((k0 + (k : Int)) % 3) == 0) = mk3 (k0 + k) := by unfold mk3; rw [Bool.eq_iff_iff]; simp
        go_wp2
        go_roundw
        case rel =>
          refine ⟨k + 1, by omega, by go_num, by go_num, hw.setCell hl hh _, fun j hj => ?_, fun j hj => ?_, fun j hj => ?_⟩
          · rw [World.frozen?_setCell]; exact HF.out j hj
          · by_cases e : j = k
            · subst e; exact ⟨_, World.cell?_setCell_same _ _ _ g1⟩
            · obtain ⟨u', hu'⟩ := HU.out j hj
              exact ⟨u', by rw [World.cell?_setCell_other _ _ _ _ (addr_ne (by omega))]; exact hu'⟩
          · by_cases e : j = k
            · subst e; rw [World.cell?_setCell_same _ _ _ g1]
            · rw [World.cell?_setCell_other _ _ _ _ (addr_ne (by omega))]; exact HC.out j (by omega)
        case measure => simp [intOf]; omega
      · have hk' : k = xs.length := by omega
        subst hk'
        go_wp2
        go_ret
        refine ⟨rfl, ⟨_, _, by rw [marksT_length], .inr ⟨b, off, rfl, hl, hh, fun i hi => ?_⟩⟩, hw⟩
        rw [marksT_length] at hi
        rw [marksT_get _ _ _ hi]
        exact ⟨hc i hi, hf i hi⟩

/-- A screen whose lists bear marks from k on; how many marks. -/
def mkScr (k : Int) (s : Scr) : Scr := { s with cs := marksP k s.cs.length, bs := marksP (k + 2 * s.cs.length) s.bs.length, tabs := marksT (k + 2 * s.cs.length + 2 * s.bs.length) s.tabs.length, sets := marks (k + 2 * s.cs.length + 2 * s.bs.length + s.tabs.length) s.sets.length }
def cntS (s : Scr) : Int := 2 * s.cs.length + 2 * s.bs.length + s.tabs.length + s.sets.length
theorem mkScr_cells (k : Int) (s : Scr) (v1 v2 v3 v4 : Value) : scrA (mkScr k s) v1 v2 v3 v4 = scrA s v1 v2 v3 v4 := rfl
theorem mkScr_res (c k : Int) (s : Scr) (v1 v2 v3 v4 : Value) : resA c (mkScr k s) v1 v2 v3 v4 = resA c s v1 v2 v3 v4 := rfl
theorem cntS_mk (k : Int) (s : Scr) : cntS (mkScr k s) = cntS s := by simp [cntS, mkScr, marksP_length, marksT_length, marks_length]

set_option maxHeartbeats 2000000 in
theorem markScreen_calls (s : Scr) (k0 : Int) (lo hi : Nat) (v1 v2 v3 v4 : Value) (w : World) (hn1 : s.cs.length ≤ 1048576) (hn2 : s.bs.length ≤ 1048576) (hn3 : s.tabs.length ≤ 1048576) (hn4 : s.sets.length ≤ 1048576) (hk : 0 ≤ k0) (hk0 : k0 ≤ 2000000) (hh : hi ≤ w.heap.size) (h : SOwn lo hi w v1 v2 v3 v4 s) :
    Calls Tryz.prog 16 #[.agg (scrA s v1 v2 v3 v4), .int .i64 k0] w fun e w' => e = .returned (.int .i64 (k0 + cntS s)) ∧ SOwn lo hi w' v1 v2 v3 v4 (mkScr k0 s) ∧ Within lo hi w w' := by
  have e0 := scrA_0 s v1 v2 v3 v4
  have e1 := scrA_1 s v1 v2 v3 v4
  have e2 := scrA_2 s v1 v2 v3 v4
  have e3 := scrA_3 s v1 v2 v3 v4
  have e13 := scrA_13 s v1 v2 v3 v4
  have e17 := scrA_17 s v1 v2 v3 v4
  obtain ⟨l1, h1, l2, h2, l3, h3, a1, a2, a3, a4, a5, a6, a7, a8, a9, hG, hT, hI⟩ := h.ex
  have HH := hide (And.intro a7 (And.intro a8 a9))
  clear a7 a8 a9 h
  have hb0 : Below w.heap.size w (w.alloc (.cells (scrA s v1 v2 v3 v4) 37)) := (Below.refl _ w).alloc (Nat.le_refl _) _
  have hA := Blk.new w (scrA s v1 v2 v3 v4) 37
  go_enter Tryz.func16, Tryz.ntmps16
  go_wp2_with fail
  refine (markGrid_calls s.r s.wd s.cs s.bs k0 l1 h1 _ _ _ hn1 hn2 hk hk0 (by simp; omega) (hG.of_blocks (fun k k1 k2 => hb0.block k (by omega)))).mono ?_
  rintro e w1 ⟨rfl, hG1, hw1⟩
  have hs1 : w.heap.size + 1 ≤ w1.heap.size := by have := hw1.size; simp at this; omega
  have hA1 := hA.within hw1 (by omega)
  have hT1 := (hT.below hb0 (by omega)).within hw1 (by simp; omega) (by have := HH.out; omega)
  have hI1 := (hI.below hb0 (by omega)).within hw1 (by simp; omega) (by have := HH.out; omega)
  have cA := hA1.cells
  clear hA hG hT hI
  go_wp2_with fail
  refine (markBools_calls s.tabs (k0 + 2 * s.cs.length + 2 * s.bs.length) l2 h2 _ _ (by omega) (by omega) (by omega) hT1).mono ?_
  rintro e w2 ⟨rfl, hT2, hw2⟩
  have hs2 : w1.heap.size ≤ w2.heap.size := hw2.size
  have hA2 := hA1.within hw2 (by omega)
  have hG2 := hG1.of_blocks (fun k k1 k2 => hw2.block k (by omega) (by have := HH.out; omega))
  have hI2 := hI1.within hw2 (by omega) (by have := HH.out; omega)
  clear cA
  have cA := hA2.cells
  clear hA1 hG1 hI1 hT1
  go_wp2_with fail
  refine (markInts_calls s.sets (k0 + 2 * s.cs.length + 2 * s.bs.length + s.tabs.length) l3 h3 _ _ (by omega) (by omega) (by omega) hI2).mono ?_
  rintro e w3 ⟨rfl, hI3, hw3⟩
  have hG3 := hG2.of_blocks (fun k k1 k2 => hw3.block k (by omega) (by have := HH.out; omega))
  have hT3 := hT2.within hw3 (by omega) (by have := HH.out; omega)
  go_wp2
  go_ret
  refine ⟨scr_ret (by unfold cntS; omega), ⟨l1, h1, l2, h2, l3, h3, a1, a2, a3, a4, a5, a6, HH.out.1, HH.out.2.1, HH.out.2.2, hG3, hT3, hI3⟩, ?_⟩
  exact (Within.of_below hb0 (Nat.le_refl _)).trans ((within_mono hw1 (by omega) (by omega)).trans ((within_mono hw2 (by omega) (by omega)).trans (within_mono hw3 (by omega) (by omega))))
set_option maxHeartbeats 2000000 in
theorem heldScreen_calls (s : Scr) (k0 : Int) (v1 v2 v3 v4 : Value) (w : World) (hn1 : s.cs.length ≤ 1048576) (hn2 : s.bs.length ≤ 1048576) (hn3 : s.tabs.length ≤ 1048576) (hn4 : s.sets.length ≤ 1048576) (hk : 0 ≤ k0) (hk0 : k0 ≤ 2000000) (h : SRead w (mkScr k0 s) v1 v2 v3 v4) :
    Calls Tryz.prog 57 #[.agg (scrA s v1 v2 v3 v4), .int .i64 k0] w fun e w' => e = .returned (.int .i64 (k0 + cntS s)) ∧ Below w.heap.size w w' := by
  have e0 := scrA_0 s v1 v2 v3 v4
  have e1 := scrA_1 s v1 v2 v3 v4
  have e2 := scrA_2 s v1 v2 v3 v4
  have e3 := scrA_3 s v1 v2 v3 v4
  have e13 := scrA_13 s v1 v2 v3 v4
  have e17 := scrA_17 s v1 v2 v3 v4
  have hb0 : Below w.heap.size w (w.alloc (.cells (scrA s v1 v2 v3 v4) 37)) := (Below.refl _ w).alloc (Nat.le_refl _) _
  have hA := Blk.new w (scrA s v1 v2 v3 v4) 37
  have n1 : (mkScr k0 s).cs.length = s.cs.length := marksP_length _ _
  have n2 : (mkScr k0 s).bs.length = s.bs.length := marksP_length _ _
  have n3 : (mkScr k0 s).tabs.length = s.tabs.length := marksT_length _ _
  have n4 : (mkScr k0 s).sets.length = s.sets.length := marks_length _ _
  have N1 := hide n1
  have N2 := hide n2
  have N3 := hide n3
  have N4 := hide n4
  clear n1 n2 n3 n4
  go_enter Tryz.func57, Tryz.ntmps57
  go_wp2_with fail
  refine (heldGrid_calls s.r s.wd (mkScr k0 s).cs (mkScr k0 s).bs k0 _ _ _ (by rw [N1.out]; omega) (by rw [N2.out]; omega) hk hk0 (h.g1.below hb0) (h.g2.below hb0) (marksP_at k0 _) (by rw [N1.out]; exact marksP_at _ _)).mono ?_
  rintro e w1 ⟨rfl, hb1⟩
  rw [N1.out, N2.out]
  have hA1 := hA.belowb hb1
  have cA := hA1.cells
  have b1 := hb0.trans (hb1.mono hb0.size)
  clear hA hb1 hb0
  have hge : ¬ (k0 + 2 * (s.cs.length : Int) + 2 * (s.bs.length : Int) < 0) := by omega
  go_wp2_with fail
  refine (heldBools_calls (mkScr k0 s).tabs (k0 + 2 * s.cs.length + 2 * s.bs.length) _ _ (by rw [N3.out]; omega) (by omega) (by omega) (h.g3.below b1) (marksT_at _ _)).mono ?_
  rintro e w' ⟨rfl, hw⟩
  rw [hw, N3.out]
  clear hw w'
  have hge2 : ¬ (k0 + 2 * (s.cs.length : Int) + 2 * (s.bs.length : Int) + s.tabs.length < 0) := by omega
  go_wp2_with fail
  refine (heldInts_calls (mkScr k0 s).sets (k0 + 2 * s.cs.length + 2 * s.bs.length + s.tabs.length) _ _ (by rw [N4.out]; omega) (by omega) (by omega) (h.g4.below b1) (marks_at _ _)).mono ?_
  rintro e w' ⟨rfl, hw⟩
  rw [hw, N4.out]
  clear hw w'
  have hge3 : ¬ (k0 + 2 * (s.cs.length : Int) + 2 * (s.bs.length : Int) + s.tabs.length + s.sets.length < 0) := by omega
  go_wp2
  go_ret
  exact ⟨scr_ret (by unfold cntS; omega), b1⟩
set_option maxHeartbeats 2000000 in
theorem eqScreenResult_calls (c : Int) (s : Scr) (u1 u2 u3 u4 v1 v2 v3 v4 : Value) (w : World) (hn1 : s.cs.length ≤ 1048576) (hn2 : s.bs.length ≤ 1048576) (hn3 : s.tabs.length ≤ 1048576) (hn4 : s.sets.length ≤ 1048576) (h : SRead w s u1 u2 u3 u4) (h' : SRead w s v1 v2 v3 v4) :
    Calls Tryz.prog 13 #[.agg (resA c s u1 u2 u3 u4), .agg (resA c s v1 v2 v3 v4)] w fun e w' => e = .returned (.bool true) ∧ Below w.heap.size w w' := by
  have e0 := resA_0 c s u1 u2 u3 u4
  have e1 := resA_0 c s v1 v2 v3 v4
  have hne : ∀ x : Int, (x != x) = false := fun x => by simp
  have bel0 : Below w.heap.size w ((w.alloc (.cells (resA c s u1 u2 u3 u4) 39)).alloc (.cells (resA c s v1 v2 v3 v4) 39)) := (by repeat' (first | with_reducible exact Below.refl _ _ | with_reducible assumption | with_reducible refine Below.drew ?_ | with_reducible refine Below.alloc ?_ ?_ _ | with_reducible refine Below.setCell ?_ ?_ _ | (simp; done) | (simp; omega) | omega))
  have hA := (Blk.new w (resA c s u1 u2 u3 u4) 39).alloc (.cells (resA c s v1 v2 v3 v4) 39)
  have hB := Blk.new_at (w := w.alloc (.cells (resA c s u1 u2 u3 u4) 39)) (b := w.heap.size + 1) (by simp) (resA c s v1 v2 v3 v4) 39
  go_enter Tryz.func13, Tryz.ntmps13
  go_wp2_with (first | (refine wpList_load_at rfl 37 _ rfl (w.heap.size) 1 rfl _ (scrA s u1 u2 u3 u4) hA rfl _ Tryz.underlying37 rfl (by kernel_rfl) ?_; (try simp only [Act.put, List.setIfInBounds_toArray, List.set_cons_zero, List.set_cons_succ])) | (refine wpList_load_at rfl 37 _ rfl (w.heap.size + 1) 1 rfl _ (scrA s v1 v2 v3 v4) hB rfl _ Tryz.underlying37 rfl (by kernel_rfl) ?_; (try simp only [Act.put, List.setIfInBounds_toArray, List.set_cons_zero, List.set_cons_succ])))
  go_at_call 14
  refine (eqScreen_calls s _ _ _ _ _ _ _ _ _ hn1 hn2 hn3 hn4 (h.below bel0) (h'.below bel0)).mono ?_
  rintro e w1 ⟨rfl, hb⟩
  go_wp2
  go_ret
  exact ⟨rfl, bel0.trans (hb.mono bel0.size)⟩
set_option maxHeartbeats 2000000 in
theorem markScreenResult_calls (c : Int) (s : Scr) (k0 : Int) (lo hi : Nat) (v1 v2 v3 v4 : Value) (w : World) (hn1 : s.cs.length ≤ 1048576) (hn2 : s.bs.length ≤ 1048576) (hn3 : s.tabs.length ≤ 1048576) (hn4 : s.sets.length ≤ 1048576) (hk : 0 ≤ k0) (hk0 : k0 ≤ 2000000) (hh : hi ≤ w.heap.size) (h : SOwn lo hi w v1 v2 v3 v4 s) :
    Calls Tryz.prog 18 #[.agg (resA c s v1 v2 v3 v4), .int .i64 k0] w fun e w' => e = .returned (.int .i64 (k0 + cntS s)) ∧ SOwn lo hi w' v1 v2 v3 v4 (mkScr k0 s) ∧ Within lo hi w w' := by
  have hb0 : Below w.heap.size w (w.alloc (.cells (resA c s v1 v2 v3 v4) 39)) := (Below.refl _ w).alloc (Nat.le_refl _) _
  have hA := Blk.new w (resA c s v1 v2 v3 v4) 39
  go_enter Tryz.func18, Tryz.ntmps18
  go_wp2_with (refine wpList_load_at rfl 37 _ rfl (w.heap.size) 1 rfl _ (scrA s v1 v2 v3 v4) hA rfl _ Tryz.underlying37 rfl (by kernel_rfl) ?_; (try simp only [Act.put, List.setIfInBounds_toArray, List.set_cons_zero, List.set_cons_succ]))
  go_at_call 16
  refine (markScreen_calls s k0 lo hi _ _ _ _ _ hn1 hn2 hn3 hn4 hk hk0 (Nat.le_trans hh hb0.size) (h.below hb0 hh)).mono ?_
  rintro e w1 ⟨rfl, hm, hw⟩
  go_wp2
  go_ret
  exact ⟨rfl, hm, (Within.of_below hb0 (Nat.le_refl _)).trans hw⟩
set_option maxHeartbeats 2000000 in
theorem heldScreenResult_calls (c : Int) (s : Scr) (k0 : Int) (v1 v2 v3 v4 : Value) (w : World) (hn1 : s.cs.length ≤ 1048576) (hn2 : s.bs.length ≤ 1048576) (hn3 : s.tabs.length ≤ 1048576) (hn4 : s.sets.length ≤ 1048576) (hk : 0 ≤ k0) (hk0 : k0 ≤ 2000000) (h : SRead w (mkScr k0 s) v1 v2 v3 v4) :
    Calls Tryz.prog 19 #[.agg (resA c s v1 v2 v3 v4), .int .i64 k0] w fun e w' => e = .returned (.int .i64 (k0 + cntS s)) ∧ Below w.heap.size w w' := by
  have hb0 : Below w.heap.size w (w.alloc (.cells (resA c s v1 v2 v3 v4) 39)) := (Below.refl _ w).alloc (Nat.le_refl _) _
  have hA := Blk.new w (resA c s v1 v2 v3 v4) 39
  have hge : ¬ (k0 + cntS s < 0) := by unfold cntS; omega
  go_enter Tryz.func19, Tryz.ntmps19
  go_wp2_with (refine wpList_load_at rfl 37 _ rfl (w.heap.size) 1 rfl _ (scrA s v1 v2 v3 v4) hA rfl _ Tryz.underlying37 rfl (by kernel_rfl) ?_; (try simp only [Act.put, List.setIfInBounds_toArray, List.set_cons_zero, List.set_cons_succ]))
  go_at_call 57
  refine (heldScreen_calls s k0 _ _ _ _ _ hn1 hn2 hn3 hn4 hk hk0 (h.below hb0)).mono ?_
  rintro e w1 ⟨rfl, hb⟩
  go_wp2
  go_ret
  exact ⟨rfl, hb0.trans (hb.mono hb0.size)⟩

end Go.Proofs.YtdekegjplegkeaaGreat
