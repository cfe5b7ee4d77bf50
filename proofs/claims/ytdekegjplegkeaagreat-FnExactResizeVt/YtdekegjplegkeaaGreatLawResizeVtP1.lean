/-
  A grid that is turned in place (GSt), and spec.l3Keep: a row that left at the top is kept.
-/
import Derived.Test.YtdekegjplegkeaaGreatCopyNew
import Derived.Test.YtdekegjplegkeaaGreatScrFns
import Derived.Test.YtdekegjplegkeaaGreatSegMem
import Derived.Test.YtdekegjplegkeaaGreatSheetFns
import Derived.Test.YtdekegjplegkeaaGreatGridRes
import Derived.Test.YtdekegjplegkeaaGreatPairAppend
import Derived.Test.YtdekegjplegkeaaGreatPlaceFns
import Derived.Deep.RegionHeld
import Derived.Deep.RegionHeld3
import Derived.RangeFuncNested
import Derived.RangeFuncBound
import Derived.RangeFuncCalls
import Derived.RangeFuncLeaves
import Derived.Shelf.Abstract
import Derived.Shelf.RegionOpen
import Derived.WalkKit
import Derived.OwnWalkIn
import Derived.TacticsInMore
import Derived.LoopNIn
import Derived.LoopIn
import Derived.Test.YtdekegjplegkeaaGreatGrow
import Derived.Test.YtdekegjplegkeaaGreatResMem
import Derived.Maps.OwnIn
import Derived.Test.YtdekegjplegkeaaGreatUntil
import Derived.Test.YtdekegjplegkeaaGreatNewFns
/- impl.ownScreen: a copy of a screen that shares nothing. -/
namespace Go.Proofs.YtdekegjplegkeaaGreat
set_option maxRecDepth 20000
open Go.ChangeShapes Go.WideShapes Go.ChangeAt Go.RowKit
set_option linter.unusedVariables false
set_option linter.unusedSimpArgs false
set_option maxRecDepth 20000

theorem info_cellO : (Tryz.prog.info? 193).map (fun i => (i.zero, i.size, i.bytes)) = some (some (.agg #[.int .i64 0, .int .i64 0]), 2, 16) := by kernel_rfl
theorem info_intO : (Tryz.prog.info? 2).map (fun i => (i.zero, i.size, i.bytes)) = some (some (.int .i64 0), 1, 8) := by kernel_rfl
theorem info_boolO : (Tryz.prog.info? 4).map (fun i => (i.zero, i.size, i.bytes)) = some (some (.bool false), 1, 1) := by kernel_rfl
set_option maxHeartbeats 4000000 in
theorem ownScreen_calls (s : Scr) (v1 v2 v3 v4 : Value) (w : World) (hn1 : s.cs.length ≤ 1048576) (hn2 : s.bs.length ≤ 1048576) (hn3 : s.tabs.length ≤ 1048576) (hn4 : s.sets.length ≤ 1048576) (h : SRead w s v1 v2 v3 v4) :
    Calls Tryz.prog 59 #[.agg (scrA s v1 v2 v3 v4)] w fun e w' => e = .returned (.pointer (some ⟨w.heap.size, 0, none⟩)) ∧ ∃ u1 u2 u3 u4, Blk w' w.heap.size (scrA s u1 u2 u3 u4) ∧ SOwn (w.heap.size + 1) w'.heap.size w' u1 u2 u3 u4 s ∧ Below w.heap.size w w' := by
  obtain ⟨ic, hc, hc0, hc1, hc2⟩ := info_parts info_cellO
  obtain ⟨ii, hi, hi0, hi1, hi2⟩ := info_parts info_intO
  obtain ⟨ib, hb', hb0, hb1, hb2⟩ := info_parts info_boolO
  have h' := h
  obtain ⟨a1, c1, a2, c2, a3, c3, a4, c4, rfl, rfl, rfl, rfl⟩ := h'.forms
  clear h'
  have bel : Below w.heap.size w (w.alloc (.cells (scrA s (.slice a1 s.cs.length c1) (.slice a2 s.bs.length c2) (.slice a3 s.tabs.length c3) (.slice a4 s.sets.length c4)) 37)) := (Below.refl _ w).alloc (Nat.le_refl _) _
  have s0 : (w.alloc (.cells (scrA s (.slice a1 s.cs.length c1) (.slice a2 s.bs.length c2) (.slice a3 s.tabs.length c3) (.slice a4 s.sets.length c4)) 37)).heap.size = w.heap.size + 1 := by simp
  have hA := Blk.new w (scrA s (.slice a1 s.cs.length c1) (.slice a2 s.bs.length c2) (.slice a3 s.tabs.length c3) (.slice a4 s.sets.length c4)) 37
  have cA := hA.cells
  have e0_2 := scrA_2 s (.slice a1 s.cs.length c1) (.slice a2 s.bs.length c2) (.slice a3 s.tabs.length c3) (.slice a4 s.sets.length c4)
  have e0_3 := scrA_3 s (.slice a1 s.cs.length c1) (.slice a2 s.bs.length c2) (.slice a3 s.tabs.length c3) (.slice a4 s.sets.length c4)
  have e0_13 := scrA_13 s (.slice a1 s.cs.length c1) (.slice a2 s.bs.length c2) (.slice a3 s.tabs.length c3) (.slice a4 s.sets.length c4)
  have e0_17 := scrA_17 s (.slice a1 s.cs.length c1) (.slice a2 s.bs.length c2) (.slice a3 s.tabs.length c3) (.slice a4 s.sets.length c4)
  go_enter Tryz.func59, Tryz.ntmps59
  go_wp2_with (first | fail | (at_builtin; refine wpList_copy_pairs _ rfl (.const (.slice none 0 0)) (.tmp 5) 33 rfl _ 193 ic (.agg #[.int .i64 0, .int .i64 0]) 16 Tryz.underlying33 hc hc0 hc1 hc2 rfl (.slice none 0 0) rfl (World.ownsRow_nil _ _ _ _) _ _ rfl ((h.below bel).g1) (by omega) (by omega) (Nat.le_refl _) ?_; intro v' w1 ow P1 hb; clear ow; have P1' := P1; obtain ⟨b1, d1, rfl, _⟩ := P1'; replace hA := hA.below hb (by omega); have s1 : w.heap.size + 1 ≤ w1.heap.size := (by have := hb.size; rw [s0] at this; exact this); replace bel := bel.trans (hb.mono (by omega)); clear hb; have cA := hA.cells) | (refine wpList_store_blk rfl _ _ _ rfl w.heap.size 2 (scrA s (.slice a1 s.cs.length c1) (.slice a2 s.bs.length c2) (.slice a3 s.tabs.length c3) (.slice a4 s.sets.length c4)) (scrA s (.slice b1 s.cs.length d1) (.slice a2 s.bs.length c2) (.slice a3 s.tabs.length c3) (.slice a4 s.sets.length c4)) (.slice b1 s.cs.length d1) rfl rfl hA rfl (by kernel_rfl) rfl rfl ?_; (try simp only [Act.put, List.setIfInBounds_toArray, List.set_cons_zero, List.set_cons_succ]); clear hA cA; intro w2 hA hu; have s2 : w2.heap.size = w1.heap.size := hu.size; replace P1 := P1.of_blocks (w' := w2) (fun q q1 q2 => hu.block q (by omega)); replace bel := bel.trans (hu.below (Nat.le_refl _)); clear hu; have cA := hA.cells; have e1_2 := scrA_2 s (.slice b1 s.cs.length d1) (.slice a2 s.bs.length c2) (.slice a3 s.tabs.length c3) (.slice a4 s.sets.length c4); have e1_3 := scrA_3 s (.slice b1 s.cs.length d1) (.slice a2 s.bs.length c2) (.slice a3 s.tabs.length c3) (.slice a4 s.sets.length c4); have e1_13 := scrA_13 s (.slice b1 s.cs.length d1) (.slice a2 s.bs.length c2) (.slice a3 s.tabs.length c3) (.slice a4 s.sets.length c4); have e1_17 := scrA_17 s (.slice b1 s.cs.length d1) (.slice a2 s.bs.length c2) (.slice a3 s.tabs.length c3) (.slice a4 s.sets.length c4)) | (at_builtin; refine wpList_copy_pairs _ rfl (.const (.slice none 0 0)) (.tmp 11) 33 rfl _ 193 ic (.agg #[.int .i64 0, .int .i64 0]) 16 Tryz.underlying33 hc hc0 hc1 hc2 rfl (.slice none 0 0) rfl (World.ownsRow_nil _ _ _ _) _ _ rfl ((h.below bel).g2) (by omega) (by omega) (Nat.le_refl _) ?_; intro v' w3 ow P2 hb; clear ow; have P2' := P2; obtain ⟨b2, d2, rfl, _⟩ := P2'; replace hA := hA.below hb (by omega); have s3 : w2.heap.size ≤ w3.heap.size := hb.size; replace P1 := P1.below hb (by omega); replace bel := bel.trans (hb.mono (by omega)); clear hb; have cA := hA.cells) | (refine wpList_store_blk rfl _ _ _ rfl w.heap.size 3 (scrA s (.slice b1 s.cs.length d1) (.slice a2 s.bs.length c2) (.slice a3 s.tabs.length c3) (.slice a4 s.sets.length c4)) (scrA s (.slice b1 s.cs.length d1) (.slice b2 s.bs.length d2) (.slice a3 s.tabs.length c3) (.slice a4 s.sets.length c4)) (.slice b2 s.bs.length d2) rfl rfl hA rfl (by kernel_rfl) rfl rfl ?_; (try simp only [Act.put, List.setIfInBounds_toArray, List.set_cons_zero, List.set_cons_succ]); clear hA cA; intro w4 hA hu; have s4 : w4.heap.size = w3.heap.size := hu.size; replace P1 := P1.of_blocks (w' := w4) (fun q q1 q2 => hu.block q (by omega)); replace P2 := P2.of_blocks (w' := w4) (fun q q1 q2 => hu.block q (by omega)); replace bel := bel.trans (hu.below (Nat.le_refl _)); clear hu; have cA := hA.cells; have e2_2 := scrA_2 s (.slice b1 s.cs.length d1) (.slice b2 s.bs.length d2) (.slice a3 s.tabs.length c3) (.slice a4 s.sets.length c4); have e2_3 := scrA_3 s (.slice b1 s.cs.length d1) (.slice b2 s.bs.length d2) (.slice a3 s.tabs.length c3) (.slice a4 s.sets.length c4); have e2_13 := scrA_13 s (.slice b1 s.cs.length d1) (.slice b2 s.bs.length d2) (.slice a3 s.tabs.length c3) (.slice a4 s.sets.length c4); have e2_17 := scrA_17 s (.slice b1 s.cs.length d1) (.slice b2 s.bs.length d2) (.slice a3 s.tabs.length c3) (.slice a4 s.sets.length c4)) | (at_builtin; refine wpList_copy_bools _ rfl (.const (.slice none 0 0)) (.tmp 16) 25 rfl _ 4 ib (.bool false) 1 Tryz.underlying25 hb' hb0 hb1 hb2 rfl (.slice none 0 0) rfl (World.ownsRow_nil _ _ _ _) _ _ rfl ((h.below bel).g3) (by omega) (by omega) (Nat.le_refl _) ?_; intro v' w5 ow P3 hb; clear ow; have P3' := P3; obtain ⟨b3, d3, rfl, _⟩ := P3'; replace hA := hA.below hb (by omega); have s5 : w4.heap.size ≤ w5.heap.size := hb.size; replace P1 := P1.below hb (by omega); replace P2 := P2.below hb (by omega); replace bel := bel.trans (hb.mono (by omega)); clear hb; have cA := hA.cells) | (refine wpList_store_blk rfl _ _ _ rfl w.heap.size 13 (scrA s (.slice b1 s.cs.length d1) (.slice b2 s.bs.length d2) (.slice a3 s.tabs.length c3) (.slice a4 s.sets.length c4)) (scrA s (.slice b1 s.cs.length d1) (.slice b2 s.bs.length d2) (.slice b3 s.tabs.length d3) (.slice a4 s.sets.length c4)) (.slice b3 s.tabs.length d3) rfl rfl hA rfl (by kernel_rfl) rfl rfl ?_; (try simp only [Act.put, List.setIfInBounds_toArray, List.set_cons_zero, List.set_cons_succ]); clear hA cA; intro w6 hA hu; have s6 : w6.heap.size = w5.heap.size := hu.size; replace P1 := P1.of_blocks (w' := w6) (fun q q1 q2 => hu.block q (by omega)); replace P2 := P2.of_blocks (w' := w6) (fun q q1 q2 => hu.block q (by omega)); replace P3 := P3.of_blocks (w' := w6) (fun q q1 q2 => hu.block q (by omega)); replace bel := bel.trans (hu.below (Nat.le_refl _)); clear hu; have cA := hA.cells; have e3_2 := scrA_2 s (.slice b1 s.cs.length d1) (.slice b2 s.bs.length d2) (.slice b3 s.tabs.length d3) (.slice a4 s.sets.length c4); have e3_3 := scrA_3 s (.slice b1 s.cs.length d1) (.slice b2 s.bs.length d2) (.slice b3 s.tabs.length d3) (.slice a4 s.sets.length c4); have e3_13 := scrA_13 s (.slice b1 s.cs.length d1) (.slice b2 s.bs.length d2) (.slice b3 s.tabs.length d3) (.slice a4 s.sets.length c4); have e3_17 := scrA_17 s (.slice b1 s.cs.length d1) (.slice b2 s.bs.length d2) (.slice b3 s.tabs.length d3) (.slice a4 s.sets.length c4)) | (at_builtin; refine wpList_copy_ints _ rfl (.const (.slice none 0 0)) (.tmp 20) 26 rfl _ 2 ii (.int .i64 0) 8 Tryz.underlying26 hi hi0 hi1 hi2 rfl (.slice none 0 0) rfl (World.ownsRow_nil _ _ _ _) _ _ rfl ((h.below bel).g4) (by omega) (by omega) (Nat.le_refl _) ?_; intro v' w7 ow P4 hb; clear ow; have P4' := P4; obtain ⟨b4, d4, rfl, _⟩ := P4'; replace hA := hA.below hb (by omega); have s7 : w6.heap.size ≤ w7.heap.size := hb.size; replace P1 := P1.below hb (by omega); replace P2 := P2.below hb (by omega); replace P3 := P3.below hb (by omega); replace bel := bel.trans (hb.mono (by omega)); clear hb; have cA := hA.cells) | (refine wpList_store_blk rfl _ _ _ rfl w.heap.size 17 (scrA s (.slice b1 s.cs.length d1) (.slice b2 s.bs.length d2) (.slice b3 s.tabs.length d3) (.slice a4 s.sets.length c4)) (scrA s (.slice b1 s.cs.length d1) (.slice b2 s.bs.length d2) (.slice b3 s.tabs.length d3) (.slice b4 s.sets.length d4)) (.slice b4 s.sets.length d4) rfl rfl hA rfl (by kernel_rfl) rfl rfl ?_; (try simp only [Act.put, List.setIfInBounds_toArray, List.set_cons_zero, List.set_cons_succ]); clear hA cA; intro w8 hA hu; have s8 : w8.heap.size = w7.heap.size := hu.size; replace P1 := P1.of_blocks (w' := w8) (fun q q1 q2 => hu.block q (by omega)); replace P2 := P2.of_blocks (w' := w8) (fun q q1 q2 => hu.block q (by omega)); replace P3 := P3.of_blocks (w' := w8) (fun q q1 q2 => hu.block q (by omega)); replace P4 := P4.of_blocks (w' := w8) (fun q q1 q2 => hu.block q (by omega)); replace bel := bel.trans (hu.below (Nat.le_refl _)); clear hu; have cA := hA.cells; have e4_2 := scrA_2 s (.slice b1 s.cs.length d1) (.slice b2 s.bs.length d2) (.slice b3 s.tabs.length d3) (.slice b4 s.sets.length d4); have e4_3 := scrA_3 s (.slice b1 s.cs.length d1) (.slice b2 s.bs.length d2) (.slice b3 s.tabs.length d3) (.slice b4 s.sets.length d4); have e4_13 := scrA_13 s (.slice b1 s.cs.length d1) (.slice b2 s.bs.length d2) (.slice b3 s.tabs.length d3) (.slice b4 s.sets.length d4); have e4_17 := scrA_17 s (.slice b1 s.cs.length d1) (.slice b2 s.bs.length d2) (.slice b3 s.tabs.length d3) (.slice b4 s.sets.length d4)))
  go_ret
  rw [s0] at P1
  exact ⟨rfl, _, _, _, _, hA, ⟨w.heap.size + 1, w3.heap.size, w4.heap.size, w5.heap.size, w6.heap.size, w7.heap.size, by omega, by omega, by omega, by omega, by omega, by omega, by omega, by omega, by omega, ⟨w.heap.size + 1, w1.heap.size, w2.heap.size, w3.heap.size, by omega, by omega, by omega, by omega, by omega, P1, P2⟩, P3, P4⟩, bel⟩
end Go.Proofs.YtdekegjplegkeaaGreat

/- impl.slide, walked: towards the last place (by less than all, by all or more), towards the first one (by none, by less than all, by all or more). -/
namespace Go.Proofs.YtdekegjplegkeaaGreat
set_option maxRecDepth 20000
open Go.ChangeShapes Go.WideShapes Go.ChangeAt Go.RowKit
set_option linter.unusedVariables false
set_option linter.unusedSimpArgs false
set_option maxRecDepth 20000

theorem cell_size2 : (Tryz.prog.info? 193).map (·.size) = some 2 := by kernel_rfl

/-- What a list holds that was slid by n places towards its first one. -/
def slideF (L : Nat) (n : Int) (f : Nat → Int × Int) (bl : Int × Int) (j : Nat) : Int × Int := if 0 ≤ (j : Int) + n ∧ (j : Int) + n < L then f ((j : Int) + n).toNat else bl

set_option maxHeartbeats 1000000 in
theorem slide_neg (b off L cap : Nat) (m : Nat) (f : Nat → Int × Int) (c g : Int) (w : World) (hc : L ≤ cap) (hr : Row w b off L f) (hb : b < w.heap.size) (hL : L ≤ 1048576) (hL0 : 0 < L) (hm : 0 < m) (hmL : m < L) :
    Calls Tryz.prog 229 #[.slice (some ⟨b, off, none⟩) L cap, .int .i64 (-(m : Int)), .agg #[.int .i64 c, .int .i64 g]] w fun e w' => (∃ u, e = .returned u) ∧ Row w' b off L (slideF L (-(m : Int)) f (c, g)) ∧ Touch b off (off + L * 2) w w' := by
  have hb1 : Below w.heap.size w (w.alloc (.cells #[.int .i64 c, .int .i64 g] 193)) := (Below.refl _ _).alloc (Nat.le_refl _) _
  have hR1 := hr.below hb1 hb
  have HT1 : Hid (Touch b off (off + L * 2) w (w.alloc (.cells #[.int .i64 c, .int .i64 g] 193))) := Touch.of_below hb1 (Nat.le_refl _) hb
  clear hr
  have x1 : ¬ (L : Int) < -(m : Int) := by omega
  have x2 : (m : Int) < (L : Int) := by omega
  have x3 : -(L : Int) < -(m : Int) := by omega
  have x4 : (0 : Int) < (m : Int) := by omega
  have x5 : m ≤ cap := by omega
  have x6 : (m : Int) ≤ (cap : Int) := by omega
  have x7 : IntKind.i64.wrap (m : Int) = (m : Int) := wrap_small (by omega) (by omega)
  have x8 : (0 : Int) ≤ (m : Int) := by omega
  obtain ⟨w2, hrun, hrow, ht⟩ := run_copy2 (P := Tryz.prog) (w.alloc (.cells #[.int .i64 c, .int .i64 g] 193)) 33 33 3 193 Tryz.underlying33 cell_size2
    (some ⟨b, off + m * 2, none⟩) (some ⟨b, off, none⟩) (L - m) (cap - m) L cap (L - m) (by show L - m = min L (L - m); omega) b (off + m * 2) (fun i => f (m + i)) (hR1.sub m (L - m) (by omega)) (fun _ => rfl) b off f (fun i hi => hR1.read i (by omega)) (fun _ => rfl)
  have hR2 := hR1.join (k := m) (m := L - m) (ht.mono (Nat.le_refl _) (by omega)) hrow (by omega)
  clear hrow
  have B0 : w2.cell? ⟨w.heap.size, 0, none⟩ = some (.int .i64 c) := ht.cellAt (by simp) (by omega)
  have B1 : w2.cell? ⟨w.heap.size, 1, none⟩ = some (.int .i64 g) := ht.cellAt (by simp) (by omega)
  have hs2 : w.heap.size + 1 ≤ w2.heap.size := by have := ht.size; simp at this; omega
  have H2 := hide hR2
  have HT := hide ht
  clear hR1 hR2 ht
  go_enter Tryz.func229, Tryz.ntmps229
  go_wp2_with fail
  go_region_held3 (fun w' => w'.cell? ⟨w.heap.size, 0, none⟩ = some (.int .i64 c) ∧ w'.cell? ⟨w.heap.size, 1, none⟩ = some (.int .i64 g))
    (first
      | exact ⟨B0, B1⟩
      | exact ⟨ht3.cellAt B0 (by omega), ht3.cellAt B1 (by omega)⟩)
    (first
      | (go_at_call 236; refine (fill_calls b off m cap _ _ c g w2.drew ⟨by omega, _, rfl, fun _ => rfl⟩ (fun i hi => H2.out i (by omega)) (by show b < w2.heap.size; omega) (by omega)).mono ?_; rintro e w3 ⟨⟨u3, rfl⟩, hr3, ht3⟩))
  have HR3 := hide hr3
  have HT3 := hide ht3
  clear hr3 ht3
  go_wp2
  refine bodyPost_ret (results_none rfl _ _ _) rfl ?_
  refine ⟨⟨_, rfl⟩, ?_, HT1.out.trans ((HT.out.mono (by omega) (by omega)).trans ((Touch.refl _ _ _ _).drew.trans (HT3.out.mono (by omega) (by omega))))⟩
  refine (Row.join (k := 0) (m := m) (w := w2.drew) (H2.out) (by simpa using HT3.out) (by simpa using HR3.out) (by omega)).congr (fun i hi => ?_)
  unfold slideF
  repeat' split
  all_goals first | rfl | omega | (congr 1; omega)

set_option maxHeartbeats 1000000 in
theorem slide_negallA (b off L : Nat) (n : Int) (f : Nat → Int × Int) (c g : Int) (w : World) (hc : L ≤ L) (hr : Row w b off L f) (hb : b < w.heap.size) (hL : L ≤ 1048576) (hL0 : 0 < L) (hn0 : n < 0) (hnL : n ≤ -(L : Int))  :
    Calls Tryz.prog 229 #[.slice (some ⟨b, off, none⟩) L L, .int .i64 n, .agg #[.int .i64 c, .int .i64 g]] w fun e w' => (∃ u, e = .returned u) ∧ Row w' b off L (slideF L n f (c, g)) ∧ Touch b off (off + L * 2) w w' := by
  have hb1 : Below w.heap.size w (w.alloc (.cells #[.int .i64 c, .int .i64 g] 193)) := (Below.refl _ _).alloc (Nat.le_refl _) _
  have hR1 := hr.below hb1 hb
  have HT1 : Hid (Touch b off (off + L * 2) w (w.alloc (.cells #[.int .i64 c, .int .i64 g] 193))) := Touch.of_below hb1 (Nat.le_refl _) hb
  clear hr
  have x1 : ¬ (L : Int) < n := by omega
  have x2 : ¬ -(L : Int) < n := by omega
  have x3 : (0 : Int) < (L : Int) := by omega
  have x5 : L ≤ L := by omega
  have x6 : (L : Int) ≤ (L : Int) := by omega
  have x7 : IntKind.i64.wrap (L : Int) = (L : Int) := wrap_small (by omega) (by omega)
  have x8 : (0 : Int) ≤ (L : Int) := by omega
  have x9 : -(L : Int) < 0 := by omega
  obtain ⟨w2, hrun, ht, hR2⟩ : ∃ w2, (∀ a k, (Builtin.copy_ #[33, 33] 3 #[.slice a 0 k, .slice (some ⟨b, off, none⟩) L L]).run Tryz.prog (w.alloc (.cells #[.int .i64 c, .int .i64 g] 193)) = .ok (goInt 0) w2) ∧ Touch b off (off + L * 2) (w.alloc (.cells #[.int .i64 c, .int .i64 g] 193)) w2 ∧ Row w2 b off L f := ⟨_, fun a k => run_copy2_none _ _ _ _ _ _ _ _ _ _ _ Tryz.underlying33 cell_size2 (by show min L 0 = 0; omega), Touch.refl _ _ _ _, hR1⟩
  have B0 : w2.cell? ⟨w.heap.size, 0, none⟩ = some (.int .i64 c) := ht.cellAt (by simp) (by omega)
  have B1 : w2.cell? ⟨w.heap.size, 1, none⟩ = some (.int .i64 g) := ht.cellAt (by simp) (by omega)
  have hs2 : w.heap.size + 1 ≤ w2.heap.size := by have := ht.size; simp at this; omega
  have H2 := hide hR2
  have HT := hide ht
  clear hR1 hR2 ht
  go_enter Tryz.func229, Tryz.ntmps229
  go_wp2_with fail
  go_region_held3 (fun w' => w'.cell? ⟨w.heap.size, 0, none⟩ = some (.int .i64 c) ∧ w'.cell? ⟨w.heap.size, 1, none⟩ = some (.int .i64 g))
    (first
      | exact ⟨B0, B1⟩
      | exact ⟨ht3.cellAt B0 (by omega), ht3.cellAt B1 (by omega)⟩)
    (first
      | (go_at_call 236; refine (fill_calls b off L L _ _ c g w2.drew ⟨by omega, _, rfl, fun _ => rfl⟩ H2.out (by show b < w2.heap.size; omega) (by omega)).mono ?_; rintro e w3 ⟨⟨u3, rfl⟩, hr3, ht3⟩))
  have HR3 := hide hr3
  have HT3 := hide ht3
  clear hr3 ht3
  go_wp2
  refine bodyPost_ret (results_none rfl _ _ _) rfl ?_
  refine ⟨⟨_, rfl⟩, ?_, HT1.out.trans ((HT.out.mono (by omega) (by omega)).trans ((Touch.refl _ _ _ _).drew.trans (HT3.out.mono (by omega) (by omega))))⟩
  refine HR3.out.congr (fun i hi => ?_)
  unfold slideF
  repeat' split
  all_goals first | rfl | omega | (congr 1; omega)

set_option maxHeartbeats 1000000 in
theorem slide_negallB (b off L cap : Nat) (n : Int) (f : Nat → Int × Int) (c g : Int) (w : World) (hc : L ≤ cap) (hr : Row w b off L f) (hb : b < w.heap.size) (hL : L ≤ 1048576) (hL0 : 0 < L) (hn0 : n < 0) (hnL : n ≤ -(L : Int)) (hcap : ¬ cap = L) :
    Calls Tryz.prog 229 #[.slice (some ⟨b, off, none⟩) L cap, .int .i64 n, .agg #[.int .i64 c, .int .i64 g]] w fun e w' => (∃ u, e = .returned u) ∧ Row w' b off L (slideF L n f (c, g)) ∧ Touch b off (off + L * 2) w w' := by
  have hb1 : Below w.heap.size w (w.alloc (.cells #[.int .i64 c, .int .i64 g] 193)) := (Below.refl _ _).alloc (Nat.le_refl _) _
  have hR1 := hr.below hb1 hb
  have HT1 : Hid (Touch b off (off + L * 2) w (w.alloc (.cells #[.int .i64 c, .int .i64 g] 193))) := Touch.of_below hb1 (Nat.le_refl _) hb
  clear hr
  have hcap' : ¬ L = cap := fun h => hcap h.symm
  have x1 : ¬ (L : Int) < n := by omega
  have x2 : ¬ -(L : Int) < n := by omega
  have x3 : (0 : Int) < (L : Int) := by omega
  have x5 : L ≤ cap := by omega
  have x6 : (L : Int) ≤ (cap : Int) := by omega
  have x7 : IntKind.i64.wrap (L : Int) = (L : Int) := wrap_small (by omega) (by omega)
  have x8 : (0 : Int) ≤ (L : Int) := by omega
  have x9 : -(L : Int) < 0 := by omega
  obtain ⟨w2, hrun, ht, hR2⟩ : ∃ w2, (∀ a k, (Builtin.copy_ #[33, 33] 3 #[.slice a 0 k, .slice (some ⟨b, off, none⟩) L cap]).run Tryz.prog (w.alloc (.cells #[.int .i64 c, .int .i64 g] 193)) = .ok (goInt 0) w2) ∧ Touch b off (off + L * 2) (w.alloc (.cells #[.int .i64 c, .int .i64 g] 193)) w2 ∧ Row w2 b off L f := ⟨_, fun a k => run_copy2_none _ _ _ _ _ _ _ _ _ _ _ Tryz.underlying33 cell_size2 (by show min L 0 = 0; omega), Touch.refl _ _ _ _, hR1⟩
  have B0 : w2.cell? ⟨w.heap.size, 0, none⟩ = some (.int .i64 c) := ht.cellAt (by simp) (by omega)
  have B1 : w2.cell? ⟨w.heap.size, 1, none⟩ = some (.int .i64 g) := ht.cellAt (by simp) (by omega)
  have hs2 : w.heap.size + 1 ≤ w2.heap.size := by have := ht.size; simp at this; omega
  have H2 := hide hR2
  have HT := hide ht
  clear hR1 hR2 ht
  go_enter Tryz.func229, Tryz.ntmps229
  go_wp2_with fail
  go_region_held3 (fun w' => w'.cell? ⟨w.heap.size, 0, none⟩ = some (.int .i64 c) ∧ w'.cell? ⟨w.heap.size, 1, none⟩ = some (.int .i64 g))
    (first
      | exact ⟨B0, B1⟩
      | exact ⟨ht3.cellAt B0 (by omega), ht3.cellAt B1 (by omega)⟩)
    (first
      | (go_at_call 236; refine (fill_calls b off L cap _ _ c g w2.drew ⟨by omega, _, rfl, fun _ => rfl⟩ H2.out (by show b < w2.heap.size; omega) (by omega)).mono ?_; rintro e w3 ⟨⟨u3, rfl⟩, hr3, ht3⟩))
  have HR3 := hide hr3
  have HT3 := hide ht3
  clear hr3 ht3
  go_wp2
  refine bodyPost_ret (results_none rfl _ _ _) rfl ?_
  refine ⟨⟨_, rfl⟩, ?_, HT1.out.trans ((HT.out.mono (by omega) (by omega)).trans ((Touch.refl _ _ _ _).drew.trans (HT3.out.mono (by omega) (by omega))))⟩
  refine HR3.out.congr (fun i hi => ?_)
  unfold slideF
  repeat' split
  all_goals first | rfl | omega | (congr 1; omega)

set_option maxHeartbeats 1000000 in
theorem slide_posallA (b off L : Nat) (n : Int) (f : Nat → Int × Int) (c g : Int) (w : World) (hc : L ≤ L) (hr : Row w b off L f) (hb : b < w.heap.size) (hL : L ≤ 1048576) (hL0 : 0 < L) (hnL : (L : Int) ≤ n)  :
    Calls Tryz.prog 229 #[.slice (some ⟨b, off, none⟩) L L, .int .i64 n, .agg #[.int .i64 c, .int .i64 g]] w fun e w' => (∃ u, e = .returned u) ∧ Row w' b off L (slideF L n f (c, g)) ∧ Touch b off (off + L * 2) w w' := by
  have hb1 : Below w.heap.size w (w.alloc (.cells #[.int .i64 c, .int .i64 g] 193)) := (Below.refl _ _).alloc (Nat.le_refl _) _
  have hR1 := hr.below hb1 hb
  have HT1 : Hid (Touch b off (off + L * 2) w (w.alloc (.cells #[.int .i64 c, .int .i64 g] 193))) := Touch.of_below hb1 (Nat.le_refl _) hb
  clear hr
  have x1 : ¬ (n : Int) ≤ 0 := by omega
  have x2 : -(L : Int) < (L : Int) := by omega
  have x3 : (0 : Int) < (L : Int) := by omega
  have x5 : L ≤ L := by omega
  have x6 : (L : Int) ≤ (L : Int) := by omega
  have x7 : IntKind.i64.wrap (0 : Int) = (0 : Int) := wrap_small (by omega) (by omega)
  have x8 : (0 : Int) ≤ (L : Int) := by omega
  have x9 : ¬ (L : Int) < 0 := by omega
  have x10 : (if (L : Int) < n then (L : Int) else n) = (L : Int) := by split <;> omega
  have x11 : -(L : Int) < n := by omega
  have x12 : ¬ L = 0 := by omega
  obtain ⟨w2, hrun, ht, hR2⟩ : ∃ w2, (∀ a k, (Builtin.copy_ #[33, 33] 3 #[.slice (some ⟨b, off, none⟩) L L, .slice a 0 k]).run Tryz.prog (w.alloc (.cells #[.int .i64 c, .int .i64 g] 193)) = .ok (goInt 0) w2) ∧ Touch b off (off + L * 2) (w.alloc (.cells #[.int .i64 c, .int .i64 g] 193)) w2 ∧ Row w2 b off L f := ⟨_, fun a k => run_copy2_none _ _ _ _ _ _ _ _ _ _ _ Tryz.underlying33 cell_size2 (by show min 0 L = 0; omega), Touch.refl _ _ _ _, hR1⟩
  have B0 : w2.cell? ⟨w.heap.size, 0, none⟩ = some (.int .i64 c) := ht.cellAt (by simp) (by omega)
  have B1 : w2.cell? ⟨w.heap.size, 1, none⟩ = some (.int .i64 g) := ht.cellAt (by simp) (by omega)
  have hs2 : w.heap.size + 1 ≤ w2.heap.size := by have := ht.size; simp at this; omega
  have H2 := hide hR2
  have HT := hide ht
  clear hR1 hR2 ht
  go_enter Tryz.func229, Tryz.ntmps229
  go_wp2_with fail
  go_region_held3 (fun w' => w'.cell? ⟨w.heap.size, 0, none⟩ = some (.int .i64 c) ∧ w'.cell? ⟨w.heap.size, 1, none⟩ = some (.int .i64 g))
    (first
      | exact ⟨B0, B1⟩
      | exact ⟨ht3.cellAt B0 (by omega), ht3.cellAt B1 (by omega)⟩)
    (first
      | (go_at_call 236; refine (fill_calls b off L L _ _ c g w2.drew ⟨by omega, _, rfl, fun _ => rfl⟩ H2.out (by show b < w2.heap.size; omega) (by omega)).mono ?_; rintro e w3 ⟨⟨u3, rfl⟩, hr3, ht3⟩))
  have HR3 := hide hr3
  have HT3 := hide ht3
  clear hr3 ht3
  go_wp2
  go_end0
  refine ⟨⟨_, rfl⟩, ?_, HT1.out.trans ((HT.out.mono (by omega) (by omega)).trans ((Touch.refl _ _ _ _).drew.trans (HT3.out.mono (by omega) (by omega))))⟩
  refine HR3.out.congr (fun i hi => ?_)
  unfold slideF
  repeat' split
  all_goals first | rfl | omega | (congr 1; omega)

set_option maxHeartbeats 1000000 in
theorem slide_posallB (b off L cap : Nat) (n : Int) (f : Nat → Int × Int) (c g : Int) (w : World) (hc : L ≤ cap) (hr : Row w b off L f) (hb : b < w.heap.size) (hL : L ≤ 1048576) (hL0 : 0 < L) (hnL : (L : Int) ≤ n) (hcap : ¬ cap = L) :
    Calls Tryz.prog 229 #[.slice (some ⟨b, off, none⟩) L cap, .int .i64 n, .agg #[.int .i64 c, .int .i64 g]] w fun e w' => (∃ u, e = .returned u) ∧ Row w' b off L (slideF L n f (c, g)) ∧ Touch b off (off + L * 2) w w' := by
  have hb1 : Below w.heap.size w (w.alloc (.cells #[.int .i64 c, .int .i64 g] 193)) := (Below.refl _ _).alloc (Nat.le_refl _) _
  have hR1 := hr.below hb1 hb
  have HT1 : Hid (Touch b off (off + L * 2) w (w.alloc (.cells #[.int .i64 c, .int .i64 g] 193))) := Touch.of_below hb1 (Nat.le_refl _) hb
  clear hr
  have hcap' : ¬ L = cap := fun h => hcap h.symm
  have x1 : ¬ (n : Int) ≤ 0 := by omega
  have x2 : -(L : Int) < (L : Int) := by omega
  have x3 : (0 : Int) < (L : Int) := by omega
  have x5 : L ≤ cap := by omega
  have x6 : (L : Int) ≤ (cap : Int) := by omega
  have x7 : IntKind.i64.wrap (0 : Int) = (0 : Int) := wrap_small (by omega) (by omega)
  have x8 : (0 : Int) ≤ (L : Int) := by omega
  have x9 : ¬ (L : Int) < 0 := by omega
  have x10 : (if (L : Int) < n then (L : Int) else n) = (L : Int) := by split <;> omega
  have x11 : -(L : Int) < n := by omega
  have x12 : ¬ cap = 0 := by omega
  obtain ⟨w2, hrun, ht, hR2⟩ : ∃ w2, (∀ a k, (Builtin.copy_ #[33, 33] 3 #[.slice (some ⟨b, off, none⟩) L cap, .slice a 0 k]).run Tryz.prog (w.alloc (.cells #[.int .i64 c, .int .i64 g] 193)) = .ok (goInt 0) w2) ∧ Touch b off (off + L * 2) (w.alloc (.cells #[.int .i64 c, .int .i64 g] 193)) w2 ∧ Row w2 b off L f := ⟨_, fun a k => run_copy2_none _ _ _ _ _ _ _ _ _ _ _ Tryz.underlying33 cell_size2 (by show min 0 L = 0; omega), Touch.refl _ _ _ _, hR1⟩
  have B0 : w2.cell? ⟨w.heap.size, 0, none⟩ = some (.int .i64 c) := ht.cellAt (by simp) (by omega)
  have B1 : w2.cell? ⟨w.heap.size, 1, none⟩ = some (.int .i64 g) := ht.cellAt (by simp) (by omega)
  have hs2 : w.heap.size + 1 ≤ w2.heap.size := by have := ht.size; simp at this; omega
  have H2 := hide hR2
  have HT := hide ht
  clear hR1 hR2 ht
  go_enter Tryz.func229, Tryz.ntmps229
  go_wp2_with fail
  go_region_held3 (fun w' => w'.cell? ⟨w.heap.size, 0, none⟩ = some (.int .i64 c) ∧ w'.cell? ⟨w.heap.size, 1, none⟩ = some (.int .i64 g))
    (first
      | exact ⟨B0, B1⟩
      | exact ⟨ht3.cellAt B0 (by omega), ht3.cellAt B1 (by omega)⟩)
    (first
      | (go_at_call 236; refine (fill_calls b off L cap _ _ c g w2.drew ⟨by omega, _, rfl, fun _ => rfl⟩ H2.out (by show b < w2.heap.size; omega) (by omega)).mono ?_; rintro e w3 ⟨⟨u3, rfl⟩, hr3, ht3⟩))
  have HR3 := hide hr3
  have HT3 := hide ht3
  clear hr3 ht3
  go_wp2
  go_end0
  refine ⟨⟨_, rfl⟩, ?_, HT1.out.trans ((HT.out.mono (by omega) (by omega)).trans ((Touch.refl _ _ _ _).drew.trans (HT3.out.mono (by omega) (by omega))))⟩
  refine HR3.out.congr (fun i hi => ?_)
  unfold slideF
  repeat' split
  all_goals first | rfl | omega | (congr 1; omega)

set_option maxHeartbeats 1000000 in
theorem slide_pos (b off L cap : Nat) (m k : Nat) (f : Nat → Int × Int) (c g : Int) (w : World) (hc : L ≤ cap) (hr : Row w b off L f) (hb : b < w.heap.size) (hL : L ≤ 1048576) (hL0 : 0 < L) (hm : 0 < m) (hmL : m < L) (hkm : k + m = L) :
    Calls Tryz.prog 229 #[.slice (some ⟨b, off, none⟩) L cap, .int .i64 (m : Int), .agg #[.int .i64 c, .int .i64 g]] w fun e w' => (∃ u, e = .returned u) ∧ Row w' b off L (slideF L (m : Int) f (c, g)) ∧ Touch b off (off + L * 2) w w' := by
  have hb1 : Below w.heap.size w (w.alloc (.cells #[.int .i64 c, .int .i64 g] 193)) := (Below.refl _ _).alloc (Nat.le_refl _) _
  have hR1 := hr.below hb1 hb
  have HT1 : Hid (Touch b off (off + L * 2) w (w.alloc (.cells #[.int .i64 c, .int .i64 g] 193))) := Touch.of_below hb1 (Nat.le_refl _) hb
  clear hr
  have x1 : ¬ (L : Int) < (m : Int) := by omega
  have x2 : (m : Int) < (L : Int) := by omega
  have x3 : -(L : Int) < (m : Int) := by omega
  have x4 : ¬ (m : Int) < 0 := by omega
  have x5 : m ≤ L := by omega
  have x6 : (m : Int) ≤ (L : Int) := by omega
  have y1 : (L : Int) - (m : Int) = (k : Int) := by omega
  have x7 : IntKind.i64.wrap (k : Int) = (k : Int) := wrap_small (by omega) (by omega)
  have x8 : (0 : Int) ≤ (k : Int) := by omega
  have x9 : (k : Int) ≤ (L : Int) := by omega
  have x10 : k ≤ L := by omega
  have x11 : ¬ cap = k := by omega
  have x12 : ¬ k = cap := by omega
  have x13 : ¬ cap = m := by omega
  have x14 : ¬ m = cap := by omega
  have x15 : (L : Int) ≤ (cap : Int) := by omega
  obtain ⟨w2, hrun, hrow, ht⟩ := run_copy2 (P := Tryz.prog) (w.alloc (.cells #[.int .i64 c, .int .i64 g] 193)) 33 33 3 193 Tryz.underlying33 cell_size2
    (some ⟨b, off, none⟩) (some ⟨b, off + m * 2, none⟩) L cap (L - m) (cap - m) (L - m) (by show L - m = min (L - m) L; omega) b off f hR1 (fun _ => rfl) b (off + m * 2) (fun i => f (m + i)) (hR1.sub m (L - m) (by omega)).read (fun _ => rfl)
  have hR2 := hrow
  clear hrow
  have HK := hide hkm
  clear hkm
  have B0 : w2.cell? ⟨w.heap.size, 0, none⟩ = some (.int .i64 c) := ht.cellAt (by simp) (by omega)
  have B1 : w2.cell? ⟨w.heap.size, 1, none⟩ = some (.int .i64 g) := ht.cellAt (by simp) (by omega)
  have hs2 : w.heap.size + 1 ≤ w2.heap.size := by have := ht.size; simp at this; omega
  have H2 := hide hR2
  have HT := hide ht
  clear hR1 hR2 ht
  go_enter Tryz.func229, Tryz.ntmps229
  go_wp2_with fail
  go_region_held3 (fun w' => w'.cell? ⟨w.heap.size, 0, none⟩ = some (.int .i64 c) ∧ w'.cell? ⟨w.heap.size, 1, none⟩ = some (.int .i64 g))
    (first
      | exact ⟨B0, B1⟩
      | exact ⟨ht3.cellAt B0 (by omega), ht3.cellAt B1 (by omega)⟩)
    (first
      | (go_at_call 236; refine (fill_calls b (off + k * 2) (L - k) (cap - k) _ _ c g w2.drew ⟨by omega, _, rfl, fun _ => rfl⟩ (Row.sub (w := w2.drew) H2.out k (L - k) (by omega)) (by show b < w2.heap.size; omega) (by omega)).mono ?_; rintro e w3 ⟨⟨u3, rfl⟩, hr3, ht3⟩))
  have HR3 := hide hr3
  have HT3 := hide ht3
  clear hr3 ht3
  go_wp2
  go_end0
  refine ⟨⟨_, rfl⟩, ?_, HT1.out.trans ((HT.out.mono (by omega) (by omega)).trans ((Touch.refl _ _ _ _).drew.trans (HT3.out.mono (by omega) (by omega))))⟩
  have hkm := HK.out
  refine (Row.join (k := k) (m := L - k) (w := w2.drew) (H2.out) (HT3.out.mono (Nat.le_refl _) (by omega)) HR3.out (by omega)).congr (fun i hi => ?_)
  unfold slideF
  repeat' split
  all_goals first | rfl | omega | (congr 1; omega)

set_option maxHeartbeats 1000000 in
theorem slide_zeroA (b off L : Nat)  (f : Nat → Int × Int) (c g : Int) (w : World) (hc : L ≤ L) (hr : Row w b off L f) (hb : b < w.heap.size) (hL : L ≤ 1048576) (hL0 : 0 < L)  :
    Calls Tryz.prog 229 #[.slice (some ⟨b, off, none⟩) L L, .int .i64 0, .agg #[.int .i64 c, .int .i64 g]] w fun e w' => (∃ u, e = .returned u) ∧ Row w' b off L (slideF L 0 f (c, g)) ∧ Touch b off (off + L * 2) w w' := by
  have hb1 : Below w.heap.size w (w.alloc (.cells #[.int .i64 c, .int .i64 g] 193)) := (Below.refl _ _).alloc (Nat.le_refl _) _
  have hR1 := hr.below hb1 hb
  have HT1 : Hid (Touch b off (off + L * 2) w (w.alloc (.cells #[.int .i64 c, .int .i64 g] 193))) := Touch.of_below hb1 (Nat.le_refl _) hb
  clear hr
  have x1 : ¬ (L : Int) < 0 := by omega
  have x2 : -(L : Int) < 0 := by omega
  have x3 : (0 : Int) < (L : Int) := by omega
  have x5 : L ≤ L := by omega
  have x6 : (L : Int) ≤ (L : Int) := by omega
  have x7 : IntKind.i64.wrap (L : Int) = (L : Int) := wrap_small (by omega) (by omega)
  have x8 : (0 : Int) ≤ (L : Int) := by omega
  have x12 : ¬ L = 0 := by omega
  obtain ⟨w2, hrun, hrow, ht⟩ := run_copy2 (P := Tryz.prog) (w.alloc (.cells #[.int .i64 c, .int .i64 g] 193)) 33 33 3 193 Tryz.underlying33 cell_size2
    (some ⟨b, off, none⟩) (some ⟨b, off, none⟩) L L L L L (by show L = min L L; omega) b off f hR1 (fun _ => rfl) b off f hR1.read (fun _ => rfl)
  have hR2 := hrow
  clear hrow
  have B0 : w2.cell? ⟨w.heap.size, 0, none⟩ = some (.int .i64 c) := ht.cellAt (by simp) (by omega)
  have B1 : w2.cell? ⟨w.heap.size, 1, none⟩ = some (.int .i64 g) := ht.cellAt (by simp) (by omega)
  have hs2 : w.heap.size + 1 ≤ w2.heap.size := by have := ht.size; simp at this; omega
  have H2 := hide hR2
  have HT := hide ht
  clear hR1 hR2 ht
  go_enter Tryz.func229, Tryz.ntmps229
  go_wp2_with fail
  go_region_held3 (fun w' => w'.cell? ⟨w.heap.size, 0, none⟩ = some (.int .i64 c) ∧ w'.cell? ⟨w.heap.size, 1, none⟩ = some (.int .i64 g))
    (first
      | exact ⟨B0, B1⟩
      | exact ⟨ht3.cellAt B0 (by omega), ht3.cellAt B1 (by omega)⟩)
    (first
      | (go_at_call 236; refine (fill_calls b off 0 _ _ (fun _ => (0, 0)) c g w2.drew ⟨Nat.zero_le _, _, rfl, fun h => by omega⟩ (fun i hi => by omega) (by show b < w2.heap.size; omega) (by omega)).mono ?_; rintro e w3 ⟨⟨u3, rfl⟩, hr3, ht3⟩))
  have HR3 := hide hr3
  have HT3 := hide ht3
  clear hr3 ht3
  go_wp2
  go_end0
  refine ⟨⟨_, rfl⟩, ?_, HT1.out.trans ((HT.out.mono (by omega) (by omega)).trans ((Touch.refl _ _ _ _).drew.trans (HT3.out.mono (by omega) (by omega))))⟩
  refine (Row.touch (w := w2.drew) H2.out HT3.out (by omega)).congr (fun i hi => ?_)
  unfold slideF
  repeat' split
  all_goals first | rfl | omega | (congr 1; omega)

set_option maxHeartbeats 1000000 in
theorem slide_zeroB (b off L cap : Nat)  (f : Nat → Int × Int) (c g : Int) (w : World) (hc : L ≤ cap) (hr : Row w b off L f) (hb : b < w.heap.size) (hL : L ≤ 1048576) (hL0 : 0 < L) (hcap : ¬ cap = L) :
    Calls Tryz.prog 229 #[.slice (some ⟨b, off, none⟩) L cap, .int .i64 0, .agg #[.int .i64 c, .int .i64 g]] w fun e w' => (∃ u, e = .returned u) ∧ Row w' b off L (slideF L 0 f (c, g)) ∧ Touch b off (off + L * 2) w w' := by
  have hb1 : Below w.heap.size w (w.alloc (.cells #[.int .i64 c, .int .i64 g] 193)) := (Below.refl _ _).alloc (Nat.le_refl _) _
  have hR1 := hr.below hb1 hb
  have HT1 : Hid (Touch b off (off + L * 2) w (w.alloc (.cells #[.int .i64 c, .int .i64 g] 193))) := Touch.of_below hb1 (Nat.le_refl _) hb
  clear hr
  have hcap' : ¬ L = cap := fun h => hcap h.symm
  have x1 : ¬ (L : Int) < 0 := by omega
  have x2 : -(L : Int) < 0 := by omega
  have x3 : (0 : Int) < (L : Int) := by omega
  have x5 : L ≤ cap := by omega
  have x6 : (L : Int) ≤ (cap : Int) := by omega
  have x7 : IntKind.i64.wrap (L : Int) = (L : Int) := wrap_small (by omega) (by omega)
  have x8 : (0 : Int) ≤ (L : Int) := by omega
  have x12 : ¬ cap = 0 := by omega
  obtain ⟨w2, hrun, hrow, ht⟩ := run_copy2 (P := Tryz.prog) (w.alloc (.cells #[.int .i64 c, .int .i64 g] 193)) 33 33 3 193 Tryz.underlying33 cell_size2
    (some ⟨b, off, none⟩) (some ⟨b, off, none⟩) L cap L cap L (by show L = min L L; omega) b off f hR1 (fun _ => rfl) b off f hR1.read (fun _ => rfl)
  have hR2 := hrow
  clear hrow
  have B0 : w2.cell? ⟨w.heap.size, 0, none⟩ = some (.int .i64 c) := ht.cellAt (by simp) (by omega)
  have B1 : w2.cell? ⟨w.heap.size, 1, none⟩ = some (.int .i64 g) := ht.cellAt (by simp) (by omega)
  have hs2 : w.heap.size + 1 ≤ w2.heap.size := by have := ht.size; simp at this; omega
  have H2 := hide hR2
  have HT := hide ht
  clear hR1 hR2 ht
  go_enter Tryz.func229, Tryz.ntmps229
  go_wp2_with fail
  go_region_held3 (fun w' => w'.cell? ⟨w.heap.size, 0, none⟩ = some (.int .i64 c) ∧ w'.cell? ⟨w.heap.size, 1, none⟩ = some (.int .i64 g))
    (first
      | exact ⟨B0, B1⟩
      | exact ⟨ht3.cellAt B0 (by omega), ht3.cellAt B1 (by omega)⟩)
    (first
      | (go_at_call 236; refine (fill_calls b off 0 _ _ (fun _ => (0, 0)) c g w2.drew ⟨Nat.zero_le _, _, rfl, fun h => by omega⟩ (fun i hi => by omega) (by show b < w2.heap.size; omega) (by omega)).mono ?_; rintro e w3 ⟨⟨u3, rfl⟩, hr3, ht3⟩))
  have HR3 := hide hr3
  have HT3 := hide ht3
  clear hr3 ht3
  go_wp2
  go_end0
  refine ⟨⟨_, rfl⟩, ?_, HT1.out.trans ((HT.out.mono (by omega) (by omega)).trans ((Touch.refl _ _ _ _).drew.trans (HT3.out.mono (by omega) (by omega))))⟩
  refine (Row.touch (w := w2.drew) H2.out HT3.out (by omega)).congr (fun i hi => ?_)
  unfold slideF
  repeat' split
  all_goals first | rfl | omega | (congr 1; omega)

theorem slide_calls (b off L cap : Nat) (v : Value) (f : Nat → Int × Int) (n c g : Int) (w : World) (hv : SlAt v b off L cap) (hr : Row w b off L f) (hb : b < w.heap.size) (hL : L ≤ 1048576) (hL0 : 0 < L) :
    Calls Tryz.prog 229 #[v, .int .i64 n, .agg #[.int .i64 c, .int .i64 g]] w fun e w' => (∃ u, e = .returned u) ∧ Row w' b off L (slideF L n f (c, g)) ∧ Touch b off (off + L * 2) w w' := by
  obtain ⟨hc, a, rfl, ha⟩ := hv
  obtain rfl := ha hL0
  by_cases h0 : n < 0
  · by_cases h1 : n ≤ -(L : Int)
    · by_cases hcap : cap = L
      · subst hcap; exact slide_negallA b off cap n f c g w hc hr hb hL hL0 h0 h1
      · exact slide_negallB b off L cap n f c g w hc hr hb hL hL0 h0 h1 hcap
    · obtain ⟨m, rfl⟩ : ∃ m : Nat, n = -(m : Int) := ⟨(-n).toNat, by omega⟩
      exact slide_neg b off L cap m f c g w hc hr hb hL hL0 (by omega) (by omega)
  · by_cases h1 : (L : Int) ≤ n
    · by_cases hcap : cap = L
      · subst hcap; exact slide_posallA b off cap n f c g w hc hr hb hL hL0 h1
      · exact slide_posallB b off L cap n f c g w hc hr hb hL hL0 h1 hcap
    · obtain ⟨m, rfl⟩ : ∃ m : Nat, n = (m : Int) := ⟨n.toNat, by omega⟩
      by_cases hm : m = 0
      · subst hm
        by_cases hcap : cap = L
        · subst hcap; exact slide_zeroA b off cap f c g w hc hr hb hL hL0
        · exact slide_zeroB b off L cap f c g w hc hr hb hL hL0 hcap
      · exact slide_pos b off L cap m (L - m) f c g w hc hr hb hL hL0 (by omega) (by omega) (by omega)

end Go.Proofs.YtdekegjplegkeaaGreat

/- Places and rows of a grid: impl.isPlace; spec.l3Place, l3RowOf, l3Row. -/
namespace Go.Proofs.YtdekegjplegkeaaGreat
set_option maxRecDepth 20000
open Go.ChangeShapes Go.WideShapes Go.ChangeAt Go.RowKit
set_option linter.unusedVariables false
set_option linter.unusedSimpArgs false
set_option maxRecDepth 20000

theorem pread_of_row {w : World} {b off n cap : Nat} {f : Nat → Int × Int} (h : RowR w b off n f) : PRead w (.slice (some ⟨b, off, none⟩) n cap) (mkL n f) := by
  refine ⟨_, _, by rw [mkL_length], .inr ⟨b, off, rfl, fun i hi => ?_⟩⟩
  rw [mkL_length] at hi
  rw [mkL_get _ _ _ hi]
  exact h i hi

set_option maxHeartbeats 2000000 in
theorem l3RowOf_calls (pb bx n cx k m u : Nat) (y wd : Int) (f : Nat → Int × Int) (w : World) (c1 : w.cell? ⟨pb, 1, none⟩ = some (.int .i64 wd)) (c2 : w.cell? ⟨pb, 2, none⟩ = some (.slice (some ⟨bx, 0, none⟩) n cx)) (hr : RowR w bx 0 n f) (hc : n ≤ cx)
    (hk : y * wd = (k : Int)) (hm : wd = (m : Int)) (hu : u = k + m) (hun : u ≤ n) (hn : n ≤ 1048576) (hm0 : 0 < m) (y0 : 0 ≤ y) (y1 : y ≤ 1000) :
    Calls Tryz.prog 194 #[.pointer (some ⟨pb, 0, none⟩), .int .i64 y] w fun e w' => ∃ v, e = .returned v ∧ w'.ownsRow w.heap.size 193 2 v m (pvs (mkL m (fun i => f (k + i)))) ∧ Below w.heap.size w w' := by
  obtain ⟨i0, hi, hz0, hz1, hz2⟩ := info_parts info_cell
  have e1 : IntKind.i64.wrap (y * wd) = (k : Int) := by rw [hk]; exact wrap_small (by omega) (by omega)
  have e2 : IntKind.i64.wrap ((y + 1) * wd) = (u : Int) := by rw [Int.add_mul, hk, hm]; rw [show (k : Int) + 1 * (m : Int) = (u : Int) by omega]; exact wrap_small (by omega) (by omega)
  have e3 : IntKind.i64.wrap (y + 1) = y + 1 := wrap_small (by omega) (by omega)
  have e4 : u ≤ cx := by omega
  have e5 : (k : Int) ≤ (u : Int) := by omega
  have e6 : (u : Int) ≤ (cx : Int) := by omega
  have e7 : ¬ cx = k := by omega
  have e8 : ¬ k = cx := by omega
  have e9 : k ≤ u := by omega
  have HK := hide hk
  have HM := hide hm
  have HU := hide hu
  clear hk hm
  have hpr : PRead (w.drew.alloc (.cells #[] 193)) (.slice (some ⟨bx, k * 2, none⟩) (u - k) (cx - k)) (mkL (u - k) (fun i => f (k + i))) := by
    have h := (hr.sub k (u - k) (by omega)).below (B := w.heap.size) (w' := w.drew.alloc (.cells #[] 193)) (by repeat' (first | with_reducible exact Below.refl _ _ | with_reducible assumption | with_reducible refine Below.drew ?_ | with_reducible refine Below.alloc ?_ ?_ _ | with_reducible refine Below.setCell ?_ ?_ _ | (simp; done) | (simp; omega) | omega)) (hr.lt (by omega))
    rw [Nat.zero_add] at h
    exact pread_of_row h
  clear hu hr
  go_enter Tryz.func194, Tryz.ntmps194
  go_wp2_with fail
  have hlit : (w.drew.alloc (.cells #[] 193)).ownsRow w.heap.size 193 2 (.slice (some ⟨w.heap.size, 0, none⟩) 0 0) 0 (pvs []) := World.ownsRow_lit (base := w.heap.size) (e := 193) (size := 2) w.drew #[] 0 (Nat.le_refl _) (by simp) rfl
  have hba : Below w.heap.size w (w.alloc (.cells #[] 193)) := (by repeat' (first | with_reducible exact Below.refl _ _ | with_reducible assumption | with_reducible refine Below.drew ?_ | with_reducible refine Below.alloc ?_ ?_ _ | with_reducible refine Below.setCell ?_ ?_ _ | (simp; done) | (simp; omega) | omega))
  have K1 := cellb hba c1
  have K2 := cellb hba c2
  refine wp_region_held_drew (S := (fun w' => w'.cell? ⟨pb, 1, none⟩ = some (.int .i64 wd) ∧ w'.cell? ⟨pb, 2, none⟩ = some (.slice (some ⟨bx, 0, none⟩) n cx))) (by kernel_rfl) ?_ (fun hHeld => ?_)
  · (try dsimp only); exact ⟨c1, c2⟩
  refine wpAnyH_take (i := 1) (oi := ⟨_, _, _, _, _, _⟩) (v := ?_) rfl (by kernel_rfl) (by kernel_rfl) (by kernel_rfl) (fun _ _ _ h => h) (Or.inl ⟨by rfl, ?_⟩) hHeld ?_
  rotate_left
  · (intro w hSw; (try dsimp only at hSw); go_simp; try (with_reducible rfl))
  try simp only [Act.put, List.setIfInBounds_toArray, List.set_cons_zero, List.set_cons_succ]
  refine wpAnyH_take (i := 2) (oi := ⟨_, _, _, _, _, _⟩) (v := ?_) rfl (by kernel_rfl) (by kernel_rfl) (by kernel_rfl) (fun _ _ _ h => h) (Or.inl ⟨by rfl, ?_⟩) hHeld ?_
  rotate_left
  · (intro w hSw; (try dsimp only at hSw); go_simp; try (with_reducible rfl))
  try simp only [Act.put, List.setIfInBounds_toArray, List.set_cons_zero, List.set_cons_succ]
  refine wpAnyH_take (i := 3) (oi := ⟨_, _, _, _, _, _⟩) (v := ?_) rfl (by kernel_rfl) (by kernel_rfl) (by kernel_rfl) (fun _ _ _ h => h) (Or.inl ⟨by rfl, ?_⟩) hHeld ?_
  rotate_left
  · (intro w hSw; (try dsimp only at hSw); go_simp; try (with_reducible rfl))
  try simp only [Act.put, List.setIfInBounds_toArray, List.set_cons_zero, List.set_cons_succ]
  refine wpAnyH_take (i := 4) (oi := ⟨_, _, _, _, _, _⟩) (v := ?_) rfl (by kernel_rfl) (by kernel_rfl) (by kernel_rfl) (fun _ _ _ h => h) (Or.inl ⟨by rfl, ?_⟩) hHeld ?_
  rotate_left
  · (intro w hSw; (try dsimp only at hSw); go_simp; try (with_reducible rfl))
  try simp only [Act.put, List.setIfInBounds_toArray, List.set_cons_zero, List.set_cons_succ]
  refine wpAnyH_take (i := 5) (oi := ⟨_, _, _, _, _, _⟩) (v := ?_) rfl (by kernel_rfl) (by kernel_rfl) (by kernel_rfl) (fun _ _ _ h => h) (Or.inl ⟨by rfl, ?_⟩) hHeld ?_
  rotate_left
  · (intro w hSw; (try dsimp only at hSw); go_simp; try (with_reducible rfl))
  try simp only [Act.put, List.setIfInBounds_toArray, List.set_cons_zero, List.set_cons_succ]
  refine wpAnyH_take (i := 6) (oi := ⟨_, _, _, _, _, _⟩) (v := ?_) rfl (by kernel_rfl) (by kernel_rfl) (by kernel_rfl) (fun _ _ _ h => h) (Or.inl ⟨by rfl, ?_⟩) hHeld ?_
  rotate_left
  · (intro w hSw; (try dsimp only at hSw); go_simp; try (with_reducible rfl))
  try simp only [Act.put, List.setIfInBounds_toArray, List.set_cons_zero, List.set_cons_succ]
  refine wpAnyH_take (i := 7) (oi := ⟨_, _, _, _, _, _⟩) (v := ?_) rfl (by kernel_rfl) (by kernel_rfl) (by kernel_rfl) (fun _ _ _ h => h) (Or.inl ⟨by rfl, ?_⟩) hHeld ?_
  rotate_left
  · (intro w hSw; (try dsimp only at hSw); go_simp; try (with_reducible rfl))
  try simp only [Act.put, List.setIfInBounds_toArray, List.set_cons_zero, List.set_cons_succ]
  refine wpAnyH_take (i := 8) (oi := ⟨_, _, _, _, _, _⟩) (v := ?_) rfl (by kernel_rfl) (by kernel_rfl) (by kernel_rfl) (fun _ _ _ h => h) (Or.inl ⟨by rfl, ?_⟩) hHeld ?_
  rotate_left
  · (intro w hSw; (try dsimp only at hSw); go_simp; try (with_reducible rfl))
  try simp only [Act.put, List.setIfInBounds_toArray, List.set_cons_zero, List.set_cons_succ]
  refine wpAnyH_take (i := 9) (oi := ⟨_, _, _, _, _, _⟩) (v := ?_) rfl (by kernel_rfl) (by kernel_rfl) (by kernel_rfl) (fun _ _ _ h => h) (Or.inl ⟨by rfl, ?_⟩) hHeld ?_
  rotate_left
  · (intro w hSw; (try dsimp only at hSw); go_simp; try (with_reducible rfl))
  try simp only [Act.put, List.setIfInBounds_toArray, List.set_cons_zero, List.set_cons_succ]
  refine wpAnyH_take (i := 10) (oi := ⟨_, _, _, _, _, _⟩) (v := ?_) rfl (by kernel_rfl) (by kernel_rfl) (by kernel_rfl) (fun _ _ _ h => h) (Or.inl ⟨by rfl, ?_⟩) hHeld ?_
  rotate_left
  · (intro w hSw; (try dsimp only at hSw); go_simp; try (with_reducible rfl))
  try simp only [Act.put, List.setIfInBounds_toArray, List.set_cons_zero, List.set_cons_succ]
  refine wpAnyH_take (i := 11) (oi := ⟨_, _, _, _, _, _⟩) (v := ?_) rfl (by kernel_rfl) (by kernel_rfl) (by kernel_rfl) (fun _ _ _ h => h) (Or.inl ⟨by rfl, ?_⟩) hHeld ?_
  rotate_left
  · (intro w hSw; (try dsimp only at hSw); go_simp; try (with_reducible rfl))
  try simp only [Act.put, List.setIfInBounds_toArray, List.set_cons_zero, List.set_cons_succ]
  refine wpAnyH_take (i := 12) (oi := ⟨_, _, _, _, _, _⟩) (v := ?_) rfl (by kernel_rfl) (by kernel_rfl) (by kernel_rfl) (fun _ _ _ h => h) (Or.inl ⟨by rfl, ?_⟩) hHeld ?_
  rotate_left
  · (intro w hSw; (try dsimp only at hSw); go_simp; try (with_reducible rfl))
  try simp only [Act.put, List.setIfInBounds_toArray, List.set_cons_zero, List.set_cons_succ]
  refine wpAnyH_take (i := 13) (oi := ⟨_, _, _, _, _, _⟩) (v := ?_) rfl (by kernel_rfl) (by kernel_rfl) (by kernel_rfl) (fun _ _ _ h => h) (Or.inl ⟨by rfl, ?_⟩) hHeld ?_
  rotate_left
  · (intro w hSw; (try dsimp only at hSw); go_simp; try (with_reducible rfl))
  try simp only [Act.put, List.setIfInBounds_toArray, List.set_cons_zero, List.set_cons_succ]
  refine wpAnyH_take (i := 14) (oi := ⟨_, _, _, _, _, _⟩) (v := ?_) rfl (by kernel_rfl) (by kernel_rfl) (by kernel_rfl) (fun _ _ _ h => h) (Or.inl ⟨by rfl, ?_⟩) hHeld ?_
  rotate_left
  · (intro w hSw; (try dsimp only at hSw); go_simp; try (with_reducible rfl))
  try simp only [Act.put, List.setIfInBounds_toArray, List.set_cons_zero, List.set_cons_succ]
  refine wpAnyH_take (i := 15) (oi := ⟨_, _, _, _, _, _⟩) (v := ?_) rfl (by kernel_rfl) (by kernel_rfl) (by kernel_rfl) (fun _ _ _ h => h) (Or.inl ⟨by rfl, ?_⟩) hHeld ?_
  rotate_left
  · (intro w hSw; (try dsimp only at hSw); go_simp; try (with_reducible rfl))
  try simp only [Act.put, List.setIfInBounds_toArray, List.set_cons_zero, List.set_cons_succ]
  refine wpAnyH_take (i := 16) (oi := ⟨_, _, _, _, _, _⟩) (v := ?_) rfl (by kernel_rfl) (by kernel_rfl) (by kernel_rfl) (fun _ _ _ h => h) (Or.inl ⟨by rfl, ?_⟩) hHeld ?_
  rotate_left
  · (intro w hSw; (try dsimp only at hSw); go_simp; try (with_reducible rfl))
  try simp only [Act.put, List.setIfInBounds_toArray, List.set_cons_zero, List.set_cons_succ]
  refine wpAnyH_take (i := 17) (oi := ⟨_, _, _, _, _, _⟩) (v := ?_) rfl (by kernel_rfl) (by kernel_rfl) (by kernel_rfl) (fun _ _ _ h => h) (Or.inl ⟨by rfl, ?_⟩) hHeld ?_
  rotate_left
  · (intro w hSw; (try dsimp only at hSw); go_simp; try (with_reducible rfl))
  try simp only [Act.put, List.setIfInBounds_toArray, List.set_cons_zero, List.set_cons_succ]
  refine wpAnyH_take (i := 18) (oi := ⟨_, _, _, _, _, _⟩) (v := ?_) rfl (by kernel_rfl) (by kernel_rfl) (by kernel_rfl) (fun _ _ _ h => h) (Or.inl ⟨by rfl, ?_⟩) hHeld ?_
  rotate_left
  · (intro w hSw; (try dsimp only at hSw); go_simp; try (with_reducible rfl))
  try simp only [Act.put, List.setIfInBounds_toArray, List.set_cons_zero, List.set_cons_succ]
  refine wpAnyH_ready (rs := [0]) (by kernel_rfl) (by simp) ?_
  refine (AllReadyH.cons (o := ⟨_, _, _, _, _, _⟩) rfl (fun K hK => ?_) AllReadyH.nil)
  go_simp
  refine hK.out _ _ ?_ ?_
  · (try dsimp only); exact ⟨K1, K2⟩
  clear hHeld hK K
  intro hHeld
  try simp only [Act.put, List.setIfInBounds_toArray, List.set_cons_zero, List.set_cons_succ]
  refine wpAnyH_ready (rs := [19]) (by kernel_rfl) (by simp) ?_
  refine (AllReadyH.cons (o := ⟨_, _, _, _, _, _⟩) rfl (fun K hK => ?_) AllReadyH.nil)
  refine step_append_pread rfl (.tmp 5) (.tmp 23) 33 rfl w.heap.size 193 i0 (.agg #[.int .i64 0, .int .i64 0]) 16 Tryz.underlying33 hi hz0 hz1 hz2 rfl _ 0 [] rfl hlit (some ⟨bx, k * 2, none⟩) (mkL (u - k) (fun i => f (k + i))) (u - k) (cx - k) rfl (by rw [mkL_length]) hpr (by unfold maxLen; omega) (by omega) (by show w.heap.size ≤ (w.drew.alloc _).heap.size; simp) ?_
  intro v w1 hown1 hgr1
  have hb1 : Below w.heap.size w w1 := (((below_drewN (Below.refl _ _) 1).alloc (Nat.le_refl _) _) : Below w.heap.size w (w.drew.alloc (.cells #[] 193))).grown hgr1 (by show w.heap.size ≤ (w.drew.alloc _).heap.size; simp) (fun q hq => (hlit.lt q hq).1)
  replace K1 := cellb hb1 c1
  replace K2 := cellb hb1 c2
  try simp only [List.nil_append, Nat.zero_add] at hown1
  obtain ⟨av, cv, rfl, hvc⟩ := own_room2 hown1
  have HO := hide hown1
  clear hown1 hgr1
  refine hK.out _ _ ?_ ?_
  · (try dsimp only); exact ⟨K1, K2⟩
  clear hHeld hK K
  intro hHeld
  try simp only [Act.put, List.setIfInBounds_toArray, List.set_cons_zero, List.set_cons_succ]
  refine wpAnyH_take (i := 20) (oi := ⟨_, _, _, _, _, _⟩) (v := ?_) rfl (by kernel_rfl) (by kernel_rfl) (by kernel_rfl) (fun _ _ _ h => h) (Or.inl ⟨by rfl, ?_⟩) hHeld ?_
  rotate_left
  · (intro w hSw; (try dsimp only at hSw); go_simp; try (with_reducible rfl))
  try simp only [Act.put, List.setIfInBounds_toArray, List.set_cons_zero, List.set_cons_succ]
  refine wpAnyH_done (by kernel_rfl) ?_ _
  go_wp2
  go_ret
  have hm' : u - k = m := by have := HU.out; omega
  refine ⟨.slice av (u - k) cv, rfl, ?_, hb1⟩
  have h := HO.out
  rw [hm'] at h ⊢
  exact h
set_option maxHeartbeats 2000000 in
theorem l3Row_calls (pb bx n cx k m u b' m' c' mm : Nat) (y wd : Int) (f g : Nat → Int × Int) (w : World) (c1 : w.cell? ⟨pb, 1, none⟩ = some (.int .i64 wd)) (c2 : w.cell? ⟨pb, 2, none⟩ = some (.slice (some ⟨bx, 0, none⟩) n cx)) (hr : Row w bx 0 n f) (hc : n ≤ cx) (hp : pb ≠ bx)
    (hg : RowR w b' 0 mm g) (hk : y * wd = (k : Int)) (hm : wd = (m : Int)) (hu : u = k + m) (hun : u ≤ n) (hn : n ≤ 1048576) (hm0 : 0 < m) (y0 : 0 ≤ y) (y1 : y ≤ 1000) (hmm : mm = min m' m) :
    Calls Tryz.prog 192 #[.pointer (some ⟨pb, 0, none⟩), .int .i64 y, .slice (some ⟨b', 0, none⟩) m' c'] w fun e w' => (∃ u, e = .returned u) ∧ Row w' bx 0 n (fun i => if k ≤ i ∧ i < k + mm then g (i - k) else f i) ∧ Touch bx 0 (n * 2) w w' := by
  have e1 : IntKind.i64.wrap (y * wd) = (k : Int) := by rw [hk]; exact wrap_small (by omega) (by omega)
  have e2 : IntKind.i64.wrap ((y + 1) * wd) = (u : Int) := by rw [Int.add_mul, hk, hm]; rw [show (k : Int) + 1 * (m : Int) = (u : Int) by omega]; exact wrap_small (by omega) (by omega)
  have e3 : IntKind.i64.wrap (y + 1) = y + 1 := wrap_small (by omega) (by omega)
  have e4 : u ≤ cx := by omega
  have e5 : (k : Int) ≤ (u : Int) := by omega
  have e6 : (u : Int) ≤ (cx : Int) := by omega
  have e7 : ¬ cx = k := by omega
  have e8 : ¬ k = cx := by omega
  have e9 : k ≤ u := by omega
  have HK := hide hk
  have HM := hide hm
  have HU := hide hu
  clear hk hm
  have hsub : Row w bx (k * 2) (u - k) (fun i => f (k + i)) := by have h := hr.sub k (u - k) (by omega); rw [Nat.zero_add] at h; exact h
  have HF := hide hr
  have HMM := hide hmm
  clear hr hu hmm
  go_enter Tryz.func192, Tryz.ntmps192
  go_wp2_with fail
  refine wp_region_held_drew (S := (fun w' => w'.cell? ⟨pb, 1, none⟩ = some (.int .i64 wd) ∧ w'.cell? ⟨pb, 2, none⟩ = some (.slice (some ⟨bx, 0, none⟩) n cx))) (by kernel_rfl) ?_ (fun hHeld => ?_)
  · (try dsimp only); exact ⟨c1, c2⟩
  refine wpAnyH_take (i := 0) (oi := ⟨_, _, _, _, _, _⟩) (v := ?_) rfl (by kernel_rfl) (by kernel_rfl) (by kernel_rfl) (fun _ _ _ h => h) (Or.inl ⟨by rfl, ?_⟩) hHeld ?_
  rotate_left
  · (intro w hSw; (try dsimp only at hSw); go_simp; try (with_reducible rfl))
  try simp only [Act.put, List.setIfInBounds_toArray, List.set_cons_zero, List.set_cons_succ]
  refine wpAnyH_take (i := 1) (oi := ⟨_, _, _, _, _, _⟩) (v := ?_) rfl (by kernel_rfl) (by kernel_rfl) (by kernel_rfl) (fun _ _ _ h => h) (Or.inl ⟨by rfl, ?_⟩) hHeld ?_
  rotate_left
  · (intro w hSw; (try dsimp only at hSw); go_simp; try (with_reducible rfl))
  try simp only [Act.put, List.setIfInBounds_toArray, List.set_cons_zero, List.set_cons_succ]
  refine wpAnyH_take (i := 2) (oi := ⟨_, _, _, _, _, _⟩) (v := ?_) rfl (by kernel_rfl) (by kernel_rfl) (by kernel_rfl) (fun _ _ _ h => h) (Or.inl ⟨by rfl, ?_⟩) hHeld ?_
  rotate_left
  · (intro w hSw; (try dsimp only at hSw); go_simp; try (with_reducible rfl))
  try simp only [Act.put, List.setIfInBounds_toArray, List.set_cons_zero, List.set_cons_succ]
  refine wpAnyH_take (i := 3) (oi := ⟨_, _, _, _, _, _⟩) (v := ?_) rfl (by kernel_rfl) (by kernel_rfl) (by kernel_rfl) (fun _ _ _ h => h) (Or.inl ⟨by rfl, ?_⟩) hHeld ?_
  rotate_left
  · (intro w hSw; (try dsimp only at hSw); go_simp; try (with_reducible rfl))
  try simp only [Act.put, List.setIfInBounds_toArray, List.set_cons_zero, List.set_cons_succ]
  refine wpAnyH_take (i := 4) (oi := ⟨_, _, _, _, _, _⟩) (v := ?_) rfl (by kernel_rfl) (by kernel_rfl) (by kernel_rfl) (fun _ _ _ h => h) (Or.inl ⟨by rfl, ?_⟩) hHeld ?_
  rotate_left
  · (intro w hSw; (try dsimp only at hSw); go_simp; try (with_reducible rfl))
  try simp only [Act.put, List.setIfInBounds_toArray, List.set_cons_zero, List.set_cons_succ]
  refine wpAnyH_take (i := 5) (oi := ⟨_, _, _, _, _, _⟩) (v := ?_) rfl (by kernel_rfl) (by kernel_rfl) (by kernel_rfl) (fun _ _ _ h => h) (Or.inl ⟨by rfl, ?_⟩) hHeld ?_
  rotate_left
  · (intro w hSw; (try dsimp only at hSw); go_simp; try (with_reducible rfl))
  try simp only [Act.put, List.setIfInBounds_toArray, List.set_cons_zero, List.set_cons_succ]
  refine wpAnyH_take (i := 6) (oi := ⟨_, _, _, _, _, _⟩) (v := ?_) rfl (by kernel_rfl) (by kernel_rfl) (by kernel_rfl) (fun _ _ _ h => h) (Or.inl ⟨by rfl, ?_⟩) hHeld ?_
  rotate_left
  · (intro w hSw; (try dsimp only at hSw); go_simp; try (with_reducible rfl))
  try simp only [Act.put, List.setIfInBounds_toArray, List.set_cons_zero, List.set_cons_succ]
  refine wpAnyH_take (i := 7) (oi := ⟨_, _, _, _, _, _⟩) (v := ?_) rfl (by kernel_rfl) (by kernel_rfl) (by kernel_rfl) (fun _ _ _ h => h) (Or.inl ⟨by rfl, ?_⟩) hHeld ?_
  rotate_left
  · (intro w hSw; (try dsimp only at hSw); go_simp; try (with_reducible rfl))
  try simp only [Act.put, List.setIfInBounds_toArray, List.set_cons_zero, List.set_cons_succ]
  refine wpAnyH_take (i := 8) (oi := ⟨_, _, _, _, _, _⟩) (v := ?_) rfl (by kernel_rfl) (by kernel_rfl) (by kernel_rfl) (fun _ _ _ h => h) (Or.inl ⟨by rfl, ?_⟩) hHeld ?_
  rotate_left
  · (intro w hSw; (try dsimp only at hSw); go_simp; try (with_reducible rfl))
  try simp only [Act.put, List.setIfInBounds_toArray, List.set_cons_zero, List.set_cons_succ]
  refine wpAnyH_take (i := 9) (oi := ⟨_, _, _, _, _, _⟩) (v := ?_) rfl (by kernel_rfl) (by kernel_rfl) (by kernel_rfl) (fun _ _ _ h => h) (Or.inl ⟨by rfl, ?_⟩) hHeld ?_
  rotate_left
  · (intro w hSw; (try dsimp only at hSw); go_simp; try (with_reducible rfl))
  try simp only [Act.put, List.setIfInBounds_toArray, List.set_cons_zero, List.set_cons_succ]
  refine wpAnyH_take (i := 10) (oi := ⟨_, _, _, _, _, _⟩) (v := ?_) rfl (by kernel_rfl) (by kernel_rfl) (by kernel_rfl) (fun _ _ _ h => h) (Or.inl ⟨by rfl, ?_⟩) hHeld ?_
  rotate_left
  · (intro w hSw; (try dsimp only at hSw); go_simp; try (with_reducible rfl))
  try simp only [Act.put, List.setIfInBounds_toArray, List.set_cons_zero, List.set_cons_succ]
  refine wpAnyH_take (i := 11) (oi := ⟨_, _, _, _, _, _⟩) (v := ?_) rfl (by kernel_rfl) (by kernel_rfl) (by kernel_rfl) (fun _ _ _ h => h) (Or.inl ⟨by rfl, ?_⟩) hHeld ?_
  rotate_left
  · (intro w hSw; (try dsimp only at hSw); go_simp; try (with_reducible rfl))
  try simp only [Act.put, List.setIfInBounds_toArray, List.set_cons_zero, List.set_cons_succ]
  refine wpAnyH_take (i := 12) (oi := ⟨_, _, _, _, _, _⟩) (v := ?_) rfl (by kernel_rfl) (by kernel_rfl) (by kernel_rfl) (fun _ _ _ h => h) (Or.inl ⟨by rfl, ?_⟩) hHeld ?_
  rotate_left
  · (intro w hSw; (try dsimp only at hSw); go_simp; try (with_reducible rfl))
  try simp only [Act.put, List.setIfInBounds_toArray, List.set_cons_zero, List.set_cons_succ]
  refine wpAnyH_take (i := 13) (oi := ⟨_, _, _, _, _, _⟩) (v := ?_) rfl (by kernel_rfl) (by kernel_rfl) (by kernel_rfl) (fun _ _ _ h => h) (Or.inl ⟨by rfl, ?_⟩) hHeld ?_
  rotate_left
  · (intro w hSw; (try dsimp only at hSw); go_simp; try (with_reducible rfl))
  try simp only [Act.put, List.setIfInBounds_toArray, List.set_cons_zero, List.set_cons_succ]
  refine wpAnyH_take (i := 14) (oi := ⟨_, _, _, _, _, _⟩) (v := ?_) rfl (by kernel_rfl) (by kernel_rfl) (by kernel_rfl) (fun _ _ _ h => h) (Or.inl ⟨by rfl, ?_⟩) hHeld ?_
  rotate_left
  · (intro w hSw; (try dsimp only at hSw); go_simp; try (with_reducible rfl))
  try simp only [Act.put, List.setIfInBounds_toArray, List.set_cons_zero, List.set_cons_succ]
  refine wpAnyH_take (i := 15) (oi := ⟨_, _, _, _, _, _⟩) (v := ?_) rfl (by kernel_rfl) (by kernel_rfl) (by kernel_rfl) (fun _ _ _ h => h) (Or.inl ⟨by rfl, ?_⟩) hHeld ?_
  rotate_left
  · (intro w hSw; (try dsimp only at hSw); go_simp; try (with_reducible rfl))
  try simp only [Act.put, List.setIfInBounds_toArray, List.set_cons_zero, List.set_cons_succ]
  refine wpAnyH_take (i := 16) (oi := ⟨_, _, _, _, _, _⟩) (v := ?_) rfl (by kernel_rfl) (by kernel_rfl) (by kernel_rfl) (fun _ _ _ h => h) (Or.inl ⟨by rfl, ?_⟩) hHeld ?_
  rotate_left
  · (intro w hSw; (try dsimp only at hSw); go_simp; try (with_reducible rfl))
  try simp only [Act.put, List.setIfInBounds_toArray, List.set_cons_zero, List.set_cons_succ]
  refine wpAnyH_take (i := 17) (oi := ⟨_, _, _, _, _, _⟩) (v := ?_) rfl (by kernel_rfl) (by kernel_rfl) (by kernel_rfl) (fun _ _ _ h => h) (Or.inl ⟨by rfl, ?_⟩) hHeld ?_
  rotate_left
  · (intro w hSw; (try dsimp only at hSw); go_simp; try (with_reducible rfl))
  try simp only [Act.put, List.setIfInBounds_toArray, List.set_cons_zero, List.set_cons_succ]
  refine wpAnyH_take (i := 18) (oi := ⟨_, _, _, _, _, _⟩) (v := ?_) rfl (by kernel_rfl) (by kernel_rfl) (by kernel_rfl) (fun _ _ _ h => h) (Or.inl ⟨by rfl, ?_⟩) hHeld ?_
  rotate_left
  · (intro w hSw; (try dsimp only at hSw); go_simp; try (with_reducible rfl))
  try simp only [Act.put, List.setIfInBounds_toArray, List.set_cons_zero, List.set_cons_succ]
  refine wpAnyH_ready (rs := [19]) (by kernel_rfl) (by simp) ?_
  refine (AllReadyH.cons (o := ⟨_, _, _, _, _, _⟩) rfl (fun K hK => ?_) AllReadyH.nil)
  refine step_copy2 rfl (.tmp 23) (.tmp 24) 33 33 rfl 193 Tryz.underlying33 cell_size2 (some ⟨bx, k * 2, none⟩) (some ⟨b', 0, none⟩) (u - k) (cx - k) m' c' mm rfl rfl (by have h1 := HU.out; have h2 := HMM.out; show mm = min m' (u - k); omega) bx (k * 2) (fun i => f (k + i)) hsub (fun _ => rfl) b' 0 g hg (fun _ => rfl) ?_
  intro w1 hrow1 ht1
  have K1 := ht1.cellAt (w := w.drew) c1 (by omega)
  have K2 := ht1.cellAt (w := w.drew) c2 (by omega)
  have HR := hide hrow1
  have HT := hide ht1
  clear hrow1 ht1
  refine hK.out _ _ ?_ ?_
  · (try dsimp only); exact ⟨K1, K2⟩
  clear hHeld hK K
  intro hHeld
  try simp only [Act.put, List.setIfInBounds_toArray, List.set_cons_zero, List.set_cons_succ]
  refine wpAnyH_done (by kernel_rfl) ?_ _
  go_wp2
  go_end0
  have hr' : Row w.drew bx 0 n f := HF.out
  have hu := HU.out
  have hmm := HMM.out
  refine ⟨⟨_, rfl⟩, (hr'.join (k := k) (m := u - k) (by rw [Nat.zero_add]; exact HT.out.mono (Nat.le_refl _) (by omega)) (by rw [Nat.zero_add]; exact HR.out) (by omega)).congr (fun i hi => ?_), (Touch.refl _ _ _ _).drew.trans (HT.out.mono (Nat.zero_le _) (by omega))⟩
  by_cases e : k ≤ i ∧ i < k + (u - k)
  · rw [if_pos e]
    by_cases e2 : i - k < mm
    · rw [if_pos e2, if_pos (by omega)]
    · rw [if_neg e2, if_neg (by omega), show k + (i - k) = i by omega]
  · rw [if_neg e, if_neg (by omega)]

end Go.Proofs.YtdekegjplegkeaaGreat

/- What ShiftCells answers, of the program and of the model. -/
namespace Go.Proofs.YtdekegjplegkeaaGreat
set_option maxRecDepth 20000
open Go.ChangeShapes Go.WideShapes Go.ChangeAt Go.RowKit
set_option linter.unusedVariables false
set_option linter.unusedSimpArgs false
set_option maxRecDepth 20000

def shiftOk (r wd y x n at' : Int) : Bool := placeB r wd y x && (decide (-12 ≤ n ∧ n ≤ 12) && atB at')
/-- Of a row of m cells from place K on the cells from X on, shifted by n to the right. -/
def shiftF (K X m : Nat) (n : Int) (f : Nat → Int × Int) (bl : Int × Int) (i : Nat) : Int × Int := if K + X ≤ i ∧ i < K + m then (if (X : Int) ≤ ((i - K : Nat) : Int) - n ∧ ((i - K : Nat) : Int) - n < m then f (K + (((i - K : Nat) : Int) - n).toNat) else bl) else f i
def shiftRes (r wd : Int) (cs bs : List (Int × Int)) (y x n at' : Int) : GRes := gres r wd cs bs (shiftOk r wd y x n at') ⟨0, r, wd, mkL cs.length (shiftF (y * wd).toNat x.toNat wd.toNat n (fun i => cs.getD i (0, 0)) (32, at')), bs⟩
theorem shiftRes_def (r wd : Int) (cs bs : List (Int × Int)) (y x n at' : Int) : shiftRes r wd cs bs y x n at' = gres r wd cs bs (shiftOk r wd y x n at') ⟨0, r, wd, mkL cs.length (shiftF (y * wd).toNat x.toNat wd.toNat n (fun i => cs.getD i (0, 0)) (32, at')), bs⟩ := rfl
theorem shiftRes_len (r wd : Int) (cs bs : List (Int × Int)) (y x n at' : Int) : (shiftRes r wd cs bs y x n at').cs.length ≤ 72 ∧ (shiftRes r wd cs bs y x n at').bs.length ≤ 60 := gres_len (fun h => by obtain ⟨_, _, _, h1, h2, h3⟩ := h.short; exact ⟨by rw [mkL_length]; exact h2, h3⟩)
/-- A place of a grid without a fault, as naturals. -/
theorem place_nats {r wd y x : Int} {cs bs : List (Int × Int)} (h : GFine r wd cs bs) (hp : placeB r wd y x = true) : ∃ K X m : Nat, y * wd = (K : Int) ∧ x = (X : Int) ∧ wd = (m : Int) ∧ K + m ≤ cs.length ∧ X < m ∧ 2 ≤ m ∧ m ≤ 12 ∧ 0 ≤ y ∧ y ≤ 1000 := by
  obtain ⟨R, W, rfl, rfl, n1, n2, n3, n4, n5, n6, n7, n8, n9, n10⟩ := h.nats
  unfold placeB at hp
  simp at hp
  obtain ⟨⟨p1, p2⟩, p3, p4⟩ := hp
  obtain ⟨Y, rfl⟩ : ∃ Y : Nat, y = Y := ⟨y.toNat, by omega⟩
  obtain ⟨X, rfl⟩ : ∃ X : Nat, x = X := ⟨x.toNat, by omega⟩
  have h1 : (Y + 1) * W ≤ R * W := Nat.mul_le_mul_right W (by omega)
  rw [Nat.add_mul] at h1
  exact ⟨Y * W, X, W, by rw [Int.natCast_mul], rfl, rfl, by omega, by omega, by omega, by omega, by omega, by omega⟩
theorem fine_bounds {r wd : Int} {cs bs : List (Int × Int)} (h : GFine r wd cs bs) : 1 ≤ r ∧ r ≤ 6 ∧ 2 ≤ wd ∧ wd ≤ 12 := by
  obtain ⟨s1, s2, s3, s4, _⟩ := size_mul h.size
  exact ⟨s1, s2, s3, s4⟩

set_option maxHeartbeats 2000000 in
theorem implShiftCells_calls (r wd : Int) (cs bs : List (Int × Int)) (y x n at' : Int) (v1 v2 : Value) (w : World) (hn1 : cs.length ≤ 1048576) (hn2 : bs.length ≤ 1048576) (h1 : PRead w v1 cs) (h2 : PRead w v2 bs) :
    Calls Tryz.prog 214 #[.agg #[.int .i64 r, .int .i64 wd, v1, v2], .int .i64 y, .int .i64 x, .int .i64 n, .int .i64 at'] w fun e w' => ∃ v5 v6, e = .returned (.agg #[.int .i64 (shiftRes r wd cs bs y x n at').code, .int .i64 (shiftRes r wd cs bs y x n at').rows, .int .i64 (shiftRes r wd cs bs y x n at').wd, v5, v6]) ∧ GOwn w.heap.size w'.heap.size w' v5 v6 (shiftRes r wd cs bs y x n at').cs (shiftRes r wd cs bs y x n at').bs ∧ Below w.heap.size w w' := by
  have h1' := h1
  obtain ⟨a1, c1, rfl, hx1⟩ := h1'
  clear hx1
  have h2' := h2
  obtain ⟨a2, c2, rfl, hx2⟩ := h2'
  clear hx2
  have hb0 : Below w.heap.size w ((w.alloc (.cells #[.int .i64 r, .int .i64 wd, .slice a1 cs.length c1, .slice a2 bs.length c2] 35)).alloc (.cells #[.int .i64 0, .int .i64 0, .int .i64 0, .slice none 0 0, .slice none 0 0] 185)) := (by repeat' (first | with_reducible exact Below.refl _ _ | with_reducible assumption | with_reducible refine Below.drew ?_ | with_reducible refine Below.alloc ?_ ?_ _ | with_reducible refine Below.setCell ?_ ?_ _ | (simp; done) | (simp; omega) | omega))
  have HF := implGridFault_calls r wd cs bs _ _ ((w.alloc (.cells #[.int .i64 r, .int .i64 wd, .slice a1 cs.length c1, .slice a2 bs.length c2] 35)).alloc (.cells #[.int .i64 0, .int .i64 0, .int .i64 0, .slice none 0 0, .slice none 0 0] 185)) hn1 hn2 (h1.below hb0) (h2.below hb0)
  have hbd : gridCode r wd cs bs = 0 → 1 ≤ r ∧ r ≤ 6 ∧ 2 ≤ wd ∧ wd ≤ 12 := fun h => fine_bounds (gfine_of_code h)
  by_cases hG : gridCode r wd cs bs = 0
  · cases k0 : placeB r wd y x with
    | false =>
      obtain ⟨g1, g2, g3, g4⟩ := hbd hG
      rw [shiftRes_def, gres_bad hG (by unfold shiftOk; first | (rw [k0]; rfl) | (rw [k0, k1]; rfl) | (rw [k0, k1, k2]; rfl))]
      rw [hG] at HF
      simp only [gbad]
      go_enter Tryz.func214, Tryz.ntmps214
      go_wp2_with fail
      refine HF.mono ?_
      rintro e w1 ⟨rfl, hb1⟩
      have A0 : w1.cell? ⟨w.heap.size, 0, none⟩ = some (.int .i64 r) := cellb hb1 (by simp [go_sem])
      have A1 : w1.cell? ⟨w.heap.size, 1, none⟩ = some (.int .i64 wd) := cellb hb1 (by simp [go_sem])
      have A2 : w1.cell? ⟨w.heap.size, 2, none⟩ = some (.slice a1 cs.length c1) := cellb hb1 (by simp [go_sem])
      have A3 : w1.cell? ⟨w.heap.size, 3, none⟩ = some (.slice a2 bs.length c2) := cellb hb1 (by simp [go_sem])
      have R0 : w1.cell? ⟨w.heap.size + 1, 0, none⟩ = some (.int .i64 0) := cellb hb1 (by simp [go_sem])
      have Z0 : w1.frozen? ⟨w.heap.size + 1, 0, none⟩ = false := by rw [hb1.frozen (p := ⟨w.heap.size + 1, 0, none⟩) (by simp)]; simp [go_sem]
      have R1 : w1.cell? ⟨w.heap.size + 1, 1, none⟩ = some (.int .i64 0) := cellb hb1 (by simp [go_sem])
      have Z1 : w1.frozen? ⟨w.heap.size + 1, 1, none⟩ = false := by rw [hb1.frozen (p := ⟨w.heap.size + 1, 1, none⟩) (by simp)]; simp [go_sem]
      have R2 : w1.cell? ⟨w.heap.size + 1, 2, none⟩ = some (.int .i64 0) := cellb hb1 (by simp [go_sem])
      have Z2 : w1.frozen? ⟨w.heap.size + 1, 2, none⟩ = false := by rw [hb1.frozen (p := ⟨w.heap.size + 1, 2, none⟩) (by simp)]; simp [go_sem]
      have R3 : w1.cell? ⟨w.heap.size + 1, 3, none⟩ = some (.slice none 0 0) := cellb hb1 (by simp [go_sem])
      have Z3 : w1.frozen? ⟨w.heap.size + 1, 3, none⟩ = false := by rw [hb1.frozen (p := ⟨w.heap.size + 1, 3, none⟩) (by simp)]; simp [go_sem]
      have R4 : w1.cell? ⟨w.heap.size + 1, 4, none⟩ = some (.slice none 0 0) := cellb hb1 (by simp [go_sem])
      have Z4 : w1.frozen? ⟨w.heap.size + 1, 4, none⟩ = false := by rw [hb1.frozen (p := ⟨w.heap.size + 1, 4, none⟩) (by simp)]; simp [go_sem]
      have hs1 : w.heap.size + 2 ≤ w1.heap.size := by have := hb1.size; simp at this; omega
      have b1 : Below w.heap.size w w1 := hb0.trans (hb1.mono (by simp; omega))
      clear hb1 hb0 HF
      go_wp2_with fail
      refine (isPlace_calls r wd y x a1 a2 cs.length bs.length c1 c2 g1 g2 g3 g4 _).mono ?_
      rintro e w7 ⟨rfl, hb7⟩
      rw [k0]
      replace A0 := cellb hb7 A0
      replace A1 := cellb hb7 A1
      replace A2 := cellb hb7 A2
      replace A3 := cellb hb7 A3
      replace R0 := cellb hb7 R0
      replace R1 := cellb hb7 R1
      replace R2 := cellb hb7 R2
      replace R3 := cellb hb7 R3
      replace R4 := cellb hb7 R4
      replace Z0 : w7.frozen? ⟨w.heap.size + 1, 0, none⟩ = false := by rw [hb7.frozen (p := ⟨w.heap.size + 1, 0, none⟩) (by simp; omega)]; exact Z0
      replace Z1 : w7.frozen? ⟨w.heap.size + 1, 1, none⟩ = false := by rw [hb7.frozen (p := ⟨w.heap.size + 1, 1, none⟩) (by simp; omega)]; exact Z1
      replace Z2 : w7.frozen? ⟨w.heap.size + 1, 2, none⟩ = false := by rw [hb7.frozen (p := ⟨w.heap.size + 1, 2, none⟩) (by simp; omega)]; exact Z2
      replace Z3 : w7.frozen? ⟨w.heap.size + 1, 3, none⟩ = false := by rw [hb7.frozen (p := ⟨w.heap.size + 1, 3, none⟩) (by simp; omega)]; exact Z3
      replace Z4 : w7.frozen? ⟨w.heap.size + 1, 4, none⟩ = false := by rw [hb7.frozen (p := ⟨w.heap.size + 1, 4, none⟩) (by simp; omega)]; exact Z4
      have b7 := b1.trans (hb7.mono b1.size)
      have hs7 : w1.heap.size ≤ w7.heap.size := hb7.size
      clear hb7 b1
      have b1 := b7
      clear b7
      go_wp2_with (first
        | (go_at_call 105; refine (isFromTo_calls _ _ _ _).mono ?_; rintro e w' ⟨rfl, hw⟩; rw [hw]; clear hw w'; rw [k1])
        | (go_at_call 102; refine (isAttr_calls _ _).mono ?_; rintro e w' ⟨rfl, hw⟩; rw [hw]; clear hw w'; rw [k2]))
      have hr := res5 (w := w7) (r := w.heap.size + 1) (.int .i64 3) (.int .i64 0) (.int .i64 0) (.slice none 0 0) (.slice none 0 0) R0 R1 R2 R3 R4
      go_wp2
      refine bodyPost_ret (v := .agg #[.int .i64 3, .int .i64 0, .int .i64 0, .slice none 0 0, .slice none 0 0]) (by simp only [results, Tryz.results214]; simp [go_sem, hr.1, hr.2.1, hr.2.2.1, hr.2.2.2.1, hr.2.2.2.2]) rfl ⟨_, _, rfl, ?_, b1.trans (show Below w.heap.size w7 _ from (by repeat' (first | with_reducible exact Below.refl _ _ | with_reducible assumption | with_reducible refine Below.drew ?_ | with_reducible refine Below.alloc ?_ ?_ _ | with_reducible refine Below.setCell ?_ ?_ _ | (simp; done) | (simp; omega) | omega)))⟩
      exact GOwn.nil _ _ _ (by have := b1.size; simp [World.setCell]; omega)
    | true =>
      cases k1 : decide (-12 ≤ n ∧ n ≤ 12) with
      | false =>
        obtain ⟨g1, g2, g3, g4⟩ := hbd hG
        rw [shiftRes_def, gres_bad hG (by unfold shiftOk; first | (rw [k0]; rfl) | (rw [k0, k1]; rfl) | (rw [k0, k1, k2]; rfl))]
        rw [hG] at HF
        simp only [gbad]
        go_enter Tryz.func214, Tryz.ntmps214
        go_wp2_with fail
        refine HF.mono ?_
        rintro e w1 ⟨rfl, hb1⟩
        have A0 : w1.cell? ⟨w.heap.size, 0, none⟩ = some (.int .i64 r) := cellb hb1 (by simp [go_sem])
        have A1 : w1.cell? ⟨w.heap.size, 1, none⟩ = some (.int .i64 wd) := cellb hb1 (by simp [go_sem])
        have A2 : w1.cell? ⟨w.heap.size, 2, none⟩ = some (.slice a1 cs.length c1) := cellb hb1 (by simp [go_sem])
        have A3 : w1.cell? ⟨w.heap.size, 3, none⟩ = some (.slice a2 bs.length c2) := cellb hb1 (by simp [go_sem])
        have R0 : w1.cell? ⟨w.heap.size + 1, 0, none⟩ = some (.int .i64 0) := cellb hb1 (by simp [go_sem])
        have Z0 : w1.frozen? ⟨w.heap.size + 1, 0, none⟩ = false := by rw [hb1.frozen (p := ⟨w.heap.size + 1, 0, none⟩) (by simp)]; simp [go_sem]
        have R1 : w1.cell? ⟨w.heap.size + 1, 1, none⟩ = some (.int .i64 0) := cellb hb1 (by simp [go_sem])
        have Z1 : w1.frozen? ⟨w.heap.size + 1, 1, none⟩ = false := by rw [hb1.frozen (p := ⟨w.heap.size + 1, 1, none⟩) (by simp)]; simp [go_sem]
        have R2 : w1.cell? ⟨w.heap.size + 1, 2, none⟩ = some (.int .i64 0) := cellb hb1 (by simp [go_sem])
        have Z2 : w1.frozen? ⟨w.heap.size + 1, 2, none⟩ = false := by rw [hb1.frozen (p := ⟨w.heap.size + 1, 2, none⟩) (by simp)]; simp [go_sem]
        have R3 : w1.cell? ⟨w.heap.size + 1, 3, none⟩ = some (.slice none 0 0) := cellb hb1 (by simp [go_sem])
        have Z3 : w1.frozen? ⟨w.heap.size + 1, 3, none⟩ = false := by rw [hb1.frozen (p := ⟨w.heap.size + 1, 3, none⟩) (by simp)]; simp [go_sem]
        have R4 : w1.cell? ⟨w.heap.size + 1, 4, none⟩ = some (.slice none 0 0) := cellb hb1 (by simp [go_sem])
        have Z4 : w1.frozen? ⟨w.heap.size + 1, 4, none⟩ = false := by rw [hb1.frozen (p := ⟨w.heap.size + 1, 4, none⟩) (by simp)]; simp [go_sem]
        have hs1 : w.heap.size + 2 ≤ w1.heap.size := by have := hb1.size; simp at this; omega
        have b1 : Below w.heap.size w w1 := hb0.trans (hb1.mono (by simp; omega))
        clear hb1 hb0 HF
        go_wp2_with fail
        refine (isPlace_calls r wd y x a1 a2 cs.length bs.length c1 c2 g1 g2 g3 g4 _).mono ?_
        rintro e w7 ⟨rfl, hb7⟩
        rw [k0]
        replace A0 := cellb hb7 A0
        replace A1 := cellb hb7 A1
        replace A2 := cellb hb7 A2
        replace A3 := cellb hb7 A3
        replace R0 := cellb hb7 R0
        replace R1 := cellb hb7 R1
        replace R2 := cellb hb7 R2
        replace R3 := cellb hb7 R3
        replace R4 := cellb hb7 R4
        replace Z0 : w7.frozen? ⟨w.heap.size + 1, 0, none⟩ = false := by rw [hb7.frozen (p := ⟨w.heap.size + 1, 0, none⟩) (by simp; omega)]; exact Z0
        replace Z1 : w7.frozen? ⟨w.heap.size + 1, 1, none⟩ = false := by rw [hb7.frozen (p := ⟨w.heap.size + 1, 1, none⟩) (by simp; omega)]; exact Z1
        replace Z2 : w7.frozen? ⟨w.heap.size + 1, 2, none⟩ = false := by rw [hb7.frozen (p := ⟨w.heap.size + 1, 2, none⟩) (by simp; omega)]; exact Z2
        replace Z3 : w7.frozen? ⟨w.heap.size + 1, 3, none⟩ = false := by rw [hb7.frozen (p := ⟨w.heap.size + 1, 3, none⟩) (by simp; omega)]; exact Z3
        replace Z4 : w7.frozen? ⟨w.heap.size + 1, 4, none⟩ = false := by rw [hb7.frozen (p := ⟨w.heap.size + 1, 4, none⟩) (by simp; omega)]; exact Z4
        have b7 := b1.trans (hb7.mono b1.size)
        have hs7 : w1.heap.size ≤ w7.heap.size := hb7.size
        clear hb7 b1
        have b1 := b7
        clear b7
        go_wp2_with (first
          | (go_at_call 105; refine (isFromTo_calls _ _ _ _).mono ?_; rintro e w' ⟨rfl, hw⟩; rw [hw]; clear hw w'; rw [k1])
          | (go_at_call 102; refine (isAttr_calls _ _).mono ?_; rintro e w' ⟨rfl, hw⟩; rw [hw]; clear hw w'; rw [k2]))
        have hr := res5 (w := w7) (r := w.heap.size + 1) (.int .i64 3) (.int .i64 0) (.int .i64 0) (.slice none 0 0) (.slice none 0 0) R0 R1 R2 R3 R4
        go_wp2
        refine bodyPost_ret (v := .agg #[.int .i64 3, .int .i64 0, .int .i64 0, .slice none 0 0, .slice none 0 0]) (by simp only [results, Tryz.results214]; simp [go_sem, hr.1, hr.2.1, hr.2.2.1, hr.2.2.2.1, hr.2.2.2.2]) rfl ⟨_, _, rfl, ?_, b1.trans (show Below w.heap.size w7 _ from (by repeat' (first | with_reducible exact Below.refl _ _ | with_reducible assumption | with_reducible refine Below.drew ?_ | with_reducible refine Below.alloc ?_ ?_ _ | with_reducible refine Below.setCell ?_ ?_ _ | (simp; done) | (simp; omega) | omega)))⟩
        exact GOwn.nil _ _ _ (by have := b1.size; simp [World.setCell]; omega)
      | true =>
        cases k2 : atB at' with
        | false =>
          obtain ⟨g1, g2, g3, g4⟩ := hbd hG
          rw [shiftRes_def, gres_bad hG (by unfold shiftOk; first | (rw [k0]; rfl) | (rw [k0, k1]; rfl) | (rw [k0, k1, k2]; rfl))]
          rw [hG] at HF
          simp only [gbad]
          go_enter Tryz.func214, Tryz.ntmps214
          go_wp2_with fail
          refine HF.mono ?_
          rintro e w1 ⟨rfl, hb1⟩
          have A0 : w1.cell? ⟨w.heap.size, 0, none⟩ = some (.int .i64 r) := cellb hb1 (by simp [go_sem])
          have A1 : w1.cell? ⟨w.heap.size, 1, none⟩ = some (.int .i64 wd) := cellb hb1 (by simp [go_sem])
          have A2 : w1.cell? ⟨w.heap.size, 2, none⟩ = some (.slice a1 cs.length c1) := cellb hb1 (by simp [go_sem])
          have A3 : w1.cell? ⟨w.heap.size, 3, none⟩ = some (.slice a2 bs.length c2) := cellb hb1 (by simp [go_sem])
          have R0 : w1.cell? ⟨w.heap.size + 1, 0, none⟩ = some (.int .i64 0) := cellb hb1 (by simp [go_sem])
          have Z0 : w1.frozen? ⟨w.heap.size + 1, 0, none⟩ = false := by rw [hb1.frozen (p := ⟨w.heap.size + 1, 0, none⟩) (by simp)]; simp [go_sem]
          have R1 : w1.cell? ⟨w.heap.size + 1, 1, none⟩ = some (.int .i64 0) := cellb hb1 (by simp [go_sem])
          have Z1 : w1.frozen? ⟨w.heap.size + 1, 1, none⟩ = false := by rw [hb1.frozen (p := ⟨w.heap.size + 1, 1, none⟩) (by simp)]; simp [go_sem]
          have R2 : w1.cell? ⟨w.heap.size + 1, 2, none⟩ = some (.int .i64 0) := cellb hb1 (by simp [go_sem])
          have Z2 : w1.frozen? ⟨w.heap.size + 1, 2, none⟩ = false := by rw [hb1.frozen (p := ⟨w.heap.size + 1, 2, none⟩) (by simp)]; simp [go_sem]
          have R3 : w1.cell? ⟨w.heap.size + 1, 3, none⟩ = some (.slice none 0 0) := cellb hb1 (by simp [go_sem])
          have Z3 : w1.frozen? ⟨w.heap.size + 1, 3, none⟩ = false := by rw [hb1.frozen (p := ⟨w.heap.size + 1, 3, none⟩) (by simp)]; simp [go_sem]
          have R4 : w1.cell? ⟨w.heap.size + 1, 4, none⟩ = some (.slice none 0 0) := cellb hb1 (by simp [go_sem])
          have Z4 : w1.frozen? ⟨w.heap.size + 1, 4, none⟩ = false := by rw [hb1.frozen (p := ⟨w.heap.size + 1, 4, none⟩) (by simp)]; simp [go_sem]
          have hs1 : w.heap.size + 2 ≤ w1.heap.size := by have := hb1.size; simp at this; omega
          have b1 : Below w.heap.size w w1 := hb0.trans (hb1.mono (by simp; omega))
          clear hb1 hb0 HF
          go_wp2_with fail
          refine (isPlace_calls r wd y x a1 a2 cs.length bs.length c1 c2 g1 g2 g3 g4 _).mono ?_
          rintro e w7 ⟨rfl, hb7⟩
          rw [k0]
          replace A0 := cellb hb7 A0
          replace A1 := cellb hb7 A1
          replace A2 := cellb hb7 A2
          replace A3 := cellb hb7 A3
          replace R0 := cellb hb7 R0
          replace R1 := cellb hb7 R1
          replace R2 := cellb hb7 R2
          replace R3 := cellb hb7 R3
          replace R4 := cellb hb7 R4
          replace Z0 : w7.frozen? ⟨w.heap.size + 1, 0, none⟩ = false := by rw [hb7.frozen (p := ⟨w.heap.size + 1, 0, none⟩) (by simp; omega)]; exact Z0
          replace Z1 : w7.frozen? ⟨w.heap.size + 1, 1, none⟩ = false := by rw [hb7.frozen (p := ⟨w.heap.size + 1, 1, none⟩) (by simp; omega)]; exact Z1
          replace Z2 : w7.frozen? ⟨w.heap.size + 1, 2, none⟩ = false := by rw [hb7.frozen (p := ⟨w.heap.size + 1, 2, none⟩) (by simp; omega)]; exact Z2
          replace Z3 : w7.frozen? ⟨w.heap.size + 1, 3, none⟩ = false := by rw [hb7.frozen (p := ⟨w.heap.size + 1, 3, none⟩) (by simp; omega)]; exact Z3
          replace Z4 : w7.frozen? ⟨w.heap.size + 1, 4, none⟩ = false := by rw [hb7.frozen (p := ⟨w.heap.size + 1, 4, none⟩) (by simp; omega)]; exact Z4
          have b7 := b1.trans (hb7.mono b1.size)
          have hs7 : w1.heap.size ≤ w7.heap.size := hb7.size
          clear hb7 b1
          have b1 := b7
          clear b7
          go_wp2_with (first
            | (go_at_call 105; refine (isFromTo_calls _ _ _ _).mono ?_; rintro e w' ⟨rfl, hw⟩; rw [hw]; clear hw w'; rw [k1])
            | (go_at_call 102; refine (isAttr_calls _ _).mono ?_; rintro e w' ⟨rfl, hw⟩; rw [hw]; clear hw w'; rw [k2]))
          have hr := res5 (w := w7) (r := w.heap.size + 1) (.int .i64 3) (.int .i64 0) (.int .i64 0) (.slice none 0 0) (.slice none 0 0) R0 R1 R2 R3 R4
          go_wp2
          refine bodyPost_ret (v := .agg #[.int .i64 3, .int .i64 0, .int .i64 0, .slice none 0 0, .slice none 0 0]) (by simp only [results, Tryz.results214]; simp [go_sem, hr.1, hr.2.1, hr.2.2.1, hr.2.2.2.1, hr.2.2.2.2]) rfl ⟨_, _, rfl, ?_, b1.trans (show Below w.heap.size w7 _ from (by repeat' (first | with_reducible exact Below.refl _ _ | with_reducible assumption | with_reducible refine Below.drew ?_ | with_reducible refine Below.alloc ?_ ?_ _ | with_reducible refine Below.setCell ?_ ?_ _ | (simp; done) | (simp; omega) | omega)))⟩
          exact GOwn.nil _ _ _ (by have := b1.size; simp [World.setCell]; omega)
        | true =>
          obtain ⟨g1, g2, g3, g4⟩ := hbd hG
          rw [shiftRes_def, gres_ok hG (by unfold shiftOk; rw [k0, k1, k2]; rfl)]
          rw [hG] at HF
          have hfine := gfine_of_code hG
          obtain ⟨n1, n2, hq, n8, n9, n10⟩ := hfine.short
          obtain ⟨Kr, X, m', eK, eX, eW, q1, q2, q3, q4, y0, y1⟩ := place_nats hfine k0
          clear hfine hG hbd
          have eK' : (y * wd).toNat = Kr := by omega
          have eW' : wd.toNat = m' := by omega
          subst eX
          have j1 := of_decide_eq_true k1
          rw [eK', eW', Int.toNat_natCast]
          have EK := hide eK
          have EW := hide eW
          clear eK eW eK' eW'
          go_enter Tryz.func214, Tryz.ntmps214
          go_wp2_with fail
          refine HF.mono ?_
          rintro e w1 ⟨rfl, hb1⟩
          have A0 : w1.cell? ⟨w.heap.size, 0, none⟩ = some (.int .i64 r) := cellb hb1 (by simp [go_sem])
          have A1 : w1.cell? ⟨w.heap.size, 1, none⟩ = some (.int .i64 wd) := cellb hb1 (by simp [go_sem])
          have A2 : w1.cell? ⟨w.heap.size, 2, none⟩ = some (.slice a1 cs.length c1) := cellb hb1 (by simp [go_sem])
          have A3 : w1.cell? ⟨w.heap.size, 3, none⟩ = some (.slice a2 bs.length c2) := cellb hb1 (by simp [go_sem])
          have R0 : w1.cell? ⟨w.heap.size + 1, 0, none⟩ = some (.int .i64 0) := cellb hb1 (by simp [go_sem])
          have Z0 : w1.frozen? ⟨w.heap.size + 1, 0, none⟩ = false := by rw [hb1.frozen (p := ⟨w.heap.size + 1, 0, none⟩) (by simp)]; simp [go_sem]
          have R1 : w1.cell? ⟨w.heap.size + 1, 1, none⟩ = some (.int .i64 0) := cellb hb1 (by simp [go_sem])
          have Z1 : w1.frozen? ⟨w.heap.size + 1, 1, none⟩ = false := by rw [hb1.frozen (p := ⟨w.heap.size + 1, 1, none⟩) (by simp)]; simp [go_sem]
          have R2 : w1.cell? ⟨w.heap.size + 1, 2, none⟩ = some (.int .i64 0) := cellb hb1 (by simp [go_sem])
          have Z2 : w1.frozen? ⟨w.heap.size + 1, 2, none⟩ = false := by rw [hb1.frozen (p := ⟨w.heap.size + 1, 2, none⟩) (by simp)]; simp [go_sem]
          have R3 : w1.cell? ⟨w.heap.size + 1, 3, none⟩ = some (.slice none 0 0) := cellb hb1 (by simp [go_sem])
          have Z3 : w1.frozen? ⟨w.heap.size + 1, 3, none⟩ = false := by rw [hb1.frozen (p := ⟨w.heap.size + 1, 3, none⟩) (by simp)]; simp [go_sem]
          have R4 : w1.cell? ⟨w.heap.size + 1, 4, none⟩ = some (.slice none 0 0) := cellb hb1 (by simp [go_sem])
          have Z4 : w1.frozen? ⟨w.heap.size + 1, 4, none⟩ = false := by rw [hb1.frozen (p := ⟨w.heap.size + 1, 4, none⟩) (by simp)]; simp [go_sem]
          have hs1 : w.heap.size + 2 ≤ w1.heap.size := by have := hb1.size; simp at this; omega
          have b1 : Below w.heap.size w w1 := hb0.trans (hb1.mono (by simp; omega))
          clear hb1 hb0 HF
          go_wp2_with fail
          refine (isPlace_calls r wd y (X : Int) a1 a2 cs.length bs.length c1 c2 g1 g2 g3 g4 _).mono ?_
          rintro e w7 ⟨rfl, hb7⟩
          rw [k0]
          replace A0 := cellb hb7 A0
          replace A1 := cellb hb7 A1
          replace A2 := cellb hb7 A2
          replace A3 := cellb hb7 A3
          replace R0 := cellb hb7 R0
          replace R1 := cellb hb7 R1
          replace R2 := cellb hb7 R2
          replace R3 := cellb hb7 R3
          replace R4 := cellb hb7 R4
          replace Z0 : w7.frozen? ⟨w.heap.size + 1, 0, none⟩ = false := by rw [hb7.frozen (p := ⟨w.heap.size + 1, 0, none⟩) (by simp; omega)]; exact Z0
          replace Z1 : w7.frozen? ⟨w.heap.size + 1, 1, none⟩ = false := by rw [hb7.frozen (p := ⟨w.heap.size + 1, 1, none⟩) (by simp; omega)]; exact Z1
          replace Z2 : w7.frozen? ⟨w.heap.size + 1, 2, none⟩ = false := by rw [hb7.frozen (p := ⟨w.heap.size + 1, 2, none⟩) (by simp; omega)]; exact Z2
          replace Z3 : w7.frozen? ⟨w.heap.size + 1, 3, none⟩ = false := by rw [hb7.frozen (p := ⟨w.heap.size + 1, 3, none⟩) (by simp; omega)]; exact Z3
          replace Z4 : w7.frozen? ⟨w.heap.size + 1, 4, none⟩ = false := by rw [hb7.frozen (p := ⟨w.heap.size + 1, 4, none⟩) (by simp; omega)]; exact Z4
          have b7 := b1.trans (hb7.mono b1.size)
          have hs7 : w1.heap.size ≤ w7.heap.size := hb7.size
          clear hb7 b1
          have b1 := b7
          clear b7
          go_wp2_with (first
            | (go_at_call 105; refine (isFromTo_calls _ _ _ _).mono ?_; rintro e w' ⟨rfl, hw⟩; rw [hw]; clear hw w'; rw [k1])
            | (go_at_call 102; refine (isAttr_calls _ _).mono ?_; rintro e w' ⟨rfl, hw⟩; rw [hw]; clear hw w'; rw [k2]))
          refine (sheetsOf_calls r wd cs bs _ _ w7 hn1 hn2 (h1.below b1) (h2.below b1)).mono ?_
          rintro e w2 ⟨x, y', m, rfl, m1, m2, ox, xm, oy, hb2⟩
          replace A0 := cellb hb2 A0
          replace A1 := cellb hb2 A1
          replace A2 := cellb hb2 A2
          replace A3 := cellb hb2 A3
          replace R0 := cellb hb2 R0
          replace R1 := cellb hb2 R1
          replace R2 := cellb hb2 R2
          replace R3 := cellb hb2 R3
          replace R4 := cellb hb2 R4
          replace Z0 : w2.frozen? ⟨w.heap.size + 1, 0, none⟩ = false := by rw [hb2.frozen (p := ⟨w.heap.size + 1, 0, none⟩) (by simp; omega)]; exact Z0
          replace Z1 : w2.frozen? ⟨w.heap.size + 1, 1, none⟩ = false := by rw [hb2.frozen (p := ⟨w.heap.size + 1, 1, none⟩) (by simp; omega)]; exact Z1
          replace Z2 : w2.frozen? ⟨w.heap.size + 1, 2, none⟩ = false := by rw [hb2.frozen (p := ⟨w.heap.size + 1, 2, none⟩) (by simp; omega)]; exact Z2
          replace Z3 : w2.frozen? ⟨w.heap.size + 1, 3, none⟩ = false := by rw [hb2.frozen (p := ⟨w.heap.size + 1, 3, none⟩) (by simp; omega)]; exact Z3
          replace Z4 : w2.frozen? ⟨w.heap.size + 1, 4, none⟩ = false := by rw [hb2.frozen (p := ⟨w.heap.size + 1, 4, none⟩) (by simp; omega)]; exact Z4
          have b2 := b1.trans (hb2.mono b1.size)
          have hs2 : w7.heap.size ≤ w2.heap.size := hb2.size
          obtain ⟨bx, cx, rfl, hcx, _, x1, x2, hrow⟩ := own_row ox n8
          obtain ⟨ay, cy, rfl, hyc⟩ := own_room2 oy
          have x3 : bx < m := xm bx rfl
          have HX := hide hrow
          have HY := hide oy
          clear hrow oy ox xm hb2
          go_wp2_with fail
          have hb3 : Below w2.heap.size w2 ((w2.alloc (.cells #[.int .i64 wd, .slice (some ⟨bx, 0, none⟩) cs.length cx] 217)).alloc (.cells #[.int .i64 wd, .slice ay bs.length cy] 217)) := (by repeat' (first | with_reducible exact Below.refl _ _ | with_reducible assumption | with_reducible refine Below.drew ?_ | with_reducible refine Below.alloc ?_ ?_ _ | with_reducible refine Below.setCell ?_ ?_ _ | (simp; done) | (simp; omega) | omega))
          have S0 : ((w2.alloc (.cells #[.int .i64 wd, .slice (some ⟨bx, 0, none⟩) cs.length cx] 217)).alloc (.cells #[.int .i64 wd, .slice ay bs.length cy] 217)).cell? ⟨w2.heap.size, 0, none⟩ = some (.int .i64 wd) := by simp [go_sem]
          have S1 : ((w2.alloc (.cells #[.int .i64 wd, .slice (some ⟨bx, 0, none⟩) cs.length cx] 217)).alloc (.cells #[.int .i64 wd, .slice ay bs.length cy] 217)).cell? ⟨w2.heap.size, 1, none⟩ = some (.slice (some ⟨bx, 0, none⟩) cs.length cx) := by simp [go_sem]
          have U0 : ((w2.alloc (.cells #[.int .i64 wd, .slice (some ⟨bx, 0, none⟩) cs.length cx] 217)).alloc (.cells #[.int .i64 wd, .slice ay bs.length cy] 217)).cell? ⟨w2.heap.size + 1, 0, none⟩ = some (.int .i64 wd) := by simp [go_sem]
          have U1 : ((w2.alloc (.cells #[.int .i64 wd, .slice (some ⟨bx, 0, none⟩) cs.length cx] 217)).alloc (.cells #[.int .i64 wd, .slice ay bs.length cy] 217)).cell? ⟨w2.heap.size + 1, 1, none⟩ = some (.slice ay bs.length cy) := by simp [go_sem]
          have hs3 : ((w2.alloc (.cells #[.int .i64 wd, .slice (some ⟨bx, 0, none⟩) cs.length cx] 217)).alloc (.cells #[.int .i64 wd, .slice ay bs.length cy] 217)).heap.size = w2.heap.size + 2 := by simp
          generalize ((w2.alloc (.cells #[.int .i64 wd, .slice (some ⟨bx, 0, none⟩) cs.length cx] 217)).alloc (.cells #[.int .i64 wd, .slice ay bs.length cy] 217)) = w3 at *
          replace A0 := cellb hb3 A0
          replace A1 := cellb hb3 A1
          replace A2 := cellb hb3 A2
          replace A3 := cellb hb3 A3
          replace R0 := cellb hb3 R0
          replace R1 := cellb hb3 R1
          replace R2 := cellb hb3 R2
          replace R3 := cellb hb3 R3
          replace R4 := cellb hb3 R4
          replace Z0 : w3.frozen? ⟨w.heap.size + 1, 0, none⟩ = false := by rw [hb3.frozen (p := ⟨w.heap.size + 1, 0, none⟩) (by simp; omega)]; exact Z0
          replace Z1 : w3.frozen? ⟨w.heap.size + 1, 1, none⟩ = false := by rw [hb3.frozen (p := ⟨w.heap.size + 1, 1, none⟩) (by simp; omega)]; exact Z1
          replace Z2 : w3.frozen? ⟨w.heap.size + 1, 2, none⟩ = false := by rw [hb3.frozen (p := ⟨w.heap.size + 1, 2, none⟩) (by simp; omega)]; exact Z2
          replace Z3 : w3.frozen? ⟨w.heap.size + 1, 3, none⟩ = false := by rw [hb3.frozen (p := ⟨w.heap.size + 1, 3, none⟩) (by simp; omega)]; exact Z3
          replace Z4 : w3.frozen? ⟨w.heap.size + 1, 4, none⟩ = false := by rw [hb3.frozen (p := ⟨w.heap.size + 1, 4, none⟩) (by simp; omega)]; exact Z4
          have b3 := b2.trans (hb3.mono b2.size)
          replace HX := hide (HX.out.below hb3 x2)
          replace HY := hide (own_below HY.out hb3)
          clear hb3 b2
          have z1 : (X : Int) ≤ (m' : Int) := by omega
          have z2 : X ≤ m' := by omega
          have z3 : ¬ cx - Kr = X := by omega
          have z4 : ¬ X = cx - Kr := by omega
          have z5 : IntKind.i64.wrap (-n) = -n := wrap_small (by omega) (by omega)
          refine wp_region_held_drew (S := (fun w' => w'.cell? ⟨w2.heap.size, 0, none⟩ = some (.int .i64 wd) ∧ w'.cell? ⟨w2.heap.size, 1, none⟩ = some (.slice (some ⟨bx, 0, none⟩) cs.length cx))) (by kernel_rfl) ?_ (fun hHeld => ?_)
          · (try dsimp only); exact ⟨S0, S1⟩
          refine wpAnyH_take (i := 0) (oi := ⟨_, _, _, _, _, _⟩) (v := ?_) rfl (by kernel_rfl) (by kernel_rfl) (by kernel_rfl) (fun _ _ _ h => h) (Or.inl ⟨by rfl, ?_⟩) hHeld ?_
          rotate_left
          · (intro w hSw; (try dsimp only at hSw); go_simp; try (with_reducible rfl))
          try simp only [Act.put, List.setIfInBounds_toArray, List.set_cons_zero, List.set_cons_succ]
          refine wpAnyH_take (i := 1) (oi := ⟨_, _, _, _, _, _⟩) (v := ?_) rfl (by kernel_rfl) (by kernel_rfl) (by kernel_rfl) (fun _ _ _ h => h) (Or.inl ⟨by rfl, ?_⟩) hHeld ?_
          rotate_left
          · (intro w hSw; (try dsimp only at hSw); go_simp; try (with_reducible rfl))
          try simp only [Act.put, List.setIfInBounds_toArray, List.set_cons_zero, List.set_cons_succ]
          refine wpAnyH_take (i := 3) (oi := ⟨_, _, _, _, _, _⟩) (v := ?_) rfl (by kernel_rfl) (by kernel_rfl) (by kernel_rfl) (fun _ _ _ h => h) (Or.inl ⟨by rfl, ?_⟩) hHeld ?_
          rotate_left
          · (intro w hSw; (try dsimp only at hSw); go_simp; try (with_reducible rfl))
          try simp only [Act.put, List.setIfInBounds_toArray, List.set_cons_zero, List.set_cons_succ]
          refine wpAnyH_take (i := 5) (oi := ⟨_, _, _, _, _, _⟩) (v := ?_) rfl (by kernel_rfl) (by kernel_rfl) (by kernel_rfl) (fun _ _ _ h => h) (Or.inl ⟨by rfl, ?_⟩) hHeld ?_
          rotate_left
          · (intro w hSw; (try dsimp only at hSw); go_simp; try (with_reducible rfl))
          try simp only [Act.put, List.setIfInBounds_toArray, List.set_cons_zero, List.set_cons_succ]
          refine wpAnyH_take (i := 6) (oi := ⟨_, _, _, _, _, _⟩) (v := ?_) rfl (by kernel_rfl) (by kernel_rfl) (by kernel_rfl) (fun _ _ _ h => h) (Or.inl ⟨by rfl, ?_⟩) hHeld ?_
          rotate_left
          · (intro w hSw; (try dsimp only at hSw); go_simp; try (with_reducible rfl))
          try simp only [Act.put, List.setIfInBounds_toArray, List.set_cons_zero, List.set_cons_succ]
          refine wpAnyH_take (i := 7) (oi := ⟨_, _, _, _, _, _⟩) (v := ?_) rfl (by kernel_rfl) (by kernel_rfl) (by kernel_rfl) (fun _ _ _ h => h) (Or.inl ⟨by rfl, ?_⟩) hHeld ?_
          rotate_left
          · (intro w hSw; (try dsimp only at hSw); go_simp; try (with_reducible rfl))
          try simp only [Act.put, List.setIfInBounds_toArray, List.set_cons_zero, List.set_cons_succ]
          refine wpAnyH_ready (rs := [2]) (by kernel_rfl) (by simp) ?_
          refine AllReadyH.cons (o := ⟨_, _, _, _, _, _⟩) rfl (fun K hK => ?_) AllReadyH.nil
          go_simp
          go_at_call 215
          refine (row_calls wd y bx 0 cs.length cx Kr m' _ ⟨hcx, _, rfl, fun _ => rfl⟩ EK.out EW.out y0 y1 q1 hn1 _).mono ?_
          rintro e w4 ⟨vr, rfl, ⟨hcr, ar, rfl, har⟩, hb4⟩
          obtain rfl := har (by omega)
          rw [Nat.zero_add]
          replace hb4 : Below w3.heap.size w3 w4 := (below_drewN (Below.refl _ _) 1).trans hb4
          have hs4 : w3.heap.size ≤ w4.heap.size := hb4.size
          replace A0 := cellb hb4 A0
          replace A1 := cellb hb4 A1
          replace A2 := cellb hb4 A2
          replace A3 := cellb hb4 A3
          replace R0 := cellb hb4 R0
          replace R1 := cellb hb4 R1
          replace R2 := cellb hb4 R2
          replace R3 := cellb hb4 R3
          replace R4 := cellb hb4 R4
          replace S0 := cellb hb4 S0
          replace S1 := cellb hb4 S1
          replace U0 := cellb hb4 U0
          replace U1 := cellb hb4 U1
          replace Z0 : w4.frozen? ⟨w.heap.size + 1, 0, none⟩ = false := by rw [hb4.frozen (p := ⟨w.heap.size + 1, 0, none⟩) (by simp; omega)]; exact Z0
          replace Z1 : w4.frozen? ⟨w.heap.size + 1, 1, none⟩ = false := by rw [hb4.frozen (p := ⟨w.heap.size + 1, 1, none⟩) (by simp; omega)]; exact Z1
          replace Z2 : w4.frozen? ⟨w.heap.size + 1, 2, none⟩ = false := by rw [hb4.frozen (p := ⟨w.heap.size + 1, 2, none⟩) (by simp; omega)]; exact Z2
          replace Z3 : w4.frozen? ⟨w.heap.size + 1, 3, none⟩ = false := by rw [hb4.frozen (p := ⟨w.heap.size + 1, 3, none⟩) (by simp; omega)]; exact Z3
          replace Z4 : w4.frozen? ⟨w.heap.size + 1, 4, none⟩ = false := by rw [hb4.frozen (p := ⟨w.heap.size + 1, 4, none⟩) (by simp; omega)]; exact Z4
          have b4 := b3.trans (hb4.mono b3.size)
          replace HX := hide (HX.out.below hb4 (by omega))
          replace HY := hide (own_below HY.out hb4)
          clear b3 hb4
          try go_wp2_with fail
          refine hK.out _ _ ?_ ?_
          · (try dsimp only); exact ⟨S0, S1⟩
          clear hHeld hK K
          intro hHeld
          try simp only [Act.put, List.setIfInBounds_toArray, List.set_cons_zero, List.set_cons_succ]
          refine wpAnyH_take (i := 4) (oi := ⟨_, _, _, _, _, _⟩) (v := ?_) rfl (by kernel_rfl) (by kernel_rfl) (by kernel_rfl) (fun _ _ _ h => h) (Or.inl ⟨by rfl, ?_⟩) hHeld ?_
          rotate_left
          · (intro w hSw; (try dsimp only at hSw); go_simp; try (with_reducible rfl))
          try simp only [Act.put, List.setIfInBounds_toArray, List.set_cons_zero, List.set_cons_succ]
          refine wpAnyH_ready (rs := [8]) (by kernel_rfl) (by simp) ?_
          refine AllReadyH.cons (o := ⟨_, _, _, _, _, _⟩) rfl (fun K hK => ?_) AllReadyH.nil
          go_simp
          go_at_call 198
          refine (blankOf_calls at' _).mono ?_
          rintro e w5 ⟨rfl, hb5⟩
          have hs5 : w4.heap.size ≤ w5.heap.size := hb5.size
          replace A0 := cellb hb5 A0
          replace A1 := cellb hb5 A1
          replace A2 := cellb hb5 A2
          replace A3 := cellb hb5 A3
          replace R0 := cellb hb5 R0
          replace R1 := cellb hb5 R1
          replace R2 := cellb hb5 R2
          replace R3 := cellb hb5 R3
          replace R4 := cellb hb5 R4
          replace S0 := cellb hb5 S0
          replace S1 := cellb hb5 S1
          replace U0 := cellb hb5 U0
          replace U1 := cellb hb5 U1
          replace Z0 : w5.frozen? ⟨w.heap.size + 1, 0, none⟩ = false := by rw [hb5.frozen (p := ⟨w.heap.size + 1, 0, none⟩) (by simp; omega)]; exact Z0
          replace Z1 : w5.frozen? ⟨w.heap.size + 1, 1, none⟩ = false := by rw [hb5.frozen (p := ⟨w.heap.size + 1, 1, none⟩) (by simp; omega)]; exact Z1
          replace Z2 : w5.frozen? ⟨w.heap.size + 1, 2, none⟩ = false := by rw [hb5.frozen (p := ⟨w.heap.size + 1, 2, none⟩) (by simp; omega)]; exact Z2
          replace Z3 : w5.frozen? ⟨w.heap.size + 1, 3, none⟩ = false := by rw [hb5.frozen (p := ⟨w.heap.size + 1, 3, none⟩) (by simp; omega)]; exact Z3
          replace Z4 : w5.frozen? ⟨w.heap.size + 1, 4, none⟩ = false := by rw [hb5.frozen (p := ⟨w.heap.size + 1, 4, none⟩) (by simp; omega)]; exact Z4
          have b5 := b4.trans (hb5.mono b4.size)
          replace HX := hide (HX.out.below hb5 (by omega))
          replace HY := hide (own_below HY.out hb5)
          clear b4 hb5
          try go_wp2_with fail
          refine hK.out _ _ ?_ ?_
          · (try dsimp only); exact ⟨S0, S1⟩
          clear hHeld hK K
          intro hHeld
          try simp only [Act.put, List.setIfInBounds_toArray, List.set_cons_zero, List.set_cons_succ]
          refine wpAnyH_ready (rs := [9]) (by kernel_rfl) (by simp) ?_
          refine AllReadyH.cons (o := ⟨_, _, _, _, _, _⟩) rfl (fun K hK => ?_) AllReadyH.nil
          go_simp
          go_at_call 229
          refine (slide_calls bx (Kr * 2 + X * 2) (m' - X) (cx - Kr - X) _ (fun i => cs.getD (Kr + (X + i)) (0, 0)) (-n) 32 at' w5 ⟨by omega, _, rfl, fun _ => rfl⟩ (by have h := (HX.out.sub Kr m' (by omega)).sub X (m' - X) (by omega); rw [Nat.zero_add] at h; exact h) (by omega) (by omega) (by omega)).mono ?_
          rintro e w6 ⟨⟨u6, rfl⟩, hr6, ht6⟩
          replace A0 := ht6.cellAt A0 (by omega)
          replace A1 := ht6.cellAt A1 (by omega)
          replace A2 := ht6.cellAt A2 (by omega)
          replace A3 := ht6.cellAt A3 (by omega)
          replace R0 := ht6.cellAt R0 (by omega)
          replace R1 := ht6.cellAt R1 (by omega)
          replace R2 := ht6.cellAt R2 (by omega)
          replace R3 := ht6.cellAt R3 (by omega)
          replace R4 := ht6.cellAt R4 (by omega)
          replace S0 := ht6.cellAt S0 (by omega)
          replace S1 := ht6.cellAt S1 (by omega)
          replace U0 := ht6.cellAt U0 (by omega)
          replace U1 := ht6.cellAt U1 (by omega)
          replace Z0 := ht6.frozenAt (by omega) Z0
          replace Z1 := ht6.frozenAt (by omega) Z1
          replace Z2 := ht6.frozenAt (by omega) Z2
          replace Z3 := ht6.frozenAt (by omega) Z3
          replace Z4 := ht6.frozenAt (by omega) Z4
          have b6 : Below w.heap.size w w6 := b5.trans (ht6.below (by omega) (by omega))
          have hs6 : w5.heap.size ≤ w6.heap.size := ht6.size
          have l6 := HY.out.lt
          replace HY := hide (own_touch HY.out ht6 (fun k hk => by have := (l6 k hk).1; omega))
          clear l6 b5
          replace HX := hide (HX.out.join (k := Kr + X) (m := m' - X) (by rw [Nat.zero_add, Nat.add_mul]; exact ht6.mono (Nat.le_refl _) (by omega)) (by rw [Nat.zero_add, Nat.add_mul]; exact hr6) (by omega))
          clear hr6 ht6
          try go_wp2_with fail
          refine hK.out _ _ ?_ ?_
          · (try dsimp only); exact ⟨S0, S1⟩
          clear hHeld hK K
          intro hHeld
          try simp only [Act.put, List.setIfInBounds_toArray, List.set_cons_zero, List.set_cons_succ]
          refine wpAnyH_done (by kernel_rfl) ?_ _
          clear hHeld
          go_wp2_with fail
          refine (gridOf_calls wd wd n1 n2 (some ⟨bx, 0, none⟩) ay cs.length bs.length cx cy hn1 w6).mono ?_
          rintro e w8 ⟨rfl, hb8⟩
          rw [hq.out]
          replace R0 := cellb hb8 R0
          replace R1 := cellb hb8 R1
          replace R2 := cellb hb8 R2
          replace R3 := cellb hb8 R3
          replace R4 := cellb hb8 R4
          replace Z0 : w8.frozen? ⟨w.heap.size + 1, 0, none⟩ = false := by rw [hb8.frozen (p := ⟨w.heap.size + 1, 0, none⟩) (by simp; omega)]; exact Z0
          replace Z1 : w8.frozen? ⟨w.heap.size + 1, 1, none⟩ = false := by rw [hb8.frozen (p := ⟨w.heap.size + 1, 1, none⟩) (by simp; omega)]; exact Z1
          replace Z2 : w8.frozen? ⟨w.heap.size + 1, 2, none⟩ = false := by rw [hb8.frozen (p := ⟨w.heap.size + 1, 2, none⟩) (by simp; omega)]; exact Z2
          replace Z3 : w8.frozen? ⟨w.heap.size + 1, 3, none⟩ = false := by rw [hb8.frozen (p := ⟨w.heap.size + 1, 3, none⟩) (by simp; omega)]; exact Z3
          replace Z4 : w8.frozen? ⟨w.heap.size + 1, 4, none⟩ = false := by rw [hb8.frozen (p := ⟨w.heap.size + 1, 4, none⟩) (by simp; omega)]; exact Z4
          have b8 := b6.trans (hb8.mono b6.size)
          have hs8 : w6.heap.size ≤ w8.heap.size := hb8.size
          have HX8 := hide (HX.out.below hb8 (by omega))
          have HY8 := hide (own_below HY.out hb8)
          clear hb8 HX HY
          have hr := res5 (w := w8) (r := w.heap.size + 1) (.int .i64 0) (.int .i64 r) (.int .i64 wd) (.slice (some ⟨bx, 0, none⟩) cs.length cx) (.slice ay bs.length cy) R0 R1 R2 R3 R4
          go_wp2
          refine bodyPost_ret (v := .agg #[.int .i64 0, .int .i64 r, .int .i64 wd, .slice (some ⟨bx, 0, none⟩) cs.length cx, .slice ay bs.length cy]) (by simp only [results, Tryz.results214]; simp [go_sem, hr.1, hr.2.1, hr.2.2.1, hr.2.2.2.1, hr.2.2.2.2]) rfl ⟨_, _, rfl, ?_, b8.trans (show Below w.heap.size w8 _ from (by repeat' (first | with_reducible exact Below.refl _ _ | with_reducible assumption | with_reducible refine Below.drew ?_ | with_reducible refine Below.alloc ?_ ?_ _ | with_reducible refine Below.setCell ?_ ?_ _ | (simp; done) | (simp; omega) | omega)))⟩
          refine (gown_of (w := w8) (base := w7.heap.size) (m := m) (HX8.out.congr (fun i hi => ?_)) (by omega) (by omega) HY8.out (by omega) (by omega) (by simp [World.setCell]) (fun k _ => ?_) (by omega)).mono (by omega) (Nat.le_refl _)
          · unfold shiftF slideF
            by_cases e : Kr + X ≤ i ∧ i < Kr + X + (m' - X)
            · rw [if_pos e, if_pos (show Kr + X ≤ i ∧ i < Kr + m' by omega)]
              by_cases e2 : (X : Int) ≤ ((i - Kr : Nat) : Int) - n ∧ ((i - Kr : Nat) : Int) - n < m'
              · rw [if_pos e2, if_pos (show 0 ≤ ((i - (Kr + X) : Nat) : Int) + -n ∧ ((i - (Kr + X) : Nat) : Int) + -n < ((m' - X : Nat) : Int) by omega)]
                dsimp only
                rw [show Kr + (X + (((i - (Kr + X) : Nat) : Int) + -n).toNat) = Kr + (((i - Kr : Nat) : Int) - n).toNat by omega]
              · rw [if_neg e2, if_neg (show ¬ (0 ≤ ((i - (Kr + X) : Nat) : Int) + -n ∧ ((i - (Kr + X) : Nat) : Int) + -n < ((m' - X : Nat) : Int)) by omega)]
            · rw [if_neg e, if_neg (show ¬ (Kr + X ≤ i ∧ i < Kr + m') by omega)]
          · by_cases hk : k < w7.heap.size
            · exact .inr hk
            · left
              simp only [World.setCell, Array.getElem?_modify]
              repeat rw [if_neg (by omega)]
  · rw [shiftRes_def, gres_fault hG]
    generalize gridCode r wd cs bs = code at *
    have hcb : (code != 0) = true := by simpa using hG
    simp only [gbad]
    go_enter Tryz.func214, Tryz.ntmps214
    go_wp2_with fail
    refine HF.mono ?_
    rintro e w1 ⟨rfl, hb1⟩
    have A0 : w1.cell? ⟨w.heap.size, 0, none⟩ = some (.int .i64 r) := cellb hb1 (by simp [go_sem])
    have A1 : w1.cell? ⟨w.heap.size, 1, none⟩ = some (.int .i64 wd) := cellb hb1 (by simp [go_sem])
    have A2 : w1.cell? ⟨w.heap.size, 2, none⟩ = some (.slice a1 cs.length c1) := cellb hb1 (by simp [go_sem])
    have A3 : w1.cell? ⟨w.heap.size, 3, none⟩ = some (.slice a2 bs.length c2) := cellb hb1 (by simp [go_sem])
    have R0 : w1.cell? ⟨w.heap.size + 1, 0, none⟩ = some (.int .i64 0) := cellb hb1 (by simp [go_sem])
    have Z0 : w1.frozen? ⟨w.heap.size + 1, 0, none⟩ = false := by rw [hb1.frozen (p := ⟨w.heap.size + 1, 0, none⟩) (by simp)]; simp [go_sem]
    have R1 : w1.cell? ⟨w.heap.size + 1, 1, none⟩ = some (.int .i64 0) := cellb hb1 (by simp [go_sem])
    have Z1 : w1.frozen? ⟨w.heap.size + 1, 1, none⟩ = false := by rw [hb1.frozen (p := ⟨w.heap.size + 1, 1, none⟩) (by simp)]; simp [go_sem]
    have R2 : w1.cell? ⟨w.heap.size + 1, 2, none⟩ = some (.int .i64 0) := cellb hb1 (by simp [go_sem])
    have Z2 : w1.frozen? ⟨w.heap.size + 1, 2, none⟩ = false := by rw [hb1.frozen (p := ⟨w.heap.size + 1, 2, none⟩) (by simp)]; simp [go_sem]
    have R3 : w1.cell? ⟨w.heap.size + 1, 3, none⟩ = some (.slice none 0 0) := cellb hb1 (by simp [go_sem])
    have Z3 : w1.frozen? ⟨w.heap.size + 1, 3, none⟩ = false := by rw [hb1.frozen (p := ⟨w.heap.size + 1, 3, none⟩) (by simp)]; simp [go_sem]
    have R4 : w1.cell? ⟨w.heap.size + 1, 4, none⟩ = some (.slice none 0 0) := cellb hb1 (by simp [go_sem])
    have Z4 : w1.frozen? ⟨w.heap.size + 1, 4, none⟩ = false := by rw [hb1.frozen (p := ⟨w.heap.size + 1, 4, none⟩) (by simp)]; simp [go_sem]
    have hs1 : w.heap.size + 2 ≤ w1.heap.size := by have := hb1.size; simp at this; omega
    have b1 : Below w.heap.size w w1 := hb0.trans (hb1.mono (by simp; omega))
    clear hb1 hb0 HF
    have hr := res5 (w := w1) (r := w.heap.size + 1) (.int .i64 code) (.int .i64 0) (.int .i64 0) (.slice none 0 0) (.slice none 0 0) R0 R1 R2 R3 R4
    go_wp2
    refine bodyPost_ret (v := .agg #[.int .i64 code, .int .i64 0, .int .i64 0, .slice none 0 0, .slice none 0 0]) (by simp only [results, Tryz.results214]; simp [go_sem, hr.1, hr.2.1, hr.2.2.1, hr.2.2.2.1, hr.2.2.2.2]) rfl ⟨_, _, rfl, ?_, b1.trans (show Below w.heap.size w1 _ from (by repeat' (first | with_reducible exact Below.refl _ _ | with_reducible assumption | with_reducible refine Below.drew ?_ | with_reducible refine Below.alloc ?_ ?_ _ | with_reducible refine Below.setCell ?_ ?_ _ | (simp; done) | (simp; omega) | omega)))⟩
    exact GOwn.nil _ _ _ (by have := b1.size; simp [World.setCell]; omega)

set_option maxHeartbeats 2000000 in
theorem l3Shift_calls (pb bx N cx K X m : Nat) (y wd n at' : Int) (f : Nat → Int × Int) (w : World) (c1 : w.cell? ⟨pb, 1, none⟩ = some (.int .i64 wd)) (c2 : w.cell? ⟨pb, 2, none⟩ = some (.slice (some ⟨bx, 0, none⟩) N cx)) (hr : Row w bx 0 N f) (hc : N ≤ cx) (hp : pb ≠ bx) (hpw : pb < w.heap.size)
    (hK : y * wd = (K : Int)) (hm : wd = (m : Int)) (hKm : K + m ≤ N) (hN : N ≤ 72) (hX : X < m) (hm12 : m ≤ 12) (y0 : 0 ≤ y) (y1 : y ≤ 1000) (n1 : -12 ≤ n) (n2 : n ≤ 12) :
    Calls Tryz.prog 149 #[.pointer (some ⟨pb, 0, none⟩), .int .i64 y, .int .i64 X, .int .i64 n, .int .i64 at'] w fun e w' => (∃ u, e = .returned u) ∧ Row w' bx 0 N (shiftF K X m n f (32, at')) ∧ Touch bx 0 (N * 2) w w' := by
  obtain ⟨i0, hi, hz0, hz1, hz2⟩ := info_parts info_cell
  have hbx : bx < w.heap.size := hr.lt (by omega)
  have HRO := l3RowOf_calls pb bx N cx K m (K + m) y wd f w c1 c2 hr.read hc hK hm rfl hKm (by omega) (by omega) y0 y1
  have HF := hide hr
  have HK := hide hK
  have HM := hide hm
  clear hr hK hm
  go_enter Tryz.func149, Tryz.ntmps149
  go_wp2_with fail
  refine HRO.mono ?_
  rintro e w1 ⟨vw, rfl, ow, hb1⟩
  clear HRO
  have hs1 : w.heap.size ≤ w1.heap.size := hb1.size
  obtain ⟨bw, cw, rfl, hcw, _, u1, u2, hroww⟩ := own_row ow (by omega)
  have hlit : (w1.alloc (.cells #[] 193)).ownsRow w1.heap.size 193 2 (.slice (some ⟨w1.heap.size, 0, none⟩) 0 0) 0 (pvs []) := World.ownsRow_lit (base := w1.heap.size) (e := 193) (size := 2) w1 #[] 0 (Nat.le_refl _) (by simp) rfl
  have hpr : PRead (w1.alloc (.cells #[] 193)) (.slice (some ⟨bw, 0, none⟩) m cw) (mkL m (fun i => f (K + i))) := (pread_of_row (hroww.congr (fun i hi => mkL_get _ _ _ hi)).read).below ((Below.refl _ _).alloc (Nat.le_refl _) _)
  have D1 := cellb hb1 c1
  have D2 := cellb hb1 c2
  have HW := hide (hroww.congr (fun i hi => mkL_get _ _ _ hi)).read
  have HF1 := hide (HF.out.below hb1 hbx)
  have HB1 := hide hb1
  clear hroww ow hb1
  go_wp2_with (at_builtin; refine wpList_append_pread _ rfl (.tmp 17) (.tmp 18) 33 rfl w1.heap.size 193 i0 (.agg #[.int .i64 0, .int .i64 0]) 16 Tryz.underlying33 hi hz0 hz1 hz2 rfl _ 0 [] rfl hlit (some ⟨bw, 0, none⟩) (mkL m (fun i => f (K + i))) m cw rfl (by rw [mkL_length]) hpr (by unfold maxLen; omega) (by omega) (by simp) ?_)
  intro vn w2 on hgr
  have hb2 : Below w1.heap.size w1 w2 := (((Below.refl _ _).alloc (Nat.le_refl _) _) : Below w1.heap.size w1 (w1.alloc (.cells #[] 193))).grown hgr (by simp) (fun q hq => (hlit.lt q hq).1)
  try simp only [List.nil_append, Nat.zero_add] at on
  obtain ⟨bn, cn, rfl, hcn, _, v1, v2, hrown⟩ := own_row on (by omega)
  have hs2 : w1.heap.size ≤ w2.heap.size := hb2.size
  replace D1 := cellb hb2 D1
  replace D2 := cellb hb2 D2
  replace HW := hide (HW.out.below hb2 u2)
  replace HF1 := hide (HF1.out.below hb2 (by omega))
  have HB2 := hide (HB1.out.trans (hb2.mono hs1))
  have HN := hide (hrown.congr (fun i hi => mkL_get _ _ _ hi))
  clear hrown on hgr hlit hpr hb2 HB1
  go_wp2
  go_loopw [12] (fun i wr => ∃ k : Nat, X ≤ k ∧ k ≤ m ∧ i = .int .i64 k ∧ Touch bn 0 (m * 2) w2 wr ∧ Hid (Row wr bn 0 m (fun j => if X ≤ j ∧ j < k then (if (X : Int) ≤ (j : Int) - n ∧ (j : Int) - n < m then f (K + ((j : Int) - n).toNat) else (32, at')) else f (K + j)))) (fun i _ => m - (intOf i).toNat)
  case atStart => exact ⟨X, Nat.le_refl _, by omega, rfl, Touch.refl _ _ _ _, hide (HN.out.congr (fun i hi => by rw [if_neg (by omega)]))⟩
  case round =>
    obtain ⟨k, hk1, hk2, rfl, ht, hrow⟩ := hrel
    have E1 := ht.cellAt D1 (by omega)
    have E2 := ht.cellAt D2 (by omega)
    have hkm : wd = (m : Int) := HM.out
    by_cases hlt : k < m
    · have hltI : (k : Int) < wd := by omega
      have hltM : (k : Int) < (m : Int) := by omega
      obtain ⟨⟨g1, g2⟩, f1, f2⟩ := hrow.out k hlt
      rw [Nat.zero_add] at g1 g2 f1 f2
      generalize ((fun j => if X ≤ j ∧ j < k then (if (X : Int) ≤ (j : Int) - n ∧ (j : Int) - n < m then f (K + ((j : Int) - n).toNat) else (32, at')) else f (K + j)) k).2 = o2 at g2
      generalize ((fun j => if X ≤ j ∧ j < k then (if (X : Int) ≤ (j : Int) - n ∧ (j : Int) - n < m then f (K + ((j : Int) - n).toNat) else (32, at')) else f (K + j)) k).1 = o1 at g1
      have HT := hide ht
      have w3 : 2 ≤ wd ∨ wd < 2 := by omega
      have wd1 : 0 ≤ wd := by omega
      have wd2 : wd ≤ 12 := by omega
      have HKM := hide hkm
      clear hkm w3 ht
      go_wp2_with fail
      refine (l1In_calls ((k : Int) - n) X (wd - 1) _).mono ?_
      rintro e w' ⟨rfl, hw⟩
      rw [hw]
      clear hw w'
      cases hd : decide ((X : Int) ≤ (k : Int) - n ∧ (k : Int) - n ≤ wd - 1) with
      | true =>
        have hd' := of_decide_eq_true hd
        obtain ⟨q, hq⟩ : ∃ q : Nat, (k : Int) - n = (q : Int) := ⟨((k : Int) - n).toNat, by omega⟩
        have hqm : q < m := by have := HKM.out; omega
        have hqI : (q : Int) < (m : Int) := by omega
        obtain ⟨p1, p2⟩ := (HW.out.touch HT.out (by omega)) q hqm
        rw [Nat.zero_add] at p1 p2
        dsimp only at p1 p2
        generalize hfq : f (K + q) = fq at p1 p2
        obtain ⟨fq1, fq2⟩ := fq
        dsimp only at p1 p2
        have g3 : (wr.setCell ⟨bn, k * 2, none⟩ (.int .i64 fq1)).cell? ⟨bn, k * 2 + 1, none⟩ = some (.int .i64 o2) := by rw [World.cell?_setCell_other _ _ _ _ (addr_ne (by omega))]; exact g2
        have HQ := hide hq
        have HFQ := hide hfq
        have HD := hide hd'
        clear hfq hd' hd
        go_wp2
        go_roundw
        case rel =>
          have hst := hrow.out.store hlt fq1 fq2
          rw [Nat.zero_add] at hst
          refine ⟨k + 1, by omega, by omega, by go_num, HT.out.trans (by have h := touch_store (b := bn) (off := 0) (k := k) wr (.int .i64 fq1) (.int .i64 fq2) (p := 0) (q := m * 2) (by omega) (by omega); rw [Nat.zero_add] at h; exact h), hide (hst.congr (fun i hi => ?_))⟩
          by_cases e : i = k
          · subst e
            have h1 := HQ.out
            have h2 := HD.out
            have h3 := HKM.out
            rw [if_pos rfl, if_pos (show X ≤ i ∧ i < i + 1 by omega), if_pos (show (X : Int) ≤ (i : Int) - n ∧ (i : Int) - n < m by omega), show ((i : Int) - n).toNat = q by omega, HFQ.out]
          · rw [if_neg e]
            by_cases e2 : X ≤ i ∧ i < k
            · rw [if_pos e2, if_pos (show X ≤ i ∧ i < k + 1 by omega)]
            · rw [if_neg e2, if_neg (show ¬ (X ≤ i ∧ i < k + 1) by omega)]
        case measure => simp [intOf]; omega
      | false =>
        have HD := hide (of_decide_eq_false hd)
        clear hd
        have g3 : (wr.setCell ⟨bn, k * 2, none⟩ (.int .i64 32)).cell? ⟨bn, k * 2 + 1, none⟩ = some (.int .i64 o2) := by rw [World.cell?_setCell_other _ _ _ _ (addr_ne (by omega))]; exact g2
        go_wp2
        go_roundw
        case rel =>
          have hst := hrow.out.store hlt 32 at'
          rw [Nat.zero_add] at hst
          refine ⟨k + 1, by omega, by omega, by go_num, HT.out.trans (by have h := touch_store (b := bn) (off := 0) (k := k) wr (.int .i64 32) (.int .i64 at') (p := 0) (q := m * 2) (by omega) (by omega); rw [Nat.zero_add] at h; exact h), hide (hst.congr (fun i hi => ?_))⟩
          by_cases e : i = k
          · subst e
            have h2 := HD.out
            have h3 := HKM.out
            rw [if_pos rfl, if_pos (show X ≤ i ∧ i < i + 1 by omega), if_neg (show ¬ ((X : Int) ≤ (i : Int) - n ∧ (i : Int) - n < m) by omega)]
          · rw [if_neg e]
            by_cases e2 : X ≤ i ∧ i < k
            · rw [if_pos e2, if_pos (show X ≤ i ∧ i < k + 1 by omega)]
            · rw [if_neg e2, if_neg (show ¬ (X ≤ i ∧ i < k + 1) by omega)]
        case measure => simp [intOf]; omega
    · obtain rfl : k = m := by omega
      have hge : ¬ ((k : Int) < wd) := by omega
      have HKM := hide hkm
      have HT := hide ht
      clear hkm ht
      go_wp2_with fail
      refine (l3Row_calls pb bx N cx K k (K + k) bn k cn k y wd f _ wr E1 E2 (HF1.out.touch HT.out (by omega)) hc hp hrow.out.read HK.out HKM.out rfl hKm (by omega) (by omega) y0 y1 (by omega)).mono ?_
      rintro e w4 ⟨⟨u4, rfl⟩, hr4, ht4⟩
      have H4 := hide hr4
      have T4 := hide ht4
      clear hr4 ht4
      go_wp2
      go_end0
      refine ⟨⟨_, rfl⟩, H4.out.congr (fun i hi => ?_), (Touch.of_below (HB2.out.trans (HT.out.below (B := w.heap.size) (by omega) (by omega))) (Nat.le_refl _) hbx).trans T4.out⟩
      · unfold shiftF
        by_cases e : K ≤ i ∧ i < K + k
        · rw [if_pos e]
          by_cases e2 : X ≤ i - K ∧ i - K < k
          · rw [if_pos e2, if_pos (show K + X ≤ i ∧ i < K + k by omega)]
          · rw [if_neg e2, if_neg (show ¬ (K + X ≤ i ∧ i < K + k) by omega), show K + (i - K) = i by omega]
        · rw [if_neg e, if_neg (show ¬ (K + X ≤ i ∧ i < K + k) by omega)]
end Go.Proofs.YtdekegjplegkeaaGreat

/- The rows of a sheet, told by impl's iterator: what it hands to each round, for every body that leaves the iterator's own box alone. -/
namespace Go.Proofs.YtdekegjplegkeaaGreat
set_option maxRecDepth 20000
open Go.ChangeShapes Go.WideShapes Go.ChangeAt Go.RowKit Go.Shelf
attribute [local go_sem] Oper.semAt_some
set_option linter.unusedVariables false
set_option linter.unusedSimpArgs false
set_option maxRecDepth 100000

/-- The y-th of H rows of m cells, as a round is handed it. -/
def rowEnc (b off m H cap : Nat) (y : Nat) : Array Value := #[.int .i64 ((y % H : Nat) : Int), .slice (some ⟨b, off + (y % H) * m * 2, none⟩) m (cap - (y % H) * m)]
/-- What a round that goes on leaves: the iterator's own box. -/
def KeepBox (Bs : Nat) (W W' : World) : Prop := W'.heap[Bs]? = W.heap[Bs]?

theorem abides_below {β : Type} {B : Nat} {J : β → World → Prop} (h : AbidesFrom B J) {s : β} {W W' : World} (hs : J s W) (hb : Below W.heap.size W W') : J s W' :=
  h s W W' none hs ⟨hb.os, hb.tape, hb.output, hb.size, fun k hk _ => hb.block k hk⟩ (fun r e => by cases e)

set_option maxHeartbeats 2000000 in
theorem rows1_in (n : Nat) (l Bs b off m H N cap : Nat) (wd : Int) (a : Option Addr) (hN : N = H * m) (hwd : wd = (m : Int)) (hm : 1 ≤ m) (hm2 : m ≤ 1000) (hH : H ≤ 1000) (hc : N ≤ cap) (ha : 0 < N → a = some ⟨b, off, none⟩) (hN1 : N ≤ 1048576) (J Jx : List Nat → World → Prop)
    (W : World) (hJ : AbidesFrom W.heap.size J)
    (hY : ∀ pre x W1, J pre W1 → pre.length < H → YieldAt Fence.wide (n - 1) Tryz.prog l (rowEnc b off m H cap x) W1 fun e W' =>
      (e = .returned (.bool true) ∧ J (pre ++ [x]) W' ∧ KeepBox Bs W1 W') ∨ (e = .returned (.bool false) ∧ Jx (pre ++ [x]) W'))
    (c0 : W.cell? ⟨Bs, 0, none⟩ = some (.int .i64 wd)) (c1 : W.cell? ⟨Bs, 1, none⟩ = some (.slice a N cap)) (h0 : J [] W) :
    CallsIn Fence.wide n Tryz.prog 237 #[.func (.yield l) #[] #[], .pointer (some ⟨Bs, 0, none⟩)] W fun e W' => (∃ v, e = .returned v) ∧
      ((∃ ys, ys = List.range H ∧ J ys W') ∨ (∃ pre, (∃ k, k ≤ H ∧ pre = List.range k) ∧ Jx pre W')) := by
  have hq : (N : Int) / wd = (H : Int) := by rw [hN, hwd, Int.natCast_mul]; exact Int.mul_ediv_cancel _ (by omega)
  have HQ := hide hq
  have HN := hide hN
  have HWD := hide hwd
  have w1' : 1 ≤ wd := by omega
  have w2' : wd ≤ 1000 := by omega
  have HA := hide ha
  clear hq hN hwd ha
  refine callsIn_of_wp Tryz.func237 rfl trivial ?_ rfl
  simp only [Tryz.ntmps237, List.size_toArray, List.length_cons, List.length_nil, Nat.reduceAdd, Nat.reduceSub, Array.replicate_succ, Array.replicate_zero, List.push_toArray, List.append_toArray, List.nil_append, List.cons_append]
  gi_wp2
  refine ⟨trivial, fun h => by simp [Fence.wide] at h, (callsIn_wide.2 (height_calls wd w1' w2' a N cap hN1 _)).mono ?_⟩
  rintro e W2 ⟨rfl, hb2⟩
  rw [HQ.out]
  replace c0 := cellb hb2 c0
  replace c1 := cellb hb2 c1
  have h2 : J [] W2 := abides_below hJ h0 hb2
  clear hb2
  gi_wp2
  gi_loopw [6] (fun i wr => ∃ k : Nat, k ≤ H ∧ i = .int .i64 k ∧ J (List.range k) wr ∧ wr.cell? ⟨Bs, 0, none⟩ = some (.int .i64 wd) ∧ wr.cell? ⟨Bs, 1, none⟩ = some (.slice a N cap)) (fun i _ => H - (intOf i).toNat)
  case atStart => exact ⟨0, Nat.zero_le _, rfl, h2, c0, c1⟩
  case round =>
    obtain ⟨k, hk, rfl, hJs, d0, d1⟩ := hrel
    clear c0 c1 h2 h0
    by_cases hlt : k < H
    · have hltI : (k : Int) < (H : Int) := by omega
      have hkm : k * m + m ≤ N := by
        have h := Nat.mul_le_mul_right m (show k + 1 ≤ H by omega)
        rw [Nat.add_mul, ← HN.out] at h
        omega
      have hNp : 0 < N := by omega
      have hkw : (k : Int) * wd = ((k * m : Nat) : Int) := by rw [HWD.out, Int.natCast_mul]
      have HKW := hide hkw
      clear hkw
      gi_wp2
      refine ⟨trivial, fun h => by simp [Fence.wide] at h, (callsIn_wide.2 (row_calls wd k b off N cap (k * m) m (.slice a N cap) ⟨hc, a, rfl, HA.out⟩ HKW.out HWD.out (by omega) (by omega) hkm hN1 wr)).mono ?_⟩
      rintro e W3 ⟨v, rfl, ⟨hcv, av, rfl, hav⟩, hb3⟩
      obtain rfl := hav (by omega)
      replace d0 := cellb hb3 d0
      replace d1 := cellb hb3 d1
      have hJ3 : J (List.range k) W3 := abides_below hJ hJs hb3
      clear hb3 hJs
      obtain ⟨fn, tmps, assign, body, hy, hR⟩ := hY _ k W3 hJ3 (by simpa using hlt)
      have hmod : k % H = k := Nat.mod_eq_of_lt hlt
      simp only [rowEnc, hmod] at hy
      gi_wp2
      refine ⟨fun h => by simp [Fence.wide] at h, hR.mono ?_⟩
      rintro e W4 (⟨rfl, hJ4, hk4⟩ | ⟨rfl, hx4⟩)
      · have d0' : W4.cell? ⟨Bs, 0, none⟩ = some (.int .i64 wd) := (World.cell?_of_block (w := W3) (a := ⟨Bs, 0, none⟩) hk4).trans d0
        have d1' : W4.cell? ⟨Bs, 1, none⟩ = some (.slice a N cap) := (World.cell?_of_block (w := W3) (a := ⟨Bs, 1, none⟩) hk4).trans d1
        gi_wp2
        go_roundw
        case rel => exact ⟨k + 1, by omega, by go_num, by rw [List.range_succ]; exact hJ4, d0', d1'⟩
        case measure => simp [intOf]; omega
      · gi_wp2
        refine bodyPost_ret (results_none rfl _ _ _) rfl ?_
        exact ⟨⟨_, rfl⟩, .inr ⟨_, ⟨k + 1, by omega, (List.range_succ).symm⟩, hx4⟩⟩
    · obtain rfl : k = H := by omega
      have hge : ¬ ((k : Int) < (k : Int)) := by omega
      gi_wp2
      go_end0
      first
        | exact ⟨⟨_, rfl⟩, .inl ⟨_, rfl, hJs⟩⟩
        | exact ⟨⟨_, rfl⟩, .inl hJs⟩

/-- The iterator's contract. -/
theorem rows_stops (n : Nat) (Bs b off m H N cap : Nat) (wd : Int) (a : Option Addr) (hN : N = H * m) (hwd : wd = (m : Int)) (hm : 1 ≤ m) (hm2 : m ≤ 1000) (hH : H ≤ 1000) (hc : N ≤ cap) (ha : 0 < N → a = some ⟨b, off, none⟩) (hN1 : N ≤ 1048576) (w : World) (hBs : Bs < w.heap.size)
    (c0 : w.cell? ⟨Bs, 0, none⟩ = some (.int .i64 wd)) (c1 : w.cell? ⟨Bs, 1, none⟩ = some (.slice a N cap)) :
    SeqStopsK Fence.wide n Tryz.prog 237 #[.pointer (some ⟨Bs, 0, none⟩)] (rowEnc b off m H cap) (KeepBox Bs) (fun ys => ys = List.range H) (fun pre => ∃ k, k ≤ H ∧ pre = List.range k) H w := fun l J Jx W hW hJ _ hY h0 =>
  rows1_in n l Bs b off m H N cap wd a hN hwd hm hm2 hH hc ha hN1 J Jx W hJ hY (cellb hW c0) (cellb hW c1) h0

theorem rows_calls (wd : Int) (a : Option Addr) (N cap : Nat) (w : World) :
    Calls Tryz.prog 225 #[.agg #[.int .i64 wd, .slice a N cap]] w fun e w' => e = .returned (.func (.func 237) #[] #[.pointer (some ⟨w.heap.size, 0, none⟩)]) ∧ w' = w.alloc (.cells #[.int .i64 wd, .slice a N cap] 217) := by
  go_enter Tryz.func225, Tryz.ntmps225
  go_wp2
  go_ret
  exact ⟨rfl, rfl⟩

end Go.Proofs.YtdekegjplegkeaaGreat

/- A sheet followed by the rows of another, walked: impl's followedBy, that ranges over the iterator of rows. -/
namespace Go.Proofs.YtdekegjplegkeaaGreat
set_option maxRecDepth 20000
open Go.ChangeShapes Go.WideShapes Go.ChangeAt Go.RowKit Go.Shelf
attribute [local go_sem] Oper.semAt_some
set_option linter.unusedVariables false
set_option linter.unusedSimpArgs false
set_option maxRecDepth 100000

/-- The cells of the rows that have come. -/
def rowsL (m H : Nat) (f : Nat → Int × Int) (pre : List Nat) : List (Int × Int) := pre.flatMap fun y => mkL m (fun i => f ((y % H) * m + i))
theorem rowsL_snoc (m H : Nat) (f : Nat → Int × Int) (pre : List Nat) (x : Nat) : rowsL m H f (pre ++ [x]) = rowsL m H f pre ++ mkL m (fun i => f ((x % H) * m + i)) := by simp [rowsL]
theorem cvs_mk (m : Nat) (g : Nat → Int × Int) : cvs m g = pvs (mkL m g) := by simp [cvs, pvs, mkL, List.flatMap_map]
theorem mkL_add (n k : Nat) (f : Nat → Int × Int) : mkL (n + k) f = mkL n f ++ mkL k (fun i => f (n + i)) := by
  simp [mkL, List.range_add]
theorem rowsL_range (m H : Nat) (f : Nat → Int × Int) : ∀ k, k ≤ H → rowsL m H f (List.range k) = mkL (k * m) f
  | 0, _ => by simp [rowsL, mkL]
  | k + 1, h => by
    rw [List.range_succ, rowsL_snoc, rowsL_range m H f k (by omega), Nat.add_mul, Nat.one_mul, mkL_add, Nat.mod_eq_of_lt (by omega : k < H)]

/-- Between two rounds: the box of the sheet that is appended to (sb), the result's box, the row that is owned. -/
structure FolI (w : World) (wd : Int) (base k m H : Nat) (bs : List (Int × Int)) (f : Nat → Int × Int) (v0 : Value) (pre : List Nat) (W : World) : Prop where
  c0 : W.cell? ⟨w.heap.size, 0, none⟩ = some (.int .i64 wd)
  f1 : W.frozen? ⟨w.heap.size, 1, none⟩ = false
  r0 : W.cell? ⟨w.heap.size + 2, 0, none⟩ = some (.int .i64 0)
  r1 : W.cell? ⟨w.heap.size + 2, 1, none⟩ = some (.slice none 0 0)
  z0 : W.frozen? ⟨w.heap.size + 2, 0, none⟩ = false
  z1 : W.frozen? ⟨w.heap.size + 2, 1, none⟩ = false
  size : w.heap.size + 4 ≤ W.heap.size
  ex : ∃ v, W.cell? ⟨w.heap.size, 1, none⟩ = some v ∧ W.ownsRow base 193 2 v (k + pre.length * m) (pvs (bs ++ rowsL m H f pre)) ∧ GrowTo w W v0 v ∧ (∀ j, v.ownBlock = some j → j < w.heap.size ∨ w.heap.size + 4 ≤ j)

theorem FolI.own {w : World} {wd : Int} {base k m H : Nat} {bs : List (Int × Int)} {f : Nat → Int × Int} {v0 : Value} {B : Nat} (hB : w.heap.size ≤ B) : OwnFrom B (fun pre W => FolI w wd base k m H bs f v0 pre W) := by
  intro pre W W' row h hg hr
  have hr' : ∀ r, row = some r → ∃ o : Obj, W.heap[r]? = some o ∧ o.isCells = false := fun r e => (hr r e).2
  obtain ⟨v, h1, h2, h3, h4⟩ := h.ex
  refine ⟨cell_kept h.c0 hg hr', (frozen_kept h1 hg hr').trans h.f1, cell_kept h.r0 hg hr', cell_kept h.r1 hg hr', (frozen_kept h.r0 hg hr').trans h.z0, (frozen_kept h.r1 hg hr').trans h.z1, Nat.le_trans h.size hg.size, v, cell_kept h1 hg hr', ?_, ?_, h4⟩
  · refine own_block h2 fun j hj => ?_
    obtain ⟨_, h2'⟩ := h2
    rcases h2' with ⟨rfl, _⟩ | ⟨g, cap, cur, rfl, _, hgc, _⟩
    · cases hj
    · have : g = j := by simpa [Value.ownBlock] using hj
      subst this
      exact grownBy_keeps_cells hg hr' hgc rfl
  · refine ⟨⟨hg.os.trans h3.grown.os, hg.tape.trans h3.grown.tape, hg.output.trans h3.grown.output, Nat.le_trans h3.grown.size hg.size, fun j hj hne => ?_⟩, h3.spot⟩
    refine (hg.block j (Nat.lt_of_lt_of_le hj h3.grown.size) (fun e => ?_)).trans (h3.grown.block j hj hne)
    have := (hr j e.symm).1
    omega

set_option maxHeartbeats 4000000 in
theorem followedBy_calls (wd : Int) (base k m H N cap b off : Nat) (a : Option Addr) (v : Value) (bs : List (Int × Int)) (f : Nat → Int × Int) (w : World) (hown : w.ownsRow base 193 2 v k (pvs bs)) (hbase : base ≤ w.heap.size)
    (hr : RowR w b off N f) (hbne : some b ≠ v.ownBlock) (hN : N = H * m) (hwd : wd = (m : Int)) (hm : 1 ≤ m) (hm2 : m ≤ 1000) (hH : H ≤ 1000) (hc : N ≤ cap) (ha : 0 < N → a = some ⟨b, off, none⟩) (hN1 : N ≤ 100000) (hk : k ≤ 100000) :
    Calls Tryz.prog 239 #[.agg #[.int .i64 wd, v], .agg #[.int .i64 wd, .slice a N cap]] w fun e w' => ∃ v', e = .returned (.agg #[.int .i64 wd, v']) ∧ w'.ownsRow base 193 2 v' (k + N) (pvs (bs ++ mkL N f)) ∧ GrowTo w w' v v' := by
  obtain ⟨i0, hi, hz0, hz1, hz2⟩ := info_parts info_cell
  have hlt := hown.lt
  obtain ⟨av, cv, rfl, hcv⟩ := own_room2 hown
  have HOWN := hide hown
  have HLT := hide hlt
  have HR := hide hr
  have HN := hide hN
  have HW := hide hwd
  have HA := hide ha
  clear hown hlt hr hN hwd ha
  refine (callsIn_wide (n := 5)).1 ?_
  refine callsIn_of_wp_marks Tryz.func239 rfl trivial ?_ rfl
  simp only [Tryz.ntmps239, List.size_toArray, List.length_cons, List.length_nil, Nat.reduceAdd, Nat.reduceSub, Array.replicate_succ, Array.replicate_zero, List.push_toArray, List.append_toArray, List.nil_append, List.cons_append]
  gi_wp2
  refine ⟨trivial, (callsIn_wide.2 (rows_calls wd a N cap _)).mono ?_⟩
  rintro e w' ⟨rfl, rfl⟩
  have hbL : Below w.heap.size w ((((w.alloc (.cells #[.int .i64 wd, .slice av k cv] 217)).alloc (.cells #[.int .i64 wd, .slice a N cap] 217)).alloc (.cells #[.int .i64 0, .slice none 0 0] 217)).alloc (.cells #[.int .i64 wd, .slice a N cap] 217)) := (by repeat' (first | with_reducible exact Below.refl _ _ | with_reducible assumption | with_reducible refine Below.drew ?_ | with_reducible refine Below.alloc ?_ ?_ _ | with_reducible refine Below.setCell ?_ ?_ _ | (simp; done) | (simp; omega) | omega))
  have hI0 : FolI w wd base k m H bs f (.slice av k cv) [] ((((w.alloc (.cells #[.int .i64 wd, .slice av k cv] 217)).alloc (.cells #[.int .i64 wd, .slice a N cap] 217)).alloc (.cells #[.int .i64 0, .slice none 0 0] 217)).alloc (.cells #[.int .i64 wd, .slice a N cap] 217)) := by
    refine ⟨by simp [go_sem], by simp [go_sem], by simp [go_sem], by simp [go_sem], by simp [go_sem], by simp [go_sem], by simp, .slice av k cv, by simp [go_sem], ?_, GrowTo.of_below hbL _, fun j hj => .inl (HLT.out j hj).2⟩
    have h := own_below HOWN.out hbL
    simpa [rowsL] using h
  have hsL : ((((w.alloc (.cells #[.int .i64 wd, .slice av k cv] 217)).alloc (.cells #[.int .i64 wd, .slice a N cap] 217)).alloc (.cells #[.int .i64 0, .slice none 0 0] 217)).alloc (.cells #[.int .i64 wd, .slice a N cap] 217)).heap.size = w.heap.size + 4 := by simp
  have q0 : ((((w.alloc (.cells #[.int .i64 wd, .slice av k cv] 217)).alloc (.cells #[.int .i64 wd, .slice a N cap] 217)).alloc (.cells #[.int .i64 0, .slice none 0 0] 217)).alloc (.cells #[.int .i64 wd, .slice a N cap] 217)).cell? ⟨w.heap.size + 3, 0, none⟩ = some (.int .i64 wd) := by simp [go_sem]
  have q1 : ((((w.alloc (.cells #[.int .i64 wd, .slice av k cv] 217)).alloc (.cells #[.int .i64 wd, .slice a N cap] 217)).alloc (.cells #[.int .i64 0, .slice none 0 0] 217)).alloc (.cells #[.int .i64 wd, .slice a N cap] 217)).cell? ⟨w.heap.size + 3, 1, none⟩ = some (.slice a N cap) := by simp [go_sem]
  have esz : (((w.alloc (.cells #[.int .i64 wd, .slice av k cv] 217)).alloc (.cells #[.int .i64 wd, .slice a N cap] 217)).alloc (.cells #[.int .i64 0, .slice none 0 0] 217)).heap.size = w.heap.size + 3 := by simp
  rw [esz]
  clear esz
  generalize ((((w.alloc (.cells #[.int .i64 wd, .slice av k cv] 217)).alloc (.cells #[.int .i64 wd, .slice a N cap] 217)).alloc (.cells #[.int .i64 0, .slice none 0 0] 217)).alloc (.cells #[.int .i64 wd, .slice a N cap] 217)) = wL at *
  gi_wp2
  have hblt : 0 < N → b < w.heap.size := fun h => HR.out.lt h
  refine wpIn_rangeFunc_ownF rfl (by omega) (gf := 237) (lb := #[.pointer (some ⟨w.heap.size + 3, 0, none⟩)]) rfl trivial (enters_of Tryz.func237 (by kernel_rfl) rfl)
    (rows_stops _ (w.heap.size + 3) b off m H N cap wd a HN.out HW.out hm hm2 hH hc HA.out (by omega) wL (by omega) q0 q1) (fun h k => k.trans h) (fun W l o o' hl h h1 h2 => World.putObj_heap_other (by omega)) (Below.refl _ _) (fun _ => rfl)
    (fun pre W => FolI w wd base k m H bs f (.slice av k cv) pre W) (fun _ _ _ => False) (FolI.own (by omega)) (fun _ _ _ _ _ hs _ _ => hs) hI0
    (fun x => { tmps := #[.agg #[.int .i64 wd, .slice av k cv], .agg #[.int .i64 wd, .slice a N cap], .pointer (some ⟨w.heap.size, 0, none⟩), .pointer (some ⟨w.heap.size + 1, 0, none⟩), .pointer (some ⟨w.heap.size + 1 + 1, 0, none⟩), undef, .slice (some ⟨b, off + (x % H) * m * 2, none⟩) m (cap - (x % H) * m), .agg #[.int .i64 wd, .slice a N cap], .func (.func 237) #[] #[.pointer (some ⟨w.heap.size + 3, 0, none⟩)], .int .i64 ((x : Int) % (H : Int)), .slice (some ⟨b, off + (x % H) * m * 2, none⟩) m (cap - (x % H) * m), undef, undef, undef, undef, undef, undef], defers := [] }) ?assign ?body ?done ?stop
  case assign =>
    intro l x W K hK
    simp only [rowEnc]
    gi_wp2
    exact hK
  case body =>
    rintro l pre x W hF hlen
    obtain ⟨v, c1, ho, hgt, hsp⟩ := hF.ex
    have hH0 : 0 < H := by omega
    have hx : x % H < H := Nat.mod_lt _ hH0
    have hrl := rowsL_snoc m H f pre x
    have hym : x % H * m + m ≤ N := by
      have h := Nat.mul_le_mul_right m (show x % H + 1 ≤ H by omega)
      rw [Nat.add_mul, ← HN.out] at h
      omega
    have hlm : pre.length * m + m ≤ N := by
      have h := Nat.mul_le_mul_right m (show pre.length + 1 ≤ H by omega)
      rw [Nat.add_mul, ← HN.out] at h
      omega
    have hrow : RowR W b (off + x % H * m * 2) m (fun i => f (x % H * m + i)) := ((HR.out.block (hgt.grown.block b (hblt (by omega)) hbne)).sub (x % H * m) m hym)
    have hnews := rowr_cells hrow
    have HRL := hide hrl
    generalize x % H = y at *
    obtain ⟨avv, cvv, rfl, hcvv⟩ := own_room2 ho
    have hbs : base ≤ W.heap.size := Nat.le_trans hbase (Nat.le_trans (by omega) hF.size)
    have F0 := hF.c0
    have F1 := hF.f1
    have HI := hide hF
    clear hrl hrow hF
    gi_wp2_with (gi_at_builtin; refine wpListIn_append_own_at (w := W) rfl (.tmp 12) (.tmp 13) 33 rfl base 193 i0 (.agg #[.int .i64 0, .int .i64 0]) 2 16 Tryz.underlying33 hi hz0 hz1 hz2 rfl (by decide) _ _ _ rfl ho ⟨b, off + y * m * 2, none⟩ m (cap - y * m) (cvs m (fun i => f (y * m + i))) rfl (cvs_length _ _) hnews (cvs_one _ _) (by unfold maxLen; omega) (by omega) hbs ?_; intro v2 W2 ho2 hg2 hn2 hs2; obtain ⟨a2, c2, rfl, hc2⟩ := own_room2 ho2; have hbk : ∀ j, w.heap.size ≤ j → j < w.heap.size + 4 → W2.heap[j]? = W.heap[j]? := fun j h1 h2 => hg2.block j (by have := HI.out.size; omega) (fun e => by have := hsp j e.symm; omega); have d1 := (World.cell?_of_block (w := W) (a := ⟨w.heap.size, 1, none⟩) (hbk _ (Nat.le_refl _) (by show w.heap.size < _; omega))).trans c1; have e1 := (World.frozen?_of_block (w := W) (a := ⟨w.heap.size, 1, none⟩) (hbk _ (Nat.le_refl _) (by show w.heap.size < _; omega))).trans F1)
    have hI := HI.out
    have hW2 : W.heap.size ≤ W2.heap.size := hg2.size
    have hsz := hI.size
    have hcells : ∀ j o, (Value.slice avv (k + pre.length * m) cvv).ownBlock = some j → W.heap[j]? = some o → o.isCells = true := by
      intro j o hj ho'
      obtain ⟨_, h2'⟩ := ho
      rcases h2' with ⟨h3, _⟩ | ⟨g, cap', cur, h3, _, hgc, _⟩
      · rw [h3] at hj; cases hj
      · rw [h3] at hj
        have : g = j := by simpa [Value.ownBlock] using hj
        subst this
        rw [hgc] at ho'
        injection ho' with ho'
        subst ho'
        rfl
    refine ⟨(KeepsOthers.of_grownBy hg2 (fun j o e h => hcells j o e h)).trans (KeepsOthers.setCell _ _ _), ?_, ?_⟩
    · show _ = _
      rw [Below.heap_setCell _ _ _ _ (by simp)]
      exact hbk _ (by omega) (by omega)
    · have cc : ∀ {q o u}, w.heap.size ≤ q → q < w.heap.size + 4 → W.cell? ⟨q, o, none⟩ = some u → W2.cell? ⟨q, o, none⟩ = some u := fun h1 h2 h => (World.cell?_of_block (w := W) (hbk _ h1 h2)).trans h
      have zz : ∀ {q o x}, w.heap.size ≤ q → q < w.heap.size + 4 → W.frozen? ⟨q, o, none⟩ = x → W2.frozen? ⟨q, o, none⟩ = x := fun h1 h2 h => (World.frozen?_of_block (w := W) (hbk _ h1 h2)).trans h
      have hgt2 : GrowTo W W2 (.slice avv (k + pre.length * m) cvv) (.slice a2 (k + pre.length * m + m) c2) := ⟨hg2, by rcases hs2 with e | e; exact .inl e; exact .inr ⟨_, e, Nat.le_refl _⟩⟩
      have hsp2 : ∀ j, (Value.slice a2 (k + pre.length * m + m) c2).ownBlock = some j → j < w.heap.size ∨ w.heap.size + 4 ≤ j := by
        intro j hj
        rcases hs2 with e | e
        · exact hsp j (e.symm.trans hj)
        · rw [e] at hj; injection hj with hj; omega
      refine ⟨?_, ?_, ?_, ?_, ?_, ?_, ?_, .slice a2 (k + pre.length * m + m) c2, ?_, ?_, ?_, hsp2⟩
      · rw [World.cell?_setCell_other _ _ _ _ (addr_ne (by omega))]; exact cc (Nat.le_refl _) (by omega) hI.c0
      · rw [World.frozen?_setCell]; exact e1
      · rw [World.cell?_setCell_other _ _ _ _ (addr_ne (by omega))]; exact cc (by omega) (by omega) hI.r0
      · rw [World.cell?_setCell_other _ _ _ _ (addr_ne (by omega))]; exact cc (by omega) (by omega) hI.r1
      · rw [World.frozen?_setCell]; exact zz (by omega) (by omega) hI.z0
      · rw [World.frozen?_setCell]; exact zz (by omega) (by omega) hI.z1
      · simp [World.setCell]; omega
      · exact World.cell?_setCell_same _ _ _ d1
      · have h := own_setCell (b := w.heap.size) (o := 1) (u := .slice a2 (k + pre.length * m + m) c2) ho2 (fun e => by have := hsp2 _ e.symm; omega)
        rw [List.length_append, List.length_singleton, Nat.add_mul, Nat.one_mul, ← Nat.add_assoc, HRL.out, ← List.append_assoc, pvs_append, ← cvs_mk]
        exact h
      · exact (hgt.trans hgt2).setCell (by simp) _
  case done =>
    rintro D ys W hD rfl hF hK
    obtain ⟨v, c1, ho, hgt, hsp⟩ := hF.ex
    have hlen : (List.range H).length * m = N := by rw [List.length_range]; exact HN.out.symm
    rw [hlen, rowsL_range m H f H (Nat.le_refl _), ← HN.out] at ho
    obtain ⟨avv, cvv, rfl, hcvv⟩ := own_room2 ho
    have F0 := hF.c0
    have F1 := hF.f1
    have R0 := hF.r0
    have R1 := hF.r1
    have Z0 := hF.z0
    have Z1 := hF.z1
    have hsz := hF.size
    obtain ⟨s0, s1⟩ := res2 (w := W) (r := w.heap.size + 2) (.int .i64 wd) (.slice avv (k + N) cvv) R0 R1
    have HO := hide ho
    have HG := hide hgt
    have HS := hide hsp
    have HKK := hide hK
    clear ho hgt hsp hF hlen
    gi_wp2
    rw [show w.heap.size + 1 + 1 = w.heap.size + 2 from rfl]
    have HOO := hide (own_setCell (b := w.heap.size + 2) (o := 1) (u := .slice avv (k + N) cvv) (own_setCell (b := w.heap.size + 2) (o := 0) (u := .int .i64 wd) HO.out (fun e => by have := HS.out _ e.symm; omega)) (fun e => by have := HS.out _ e.symm; omega))
    have HGG := hide ((HG.out.setCell (p := ⟨w.heap.size + 2, 0, none⟩) (by simp) (.int .i64 wd)).setCell (p := ⟨w.heap.size + 2, 1, none⟩) (by simp) (.slice avv (k + N) cvv))
    have hK2 := ((KeepsOthers.setCell W ⟨w.heap.size + 2, 0, none⟩ (.int .i64 wd)).trans (KeepsOthers.setCell _ ⟨w.heap.size + 2, 1, none⟩ (.slice avv (k + N) cvv))).same D _ HKK.out rfl
    generalize ((W.setCell ⟨w.heap.size + 2, 0, none⟩ (.int .i64 wd)).setCell ⟨w.heap.size + 2, 1, none⟩ (.slice avv (k + N) cvv)) = W3 at *
    refine ⟨by simp, .inl ⟨_, _, rfl, run_takeDeferred hK2, ?_⟩⟩
    have hrow : ∀ r, some D = some r → ∃ o : Obj, W3.heap[r]? = some o ∧ o.isCells = false := by
      rintro r e
      injection e with e
      subst e
      exact ⟨_, hK2, rfl⟩
    have t0 := cell_kept s0 (grownBy_putObj' W3 D (.deferred none)) hrow
    have t1 := cell_kept s1 (grownBy_putObj' W3 D (.deferred none)) hrow
    refine ⟨_, ?_, .slice avv (k + N) cvv, rfl, ownsRow_putObj HOO.out _ hK2 rfl, ?_⟩
    · simp [results, Tryz.results239, go_sem, t0, t1]
    · have hG := HGG.out
      have hgp := grownBy_putObj' W3 D (.deferred none)
      refine ⟨⟨hgp.os.trans hG.grown.os, hgp.tape.trans hG.grown.tape, hgp.output.trans hG.grown.output, Nat.le_trans hG.grown.size hgp.size, fun j hj hne => ?_⟩, hG.spot⟩
      refine (hgp.block j (Nat.lt_of_lt_of_le hj hG.grown.size) (fun e => ?_)).trans (hG.grown.block j hj hne)
      injection e with e
      omega
  case stop =>
    rintro D c pre W _ _ h _
    exact h.elim

end Go.Proofs.YtdekegjplegkeaaGreat

/- The last rows of a sheet: impl's last, walked. -/
namespace Go.Proofs.YtdekegjplegkeaaGreat
set_option maxRecDepth 20000
open Go.ChangeShapes Go.WideShapes Go.ChangeAt Go.RowKit
set_option linter.unusedVariables false
set_option linter.unusedSimpArgs false
set_option maxRecDepth 20000

set_option maxHeartbeats 2000000 in
theorem last_calls (wd : Int) (b off n cap H m : Nat) (v : Value) (hv : SlAt v b off n cap) (hn : n = H * m) (hm : wd = (m : Int)) (h1 : 1 ≤ m) (h2 : m ≤ 1000) (hH : H ≤ 1000) (hn1 : n ≤ 1048576) (w : World) :
    Calls Tryz.prog 240 #[.agg #[.int .i64 wd, v], .int .i64 5] w fun e w' => ∃ v', e = .returned (.agg #[.int .i64 wd, v']) ∧ SlAt v' b (off + ((H - 5) * m) * 2) (n - (H - 5) * m) (cap - (H - 5) * m) ∧ Below w.heap.size w w' := by
  have hv' := hv
  obtain ⟨hc, a, rfl, ha⟩ := hv'
  have hq : (n : Int) / wd = (H : Int) := by
    rw [hn, hm, Int.natCast_mul]
    exact Int.mul_ediv_cancel _ (by omega)
  have hle : (H - 5) * m ≤ n := by rw [hn]; exact Nat.mul_le_mul_right m (by omega)
  have HP := fun (f : Int) (hf : f = ((H - 5 : Nat) : Int)) (w : World) => part_calls wd f (H : Int) b off n cap ((H - 5) * m) n (.slice a n cap) hv (by rw [hm, hf, Int.natCast_mul]) (by rw [hm, hn, Int.natCast_mul]) hle (Nat.le_refl _) hn1 w
  have HH := fun w => height_calls wd (by omega) (by omega) a n cap hn1 w
  rw [hq] at HH
  have HN := hide hn
  have HM := hide hm
  clear hn hm ha hv hq
  have hb0 : Below w.heap.size w ((w.alloc (.cells #[.int .i64 wd, .slice a n cap] 217)).alloc (.cells #[.int .i64 0, .slice none 0 0] 217)) := (by repeat' (first | with_reducible exact Below.refl _ _ | with_reducible assumption | with_reducible refine Below.drew ?_ | with_reducible refine Below.alloc ?_ ?_ _ | with_reducible refine Below.setCell ?_ ?_ _ | (simp; done) | (simp; omega) | omega))
  have s5 : IntKind.i64.wrap ((H : Int) - 5) = (H : Int) - 5 := wrap_small (by omega) (by omega)
  go_enter Tryz.func240, Tryz.ntmps240
  go_wp2_with fail
  refine (HH _).mono ?_
  rintro e w1 ⟨rfl, hb1⟩
  have A0 : w1.cell? ⟨w.heap.size, 0, none⟩ = some (.int .i64 wd) := cellb hb1 (by simp [go_sem])
  have A1 : w1.cell? ⟨w.heap.size, 1, none⟩ = some (.slice a n cap) := cellb hb1 (by simp [go_sem])
  have R0 : w1.cell? ⟨w.heap.size + 1, 0, none⟩ = some (.int .i64 0) := cellb hb1 (by simp [go_sem])
  have R1 : w1.cell? ⟨w.heap.size + 1, 1, none⟩ = some (.slice none 0 0) := cellb hb1 (by simp [go_sem])
  have Z0 : w1.frozen? ⟨w.heap.size + 1, 0, none⟩ = false := by rw [hb1.frozen (p := ⟨w.heap.size + 1, 0, none⟩) (by simp)]; simp [go_sem]
  have Z1 : w1.frozen? ⟨w.heap.size + 1, 1, none⟩ = false := by rw [hb1.frozen (p := ⟨w.heap.size + 1, 1, none⟩) (by simp)]; simp [go_sem]
  have hs1 : w.heap.size + 2 ≤ w1.heap.size := by have := hb1.size; simp at this; omega
  have b1 : Below w.heap.size w w1 := hb0.trans (hb1.mono (by simp; omega))
  clear hb1 hb0 HH
  by_cases h5 : H ≤ 5
  · have h5I : (H : Int) - 5 ≤ 0 := by omega
    have h5J : ¬ (0 : Int) < (H : Int) - 5 := by omega
    go_wp2_with fail
    refine (HP 0 (by omega) _).mono ?_
    rintro e w2 ⟨v2, rfl, hs, hb2⟩
    have hs' := hs
    obtain ⟨_, a2, rfl, _⟩ := hs'
    obtain ⟨q, hq⟩ : ∃ q, q = (H - 5) * m := ⟨_, rfl⟩
    rw [← hq] at hs
    obtain ⟨nn, hnn⟩ : ∃ nn, nn = n - q := ⟨_, rfl⟩
    obtain ⟨cc, hcc⟩ : ∃ cc, cc = cap - q := ⟨_, rfl⟩
    rw [← hnn, ← hcc] at hs
    rw [← hq, ← hnn, ← hcc]
    have HQ := hide hq
    have HNN := hide hnn
    have HCC := hide hcc
    clear hq hnn hcc
    have HS := hide hs
    replace R0 := cellb hb2 R0
    replace R1 := cellb hb2 R1
    replace Z0 : w2.frozen? ⟨w.heap.size + 1, 0, none⟩ = false := by rw [hb2.frozen (p := ⟨w.heap.size + 1, 0, none⟩) (by simp; omega)]; exact Z0
    replace Z1 : w2.frozen? ⟨w.heap.size + 1, 1, none⟩ = false := by rw [hb2.frozen (p := ⟨w.heap.size + 1, 1, none⟩) (by simp; omega)]; exact Z1
    have b2 := b1.trans (hb2.mono b1.size)
    clear hs hb2 HP
    obtain ⟨t0, t1⟩ := res2 (w := w2) (r := w.heap.size + 1) (.int .i64 wd) (.slice a2 nn cc) R0 R1
    go_wp2
    refine bodyPost_ret (v := .agg #[.int .i64 wd, .slice a2 nn cc]) (by simp [results, Tryz.results240, go_sem, t0, t1]) rfl ⟨_, rfl, (by have e1 := HQ.out; have e2 := HNN.out; have e3 := HCC.out; subst e1 e2 e3; exact HS.out), b2.trans (show Below w.heap.size w2 _ from (by repeat' (first | with_reducible exact Below.refl _ _ | with_reducible assumption | with_reducible refine Below.drew ?_ | with_reducible refine Below.alloc ?_ ?_ _ | with_reducible refine Below.setCell ?_ ?_ _ | (simp; done) | (simp; omega) | omega)))⟩
  · have h5I : (0 : Int) ≤ (H : Int) - 5 := by omega
    have h5K : ¬ (H : Int) - 5 ≤ 0 := by omega
    have h5J : (0 : Int) < (H : Int) - 5 := by omega
    go_wp2_with fail
    refine (HP ((H : Int) - 5) (by omega) _).mono ?_
    rintro e w2 ⟨v2, rfl, hs, hb2⟩
    have hs' := hs
    obtain ⟨_, a2, rfl, _⟩ := hs'
    obtain ⟨q, hq⟩ : ∃ q, q = (H - 5) * m := ⟨_, rfl⟩
    rw [← hq] at hs
    obtain ⟨nn, hnn⟩ : ∃ nn, nn = n - q := ⟨_, rfl⟩
    obtain ⟨cc, hcc⟩ : ∃ cc, cc = cap - q := ⟨_, rfl⟩
    rw [← hnn, ← hcc] at hs
    rw [← hq, ← hnn, ← hcc]
    have HQ := hide hq
    have HNN := hide hnn
    have HCC := hide hcc
    clear hq hnn hcc
    have HS := hide hs
    replace R0 := cellb hb2 R0
    replace R1 := cellb hb2 R1
    replace Z0 : w2.frozen? ⟨w.heap.size + 1, 0, none⟩ = false := by rw [hb2.frozen (p := ⟨w.heap.size + 1, 0, none⟩) (by simp; omega)]; exact Z0
    replace Z1 : w2.frozen? ⟨w.heap.size + 1, 1, none⟩ = false := by rw [hb2.frozen (p := ⟨w.heap.size + 1, 1, none⟩) (by simp; omega)]; exact Z1
    have b2 := b1.trans (hb2.mono b1.size)
    clear hs hb2 HP
    obtain ⟨t0, t1⟩ := res2 (w := w2) (r := w.heap.size + 1) (.int .i64 wd) (.slice a2 nn cc) R0 R1
    go_wp2
    refine bodyPost_ret (v := .agg #[.int .i64 wd, .slice a2 nn cc]) (by simp [results, Tryz.results240, go_sem, t0, t1]) rfl ⟨_, rfl, (by have e1 := HQ.out; have e2 := HNN.out; have e3 := HCC.out; subst e1 e2 e3; exact HS.out), b2.trans (show Below w.heap.size w2 _ from (by repeat' (first | with_reducible exact Below.refl _ _ | with_reducible assumption | with_reducible refine Below.drew ?_ | with_reducible refine Below.alloc ?_ ?_ _ | with_reducible refine Below.setCell ?_ ?_ _ | (simp; done) | (simp; omega) | omega)))⟩

end Go.Proofs.YtdekegjplegkeaaGreat

/- What ScrollGrid answers, of the program. -/
namespace Go.Proofs.YtdekegjplegkeaaGreat
set_option maxRecDepth 20000
open Go.ChangeShapes Go.WideShapes Go.ChangeAt Go.RowKit
set_option linter.unusedVariables false
set_option linter.unusedSimpArgs false
set_option maxRecDepth 20000

def lastL (k : Nat) (l : List (Int × Int)) : List (Int × Int) := l.drop (l.length - k)
def scrollOk (r top bot n at' : Int) : Bool := decide (0 ≤ top ∧ top ≤ bot) && (decide (0 ≤ bot ∧ bot ≤ r - 1) && (decide (-9 ≤ n ∧ n ≤ 9) && atB at'))
/-- The L cells from place A on go n places towards the first one of them. -/
def scrollF (A L : Nat) (n : Int) (f : Nat → Int × Int) (bl : Int × Int) (i : Nat) : Int × Int := if A ≤ i ∧ i < A + L then slideF L n (fun j => f (A + j)) bl (i - A) else f i
def scrollB (W top : Nat) (k : Nat) (f : Nat → Int × Int) (bs : List (Int × Int)) : List (Int × Int) := if top = 0 then lastL (5 * W) (bs ++ mkL (k * W) f) else bs
def scrollRes (r wd : Int) (cs bs : List (Int × Int)) (top bot n at' : Int) : GRes := gres r wd cs bs (scrollOk r top bot n at') ⟨0, r, wd, mkL cs.length (scrollF (top.toNat * wd.toNat) ((bot + 1 - top).toNat * wd.toNat) (n * wd) (fun i => cs.getD i (0, 0)) (32, at')), scrollB wd.toNat top.toNat (max 0 (min n (bot + 1))).toNat (fun i => cs.getD i (0, 0)) bs⟩
theorem scrollRes_def (r wd : Int) (cs bs : List (Int × Int)) (top bot n at' : Int) : scrollRes r wd cs bs top bot n at' = gres r wd cs bs (scrollOk r top bot n at') ⟨0, r, wd, mkL cs.length (scrollF (top.toNat * wd.toNat) ((bot + 1 - top).toNat * wd.toNat) (n * wd) (fun i => cs.getD i (0, 0)) (32, at')), scrollB wd.toNat top.toNat (max 0 (min n (bot + 1))).toNat (fun i => cs.getD i (0, 0)) bs⟩ := rfl
theorem lastL_length (k : Nat) (l : List (Int × Int)) : (lastL k l).length = min l.length k := by unfold lastL; rw [List.length_drop]; omega
theorem scrollRes_len (r wd : Int) (cs bs : List (Int × Int)) (top bot n at' : Int) : (scrollRes r wd cs bs top bot n at').cs.length ≤ 72 ∧ (scrollRes r wd cs bs top bot n at').bs.length ≤ 60 := gres_len (fun h => by
  obtain ⟨R, W, e1, e2, n1, n2, n3, n4, n5, n6, n7, n8, n9, n10⟩ := h.nats
  refine ⟨by rw [mkL_length]; exact n9, ?_⟩
  show (scrollB _ _ _ _ _).length ≤ 60
  unfold scrollB
  split
  · rw [lastL_length]
    omega
  · exact n10)
theorem lastL_short {k : Nat} {l : List (Int × Int)} (h : l.length ≤ k) : lastL k l = l := by
  unfold lastL
  rw [show l.length - k = 0 by omega, List.drop_zero]
theorem lastL_lastL (k : Nat) (x y : List (Int × Int)) : lastL k (lastL k x ++ y) = lastL k (x ++ y) := by
  unfold lastL
  rw [List.length_append, List.length_append, List.length_drop, List.drop_append, List.drop_append, List.drop_drop, List.length_drop]
  congr 2 <;> omega
/-- One row more that left: kept behind the others, the first one let go where there are more than five. -/
theorem scrollB_succ {W k : Nat} {f g : Nat → Int × Int} {bs : List (Int × Int)} (hg : ∀ i, i < W → g i = f (k * W + i)) : lastL (5 * W) (scrollB W 0 k f bs ++ mkL W g) = scrollB W 0 (k + 1) f bs := by
  unfold scrollB
  rw [if_pos rfl, if_pos rfl, lastL_lastL, List.append_assoc, Nat.add_mul, Nat.one_mul, mkL_add, mkL_congr hg]
theorem scrollF_same (A L : Nat) (f : Nat → Int × Int) (bl : Int × Int) (i : Nat) : scrollF A L 0 f bl i = f i := by
  unfold scrollF slideF
  by_cases h : A ≤ i ∧ i < A + L
  · rw [if_pos h, if_pos (by omega)]
    dsimp only
    rw [show A + (((i - A : Nat) : Int) + 0).toNat = i by omega]
  · rw [if_neg h]
theorem scrollF_up (A L k m : Nat) (f : Nat → Int × Int) (bl : Int × Int) (i : Nat) : scrollF A L (m : Int) (scrollF A L (k : Int) f bl) bl i = scrollF A L ((k + m : Nat) : Int) f bl i := by
  unfold scrollF slideF
  by_cases h : A ≤ i ∧ i < A + L
  · rw [if_pos h, if_pos h]
    by_cases h1 : 0 ≤ ((i - A : Nat) : Int) + (m : Int) ∧ ((i - A : Nat) : Int) + (m : Int) < L
    · rw [if_pos h1]
      dsimp only
      rw [if_pos (by omega)]
      by_cases h2 : 0 ≤ ((i - A : Nat) : Int) + ((k + m : Nat) : Int) ∧ ((i - A : Nat) : Int) + ((k + m : Nat) : Int) < L
      · rw [if_pos h2, if_pos (by omega)]
        congr 1
        omega
      · rw [if_neg h2, if_neg (by omega)]
    · rw [if_neg h1, if_neg (by omega)]
  · rw [if_neg h, if_neg h, if_neg h]
theorem scrollF_down (A L k m : Nat) (f : Nat → Int × Int) (bl : Int × Int) (i : Nat) : scrollF A L (-(m : Int)) (scrollF A L (-(k : Int)) f bl) bl i = scrollF A L (-((k + m : Nat) : Int)) f bl i := by
  unfold scrollF slideF
  by_cases h : A ≤ i ∧ i < A + L
  · rw [if_pos h, if_pos h]
    by_cases h1 : 0 ≤ ((i - A : Nat) : Int) + (-(m : Int)) ∧ ((i - A : Nat) : Int) + (-(m : Int)) < L
    · rw [if_pos h1]
      dsimp only
      rw [if_pos (by omega)]
      by_cases h2 : 0 ≤ ((i - A : Nat) : Int) + (-((k + m : Nat) : Int)) ∧ ((i - A : Nat) : Int) + (-((k + m : Nat) : Int)) < L
      · rw [if_pos h2, if_pos (by omega)]
        congr 1
        omega
      · rw [if_neg h2, if_neg (by omega)]
    · rw [if_neg h1, if_neg (by omega)]
  · rw [if_neg h, if_neg h, if_neg h]
/-- Farther than there are rows is as far as there are rows. -/
theorem scrollF_far {A L : Nat} {n m : Int} {f : Nat → Int × Int} {bl : Int × Int} (h : ((L : Int) ≤ n ∧ (L : Int) ≤ m) ∨ (n ≤ -(L : Int) ∧ m ≤ -(L : Int)) ∨ n = m) (i : Nat) : scrollF A L n f bl i = scrollF A L m f bl i := by
  rcases h with h | h | rfl
  · unfold scrollF slideF
    by_cases h1 : A ≤ i ∧ i < A + L
    · rw [if_pos h1, if_pos h1, if_neg (by omega), if_neg (by omega)]
    · rw [if_neg h1, if_neg h1]
  · unfold scrollF slideF
    by_cases h1 : A ≤ i ∧ i < A + L
    · rw [if_pos h1, if_pos h1, if_neg (by omega), if_neg (by omega)]
    · rw [if_neg h1, if_neg h1]
  · rfl
theorem scrollB_drop {W lv q Hb : Nat} {f : Nat → Int × Int} {bs : List (Int × Int)} (hq : q = lv * W) (hb : bs.length = Hb * W) : scrollB W 0 lv f bs = List.drop ((Hb + lv - 5) * W) (bs ++ mkL q f) := by
  subst hq
  unfold scrollB lastL
  rw [if_pos rfl, List.length_append, mkL_length, hb, ← Nat.add_mul, ← Nat.sub_mul]
theorem scrollB_low {W T lv : Nat} {f : Nat → Int × Int} {bs : List (Int × Int)} (h : ¬ T = 0) : scrollB W T lv f bs = bs := if_neg h
theorem rows_pos {T B W : Nat} (h : T ≤ B) (h1 : 0 < W) : 0 < (B + 1) * W - T * W := by
  rw [← Nat.sub_mul]
  exact Nat.mul_pos (by omega) h1
theorem mul_small {n : Int} {W : Nat} (h : -9 ≤ n ∧ n ≤ 9) (h1 : W ≤ 12) : -108 ≤ n * (W : Int) ∧ n * (W : Int) ≤ 108 := by
  have a := Int.mul_le_mul_of_nonneg_right h.2 (show (0 : Int) ≤ (W : Int) by omega)
  have b := Int.mul_le_mul_of_nonneg_right h.1 (show (0 : Int) ≤ (W : Int) by omega)
  omega
/-- A scroll of a grid without a fault, in naturals. -/
theorem scroll_nats {r wd top bot : Int} {cs bs : List (Int × Int)} (h : GFine r wd cs bs) (h0 : 0 ≤ top ∧ top ≤ bot) (h1 : 0 ≤ bot ∧ bot ≤ r - 1) : ∃ T B W : Nat, top = (T : Int) ∧ bot = (B : Int) ∧ wd = (W : Int) ∧ T ≤ B ∧ B ≤ 5 ∧ 2 ≤ W ∧ W ≤ 12 ∧ T * W ≤ (B + 1) * W ∧ (B + 1) * W ≤ cs.length ∧ ∃ Hb, Hb ≤ 5 ∧ bs.length = Hb * W := by
  obtain ⟨R, W, rfl, rfl, n1, n2, n3, n4, n5, n6, n7, n8, n9, n10⟩ := h.nats
  obtain ⟨T, rfl⟩ : ∃ Y : Nat, top = Y := ⟨top.toNat, by omega⟩
  obtain ⟨B, rfl⟩ : ∃ X : Nat, bot = X := ⟨bot.toNat, by omega⟩
  have hd : bs.length = bs.length / W * W := (Nat.div_mul_cancel (Nat.dvd_of_mod_eq_zero n7)).symm
  refine ⟨T, B, W, rfl, rfl, rfl, by omega, by omega, by omega, by omega, Nat.mul_le_mul_right W (by omega), by rw [n5]; exact Nat.mul_le_mul_right W (by omega), bs.length / W, ?_, hd⟩
  exact Nat.div_le_of_le_mul (by rw [Nat.mul_comm]; exact n6)

theorem own_spotG {w : World} {base n : Nat} {e : TypeId} {v : Value} {xs : List (Int × Int)} (h : w.ownsRow base e 2 v n (pvs xs)) (hb : base < w.heap.size) : ∃ bb a cap, v = .slice a n cap ∧ SlAt v bb 0 n cap ∧ base ≤ bb ∧ bb < w.heap.size ∧ (v.ownBlock = some bb ∨ bb = base) ∧ PairsAt bb (bb + 1) w v xs ∧ xs.length = n := by
  by_cases h0 : 0 < n
  · obtain ⟨b, cap, rfl, hc, hl, h1, h2, hr⟩ := own_row h h0
    refine ⟨b, _, cap, rfl, ⟨hc, _, rfl, fun _ => rfl⟩, h1, h2, .inl rfl, ⟨_, _, by rw [hl], .inr ⟨b, 0, rfl, Nat.le_refl _, Nat.lt_succ_self _, fun i hi => hr i (by omega)⟩⟩, hl⟩
  · obtain ⟨a, cap, rfl, hc⟩ := own_room2 h
    have hl : xs.length = n := by
      have := h.1
      rw [pvs_length] at this
      omega
    obtain rfl : n = 0 := by omega
    obtain rfl := List.length_eq_zero_iff.1 hl
    exact ⟨base, a, cap, rfl, ⟨hc, a, rfl, fun h => by omega⟩, Nat.le_refl _, hb, .inr rfl, PairsAt.nil _ _ _ _ _, rfl⟩
theorem pairs_drop {w : World} {bb n cap k hi cap' : Nat} {v v' : Value} {xs : List (Int × Int)} (h : PairsAt bb hi w v xs) (hs : SlAt v bb 0 n cap) (hs' : SlAt v' bb (0 + k * 2) (n - k) cap') (hl : xs.length = n) (hk : k ≤ n) : PairsAt bb hi w v' (xs.drop k) := by
  obtain ⟨_, a', rfl, ha'⟩ := hs'
  obtain ⟨_, a, rfl, ha⟩ := hs
  by_cases h0 : n - k = 0
  · rw [h0, List.drop_eq_nil_of_le (by omega)]
    exact PairsAt.nil _ _ _ _ _
  · obtain ⟨a2, c2, e, h⟩ := h
    injection e with e1 e2 e3
    refine ⟨_, _, by rw [List.length_drop, hl], .inr ?_⟩
    rcases h with h | ⟨b, off, h1, h2, h3, h4⟩
    · rw [h] at hl; simp at hl; omega
    · rw [← e1, ha (by omega)] at h1
      injection h1 with h1
      injection h1 with e4 e5
      subst e4
      subst e5
      refine ⟨_, _, ha' (by omega), h2, h3, fun i hi => ?_⟩
      rw [List.length_drop] at hi
      have := h4 (k + i) (by omega)
      rw [List.getD_eq_getElem?_getD, List.getElem?_drop, ← List.getD_eq_getElem?_getD, show 0 + k * 2 + i * 2 = 0 + (k + i) * 2 by omega]
      exact this
theorem pairs_touch {w w' : World} {lo hi b p q : Nat} {v : Value} {xs : List (Int × Int)} (h : PairsAt lo hi w v xs) (t : Touch b p q w w') (hb : b < lo) (hs : hi ≤ w.heap.size) : PairsAt lo hi w' v xs :=
  h.of_blocks fun i h1 h2 => t.block i (by omega) (by omega)
theorem GrowTo.cellAt {w w' : World} {v v' u : Value} {b o : Nat} (h : GrowTo w w' v v') (c : w.cell? ⟨b, o, none⟩ = some u) (hne : some b ≠ v.ownBlock) : w'.cell? ⟨b, o, none⟩ = some u := (h.cell (block_lt_of_cell c) hne).trans c
/-- What a result holds, whose second list lies in one block. -/
theorem gown_of2 {w w' : World} {base bb bx n cx : Nat} {F : Nat → Int × Int} {y : Value} {bs : List (Int × Int)} (hr : Row w bx 0 n F) (h1 : base ≤ bx) (p2 : PairsAt bb (bb + 1) w y bs) (hb : bx < bb) (hbb : bb < w.heap.size)
    (hs : w.heap.size ≤ w'.heap.size) (hk : ∀ k, k < w.heap.size → w'.heap[k]? = w.heap[k]? ∨ k < base) : GOwn base w'.heap.size w' (.slice (some ⟨bx, 0, none⟩) n cx) y (mkL n F) bs := by
  have p1 : PairsAt bx (bx + 1) w (.slice (some ⟨bx, 0, none⟩) n cx) (mkL n F) := PairsAt.of_row hr (Nat.le_refl _) (Nat.lt_succ_self _)
  refine ((GOwn.of (lo := base) (hi := w.heap.size) p1 p2 h1 (by omega) (by omega) (by omega) (.inl (by omega))).of_blocks (fun i h1 h2 => ?_)).mono (Nat.le_refl _) hs
  rcases hk i h2 with h | h
  · exact h
  · omega

set_option maxHeartbeats 2000000 in
theorem implScrollGrid_calls (r wd : Int) (cs bs : List (Int × Int)) (top bot n at' : Int) (v1 v2 : Value) (w : World) (hn1 : cs.length ≤ 1048576) (hn2 : bs.length ≤ 1048576) (h1 : PRead w v1 cs) (h2 : PRead w v2 bs) :
    Calls Tryz.prog 228 #[.agg #[.int .i64 r, .int .i64 wd, v1, v2], .int .i64 top, .int .i64 bot, .int .i64 n, .int .i64 at'] w fun e w' => ∃ v5 v6, e = .returned (.agg #[.int .i64 (scrollRes r wd cs bs top bot n at').code, .int .i64 (scrollRes r wd cs bs top bot n at').rows, .int .i64 (scrollRes r wd cs bs top bot n at').wd, v5, v6]) ∧ GOwn w.heap.size w'.heap.size w' v5 v6 (scrollRes r wd cs bs top bot n at').cs (scrollRes r wd cs bs top bot n at').bs ∧ Below w.heap.size w w' := by
  have h1' := h1
  obtain ⟨a1, c1, rfl, hx1⟩ := h1'
  clear hx1
  have h2' := h2
  obtain ⟨a2, c2, rfl, hx2⟩ := h2'
  clear hx2
  have hb0 : Below w.heap.size w ((w.alloc (.cells #[.int .i64 r, .int .i64 wd, .slice a1 cs.length c1, .slice a2 bs.length c2] 35)).alloc (.cells #[.int .i64 0, .int .i64 0, .int .i64 0, .slice none 0 0, .slice none 0 0] 185)) := (by repeat' (first | with_reducible exact Below.refl _ _ | with_reducible assumption | with_reducible refine Below.drew ?_ | with_reducible refine Below.alloc ?_ ?_ _ | with_reducible refine Below.setCell ?_ ?_ _ | (simp; done) | (simp; omega) | omega))
  have HF := implGridFault_calls r wd cs bs _ _ ((w.alloc (.cells #[.int .i64 r, .int .i64 wd, .slice a1 cs.length c1, .slice a2 bs.length c2] 35)).alloc (.cells #[.int .i64 0, .int .i64 0, .int .i64 0, .slice none 0 0, .slice none 0 0] 185)) hn1 hn2 (h1.below hb0) (h2.below hb0)
  have hbd : gridCode r wd cs bs = 0 → 1 ≤ r ∧ r ≤ 6 ∧ 2 ≤ wd ∧ wd ≤ 12 := fun h => fine_bounds (gfine_of_code h)
  by_cases hG : gridCode r wd cs bs = 0
  · cases k0 : decide (0 ≤ top ∧ top ≤ bot) with
    | false =>
      obtain ⟨g1, g2, g3, g4⟩ := hbd hG
      rw [scrollRes_def, gres_bad hG (by unfold scrollOk; first | (rw [k0]; rfl) | (rw [k0, k1]; rfl) | (rw [k0, k1, k2]; rfl) | (rw [k0, k1, k2, k3]; rfl))]
      rw [hG] at HF
      simp only [gbad]
      go_enter Tryz.func228, Tryz.ntmps228
      go_wp2_with fail
      refine HF.mono ?_
      rintro e w1 ⟨rfl, hb1⟩
      have A0 : w1.cell? ⟨w.heap.size, 0, none⟩ = some (.int .i64 r) := cellb hb1 (by simp [go_sem])
      have A1 : w1.cell? ⟨w.heap.size, 1, none⟩ = some (.int .i64 wd) := cellb hb1 (by simp [go_sem])
      have A2 : w1.cell? ⟨w.heap.size, 2, none⟩ = some (.slice a1 cs.length c1) := cellb hb1 (by simp [go_sem])
      have A3 : w1.cell? ⟨w.heap.size, 3, none⟩ = some (.slice a2 bs.length c2) := cellb hb1 (by simp [go_sem])
      have R0 : w1.cell? ⟨w.heap.size + 1, 0, none⟩ = some (.int .i64 0) := cellb hb1 (by simp [go_sem])
      have Z0 : w1.frozen? ⟨w.heap.size + 1, 0, none⟩ = false := by rw [hb1.frozen (p := ⟨w.heap.size + 1, 0, none⟩) (by simp)]; simp [go_sem]
      have R1 : w1.cell? ⟨w.heap.size + 1, 1, none⟩ = some (.int .i64 0) := cellb hb1 (by simp [go_sem])
      have Z1 : w1.frozen? ⟨w.heap.size + 1, 1, none⟩ = false := by rw [hb1.frozen (p := ⟨w.heap.size + 1, 1, none⟩) (by simp)]; simp [go_sem]
      have R2 : w1.cell? ⟨w.heap.size + 1, 2, none⟩ = some (.int .i64 0) := cellb hb1 (by simp [go_sem])
      have Z2 : w1.frozen? ⟨w.heap.size + 1, 2, none⟩ = false := by rw [hb1.frozen (p := ⟨w.heap.size + 1, 2, none⟩) (by simp)]; simp [go_sem]
      have R3 : w1.cell? ⟨w.heap.size + 1, 3, none⟩ = some (.slice none 0 0) := cellb hb1 (by simp [go_sem])
      have Z3 : w1.frozen? ⟨w.heap.size + 1, 3, none⟩ = false := by rw [hb1.frozen (p := ⟨w.heap.size + 1, 3, none⟩) (by simp)]; simp [go_sem]
      have R4 : w1.cell? ⟨w.heap.size + 1, 4, none⟩ = some (.slice none 0 0) := cellb hb1 (by simp [go_sem])
      have Z4 : w1.frozen? ⟨w.heap.size + 1, 4, none⟩ = false := by rw [hb1.frozen (p := ⟨w.heap.size + 1, 4, none⟩) (by simp)]; simp [go_sem]
      have hs1 : w.heap.size + 2 ≤ w1.heap.size := by have := hb1.size; simp at this; omega
      have b1 : Below w.heap.size w w1 := hb0.trans (hb1.mono (by simp; omega))
      clear hb1 hb0 HF
      go_wp2_with (first
        | (go_at_call 105; refine (isFromTo_calls _ _ _ _).mono ?_; rintro e w' ⟨rfl, hw⟩; rw [hw]; clear hw w'; first | rw [k0] | rw [k1] | rw [k2])
        | (go_at_call 102; refine (isAttr_calls _ _).mono ?_; rintro e w' ⟨rfl, hw⟩; rw [hw]; clear hw w'; rw [k3]))
      have hr := res5 (w := w1) (r := w.heap.size + 1) (.int .i64 3) (.int .i64 0) (.int .i64 0) (.slice none 0 0) (.slice none 0 0) R0 R1 R2 R3 R4
      go_wp2
      refine bodyPost_ret (v := .agg #[.int .i64 3, .int .i64 0, .int .i64 0, .slice none 0 0, .slice none 0 0]) (by simp only [results, Tryz.results228]; simp [go_sem, hr.1, hr.2.1, hr.2.2.1, hr.2.2.2.1, hr.2.2.2.2]) rfl ⟨_, _, rfl, ?_, b1.trans (show Below w.heap.size w1 _ from (by repeat' (first | with_reducible exact Below.refl _ _ | with_reducible assumption | with_reducible refine Below.drew ?_ | with_reducible refine Below.alloc ?_ ?_ _ | with_reducible refine Below.setCell ?_ ?_ _ | (simp; done) | (simp; omega) | omega)))⟩
      exact GOwn.nil _ _ _ (by have := b1.size; simp [World.setCell]; omega)
    | true =>
      cases k1 : decide (0 ≤ bot ∧ bot ≤ r - 1) with
      | false =>
        obtain ⟨g1, g2, g3, g4⟩ := hbd hG
        rw [scrollRes_def, gres_bad hG (by unfold scrollOk; first | (rw [k0]; rfl) | (rw [k0, k1]; rfl) | (rw [k0, k1, k2]; rfl) | (rw [k0, k1, k2, k3]; rfl))]
        rw [hG] at HF
        simp only [gbad]
        go_enter Tryz.func228, Tryz.ntmps228
        go_wp2_with fail
        refine HF.mono ?_
        rintro e w1 ⟨rfl, hb1⟩
        have A0 : w1.cell? ⟨w.heap.size, 0, none⟩ = some (.int .i64 r) := cellb hb1 (by simp [go_sem])
        have A1 : w1.cell? ⟨w.heap.size, 1, none⟩ = some (.int .i64 wd) := cellb hb1 (by simp [go_sem])
        have A2 : w1.cell? ⟨w.heap.size, 2, none⟩ = some (.slice a1 cs.length c1) := cellb hb1 (by simp [go_sem])
        have A3 : w1.cell? ⟨w.heap.size, 3, none⟩ = some (.slice a2 bs.length c2) := cellb hb1 (by simp [go_sem])
        have R0 : w1.cell? ⟨w.heap.size + 1, 0, none⟩ = some (.int .i64 0) := cellb hb1 (by simp [go_sem])
        have Z0 : w1.frozen? ⟨w.heap.size + 1, 0, none⟩ = false := by rw [hb1.frozen (p := ⟨w.heap.size + 1, 0, none⟩) (by simp)]; simp [go_sem]
        have R1 : w1.cell? ⟨w.heap.size + 1, 1, none⟩ = some (.int .i64 0) := cellb hb1 (by simp [go_sem])
        have Z1 : w1.frozen? ⟨w.heap.size + 1, 1, none⟩ = false := by rw [hb1.frozen (p := ⟨w.heap.size + 1, 1, none⟩) (by simp)]; simp [go_sem]
        have R2 : w1.cell? ⟨w.heap.size + 1, 2, none⟩ = some (.int .i64 0) := cellb hb1 (by simp [go_sem])
        have Z2 : w1.frozen? ⟨w.heap.size + 1, 2, none⟩ = false := by rw [hb1.frozen (p := ⟨w.heap.size + 1, 2, none⟩) (by simp)]; simp [go_sem]
        have R3 : w1.cell? ⟨w.heap.size + 1, 3, none⟩ = some (.slice none 0 0) := cellb hb1 (by simp [go_sem])
        have Z3 : w1.frozen? ⟨w.heap.size + 1, 3, none⟩ = false := by rw [hb1.frozen (p := ⟨w.heap.size + 1, 3, none⟩) (by simp)]; simp [go_sem]
        have R4 : w1.cell? ⟨w.heap.size + 1, 4, none⟩ = some (.slice none 0 0) := cellb hb1 (by simp [go_sem])
        have Z4 : w1.frozen? ⟨w.heap.size + 1, 4, none⟩ = false := by rw [hb1.frozen (p := ⟨w.heap.size + 1, 4, none⟩) (by simp)]; simp [go_sem]
        have hs1 : w.heap.size + 2 ≤ w1.heap.size := by have := hb1.size; simp at this; omega
        have b1 : Below w.heap.size w w1 := hb0.trans (hb1.mono (by simp; omega))
        clear hb1 hb0 HF
        go_wp2_with (first
          | (go_at_call 105; refine (isFromTo_calls _ _ _ _).mono ?_; rintro e w' ⟨rfl, hw⟩; rw [hw]; clear hw w'; first | rw [k0] | rw [k1] | rw [k2])
          | (go_at_call 102; refine (isAttr_calls _ _).mono ?_; rintro e w' ⟨rfl, hw⟩; rw [hw]; clear hw w'; rw [k3]))
        have hr := res5 (w := w1) (r := w.heap.size + 1) (.int .i64 3) (.int .i64 0) (.int .i64 0) (.slice none 0 0) (.slice none 0 0) R0 R1 R2 R3 R4
        go_wp2
        refine bodyPost_ret (v := .agg #[.int .i64 3, .int .i64 0, .int .i64 0, .slice none 0 0, .slice none 0 0]) (by simp only [results, Tryz.results228]; simp [go_sem, hr.1, hr.2.1, hr.2.2.1, hr.2.2.2.1, hr.2.2.2.2]) rfl ⟨_, _, rfl, ?_, b1.trans (show Below w.heap.size w1 _ from (by repeat' (first | with_reducible exact Below.refl _ _ | with_reducible assumption | with_reducible refine Below.drew ?_ | with_reducible refine Below.alloc ?_ ?_ _ | with_reducible refine Below.setCell ?_ ?_ _ | (simp; done) | (simp; omega) | omega)))⟩
        exact GOwn.nil _ _ _ (by have := b1.size; simp [World.setCell]; omega)
      | true =>
        cases k2 : decide (-9 ≤ n ∧ n ≤ 9) with
        | false =>
          obtain ⟨g1, g2, g3, g4⟩ := hbd hG
          rw [scrollRes_def, gres_bad hG (by unfold scrollOk; first | (rw [k0]; rfl) | (rw [k0, k1]; rfl) | (rw [k0, k1, k2]; rfl) | (rw [k0, k1, k2, k3]; rfl))]
          rw [hG] at HF
          simp only [gbad]
          go_enter Tryz.func228, Tryz.ntmps228
          go_wp2_with fail
          refine HF.mono ?_
          rintro e w1 ⟨rfl, hb1⟩
          have A0 : w1.cell? ⟨w.heap.size, 0, none⟩ = some (.int .i64 r) := cellb hb1 (by simp [go_sem])
          have A1 : w1.cell? ⟨w.heap.size, 1, none⟩ = some (.int .i64 wd) := cellb hb1 (by simp [go_sem])
          have A2 : w1.cell? ⟨w.heap.size, 2, none⟩ = some (.slice a1 cs.length c1) := cellb hb1 (by simp [go_sem])
          have A3 : w1.cell? ⟨w.heap.size, 3, none⟩ = some (.slice a2 bs.length c2) := cellb hb1 (by simp [go_sem])
          have R0 : w1.cell? ⟨w.heap.size + 1, 0, none⟩ = some (.int .i64 0) := cellb hb1 (by simp [go_sem])
          have Z0 : w1.frozen? ⟨w.heap.size + 1, 0, none⟩ = false := by rw [hb1.frozen (p := ⟨w.heap.size + 1, 0, none⟩) (by simp)]; simp [go_sem]
          have R1 : w1.cell? ⟨w.heap.size + 1, 1, none⟩ = some (.int .i64 0) := cellb hb1 (by simp [go_sem])
          have Z1 : w1.frozen? ⟨w.heap.size + 1, 1, none⟩ = false := by rw [hb1.frozen (p := ⟨w.heap.size + 1, 1, none⟩) (by simp)]; simp [go_sem]
          have R2 : w1.cell? ⟨w.heap.size + 1, 2, none⟩ = some (.int .i64 0) := cellb hb1 (by simp [go_sem])
          have Z2 : w1.frozen? ⟨w.heap.size + 1, 2, none⟩ = false := by rw [hb1.frozen (p := ⟨w.heap.size + 1, 2, none⟩) (by simp)]; simp [go_sem]
          have R3 : w1.cell? ⟨w.heap.size + 1, 3, none⟩ = some (.slice none 0 0) := cellb hb1 (by simp [go_sem])
          have Z3 : w1.frozen? ⟨w.heap.size + 1, 3, none⟩ = false := by rw [hb1.frozen (p := ⟨w.heap.size + 1, 3, none⟩) (by simp)]; simp [go_sem]
          have R4 : w1.cell? ⟨w.heap.size + 1, 4, none⟩ = some (.slice none 0 0) := cellb hb1 (by simp [go_sem])
          have Z4 : w1.frozen? ⟨w.heap.size + 1, 4, none⟩ = false := by rw [hb1.frozen (p := ⟨w.heap.size + 1, 4, none⟩) (by simp)]; simp [go_sem]
          have hs1 : w.heap.size + 2 ≤ w1.heap.size := by have := hb1.size; simp at this; omega
          have b1 : Below w.heap.size w w1 := hb0.trans (hb1.mono (by simp; omega))
          clear hb1 hb0 HF
          go_wp2_with (first
            | (go_at_call 105; refine (isFromTo_calls _ _ _ _).mono ?_; rintro e w' ⟨rfl, hw⟩; rw [hw]; clear hw w'; first | rw [k0] | rw [k1] | rw [k2])
            | (go_at_call 102; refine (isAttr_calls _ _).mono ?_; rintro e w' ⟨rfl, hw⟩; rw [hw]; clear hw w'; rw [k3]))
          have hr := res5 (w := w1) (r := w.heap.size + 1) (.int .i64 3) (.int .i64 0) (.int .i64 0) (.slice none 0 0) (.slice none 0 0) R0 R1 R2 R3 R4
          go_wp2
          refine bodyPost_ret (v := .agg #[.int .i64 3, .int .i64 0, .int .i64 0, .slice none 0 0, .slice none 0 0]) (by simp only [results, Tryz.results228]; simp [go_sem, hr.1, hr.2.1, hr.2.2.1, hr.2.2.2.1, hr.2.2.2.2]) rfl ⟨_, _, rfl, ?_, b1.trans (show Below w.heap.size w1 _ from (by repeat' (first | with_reducible exact Below.refl _ _ | with_reducible assumption | with_reducible refine Below.drew ?_ | with_reducible refine Below.alloc ?_ ?_ _ | with_reducible refine Below.setCell ?_ ?_ _ | (simp; done) | (simp; omega) | omega)))⟩
          exact GOwn.nil _ _ _ (by have := b1.size; simp [World.setCell]; omega)
        | true =>
          cases k3 : atB at' with
          | false =>
            obtain ⟨g1, g2, g3, g4⟩ := hbd hG
            rw [scrollRes_def, gres_bad hG (by unfold scrollOk; first | (rw [k0]; rfl) | (rw [k0, k1]; rfl) | (rw [k0, k1, k2]; rfl) | (rw [k0, k1, k2, k3]; rfl))]
            rw [hG] at HF
            simp only [gbad]
            go_enter Tryz.func228, Tryz.ntmps228
            go_wp2_with fail
            refine HF.mono ?_
            rintro e w1 ⟨rfl, hb1⟩
            have A0 : w1.cell? ⟨w.heap.size, 0, none⟩ = some (.int .i64 r) := cellb hb1 (by simp [go_sem])
            have A1 : w1.cell? ⟨w.heap.size, 1, none⟩ = some (.int .i64 wd) := cellb hb1 (by simp [go_sem])
            have A2 : w1.cell? ⟨w.heap.size, 2, none⟩ = some (.slice a1 cs.length c1) := cellb hb1 (by simp [go_sem])
            have A3 : w1.cell? ⟨w.heap.size, 3, none⟩ = some (.slice a2 bs.length c2) := cellb hb1 (by simp [go_sem])
            have R0 : w1.cell? ⟨w.heap.size + 1, 0, none⟩ = some (.int .i64 0) := cellb hb1 (by simp [go_sem])
            have Z0 : w1.frozen? ⟨w.heap.size + 1, 0, none⟩ = false := by rw [hb1.frozen (p := ⟨w.heap.size + 1, 0, none⟩) (by simp)]; simp [go_sem]
            have R1 : w1.cell? ⟨w.heap.size + 1, 1, none⟩ = some (.int .i64 0) := cellb hb1 (by simp [go_sem])
            have Z1 : w1.frozen? ⟨w.heap.size + 1, 1, none⟩ = false := by rw [hb1.frozen (p := ⟨w.heap.size + 1, 1, none⟩) (by simp)]; simp [go_sem]
            have R2 : w1.cell? ⟨w.heap.size + 1, 2, none⟩ = some (.int .i64 0) := cellb hb1 (by simp [go_sem])
            have Z2 : w1.frozen? ⟨w.heap.size + 1, 2, none⟩ = false := by rw [hb1.frozen (p := ⟨w.heap.size + 1, 2, none⟩) (by simp)]; simp [go_sem]
            have R3 : w1.cell? ⟨w.heap.size + 1, 3, none⟩ = some (.slice none 0 0) := cellb hb1 (by simp [go_sem])
            have Z3 : w1.frozen? ⟨w.heap.size + 1, 3, none⟩ = false := by rw [hb1.frozen (p := ⟨w.heap.size + 1, 3, none⟩) (by simp)]; simp [go_sem]
            have R4 : w1.cell? ⟨w.heap.size + 1, 4, none⟩ = some (.slice none 0 0) := cellb hb1 (by simp [go_sem])
            have Z4 : w1.frozen? ⟨w.heap.size + 1, 4, none⟩ = false := by rw [hb1.frozen (p := ⟨w.heap.size + 1, 4, none⟩) (by simp)]; simp [go_sem]
            have hs1 : w.heap.size + 2 ≤ w1.heap.size := by have := hb1.size; simp at this; omega
            have b1 : Below w.heap.size w w1 := hb0.trans (hb1.mono (by simp; omega))
            clear hb1 hb0 HF
            go_wp2_with (first
              | (go_at_call 105; refine (isFromTo_calls _ _ _ _).mono ?_; rintro e w' ⟨rfl, hw⟩; rw [hw]; clear hw w'; first | rw [k0] | rw [k1] | rw [k2])
              | (go_at_call 102; refine (isAttr_calls _ _).mono ?_; rintro e w' ⟨rfl, hw⟩; rw [hw]; clear hw w'; rw [k3]))
            have hr := res5 (w := w1) (r := w.heap.size + 1) (.int .i64 3) (.int .i64 0) (.int .i64 0) (.slice none 0 0) (.slice none 0 0) R0 R1 R2 R3 R4
            go_wp2
            refine bodyPost_ret (v := .agg #[.int .i64 3, .int .i64 0, .int .i64 0, .slice none 0 0, .slice none 0 0]) (by simp only [results, Tryz.results228]; simp [go_sem, hr.1, hr.2.1, hr.2.2.1, hr.2.2.2.1, hr.2.2.2.2]) rfl ⟨_, _, rfl, ?_, b1.trans (show Below w.heap.size w1 _ from (by repeat' (first | with_reducible exact Below.refl _ _ | with_reducible assumption | with_reducible refine Below.drew ?_ | with_reducible refine Below.alloc ?_ ?_ _ | with_reducible refine Below.setCell ?_ ?_ _ | (simp; done) | (simp; omega) | omega)))⟩
            exact GOwn.nil _ _ _ (by have := b1.size; simp [World.setCell]; omega)
          | true =>
            obtain ⟨g1, g2, g3, g4⟩ := hbd hG
            rw [scrollRes_def, gres_ok hG (by unfold scrollOk; rw [k0, k1, k2, k3]; rfl)]
            rw [hG] at HF
            have hfine := gfine_of_code hG
            obtain ⟨n1, n2, hq, n8, n9, n10⟩ := hfine.short
            obtain ⟨T, B, W, rfl, rfl, eW, q1, q2, q3, q4, q5, q6, Hb, q7, q8⟩ := scroll_nats hfine (of_decide_eq_true k0) (of_decide_eq_true k1)
            clear hfine hG hbd
            have j2 := of_decide_eq_true k2
            have eW' : wd.toNat = W := by omega
            rw [eW', Int.toNat_natCast, show ((B : Int) + 1 - (T : Int)).toNat = B + 1 - T by omega]
            obtain ⟨lv, hlv⟩ : ∃ lv : Nat, max 0 (min n ((B : Int) + 1)) = (lv : Int) := ⟨(max 0 (min n ((B : Int) + 1))).toNat, by omega⟩
            rw [show (max 0 (min n ((B : Int) + 1))).toNat = lv by omega]
            have EW := hide eW
            have Q8 := hide q8
            clear eW eW' q8
            go_enter Tryz.func228, Tryz.ntmps228
            go_wp2_with fail
            refine HF.mono ?_
            rintro e w1 ⟨rfl, hb1⟩
            have A0 : w1.cell? ⟨w.heap.size, 0, none⟩ = some (.int .i64 r) := cellb hb1 (by simp [go_sem])
            have A1 : w1.cell? ⟨w.heap.size, 1, none⟩ = some (.int .i64 wd) := cellb hb1 (by simp [go_sem])
            have A2 : w1.cell? ⟨w.heap.size, 2, none⟩ = some (.slice a1 cs.length c1) := cellb hb1 (by simp [go_sem])
            have A3 : w1.cell? ⟨w.heap.size, 3, none⟩ = some (.slice a2 bs.length c2) := cellb hb1 (by simp [go_sem])
            have R0 : w1.cell? ⟨w.heap.size + 1, 0, none⟩ = some (.int .i64 0) := cellb hb1 (by simp [go_sem])
            have Z0 : w1.frozen? ⟨w.heap.size + 1, 0, none⟩ = false := by rw [hb1.frozen (p := ⟨w.heap.size + 1, 0, none⟩) (by simp)]; simp [go_sem]
            have R1 : w1.cell? ⟨w.heap.size + 1, 1, none⟩ = some (.int .i64 0) := cellb hb1 (by simp [go_sem])
            have Z1 : w1.frozen? ⟨w.heap.size + 1, 1, none⟩ = false := by rw [hb1.frozen (p := ⟨w.heap.size + 1, 1, none⟩) (by simp)]; simp [go_sem]
            have R2 : w1.cell? ⟨w.heap.size + 1, 2, none⟩ = some (.int .i64 0) := cellb hb1 (by simp [go_sem])
            have Z2 : w1.frozen? ⟨w.heap.size + 1, 2, none⟩ = false := by rw [hb1.frozen (p := ⟨w.heap.size + 1, 2, none⟩) (by simp)]; simp [go_sem]
            have R3 : w1.cell? ⟨w.heap.size + 1, 3, none⟩ = some (.slice none 0 0) := cellb hb1 (by simp [go_sem])
            have Z3 : w1.frozen? ⟨w.heap.size + 1, 3, none⟩ = false := by rw [hb1.frozen (p := ⟨w.heap.size + 1, 3, none⟩) (by simp)]; simp [go_sem]
            have R4 : w1.cell? ⟨w.heap.size + 1, 4, none⟩ = some (.slice none 0 0) := cellb hb1 (by simp [go_sem])
            have Z4 : w1.frozen? ⟨w.heap.size + 1, 4, none⟩ = false := by rw [hb1.frozen (p := ⟨w.heap.size + 1, 4, none⟩) (by simp)]; simp [go_sem]
            have hs1 : w.heap.size + 2 ≤ w1.heap.size := by have := hb1.size; simp at this; omega
            have b1 : Below w.heap.size w w1 := hb0.trans (hb1.mono (by simp; omega))
            clear hb1 hb0 HF
            go_wp2_with (first
              | (go_at_call 105; refine (isFromTo_calls _ _ _ _).mono ?_; rintro e w' ⟨rfl, hw⟩; rw [hw]; clear hw w'; first | rw [k0] | rw [k1] | rw [k2])
              | (go_at_call 102; refine (isAttr_calls _ _).mono ?_; rintro e w' ⟨rfl, hw⟩; rw [hw]; clear hw w'; rw [k3]))
            refine (sheetsOf_calls r wd cs bs _ _ w1 hn1 hn2 (h1.below b1) (h2.below b1)).mono ?_
            rintro e w2 ⟨x, y, m, rfl, m1, m2, ox, xm, oy, hb2⟩
            replace A0 := cellb hb2 A0
            replace A1 := cellb hb2 A1
            replace A2 := cellb hb2 A2
            replace A3 := cellb hb2 A3
            replace R0 := cellb hb2 R0
            replace R1 := cellb hb2 R1
            replace R2 := cellb hb2 R2
            replace R3 := cellb hb2 R3
            replace R4 := cellb hb2 R4
            replace Z0 : w2.frozen? ⟨w.heap.size + 1, 0, none⟩ = false := by rw [hb2.frozen (p := ⟨w.heap.size + 1, 0, none⟩) (by simp; omega)]; exact Z0
            replace Z1 : w2.frozen? ⟨w.heap.size + 1, 1, none⟩ = false := by rw [hb2.frozen (p := ⟨w.heap.size + 1, 1, none⟩) (by simp; omega)]; exact Z1
            replace Z2 : w2.frozen? ⟨w.heap.size + 1, 2, none⟩ = false := by rw [hb2.frozen (p := ⟨w.heap.size + 1, 2, none⟩) (by simp; omega)]; exact Z2
            replace Z3 : w2.frozen? ⟨w.heap.size + 1, 3, none⟩ = false := by rw [hb2.frozen (p := ⟨w.heap.size + 1, 3, none⟩) (by simp; omega)]; exact Z3
            replace Z4 : w2.frozen? ⟨w.heap.size + 1, 4, none⟩ = false := by rw [hb2.frozen (p := ⟨w.heap.size + 1, 4, none⟩) (by simp; omega)]; exact Z4
            have b2 := b1.trans (hb2.mono b1.size)
            have hs2 : w1.heap.size ≤ w2.heap.size := hb2.size
            obtain ⟨bx, cx, rfl, hcx, _, x1, x2, hrow⟩ := own_row ox n8
            obtain ⟨ay, cy, rfl, hyc⟩ := own_room2 oy
            have x3 : bx < m := xm bx rfl
            have HX := hide hrow
            have HY := hide oy
            have HL := hide oy.lt
            clear hrow oy ox xm hb2
            by_cases hT : T = 0
            · subst hT
              obtain ⟨mn, hmn⟩ : ∃ mn, (if (B : Int) + 1 < n then (B : Int) + 1 else n) = mn := ⟨_, rfl⟩
              have hmx : (if 0 < mn then mn else 0) = (lv : Int) := by rw [← hmn]; split <;> split <;> omega
              have hlb : lv ≤ B + 1 := by omega
              clear hlv
              go_wp2_with fail
              have hb3 : Below w2.heap.size w2 ((w2.alloc (.cells #[.int .i64 wd, .slice (some ⟨bx, 0, none⟩) cs.length cx] 217)).alloc (.cells #[.int .i64 wd, .slice ay bs.length cy] 217)) := (by repeat' (first | with_reducible exact Below.refl _ _ | with_reducible assumption | with_reducible refine Below.drew ?_ | with_reducible refine Below.alloc ?_ ?_ _ | with_reducible refine Below.setCell ?_ ?_ _ | (simp; done) | (simp; omega) | omega))
              have S0 : ((w2.alloc (.cells #[.int .i64 wd, .slice (some ⟨bx, 0, none⟩) cs.length cx] 217)).alloc (.cells #[.int .i64 wd, .slice ay bs.length cy] 217)).cell? ⟨w2.heap.size, 0, none⟩ = some (.int .i64 wd) := by simp [go_sem]
              have S1 : ((w2.alloc (.cells #[.int .i64 wd, .slice (some ⟨bx, 0, none⟩) cs.length cx] 217)).alloc (.cells #[.int .i64 wd, .slice ay bs.length cy] 217)).cell? ⟨w2.heap.size, 1, none⟩ = some (.slice (some ⟨bx, 0, none⟩) cs.length cx) := by simp [go_sem]
              have U0 : ((w2.alloc (.cells #[.int .i64 wd, .slice (some ⟨bx, 0, none⟩) cs.length cx] 217)).alloc (.cells #[.int .i64 wd, .slice ay bs.length cy] 217)).cell? ⟨w2.heap.size + 1, 0, none⟩ = some (.int .i64 wd) := by simp [go_sem]
              have U1 : ((w2.alloc (.cells #[.int .i64 wd, .slice (some ⟨bx, 0, none⟩) cs.length cx] 217)).alloc (.cells #[.int .i64 wd, .slice ay bs.length cy] 217)).cell? ⟨w2.heap.size + 1, 1, none⟩ = some (.slice ay bs.length cy) := by simp [go_sem]
              have ZU0 : ((w2.alloc (.cells #[.int .i64 wd, .slice (some ⟨bx, 0, none⟩) cs.length cx] 217)).alloc (.cells #[.int .i64 wd, .slice ay bs.length cy] 217)).frozen? ⟨w2.heap.size + 1, 0, none⟩ = false := by simp [go_sem]
              have ZU1 : ((w2.alloc (.cells #[.int .i64 wd, .slice (some ⟨bx, 0, none⟩) cs.length cx] 217)).alloc (.cells #[.int .i64 wd, .slice ay bs.length cy] 217)).frozen? ⟨w2.heap.size + 1, 1, none⟩ = false := by simp [go_sem]
              have hs3 : ((w2.alloc (.cells #[.int .i64 wd, .slice (some ⟨bx, 0, none⟩) cs.length cx] 217)).alloc (.cells #[.int .i64 wd, .slice ay bs.length cy] 217)).heap.size = w2.heap.size + 2 := by simp
              generalize ((w2.alloc (.cells #[.int .i64 wd, .slice (some ⟨bx, 0, none⟩) cs.length cx] 217)).alloc (.cells #[.int .i64 wd, .slice ay bs.length cy] 217)) = w3 at *
              replace A0 := cellb hb3 A0
              replace A1 := cellb hb3 A1
              replace A2 := cellb hb3 A2
              replace A3 := cellb hb3 A3
              replace R0 := cellb hb3 R0
              replace R1 := cellb hb3 R1
              replace R2 := cellb hb3 R2
              replace R3 := cellb hb3 R3
              replace R4 := cellb hb3 R4
              replace Z0 : w3.frozen? ⟨w.heap.size + 1, 0, none⟩ = false := by rw [hb3.frozen (p := ⟨w.heap.size + 1, 0, none⟩) (by simp; omega)]; exact Z0
              replace Z1 : w3.frozen? ⟨w.heap.size + 1, 1, none⟩ = false := by rw [hb3.frozen (p := ⟨w.heap.size + 1, 1, none⟩) (by simp; omega)]; exact Z1
              replace Z2 : w3.frozen? ⟨w.heap.size + 1, 2, none⟩ = false := by rw [hb3.frozen (p := ⟨w.heap.size + 1, 2, none⟩) (by simp; omega)]; exact Z2
              replace Z3 : w3.frozen? ⟨w.heap.size + 1, 3, none⟩ = false := by rw [hb3.frozen (p := ⟨w.heap.size + 1, 3, none⟩) (by simp; omega)]; exact Z3
              replace Z4 : w3.frozen? ⟨w.heap.size + 1, 4, none⟩ = false := by rw [hb3.frozen (p := ⟨w.heap.size + 1, 4, none⟩) (by simp; omega)]; exact Z4
              have b3 := b2.trans (hb3.mono b2.size)
              replace HX := hide (HX.out.below hb3 x2)
              replace HY := hide (own_below HY.out hb3)
              clear hb3 b2
              clear hmn hmx
              obtain ⟨q, hqe⟩ : ∃ q, q = lv * W := ⟨_, rfl⟩
              have hq1 : q ≤ (B + 1) * W := by rw [hqe]; exact Nat.mul_le_mul_right W hlb
              have HQ := hide hqe
              clear hqe
              refine till_region [6] (S := (fun w' => w'.cell? ⟨w2.heap.size, 0, none⟩ = some (.int .i64 wd) ∧ w'.cell? ⟨w2.heap.size, 1, none⟩ = some (.slice (some ⟨bx, 0, none⟩) cs.length cx) ∧ w'.cell? ⟨w2.heap.size + 1, 0, none⟩ = some (.int .i64 wd) ∧ w'.cell? ⟨w2.heap.size + 1, 1, none⟩ = some (.slice ay bs.length cy))) (by kernel_rfl) ?_ (fun hHeld => ?_)
              · (try dsimp only); exact ⟨S0, S1, U0, U1⟩
              refine till_take (i := 0) (oi := ⟨_, _, _, _, _, _⟩) (v := ?_) rfl (by kernel_rfl) (by kernel_rfl) (by kernel_rfl) (by kernel_rfl) (fun _ _ _ h => h) (Or.inl ⟨by rfl, ?_⟩) hHeld ?_
              rotate_left
              · (intro w hSw; (try dsimp only at hSw); go_simp; try (with_reducible rfl))
              try simp only [Act.put, List.setIfInBounds_toArray, List.set_cons_zero, List.set_cons_succ]
              refine till_take (i := 1) (oi := ⟨_, _, _, _, _, _⟩) (v := ?_) rfl (by kernel_rfl) (by kernel_rfl) (by kernel_rfl) (by kernel_rfl) (fun _ _ _ h => h) (Or.inl ⟨by rfl, ?_⟩) hHeld ?_
              rotate_left
              · (intro w hSw; (try dsimp only at hSw); go_simp; try (with_reducible rfl))
              try simp only [Act.put, List.setIfInBounds_toArray, List.set_cons_zero, List.set_cons_succ]
              refine till_take (i := 2) (oi := ⟨_, _, _, _, _, _⟩) (v := ?_) rfl (by kernel_rfl) (by kernel_rfl) (by kernel_rfl) (by kernel_rfl) (fun _ _ _ h => h) (Or.inl ⟨by rfl, ?_⟩) hHeld ?_
              rotate_left
              · (intro w hSw; (try dsimp only at hSw); go_simp; try (with_reducible rfl))
              try simp only [Act.put, List.setIfInBounds_toArray, List.set_cons_zero, List.set_cons_succ]
              refine till_ready (rs := [3]) (by kernel_rfl) (by simp) ?_
              refine EachTill.cons (o := ⟨_, _, _, _, _, _⟩) rfl (fun K hK => ?_) EachTill.nil
              go_simp
              go_at_call 230
              refine (part_calls wd 0 (lv : Int) bx 0 cs.length cx 0 q _ ⟨hcx, _, rfl, fun _ => rfl⟩ (by simp) (by rw [EW.out, HQ.out, Int.natCast_mul]) (by omega) (by omega) hn1 _).mono ?_
              rintro e w4 ⟨vp, rfl, hslp, hb4⟩
              simp only [Nat.zero_mul, Nat.add_zero, Nat.sub_zero] at hslp
              obtain ⟨hcp, ap, rfl, hap⟩ := hslp
              have HAP := hide hap
              clear hap
              replace hb4 : Below w3.heap.size w3 w4 := (below_drewN (Below.refl _ _) 1).trans hb4
              have hs4 : w3.heap.size ≤ w4.heap.size := hb4.size
              replace A0 := cellb hb4 A0
              replace A1 := cellb hb4 A1
              replace A2 := cellb hb4 A2
              replace A3 := cellb hb4 A3
              replace R0 := cellb hb4 R0
              replace R1 := cellb hb4 R1
              replace R2 := cellb hb4 R2
              replace R3 := cellb hb4 R3
              replace R4 := cellb hb4 R4
              replace S0 := cellb hb4 S0
              replace S1 := cellb hb4 S1
              replace U0 := cellb hb4 U0
              replace U1 := cellb hb4 U1
              replace Z0 : w4.frozen? ⟨w.heap.size + 1, 0, none⟩ = false := by rw [hb4.frozen (p := ⟨w.heap.size + 1, 0, none⟩) (by simp; omega)]; exact Z0
              replace Z1 : w4.frozen? ⟨w.heap.size + 1, 1, none⟩ = false := by rw [hb4.frozen (p := ⟨w.heap.size + 1, 1, none⟩) (by simp; omega)]; exact Z1
              replace Z2 : w4.frozen? ⟨w.heap.size + 1, 2, none⟩ = false := by rw [hb4.frozen (p := ⟨w.heap.size + 1, 2, none⟩) (by simp; omega)]; exact Z2
              replace Z3 : w4.frozen? ⟨w.heap.size + 1, 3, none⟩ = false := by rw [hb4.frozen (p := ⟨w.heap.size + 1, 3, none⟩) (by simp; omega)]; exact Z3
              replace Z4 : w4.frozen? ⟨w.heap.size + 1, 4, none⟩ = false := by rw [hb4.frozen (p := ⟨w.heap.size + 1, 4, none⟩) (by simp; omega)]; exact Z4
              have b4 := b3.trans (hb4.mono b3.size)
              replace HX := hide (HX.out.below hb4 (by omega))
              replace ZU0 : w4.frozen? ⟨w2.heap.size + 1, 0, none⟩ = false := by rw [hb4.frozen (p := ⟨w2.heap.size + 1, 0, none⟩) (by simp; omega)]; exact ZU0
              replace ZU1 : w4.frozen? ⟨w2.heap.size + 1, 1, none⟩ = false := by rw [hb4.frozen (p := ⟨w2.heap.size + 1, 1, none⟩) (by simp; omega)]; exact ZU1
              replace HY := hide (own_below HY.out hb4)
              clear b3 hb4
              try go_wp2_with fail
              refine hK.out _ _ ?_ ?_
              · (try dsimp only); exact ⟨S0, S1, U0, U1⟩
              clear hHeld hK K
              intro hHeld
              try simp only [Act.put, List.setIfInBounds_toArray, List.set_cons_zero, List.set_cons_succ]
              refine till_ready (rs := [4]) (by kernel_rfl) (by simp) ?_
              refine EachTill.cons (o := ⟨_, _, _, _, _, _⟩) rfl (fun K hK => ?_) EachTill.nil
              go_simp
              go_at_call 239
              refine (followedBy_calls wd m bs.length W lv q cx bx 0 ap _ bs (fun i => cs.getD i (0, 0)) w4 HY.out (by omega) (fun i hi => (HX.out i (by omega)).1) (fun e => by have := (HL.out bx e.symm).1; omega) HQ.out EW.out (by omega) (by omega) (by omega) hcp HAP.out (by omega) (by omega)).mono ?_
              rintro e w5 ⟨vf, rfl, of, gf⟩
              have hs5 : w4.heap.size ≤ w5.heap.size := gf.grown.size
              replace A0 := gf.cellAt A0 (fun e => by have := HL.out _ e.symm; omega)
              replace A1 := gf.cellAt A1 (fun e => by have := HL.out _ e.symm; omega)
              replace A2 := gf.cellAt A2 (fun e => by have := HL.out _ e.symm; omega)
              replace A3 := gf.cellAt A3 (fun e => by have := HL.out _ e.symm; omega)
              replace R0 := gf.cellAt R0 (fun e => by have := HL.out _ e.symm; omega)
              replace R1 := gf.cellAt R1 (fun e => by have := HL.out _ e.symm; omega)
              replace R2 := gf.cellAt R2 (fun e => by have := HL.out _ e.symm; omega)
              replace R3 := gf.cellAt R3 (fun e => by have := HL.out _ e.symm; omega)
              replace R4 := gf.cellAt R4 (fun e => by have := HL.out _ e.symm; omega)
              replace S0 := gf.cellAt S0 (fun e => by have := HL.out _ e.symm; omega)
              replace S1 := gf.cellAt S1 (fun e => by have := HL.out _ e.symm; omega)
              replace U0 := gf.cellAt U0 (fun e => by have := HL.out _ e.symm; omega)
              replace U1 := gf.cellAt U1 (fun e => by have := HL.out _ e.symm; omega)
              replace Z0 : w5.frozen? ⟨w.heap.size + 1, 0, none⟩ = false := (gf.frozen (by omega) (fun e => by have := HL.out _ e.symm; omega)).trans Z0
              replace Z1 : w5.frozen? ⟨w.heap.size + 1, 1, none⟩ = false := (gf.frozen (by omega) (fun e => by have := HL.out _ e.symm; omega)).trans Z1
              replace Z2 : w5.frozen? ⟨w.heap.size + 1, 2, none⟩ = false := (gf.frozen (by omega) (fun e => by have := HL.out _ e.symm; omega)).trans Z2
              replace Z3 : w5.frozen? ⟨w.heap.size + 1, 3, none⟩ = false := (gf.frozen (by omega) (fun e => by have := HL.out _ e.symm; omega)).trans Z3
              replace Z4 : w5.frozen? ⟨w.heap.size + 1, 4, none⟩ = false := (gf.frozen (by omega) (fun e => by have := HL.out _ e.symm; omega)).trans Z4
              replace ZU0 : w5.frozen? ⟨w2.heap.size + 1, 0, none⟩ = false := (gf.frozen (by omega) (fun e => by have := HL.out _ e.symm; omega)).trans ZU0
              replace ZU1 : w5.frozen? ⟨w2.heap.size + 1, 1, none⟩ = false := (gf.frozen (by omega) (fun e => by have := HL.out _ e.symm; omega)).trans ZU1
              have b5 := b4.trans (gf.below (base := w.heap.size) (by omega) (fun k hk => by have := HL.out k hk; omega))
              replace HX := hide (HX.out.block (gf.block (by omega) (fun e => by have := HL.out _ e.symm; omega)))
              have hsf := gf.spot
              clear b4 gf HY HAP
              obtain ⟨bb, af, cf, rfl, hslf, m3, bbs, hob, hpf, hlf⟩ := own_spotG of (by omega)
              have BBN : bb ≠ w2.heap.size + 1 := by
                rcases hob with h | h
                · rcases hsf with e | ⟨k, e, hk⟩
                  · have := HL.out bb (by rw [← e]; exact h)
                    omega
                  · rw [h] at e
                    injection e with e
                    omega
                · omega
              clear hob hsf
              have HP := hide hpf
              have HSL := hide hslf
              have HLF := hide hlf
              clear hpf hslf hlf of
              try go_wp2_with fail
              refine hK.out _ _ ?_ ?_
              · (try dsimp only); exact ⟨S0, S1, U0, U1⟩
              clear hHeld hK K
              intro hHeld
              try simp only [Act.put, List.setIfInBounds_toArray, List.set_cons_zero, List.set_cons_succ]
              refine till_ready (rs := [5]) (by kernel_rfl) (by simp) ?_
              refine EachTill.cons (o := ⟨_, _, _, _, _, _⟩) rfl (fun K hK => ?_) EachTill.nil
              go_simp
              go_at_call 240
              refine (last_calls wd bb 0 (bs.length + q) cf (Hb + lv) W _ HSL.out (by rw [Q8.out, HQ.out, Nat.add_mul]) EW.out (by omega) (by omega) (by omega) (by omega) _).mono ?_
              rintro e w6 ⟨vl, rfl, hsll, hb6⟩
              replace HP := hide (pairs_drop HP.out HSL.out hsll HLF.out (by rw [Q8.out, HQ.out, ← Nat.add_mul]; exact Nat.mul_le_mul_right W (by omega)))
              obtain ⟨_, al, rfl, _⟩ := hsll
              obtain ⟨nl, hnl⟩ : ∃ nl, nl = bs.length + q - (Hb + lv - 5) * W := ⟨_, rfl⟩
              obtain ⟨cl, hcl⟩ : ∃ cl, cl = cf - (Hb + lv - 5) * W := ⟨_, rfl⟩
              rw [← hnl, ← hcl] at HP
              rw [← hnl, ← hcl]
              clear hnl hcl
              have hs6 : w5.heap.size ≤ w6.heap.size := hb6.size
              replace A0 := cellb hb6 A0
              replace A1 := cellb hb6 A1
              replace A2 := cellb hb6 A2
              replace A3 := cellb hb6 A3
              replace R0 := cellb hb6 R0
              replace R1 := cellb hb6 R1
              replace R2 := cellb hb6 R2
              replace R3 := cellb hb6 R3
              replace R4 := cellb hb6 R4
              replace S0 := cellb hb6 S0
              replace S1 := cellb hb6 S1
              replace U0 := cellb hb6 U0
              replace U1 := cellb hb6 U1
              replace Z0 : w6.frozen? ⟨w.heap.size + 1, 0, none⟩ = false := by rw [hb6.frozen (p := ⟨w.heap.size + 1, 0, none⟩) (by simp; omega)]; exact Z0
              replace Z1 : w6.frozen? ⟨w.heap.size + 1, 1, none⟩ = false := by rw [hb6.frozen (p := ⟨w.heap.size + 1, 1, none⟩) (by simp; omega)]; exact Z1
              replace Z2 : w6.frozen? ⟨w.heap.size + 1, 2, none⟩ = false := by rw [hb6.frozen (p := ⟨w.heap.size + 1, 2, none⟩) (by simp; omega)]; exact Z2
              replace Z3 : w6.frozen? ⟨w.heap.size + 1, 3, none⟩ = false := by rw [hb6.frozen (p := ⟨w.heap.size + 1, 3, none⟩) (by simp; omega)]; exact Z3
              replace Z4 : w6.frozen? ⟨w.heap.size + 1, 4, none⟩ = false := by rw [hb6.frozen (p := ⟨w.heap.size + 1, 4, none⟩) (by simp; omega)]; exact Z4
              have b6 := b5.trans (hb6.mono b5.size)
              replace HX := hide (HX.out.below hb6 (by omega))
              replace ZU0 : w6.frozen? ⟨w2.heap.size + 1, 0, none⟩ = false := by rw [hb6.frozen (p := ⟨w2.heap.size + 1, 0, none⟩) (by simp; omega)]; exact ZU0
              replace ZU1 : w6.frozen? ⟨w2.heap.size + 1, 1, none⟩ = false := by rw [hb6.frozen (p := ⟨w2.heap.size + 1, 1, none⟩) (by simp; omega)]; exact ZU1
              replace HP := hide (HP.out.below hb6 (by omega))
              clear b5 hb6
              try go_wp2_with fail
              refine hK.out _ _ ?_ ?_
              · (try dsimp only); exact ⟨S0, S1, U0, U1⟩
              clear hHeld hK K
              intro hHeld
              try simp only [Act.put, List.setIfInBounds_toArray, List.set_cons_zero, List.set_cons_succ]
              refine till_ready (rs := [6]) (by kernel_rfl) (by simp) ?_
              refine EachTill.last (o := ⟨_, _, _, _, _, _⟩) rfl rfl (fun K hK => ?_) EachTill.nil
              go_simp
              have ht7 : Touch (w2.heap.size + 1) 0 2 w6 ((w6.setCell ⟨w2.heap.size + 1, 0, none⟩ (.int .i64 wd)).setCell ⟨w2.heap.size + 1, 1, none⟩ (.slice al nl cl)) := ((Touch.refl _ _ _ _).setCell (by omega) (by omega) _).setCell (by omega) (by omega) _
              obtain ⟨V0, V1⟩ := res2 (w := w6) (r := w2.heap.size + 1) (.int .i64 wd) (.slice al nl cl) U0 U1
              generalize ((w6.setCell ⟨w2.heap.size + 1, 0, none⟩ (.int .i64 wd)).setCell ⟨w2.heap.size + 1, 1, none⟩ (.slice al nl cl)) = w7 at *
              clear U0 U1
              replace A0 := ht7.cellAt A0 (by omega)
              replace A1 := ht7.cellAt A1 (by omega)
              replace A2 := ht7.cellAt A2 (by omega)
              replace A3 := ht7.cellAt A3 (by omega)
              replace R0 := ht7.cellAt R0 (by omega)
              replace R1 := ht7.cellAt R1 (by omega)
              replace R2 := ht7.cellAt R2 (by omega)
              replace R3 := ht7.cellAt R3 (by omega)
              replace R4 := ht7.cellAt R4 (by omega)
              replace S0 := ht7.cellAt S0 (by omega)
              replace S1 := ht7.cellAt S1 (by omega)
              replace Z0 := ht7.frozenAt (by omega) Z0
              replace Z1 := ht7.frozenAt (by omega) Z1
              replace Z2 := ht7.frozenAt (by omega) Z2
              replace Z3 := ht7.frozenAt (by omega) Z3
              replace Z4 := ht7.frozenAt (by omega) Z4
              have U0 := V0
              have U1 := V1
              clear V0 V1
              have b7 : Below w.heap.size w w7 := b6.trans (ht7.below (by omega) (by omega))
              have hs7 : w6.heap.size ≤ w7.heap.size := ht7.size
              replace HX := hide (HX.out.touch ht7 (by omega))
              replace HP := hide (HP.out.of_blocks fun i h1 h2 => ht7.block i (by omega) (by omega))
              clear b6 ht7 ZU0 ZU1
              refine hK.out _ _ ?_ ?_
              · (try dsimp only); skip
              clear hHeld hK K
              intro hHeld
              try simp only [Act.put, List.setIfInBounds_toArray, List.set_cons_zero, List.set_cons_succ]
              refine till_done (by kernel_rfl) ?_ _
              clear hHeld
              clear HSL HLF
              go_wp2_with fail
              obtain ⟨p, hpe⟩ : ∃ p, p = 0 * W := ⟨_, rfl⟩
              obtain ⟨u, hue⟩ : ∃ u, u = (B + 1) * W := ⟨_, rfl⟩
              have LPOS : 0 < u - p := by rw [hpe, hue]; exact rows_pos (by omega) (by omega)
              have HPE := hide hpe
              have HUE := hide hue
              have p5 : p ≤ u := by omega
              have p6 : u ≤ cs.length := by rw [hue]; exact q6
              clear hpe hue
              have z1 : IntKind.i64.wrap ((B : Int) + 1) = (B : Int) + 1 := wrap_small (by omega) (by omega)
              have z2 : IntKind.i64.wrap (n * wd) = n * wd := by obtain ⟨p1, p2⟩ := mul_small j2 q4; rw [EW.out]; exact wrap_small (by omega) (by omega)
              have fs := fld_sheet1
              refine wp_region_held_drew (S := (fun w' => w'.cell? ⟨w2.heap.size, 0, none⟩ = some (.int .i64 wd) ∧ w'.cell? ⟨w2.heap.size, 1, none⟩ = some (.slice (some ⟨bx, 0, none⟩) cs.length cx) ∧ w'.cell? ⟨w.heap.size, 1, none⟩ = some (.int .i64 wd))) (by kernel_rfl) ?_ (fun hHeld => ?_)
              · (try dsimp only); exact ⟨S0, S1, A1⟩
              refine wpAnyH_take (i := 0) (oi := ⟨_, _, _, _, _, _⟩) (v := ?_) rfl (by kernel_rfl) (by kernel_rfl) (by kernel_rfl) (fun _ _ _ h => h) (Or.inl ⟨by rfl, ?_⟩) hHeld ?_
              rotate_left
              · (intro w hSw; (try dsimp only at hSw); go_simp; try (with_reducible rfl))
              try simp only [Act.put, List.setIfInBounds_toArray, List.set_cons_zero, List.set_cons_succ]
              refine wpAnyH_take (i := 1) (oi := ⟨_, _, _, _, _, _⟩) (v := ?_) rfl (by kernel_rfl) (by kernel_rfl) (by kernel_rfl) (fun _ _ _ h => h) (Or.inl ⟨by rfl, ?_⟩) hHeld ?_
              rotate_left
              · (intro w hSw; (try dsimp only at hSw); go_simp; try (with_reducible rfl))
              try simp only [Act.put, List.setIfInBounds_toArray, List.set_cons_zero, List.set_cons_succ]
              refine wpAnyH_take (i := 2) (oi := ⟨_, _, _, _, _, _⟩) (v := ?_) rfl (by kernel_rfl) (by kernel_rfl) (by kernel_rfl) (fun _ _ _ h => h) (Or.inl ⟨by rfl, ?_⟩) hHeld ?_
              rotate_left
              · (intro w hSw; (try dsimp only at hSw); go_simp; try (with_reducible rfl))
              try simp only [Act.put, List.setIfInBounds_toArray, List.set_cons_zero, List.set_cons_succ]
              refine wpAnyH_take (i := 3) (oi := ⟨_, _, _, _, _, _⟩) (v := ?_) rfl (by kernel_rfl) (by kernel_rfl) (by kernel_rfl) (fun _ _ _ h => h) (Or.inl ⟨by rfl, ?_⟩) hHeld ?_
              rotate_left
              · (intro w hSw; (try dsimp only at hSw); go_simp; try (with_reducible rfl))
              try simp only [Act.put, List.setIfInBounds_toArray, List.set_cons_zero, List.set_cons_succ]
              refine wpAnyH_take (i := 6) (oi := ⟨_, _, _, _, _, _⟩) (v := ?_) rfl (by kernel_rfl) (by kernel_rfl) (by kernel_rfl) (fun _ _ _ h => h) (Or.inl ⟨by rfl, ?_⟩) hHeld ?_
              rotate_left
              · (intro w hSw; (try dsimp only at hSw); go_simp; try (with_reducible rfl))
              try simp only [Act.put, List.setIfInBounds_toArray, List.set_cons_zero, List.set_cons_succ]
              refine wpAnyH_take (i := 7) (oi := ⟨_, _, _, _, _, _⟩) (v := ?_) rfl (by kernel_rfl) (by kernel_rfl) (by kernel_rfl) (fun _ _ _ h => h) (Or.inl ⟨by rfl, ?_⟩) hHeld ?_
              rotate_left
              · (intro w hSw; (try dsimp only at hSw); go_simp; try (with_reducible rfl))
              try simp only [Act.put, List.setIfInBounds_toArray, List.set_cons_zero, List.set_cons_succ]
              refine wpAnyH_take (i := 8) (oi := ⟨_, _, _, _, _, _⟩) (v := ?_) rfl (by kernel_rfl) (by kernel_rfl) (by kernel_rfl) (fun _ _ _ h => h) (Or.inl ⟨by rfl, ?_⟩) hHeld ?_
              rotate_left
              · (intro w hSw; (try dsimp only at hSw); go_simp; try (with_reducible rfl))
              try simp only [Act.put, List.setIfInBounds_toArray, List.set_cons_zero, List.set_cons_succ]
              refine wpAnyH_take (i := 9) (oi := ⟨_, _, _, _, _, _⟩) (v := ?_) rfl (by kernel_rfl) (by kernel_rfl) (by kernel_rfl) (fun _ _ _ h => h) (Or.inl ⟨by rfl, ?_⟩) hHeld ?_
              rotate_left
              · (intro w hSw; (try dsimp only at hSw); go_simp; try (with_reducible rfl))
              try simp only [Act.put, List.setIfInBounds_toArray, List.set_cons_zero, List.set_cons_succ]
              refine wpAnyH_take (i := 10) (oi := ⟨_, _, _, _, _, _⟩) (v := ?_) rfl (by kernel_rfl) (by kernel_rfl) (by kernel_rfl) (fun _ _ _ h => h) (Or.inl ⟨by rfl, ?_⟩) hHeld ?_
              rotate_left
              · (intro w hSw; (try dsimp only at hSw); go_simp; try (with_reducible rfl))
              try simp only [Act.put, List.setIfInBounds_toArray, List.set_cons_zero, List.set_cons_succ]
              refine wpAnyH_ready (rs := [4]) (by kernel_rfl) (by simp) ?_
              refine AllReadyH.cons (o := ⟨_, _, _, _, _, _⟩) rfl (fun K hK => ?_) AllReadyH.nil
              go_simp
              go_at_call 230
              refine (part_calls wd 0 ((B : Int) + 1) bx 0 cs.length cx p u _ ⟨hcx, _, rfl, fun _ => rfl⟩ (by rw [EW.out, HPE.out, Int.natCast_mul]; simp) (by rw [EW.out, HUE.out, Int.natCast_mul]; rfl) p5 p6 hn1 _).mono ?_
              rintro e wp ⟨vp, rfl, ⟨hcp, ap, rfl, hap⟩, hbp⟩
              obtain rfl := hap LPOS
              rw [Nat.zero_add]
              replace hbp : Below w7.heap.size w7 wp := (below_drewN (Below.refl _ _) 1).trans hbp
              have hsp : w7.heap.size ≤ wp.heap.size := hbp.size
              replace A0 := cellb hbp A0
              replace A1 := cellb hbp A1
              replace A2 := cellb hbp A2
              replace A3 := cellb hbp A3
              replace R0 := cellb hbp R0
              replace R1 := cellb hbp R1
              replace R2 := cellb hbp R2
              replace R3 := cellb hbp R3
              replace R4 := cellb hbp R4
              replace S0 := cellb hbp S0
              replace S1 := cellb hbp S1
              replace U0 := cellb hbp U0
              replace U1 := cellb hbp U1
              replace Z0 : wp.frozen? ⟨w.heap.size + 1, 0, none⟩ = false := by rw [hbp.frozen (p := ⟨w.heap.size + 1, 0, none⟩) (by simp; omega)]; exact Z0
              replace Z1 : wp.frozen? ⟨w.heap.size + 1, 1, none⟩ = false := by rw [hbp.frozen (p := ⟨w.heap.size + 1, 1, none⟩) (by simp; omega)]; exact Z1
              replace Z2 : wp.frozen? ⟨w.heap.size + 1, 2, none⟩ = false := by rw [hbp.frozen (p := ⟨w.heap.size + 1, 2, none⟩) (by simp; omega)]; exact Z2
              replace Z3 : wp.frozen? ⟨w.heap.size + 1, 3, none⟩ = false := by rw [hbp.frozen (p := ⟨w.heap.size + 1, 3, none⟩) (by simp; omega)]; exact Z3
              replace Z4 : wp.frozen? ⟨w.heap.size + 1, 4, none⟩ = false := by rw [hbp.frozen (p := ⟨w.heap.size + 1, 4, none⟩) (by simp; omega)]; exact Z4
              have bp := b7.trans (hbp.mono b7.size)
              replace HX := hide (HX.out.below hbp (by omega))
              replace HP := hide (HP.out.below hbp (by omega))
              clear b7 hbp
              try go_wp2_with fail
              refine hK.out _ _ ?_ ?_
              · (try dsimp only); exact ⟨S0, S1, A1⟩
              clear hHeld hK K
              intro hHeld
              try simp only [Act.put, List.setIfInBounds_toArray, List.set_cons_zero, List.set_cons_succ]
              refine wpAnyH_take (i := 5) (oi := ⟨_, _, _, _, _, _⟩) (v := ?_) rfl (by kernel_rfl) (by kernel_rfl) (by kernel_rfl) (fun _ _ _ h => h) (Or.inl ⟨by rfl, ?_⟩) hHeld ?_
              rotate_left
              · (intro w hSw; (try dsimp only at hSw); go_simp; try (with_reducible rfl))
              try simp only [Act.put, List.setIfInBounds_toArray, List.set_cons_zero, List.set_cons_succ]
              refine wpAnyH_ready (rs := [11]) (by kernel_rfl) (by simp) ?_
              refine AllReadyH.cons (o := ⟨_, _, _, _, _, _⟩) rfl (fun K hK => ?_) AllReadyH.nil
              go_simp
              go_at_call 198
              refine (blankOf_calls at' _).mono ?_
              rintro e wq ⟨rfl, hbq⟩
              have hsq : wp.heap.size ≤ wq.heap.size := hbq.size
              replace A0 := cellb hbq A0
              replace A1 := cellb hbq A1
              replace A2 := cellb hbq A2
              replace A3 := cellb hbq A3
              replace R0 := cellb hbq R0
              replace R1 := cellb hbq R1
              replace R2 := cellb hbq R2
              replace R3 := cellb hbq R3
              replace R4 := cellb hbq R4
              replace S0 := cellb hbq S0
              replace S1 := cellb hbq S1
              replace U0 := cellb hbq U0
              replace U1 := cellb hbq U1
              replace Z0 : wq.frozen? ⟨w.heap.size + 1, 0, none⟩ = false := by rw [hbq.frozen (p := ⟨w.heap.size + 1, 0, none⟩) (by simp; omega)]; exact Z0
              replace Z1 : wq.frozen? ⟨w.heap.size + 1, 1, none⟩ = false := by rw [hbq.frozen (p := ⟨w.heap.size + 1, 1, none⟩) (by simp; omega)]; exact Z1
              replace Z2 : wq.frozen? ⟨w.heap.size + 1, 2, none⟩ = false := by rw [hbq.frozen (p := ⟨w.heap.size + 1, 2, none⟩) (by simp; omega)]; exact Z2
              replace Z3 : wq.frozen? ⟨w.heap.size + 1, 3, none⟩ = false := by rw [hbq.frozen (p := ⟨w.heap.size + 1, 3, none⟩) (by simp; omega)]; exact Z3
              replace Z4 : wq.frozen? ⟨w.heap.size + 1, 4, none⟩ = false := by rw [hbq.frozen (p := ⟨w.heap.size + 1, 4, none⟩) (by simp; omega)]; exact Z4
              have bq := bp.trans (hbq.mono bp.size)
              replace HX := hide (HX.out.below hbq (by omega))
              replace HP := hide (HP.out.below hbq (by omega))
              clear bp hbq
              try go_wp2_with fail
              refine hK.out _ _ ?_ ?_
              · (try dsimp only); exact ⟨S0, S1, A1⟩
              clear hHeld hK K
              intro hHeld
              try simp only [Act.put, List.setIfInBounds_toArray, List.set_cons_zero, List.set_cons_succ]
              refine wpAnyH_ready (rs := [12]) (by kernel_rfl) (by simp) ?_
              refine AllReadyH.cons (o := ⟨_, _, _, _, _, _⟩) rfl (fun K hK => ?_) AllReadyH.nil
              go_simp
              go_at_call 229
              refine (slide_calls bx (p * 2) (u - p) (cx - p) _ (fun i => cs.getD (p + i) (0, 0)) (n * wd) 32 at' wq ⟨by omega, _, rfl, fun _ => rfl⟩ (by have h := HX.out.sub p (u - p) (by omega); rw [Nat.zero_add] at h; exact h) (by omega) (by omega) LPOS).mono ?_
              rintro e wr ⟨⟨ur, rfl⟩, hrr, htr⟩
              replace A0 := htr.cellAt A0 (by omega)
              replace A1 := htr.cellAt A1 (by omega)
              replace A2 := htr.cellAt A2 (by omega)
              replace A3 := htr.cellAt A3 (by omega)
              replace R0 := htr.cellAt R0 (by omega)
              replace R1 := htr.cellAt R1 (by omega)
              replace R2 := htr.cellAt R2 (by omega)
              replace R3 := htr.cellAt R3 (by omega)
              replace R4 := htr.cellAt R4 (by omega)
              replace S0 := htr.cellAt S0 (by omega)
              replace S1 := htr.cellAt S1 (by omega)
              replace U0 := htr.cellAt U0 (by omega)
              replace U1 := htr.cellAt U1 (by omega)
              replace Z0 := htr.frozenAt (by omega) Z0
              replace Z1 := htr.frozenAt (by omega) Z1
              replace Z2 := htr.frozenAt (by omega) Z2
              replace Z3 := htr.frozenAt (by omega) Z3
              replace Z4 := htr.frozenAt (by omega) Z4
              have br : Below w.heap.size w wr := bq.trans (htr.below (by omega) (by omega))
              have hsr : wq.heap.size ≤ wr.heap.size := htr.size
              replace HP := hide (pairs_touch HP.out htr (by omega) (by omega))
              replace HX := hide (HX.out.join (k := p) (m := u - p) (by rw [Nat.zero_add, Nat.zero_add, Nat.add_mul]; exact htr) (by rw [Nat.zero_add]; exact hrr) (by omega))
              clear hrr htr bq
              try go_wp2_with fail
              refine hK.out _ _ ?_ ?_
              · (try dsimp only); exact ⟨S0, S1, A1⟩
              clear hHeld hK K
              intro hHeld
              try simp only [Act.put, List.setIfInBounds_toArray, List.set_cons_zero, List.set_cons_succ]
              refine wpAnyH_done (by kernel_rfl) ?_ _
              clear hHeld
              go_wp2_with fail
              refine (gridOf_calls wd wd n1 n2 (some ⟨bx, 0, none⟩) al cs.length (nl) cx cl hn1 wr).mono ?_
              rintro e w8 ⟨rfl, hb8⟩
              rw [hq.out]
              replace R0 := cellb hb8 R0
              replace R1 := cellb hb8 R1
              replace R2 := cellb hb8 R2
              replace R3 := cellb hb8 R3
              replace R4 := cellb hb8 R4
              replace Z0 : w8.frozen? ⟨w.heap.size + 1, 0, none⟩ = false := by rw [hb8.frozen (p := ⟨w.heap.size + 1, 0, none⟩) (by simp; omega)]; exact Z0
              replace Z1 : w8.frozen? ⟨w.heap.size + 1, 1, none⟩ = false := by rw [hb8.frozen (p := ⟨w.heap.size + 1, 1, none⟩) (by simp; omega)]; exact Z1
              replace Z2 : w8.frozen? ⟨w.heap.size + 1, 2, none⟩ = false := by rw [hb8.frozen (p := ⟨w.heap.size + 1, 2, none⟩) (by simp; omega)]; exact Z2
              replace Z3 : w8.frozen? ⟨w.heap.size + 1, 3, none⟩ = false := by rw [hb8.frozen (p := ⟨w.heap.size + 1, 3, none⟩) (by simp; omega)]; exact Z3
              replace Z4 : w8.frozen? ⟨w.heap.size + 1, 4, none⟩ = false := by rw [hb8.frozen (p := ⟨w.heap.size + 1, 4, none⟩) (by simp; omega)]; exact Z4
              have b8 := br.trans (hb8.mono br.size)
              have hs8 : wr.heap.size ≤ w8.heap.size := hb8.size
              have HX8 := hide (HX.out.below hb8 (by omega))
              have HP8 := hide (HP.out.below hb8 (by omega))
              clear hb8 HX HP
              have hr := res5 (w := w8) (r := w.heap.size + 1) (.int .i64 0) (.int .i64 r) (.int .i64 wd) (.slice (some ⟨bx, 0, none⟩) cs.length cx) (.slice al nl cl) R0 R1 R2 R3 R4
              go_wp2
              refine bodyPost_ret (v := .agg #[.int .i64 0, .int .i64 r, .int .i64 wd, .slice (some ⟨bx, 0, none⟩) cs.length cx, .slice al nl cl]) (by simp only [results, Tryz.results228]; simp [go_sem, hr.1, hr.2.1, hr.2.2.1, hr.2.2.2.1, hr.2.2.2.2]) rfl ⟨_, _, rfl, ?_, b8.trans (show Below w.heap.size w8 _ from (by repeat' (first | with_reducible exact Below.refl _ _ | with_reducible assumption | with_reducible refine Below.drew ?_ | with_reducible refine Below.alloc ?_ ?_ _ | with_reducible refine Below.setCell ?_ ?_ _ | (simp; done) | (simp; omega) | omega)))⟩
              rw [scrollB_drop HQ.out Q8.out]
              refine (gown_of2 (w := w8) (base := w1.heap.size) (bb := bb) (HX8.out.congr (fun i hi => ?_)) (by omega) HP8.out (by omega) (by omega) (by simp [World.setCell]) (fun k _ => ?_)).mono (by omega) (Nat.le_refl _)
              · unfold scrollF
                rw [Nat.sub_mul, ← HPE.out, ← HUE.out]
              · by_cases hk : k < w1.heap.size
                · exact .inr hk
                · left
                  simp only [World.setCell, Array.getElem?_modify]
                  repeat rw [if_neg (by omega)]
            · have hT0 : ¬ (T : Int) = 0 := by omega
              clear hlv
              go_wp2_with fail
              have hb3 : Below w2.heap.size w2 ((w2.alloc (.cells #[.int .i64 wd, .slice (some ⟨bx, 0, none⟩) cs.length cx] 217)).alloc (.cells #[.int .i64 wd, .slice ay bs.length cy] 217)) := (by repeat' (first | with_reducible exact Below.refl _ _ | with_reducible assumption | with_reducible refine Below.drew ?_ | with_reducible refine Below.alloc ?_ ?_ _ | with_reducible refine Below.setCell ?_ ?_ _ | (simp; done) | (simp; omega) | omega))
              have S0 : ((w2.alloc (.cells #[.int .i64 wd, .slice (some ⟨bx, 0, none⟩) cs.length cx] 217)).alloc (.cells #[.int .i64 wd, .slice ay bs.length cy] 217)).cell? ⟨w2.heap.size, 0, none⟩ = some (.int .i64 wd) := by simp [go_sem]
              have S1 : ((w2.alloc (.cells #[.int .i64 wd, .slice (some ⟨bx, 0, none⟩) cs.length cx] 217)).alloc (.cells #[.int .i64 wd, .slice ay bs.length cy] 217)).cell? ⟨w2.heap.size, 1, none⟩ = some (.slice (some ⟨bx, 0, none⟩) cs.length cx) := by simp [go_sem]
              have U0 : ((w2.alloc (.cells #[.int .i64 wd, .slice (some ⟨bx, 0, none⟩) cs.length cx] 217)).alloc (.cells #[.int .i64 wd, .slice ay bs.length cy] 217)).cell? ⟨w2.heap.size + 1, 0, none⟩ = some (.int .i64 wd) := by simp [go_sem]
              have U1 : ((w2.alloc (.cells #[.int .i64 wd, .slice (some ⟨bx, 0, none⟩) cs.length cx] 217)).alloc (.cells #[.int .i64 wd, .slice ay bs.length cy] 217)).cell? ⟨w2.heap.size + 1, 1, none⟩ = some (.slice ay bs.length cy) := by simp [go_sem]
              have ZU0 : ((w2.alloc (.cells #[.int .i64 wd, .slice (some ⟨bx, 0, none⟩) cs.length cx] 217)).alloc (.cells #[.int .i64 wd, .slice ay bs.length cy] 217)).frozen? ⟨w2.heap.size + 1, 0, none⟩ = false := by simp [go_sem]
              have ZU1 : ((w2.alloc (.cells #[.int .i64 wd, .slice (some ⟨bx, 0, none⟩) cs.length cx] 217)).alloc (.cells #[.int .i64 wd, .slice ay bs.length cy] 217)).frozen? ⟨w2.heap.size + 1, 1, none⟩ = false := by simp [go_sem]
              have hs3 : ((w2.alloc (.cells #[.int .i64 wd, .slice (some ⟨bx, 0, none⟩) cs.length cx] 217)).alloc (.cells #[.int .i64 wd, .slice ay bs.length cy] 217)).heap.size = w2.heap.size + 2 := by simp
              generalize ((w2.alloc (.cells #[.int .i64 wd, .slice (some ⟨bx, 0, none⟩) cs.length cx] 217)).alloc (.cells #[.int .i64 wd, .slice ay bs.length cy] 217)) = w3 at *
              replace A0 := cellb hb3 A0
              replace A1 := cellb hb3 A1
              replace A2 := cellb hb3 A2
              replace A3 := cellb hb3 A3
              replace R0 := cellb hb3 R0
              replace R1 := cellb hb3 R1
              replace R2 := cellb hb3 R2
              replace R3 := cellb hb3 R3
              replace R4 := cellb hb3 R4
              replace Z0 : w3.frozen? ⟨w.heap.size + 1, 0, none⟩ = false := by rw [hb3.frozen (p := ⟨w.heap.size + 1, 0, none⟩) (by simp; omega)]; exact Z0
              replace Z1 : w3.frozen? ⟨w.heap.size + 1, 1, none⟩ = false := by rw [hb3.frozen (p := ⟨w.heap.size + 1, 1, none⟩) (by simp; omega)]; exact Z1
              replace Z2 : w3.frozen? ⟨w.heap.size + 1, 2, none⟩ = false := by rw [hb3.frozen (p := ⟨w.heap.size + 1, 2, none⟩) (by simp; omega)]; exact Z2
              replace Z3 : w3.frozen? ⟨w.heap.size + 1, 3, none⟩ = false := by rw [hb3.frozen (p := ⟨w.heap.size + 1, 3, none⟩) (by simp; omega)]; exact Z3
              replace Z4 : w3.frozen? ⟨w.heap.size + 1, 4, none⟩ = false := by rw [hb3.frozen (p := ⟨w.heap.size + 1, 4, none⟩) (by simp; omega)]; exact Z4
              have b3 := b2.trans (hb3.mono b2.size)
              replace HX := hide (HX.out.below hb3 x2)
              replace HY := hide (own_below HY.out hb3)
              clear hb3 b2
              obtain ⟨bb, _, _, _, _, m3, bbs, _, hpf, _⟩ := own_spotG HY.out (by omega)
              have HP := hide hpf
              clear hpf HY
              obtain ⟨p, hpe⟩ : ∃ p, p = T * W := ⟨_, rfl⟩
              obtain ⟨u, hue⟩ : ∃ u, u = (B + 1) * W := ⟨_, rfl⟩
              have LPOS : 0 < u - p := by rw [hpe, hue]; exact rows_pos (by omega) (by omega)
              have HPE := hide hpe
              have HUE := hide hue
              have p5 : p ≤ u := by omega
              have p6 : u ≤ cs.length := by rw [hue]; exact q6
              clear hpe hue
              have z1 : IntKind.i64.wrap ((B : Int) + 1) = (B : Int) + 1 := wrap_small (by omega) (by omega)
              have z2 : IntKind.i64.wrap (n * wd) = n * wd := by obtain ⟨p1, p2⟩ := mul_small j2 q4; rw [EW.out]; exact wrap_small (by omega) (by omega)
              have fs := fld_sheet1
              refine wp_region_held_drew (S := (fun w' => w'.cell? ⟨w2.heap.size, 0, none⟩ = some (.int .i64 wd) ∧ w'.cell? ⟨w2.heap.size, 1, none⟩ = some (.slice (some ⟨bx, 0, none⟩) cs.length cx) ∧ w'.cell? ⟨w.heap.size, 1, none⟩ = some (.int .i64 wd))) (by kernel_rfl) ?_ (fun hHeld => ?_)
              · (try dsimp only); exact ⟨S0, S1, A1⟩
              refine wpAnyH_take (i := 0) (oi := ⟨_, _, _, _, _, _⟩) (v := ?_) rfl (by kernel_rfl) (by kernel_rfl) (by kernel_rfl) (fun _ _ _ h => h) (Or.inl ⟨by rfl, ?_⟩) hHeld ?_
              rotate_left
              · (intro w hSw; (try dsimp only at hSw); go_simp; try (with_reducible rfl))
              try simp only [Act.put, List.setIfInBounds_toArray, List.set_cons_zero, List.set_cons_succ]
              refine wpAnyH_take (i := 1) (oi := ⟨_, _, _, _, _, _⟩) (v := ?_) rfl (by kernel_rfl) (by kernel_rfl) (by kernel_rfl) (fun _ _ _ h => h) (Or.inl ⟨by rfl, ?_⟩) hHeld ?_
              rotate_left
              · (intro w hSw; (try dsimp only at hSw); go_simp; try (with_reducible rfl))
              try simp only [Act.put, List.setIfInBounds_toArray, List.set_cons_zero, List.set_cons_succ]
              refine wpAnyH_take (i := 2) (oi := ⟨_, _, _, _, _, _⟩) (v := ?_) rfl (by kernel_rfl) (by kernel_rfl) (by kernel_rfl) (fun _ _ _ h => h) (Or.inl ⟨by rfl, ?_⟩) hHeld ?_
              rotate_left
              · (intro w hSw; (try dsimp only at hSw); go_simp; try (with_reducible rfl))
              try simp only [Act.put, List.setIfInBounds_toArray, List.set_cons_zero, List.set_cons_succ]
              refine wpAnyH_take (i := 3) (oi := ⟨_, _, _, _, _, _⟩) (v := ?_) rfl (by kernel_rfl) (by kernel_rfl) (by kernel_rfl) (fun _ _ _ h => h) (Or.inl ⟨by rfl, ?_⟩) hHeld ?_
              rotate_left
              · (intro w hSw; (try dsimp only at hSw); go_simp; try (with_reducible rfl))
              try simp only [Act.put, List.setIfInBounds_toArray, List.set_cons_zero, List.set_cons_succ]
              refine wpAnyH_take (i := 6) (oi := ⟨_, _, _, _, _, _⟩) (v := ?_) rfl (by kernel_rfl) (by kernel_rfl) (by kernel_rfl) (fun _ _ _ h => h) (Or.inl ⟨by rfl, ?_⟩) hHeld ?_
              rotate_left
              · (intro w hSw; (try dsimp only at hSw); go_simp; try (with_reducible rfl))
              try simp only [Act.put, List.setIfInBounds_toArray, List.set_cons_zero, List.set_cons_succ]
              refine wpAnyH_take (i := 7) (oi := ⟨_, _, _, _, _, _⟩) (v := ?_) rfl (by kernel_rfl) (by kernel_rfl) (by kernel_rfl) (fun _ _ _ h => h) (Or.inl ⟨by rfl, ?_⟩) hHeld ?_
              rotate_left
              · (intro w hSw; (try dsimp only at hSw); go_simp; try (with_reducible rfl))
              try simp only [Act.put, List.setIfInBounds_toArray, List.set_cons_zero, List.set_cons_succ]
              refine wpAnyH_take (i := 8) (oi := ⟨_, _, _, _, _, _⟩) (v := ?_) rfl (by kernel_rfl) (by kernel_rfl) (by kernel_rfl) (fun _ _ _ h => h) (Or.inl ⟨by rfl, ?_⟩) hHeld ?_
              rotate_left
              · (intro w hSw; (try dsimp only at hSw); go_simp; try (with_reducible rfl))
              try simp only [Act.put, List.setIfInBounds_toArray, List.set_cons_zero, List.set_cons_succ]
              refine wpAnyH_take (i := 9) (oi := ⟨_, _, _, _, _, _⟩) (v := ?_) rfl (by kernel_rfl) (by kernel_rfl) (by kernel_rfl) (fun _ _ _ h => h) (Or.inl ⟨by rfl, ?_⟩) hHeld ?_
              rotate_left
              · (intro w hSw; (try dsimp only at hSw); go_simp; try (with_reducible rfl))
              try simp only [Act.put, List.setIfInBounds_toArray, List.set_cons_zero, List.set_cons_succ]
              refine wpAnyH_take (i := 10) (oi := ⟨_, _, _, _, _, _⟩) (v := ?_) rfl (by kernel_rfl) (by kernel_rfl) (by kernel_rfl) (fun _ _ _ h => h) (Or.inl ⟨by rfl, ?_⟩) hHeld ?_
              rotate_left
              · (intro w hSw; (try dsimp only at hSw); go_simp; try (with_reducible rfl))
              try simp only [Act.put, List.setIfInBounds_toArray, List.set_cons_zero, List.set_cons_succ]
              refine wpAnyH_ready (rs := [4]) (by kernel_rfl) (by simp) ?_
              refine AllReadyH.cons (o := ⟨_, _, _, _, _, _⟩) rfl (fun K hK => ?_) AllReadyH.nil
              go_simp
              go_at_call 230
              refine (part_calls wd (T : Int) ((B : Int) + 1) bx 0 cs.length cx p u _ ⟨hcx, _, rfl, fun _ => rfl⟩ (by rw [EW.out, HPE.out, Int.natCast_mul]) (by rw [EW.out, HUE.out, Int.natCast_mul]; rfl) p5 p6 hn1 _).mono ?_
              rintro e wp ⟨vp, rfl, ⟨hcp, ap, rfl, hap⟩, hbp⟩
              obtain rfl := hap LPOS
              rw [Nat.zero_add]
              replace hbp : Below w3.heap.size w3 wp := (below_drewN (Below.refl _ _) 1).trans hbp
              have hsp : w3.heap.size ≤ wp.heap.size := hbp.size
              replace A0 := cellb hbp A0
              replace A1 := cellb hbp A1
              replace A2 := cellb hbp A2
              replace A3 := cellb hbp A3
              replace R0 := cellb hbp R0
              replace R1 := cellb hbp R1
              replace R2 := cellb hbp R2
              replace R3 := cellb hbp R3
              replace R4 := cellb hbp R4
              replace S0 := cellb hbp S0
              replace S1 := cellb hbp S1
              replace U0 := cellb hbp U0
              replace U1 := cellb hbp U1
              replace Z0 : wp.frozen? ⟨w.heap.size + 1, 0, none⟩ = false := by rw [hbp.frozen (p := ⟨w.heap.size + 1, 0, none⟩) (by simp; omega)]; exact Z0
              replace Z1 : wp.frozen? ⟨w.heap.size + 1, 1, none⟩ = false := by rw [hbp.frozen (p := ⟨w.heap.size + 1, 1, none⟩) (by simp; omega)]; exact Z1
              replace Z2 : wp.frozen? ⟨w.heap.size + 1, 2, none⟩ = false := by rw [hbp.frozen (p := ⟨w.heap.size + 1, 2, none⟩) (by simp; omega)]; exact Z2
              replace Z3 : wp.frozen? ⟨w.heap.size + 1, 3, none⟩ = false := by rw [hbp.frozen (p := ⟨w.heap.size + 1, 3, none⟩) (by simp; omega)]; exact Z3
              replace Z4 : wp.frozen? ⟨w.heap.size + 1, 4, none⟩ = false := by rw [hbp.frozen (p := ⟨w.heap.size + 1, 4, none⟩) (by simp; omega)]; exact Z4
              have bp := b3.trans (hbp.mono b3.size)
              replace HX := hide (HX.out.below hbp (by omega))
              replace HP := hide (HP.out.below hbp (by omega))
              clear b3 hbp
              try go_wp2_with fail
              refine hK.out _ _ ?_ ?_
              · (try dsimp only); exact ⟨S0, S1, A1⟩
              clear hHeld hK K
              intro hHeld
              try simp only [Act.put, List.setIfInBounds_toArray, List.set_cons_zero, List.set_cons_succ]
              refine wpAnyH_take (i := 5) (oi := ⟨_, _, _, _, _, _⟩) (v := ?_) rfl (by kernel_rfl) (by kernel_rfl) (by kernel_rfl) (fun _ _ _ h => h) (Or.inl ⟨by rfl, ?_⟩) hHeld ?_
              rotate_left
              · (intro w hSw; (try dsimp only at hSw); go_simp; try (with_reducible rfl))
              try simp only [Act.put, List.setIfInBounds_toArray, List.set_cons_zero, List.set_cons_succ]
              refine wpAnyH_ready (rs := [11]) (by kernel_rfl) (by simp) ?_
              refine AllReadyH.cons (o := ⟨_, _, _, _, _, _⟩) rfl (fun K hK => ?_) AllReadyH.nil
              go_simp
              go_at_call 198
              refine (blankOf_calls at' _).mono ?_
              rintro e wq ⟨rfl, hbq⟩
              have hsq : wp.heap.size ≤ wq.heap.size := hbq.size
              replace A0 := cellb hbq A0
              replace A1 := cellb hbq A1
              replace A2 := cellb hbq A2
              replace A3 := cellb hbq A3
              replace R0 := cellb hbq R0
              replace R1 := cellb hbq R1
              replace R2 := cellb hbq R2
              replace R3 := cellb hbq R3
              replace R4 := cellb hbq R4
              replace S0 := cellb hbq S0
              replace S1 := cellb hbq S1
              replace U0 := cellb hbq U0
              replace U1 := cellb hbq U1
              replace Z0 : wq.frozen? ⟨w.heap.size + 1, 0, none⟩ = false := by rw [hbq.frozen (p := ⟨w.heap.size + 1, 0, none⟩) (by simp; omega)]; exact Z0
              replace Z1 : wq.frozen? ⟨w.heap.size + 1, 1, none⟩ = false := by rw [hbq.frozen (p := ⟨w.heap.size + 1, 1, none⟩) (by simp; omega)]; exact Z1
              replace Z2 : wq.frozen? ⟨w.heap.size + 1, 2, none⟩ = false := by rw [hbq.frozen (p := ⟨w.heap.size + 1, 2, none⟩) (by simp; omega)]; exact Z2
              replace Z3 : wq.frozen? ⟨w.heap.size + 1, 3, none⟩ = false := by rw [hbq.frozen (p := ⟨w.heap.size + 1, 3, none⟩) (by simp; omega)]; exact Z3
              replace Z4 : wq.frozen? ⟨w.heap.size + 1, 4, none⟩ = false := by rw [hbq.frozen (p := ⟨w.heap.size + 1, 4, none⟩) (by simp; omega)]; exact Z4
              have bq := bp.trans (hbq.mono bp.size)
              replace HX := hide (HX.out.below hbq (by omega))
              replace HP := hide (HP.out.below hbq (by omega))
              clear bp hbq
              try go_wp2_with fail
              refine hK.out _ _ ?_ ?_
              · (try dsimp only); exact ⟨S0, S1, A1⟩
              clear hHeld hK K
              intro hHeld
              try simp only [Act.put, List.setIfInBounds_toArray, List.set_cons_zero, List.set_cons_succ]
              refine wpAnyH_ready (rs := [12]) (by kernel_rfl) (by simp) ?_
              refine AllReadyH.cons (o := ⟨_, _, _, _, _, _⟩) rfl (fun K hK => ?_) AllReadyH.nil
              go_simp
              go_at_call 229
              refine (slide_calls bx (p * 2) (u - p) (cx - p) _ (fun i => cs.getD (p + i) (0, 0)) (n * wd) 32 at' wq ⟨by omega, _, rfl, fun _ => rfl⟩ (by have h := HX.out.sub p (u - p) (by omega); rw [Nat.zero_add] at h; exact h) (by omega) (by omega) LPOS).mono ?_
              rintro e wr ⟨⟨ur, rfl⟩, hrr, htr⟩
              replace A0 := htr.cellAt A0 (by omega)
              replace A1 := htr.cellAt A1 (by omega)
              replace A2 := htr.cellAt A2 (by omega)
              replace A3 := htr.cellAt A3 (by omega)
              replace R0 := htr.cellAt R0 (by omega)
              replace R1 := htr.cellAt R1 (by omega)
              replace R2 := htr.cellAt R2 (by omega)
              replace R3 := htr.cellAt R3 (by omega)
              replace R4 := htr.cellAt R4 (by omega)
              replace S0 := htr.cellAt S0 (by omega)
              replace S1 := htr.cellAt S1 (by omega)
              replace U0 := htr.cellAt U0 (by omega)
              replace U1 := htr.cellAt U1 (by omega)
              replace Z0 := htr.frozenAt (by omega) Z0
              replace Z1 := htr.frozenAt (by omega) Z1
              replace Z2 := htr.frozenAt (by omega) Z2
              replace Z3 := htr.frozenAt (by omega) Z3
              replace Z4 := htr.frozenAt (by omega) Z4
              have br : Below w.heap.size w wr := bq.trans (htr.below (by omega) (by omega))
              have hsr : wq.heap.size ≤ wr.heap.size := htr.size
              replace HP := hide (pairs_touch HP.out htr (by omega) (by omega))
              replace HX := hide (HX.out.join (k := p) (m := u - p) (by rw [Nat.zero_add, Nat.zero_add, Nat.add_mul]; exact htr) (by rw [Nat.zero_add]; exact hrr) (by omega))
              clear hrr htr bq
              try go_wp2_with fail
              refine hK.out _ _ ?_ ?_
              · (try dsimp only); exact ⟨S0, S1, A1⟩
              clear hHeld hK K
              intro hHeld
              try simp only [Act.put, List.setIfInBounds_toArray, List.set_cons_zero, List.set_cons_succ]
              refine wpAnyH_done (by kernel_rfl) ?_ _
              clear hHeld
              go_wp2_with fail
              refine (gridOf_calls wd wd n1 n2 (some ⟨bx, 0, none⟩) ay cs.length (bs.length) cx cy hn1 wr).mono ?_
              rintro e w8 ⟨rfl, hb8⟩
              rw [hq.out]
              replace R0 := cellb hb8 R0
              replace R1 := cellb hb8 R1
              replace R2 := cellb hb8 R2
              replace R3 := cellb hb8 R3
              replace R4 := cellb hb8 R4
              replace Z0 : w8.frozen? ⟨w.heap.size + 1, 0, none⟩ = false := by rw [hb8.frozen (p := ⟨w.heap.size + 1, 0, none⟩) (by simp; omega)]; exact Z0
              replace Z1 : w8.frozen? ⟨w.heap.size + 1, 1, none⟩ = false := by rw [hb8.frozen (p := ⟨w.heap.size + 1, 1, none⟩) (by simp; omega)]; exact Z1
              replace Z2 : w8.frozen? ⟨w.heap.size + 1, 2, none⟩ = false := by rw [hb8.frozen (p := ⟨w.heap.size + 1, 2, none⟩) (by simp; omega)]; exact Z2
              replace Z3 : w8.frozen? ⟨w.heap.size + 1, 3, none⟩ = false := by rw [hb8.frozen (p := ⟨w.heap.size + 1, 3, none⟩) (by simp; omega)]; exact Z3
              replace Z4 : w8.frozen? ⟨w.heap.size + 1, 4, none⟩ = false := by rw [hb8.frozen (p := ⟨w.heap.size + 1, 4, none⟩) (by simp; omega)]; exact Z4
              have b8 := br.trans (hb8.mono br.size)
              have hs8 : wr.heap.size ≤ w8.heap.size := hb8.size
              have HX8 := hide (HX.out.below hb8 (by omega))
              have HP8 := hide (HP.out.below hb8 (by omega))
              clear hb8 HX HP
              have hr := res5 (w := w8) (r := w.heap.size + 1) (.int .i64 0) (.int .i64 r) (.int .i64 wd) (.slice (some ⟨bx, 0, none⟩) cs.length cx) (.slice ay bs.length cy) R0 R1 R2 R3 R4
              go_wp2
              refine bodyPost_ret (v := .agg #[.int .i64 0, .int .i64 r, .int .i64 wd, .slice (some ⟨bx, 0, none⟩) cs.length cx, .slice ay bs.length cy]) (by simp only [results, Tryz.results228]; simp [go_sem, hr.1, hr.2.1, hr.2.2.1, hr.2.2.2.1, hr.2.2.2.2]) rfl ⟨_, _, rfl, ?_, b8.trans (show Below w.heap.size w8 _ from (by repeat' (first | with_reducible exact Below.refl _ _ | with_reducible assumption | with_reducible refine Below.drew ?_ | with_reducible refine Below.alloc ?_ ?_ _ | with_reducible refine Below.setCell ?_ ?_ _ | (simp; done) | (simp; omega) | omega)))⟩
              rw [scrollB_low hT]
              refine (gown_of2 (w := w8) (base := w1.heap.size) (bb := bb) (HX8.out.congr (fun i hi => ?_)) (by omega) HP8.out (by omega) (by omega) (by simp [World.setCell]) (fun k _ => ?_)).mono (by omega) (Nat.le_refl _)
              · unfold scrollF
                rw [Nat.sub_mul, ← HPE.out, ← HUE.out]
              · by_cases hk : k < w1.heap.size
                · exact .inr hk
                · left
                  simp only [World.setCell, Array.getElem?_modify]
                  repeat rw [if_neg (by omega)]
  · rw [scrollRes_def, gres_fault hG]
    generalize gridCode r wd cs bs = code at *
    have hcb : (code != 0) = true := by simpa using hG
    simp only [gbad]
    go_enter Tryz.func228, Tryz.ntmps228
    go_wp2_with fail
    refine HF.mono ?_
    rintro e w1 ⟨rfl, hb1⟩
    have A0 : w1.cell? ⟨w.heap.size, 0, none⟩ = some (.int .i64 r) := cellb hb1 (by simp [go_sem])
    have A1 : w1.cell? ⟨w.heap.size, 1, none⟩ = some (.int .i64 wd) := cellb hb1 (by simp [go_sem])
    have A2 : w1.cell? ⟨w.heap.size, 2, none⟩ = some (.slice a1 cs.length c1) := cellb hb1 (by simp [go_sem])
    have A3 : w1.cell? ⟨w.heap.size, 3, none⟩ = some (.slice a2 bs.length c2) := cellb hb1 (by simp [go_sem])
    have R0 : w1.cell? ⟨w.heap.size + 1, 0, none⟩ = some (.int .i64 0) := cellb hb1 (by simp [go_sem])
    have Z0 : w1.frozen? ⟨w.heap.size + 1, 0, none⟩ = false := by rw [hb1.frozen (p := ⟨w.heap.size + 1, 0, none⟩) (by simp)]; simp [go_sem]
    have R1 : w1.cell? ⟨w.heap.size + 1, 1, none⟩ = some (.int .i64 0) := cellb hb1 (by simp [go_sem])
    have Z1 : w1.frozen? ⟨w.heap.size + 1, 1, none⟩ = false := by rw [hb1.frozen (p := ⟨w.heap.size + 1, 1, none⟩) (by simp)]; simp [go_sem]
    have R2 : w1.cell? ⟨w.heap.size + 1, 2, none⟩ = some (.int .i64 0) := cellb hb1 (by simp [go_sem])
    have Z2 : w1.frozen? ⟨w.heap.size + 1, 2, none⟩ = false := by rw [hb1.frozen (p := ⟨w.heap.size + 1, 2, none⟩) (by simp)]; simp [go_sem]
    have R3 : w1.cell? ⟨w.heap.size + 1, 3, none⟩ = some (.slice none 0 0) := cellb hb1 (by simp [go_sem])
    have Z3 : w1.frozen? ⟨w.heap.size + 1, 3, none⟩ = false := by rw [hb1.frozen (p := ⟨w.heap.size + 1, 3, none⟩) (by simp)]; simp [go_sem]
    have R4 : w1.cell? ⟨w.heap.size + 1, 4, none⟩ = some (.slice none 0 0) := cellb hb1 (by simp [go_sem])
    have Z4 : w1.frozen? ⟨w.heap.size + 1, 4, none⟩ = false := by rw [hb1.frozen (p := ⟨w.heap.size + 1, 4, none⟩) (by simp)]; simp [go_sem]
    have hs1 : w.heap.size + 2 ≤ w1.heap.size := by have := hb1.size; simp at this; omega
    have b1 : Below w.heap.size w w1 := hb0.trans (hb1.mono (by simp; omega))
    clear hb1 hb0 HF
    have hr := res5 (w := w1) (r := w.heap.size + 1) (.int .i64 code) (.int .i64 0) (.int .i64 0) (.slice none 0 0) (.slice none 0 0) R0 R1 R2 R3 R4
    go_wp2
    refine bodyPost_ret (v := .agg #[.int .i64 code, .int .i64 0, .int .i64 0, .slice none 0 0, .slice none 0 0]) (by simp only [results, Tryz.results228]; simp [go_sem, hr.1, hr.2.1, hr.2.2.1, hr.2.2.2.1, hr.2.2.2.2]) rfl ⟨_, _, rfl, ?_, b1.trans (show Below w.heap.size w1 _ from (by repeat' (first | with_reducible exact Below.refl _ _ | with_reducible assumption | with_reducible refine Below.drew ?_ | with_reducible refine Below.alloc ?_ ?_ _ | with_reducible refine Below.setCell ?_ ?_ _ | (simp; done) | (simp; omega) | omega)))⟩
    exact GOwn.nil _ _ _ (by have := b1.size; simp [World.setCell]; omega)

end Go.Proofs.YtdekegjplegkeaaGreat

namespace Go.Proofs.YtdekegjplegkeaaGreat
set_option maxRecDepth 20000
open Go.ChangeShapes Go.WideShapes Go.ChangeAt Go.RowKit
set_option linter.unusedVariables false
set_option linter.unusedSimpArgs false
set_option maxRecDepth 20000

/-- A copied grid in its box pb: its cells lie in block bx, the row of those that left is owned. -/
structure GSt (B0 pb bx N cx : Nat) (r wd : Int) (f : Nat → Int × Int) (bs : List (Int × Int)) (w : World) : Prop where
  s0 : w.cell? ⟨pb, 0, none⟩ = some (.int .i64 r)
  s1 : w.cell? ⟨pb, 1, none⟩ = some (.int .i64 wd)
  s2 : w.cell? ⟨pb, 2, none⟩ = some (.slice (some ⟨bx, 0, none⟩) N cx)
  z3 : w.frozen? ⟨pb, 3, none⟩ = false
  row : Row w bx 0 N f
  lo : B0 ≤ pb ∧ B0 ≤ bx ∧ pb ≠ bx ∧ pb < w.heap.size ∧ bx < w.heap.size
  ex : ∃ v, w.cell? ⟨pb, 3, none⟩ = some v ∧ w.ownsRow B0 193 2 v bs.length (pvs bs) ∧ (∀ k, v.ownBlock = some k → k ≠ pb ∧ k ≠ bx)
theorem GSt.congr {B0 pb bx N cx : Nat} {r wd : Int} {f g : Nat → Int × Int} {bs : List (Int × Int)} {w : World} (h : GSt B0 pb bx N cx r wd f bs w) (e : ∀ i, i < N → f i = g i) : GSt B0 pb bx N cx r wd g bs w := ⟨h.s0, h.s1, h.s2, h.z3, h.row.congr e, h.lo, h.ex⟩
theorem GSt.below {B0 pb bx N cx : Nat} {r wd : Int} {f : Nat → Int × Int} {bs : List (Int × Int)} {w w' : World} (h : GSt B0 pb bx N cx r wd f bs w) (hb : Below w.heap.size w w') : GSt B0 pb bx N cx r wd f bs w' := by
  obtain ⟨v, c, o, a⟩ := h.ex
  have l := h.lo
  have hs := hb.size
  exact ⟨cellb hb h.s0, cellb hb h.s1, cellb hb h.s2, (hb.frozen (p := ⟨pb, 3, none⟩) l.2.2.2.1).trans h.z3, h.row.below hb l.2.2.2.2, ⟨l.1, l.2.1, l.2.2.1, by omega, by omega⟩, v, cellb hb c, own_below o hb, a⟩
theorem GSt.touch {B0 pb bx N cx p q : Nat} {r wd : Int} {f g : Nat → Int × Int} {bs : List (Int × Int)} {w w' : World} (h : GSt B0 pb bx N cx r wd f bs w) (t : Touch bx p q w w') (hr : Row w' bx 0 N g) : GSt B0 pb bx N cx r wd g bs w' := by
  obtain ⟨v, c, o, a⟩ := h.ex
  have l := h.lo
  have hs := t.size
  exact ⟨t.cellAt h.s0 (by omega), t.cellAt h.s1 (by omega), t.cellAt h.s2 (by omega), t.frozenAt (by omega) h.z3, hr, ⟨l.1, l.2.1, l.2.2.1, by omega, by omega⟩, v, t.cellAt c (by omega), own_touch o t (fun k hk => (a k hk).2), a⟩
theorem GSt.base {B0 pb bx N cx : Nat} {r wd : Int} {f : Nat → Int × Int} {bs : List (Int × Int)} {w : World} (h : GSt B0 pb bx N cx r wd f bs w) : B0 ≤ w.heap.size := by have := h.lo; omega
/-- A new value is laid into the box. -/
theorem GSt.keep {B0 pb bx N cx : Nat} {r wd : Int} {f : Nat → Int × Int} {bs bs' : List (Int × Int)} {w w' : World} {v v' : Value} (h : GSt B0 pb bx N cx r wd f bs w) (g : GrowTo w w' v v') (c : w.cell? ⟨pb, 3, none⟩ = some v) (a : ∀ k, v.ownBlock = some k → k ≠ pb ∧ k ≠ bx) (o : w'.ownsRow B0 193 2 v' bs'.length (pvs bs')) : GSt B0 pb bx N cx r wd f bs' (w'.setCell ⟨pb, 3, none⟩ v') := by
  have l := h.lo
  have n1 : some pb ≠ v.ownBlock := fun e => (a pb e.symm).1 rfl
  have n2 : some bx ≠ v.ownBlock := fun e => (a bx e.symm).2 rfl
  have a' : ∀ k, v'.ownBlock = some k → k ≠ pb ∧ k ≠ bx := by
    intro k hk
    rcases g.spot with e | ⟨q, e, hq⟩
    · exact a k (e.symm.trans hk)
    · rw [hk] at e
      injection e with e
      omega
  have hs := g.grown.size
  have d3 := g.cellAt c n1
  have t : Touch pb 3 4 w' (w'.setCell ⟨pb, 3, none⟩ v') := (Touch.refl _ _ _ _).setCell (by omega) (by omega) _
  refine ⟨t.cellAt (g.cellAt h.s0 n1) (by omega), t.cellAt (g.cellAt h.s1 n1) (by omega), t.cellAt (g.cellAt h.s2 n1) (by omega), t.frozenAt (by omega) ((g.frozen l.2.2.2.1 n1).trans h.z3), (h.row.block (g.block l.2.2.2.2 n2)).touch t (by omega), ⟨l.1, l.2.1, l.2.2.1, ?_, ?_⟩, v', World.cell?_setCell_same _ _ _ d3, own_setCell o (fun e => (a' pb e.symm).1 rfl), a'⟩
  · have := t.size; omega
  · have := t.size; omega

theorem spot_of_new {w : World} {base n : Nat} {e : TypeId} {v v0 : Value} {xs : List Value} (h : w.ownsRow base e 2 v n xs) (hn : 0 < n) : v.ownBlock = v0.ownBlock ∨ ∃ k, v.ownBlock = some k ∧ base ≤ k := by
  rcases h.2 with ⟨_, h0⟩ | ⟨g, cap, cur, rfl, hb, _⟩
  · omega
  · exact .inr ⟨g, rfl, hb⟩
set_option maxHeartbeats 2000000 in
theorem l3Keep_calls (B0 pb bx N cx br cr W Hb : Nat) (r : Int) (f g : Nat → Int × Int) (bs : List (Int × Int)) (w : World) (st : GSt B0 pb bx N cx r (W : Int) f bs w) (hg : RowR w br 0 W g) (h2 : 2 ≤ W) (h12 : W ≤ 12) (hb : bs.length = Hb * W) (h5 : Hb ≤ 5) :
    Calls Tryz.prog 238 #[.pointer (some ⟨pb, 0, none⟩), .slice (some ⟨br, 0, none⟩) W cr] w fun e w' => (∃ u, e = .returned u) ∧ GSt B0 pb bx N cx r (W : Int) f (lastL (5 * W) (bs ++ mkL W g)) w' ∧ Below B0 w w' := by
  obtain ⟨i0, hi, hz0, hz1, hz2⟩ := info_parts info_cell
  obtain ⟨v, c3, ho, hap⟩ := st.ex
  obtain ⟨av, cv, rfl, hcv⟩ := own_room2 ho
  have hlt := ho.lt
  have hbm : bs.length ≤ 5 * W := by rw [hb]; exact Nat.mul_le_mul_right W h5
  have hbs := st.base
  obtain ⟨L, hL⟩ : ∃ L, bs.length + W = L := ⟨_, rfl⟩
  have HLL := hide hL
  have hL1 : W ≤ L := by omega
  have hL2 : L ≤ 6 * W := by omega
  clear hL
  have s1 := st.s1
  have z3 := st.z3
  have n1 : some pb ≠ (Value.slice av bs.length cv).ownBlock := fun e => (hap pb e.symm).1 rfl
  have ST := hide st
  have HAP := hide hap
  have HB := hide hb
  have HG := hide hg
  have HLT := hide hlt
  have N1 := hide n1
  clear st hap hb hg hlt n1
  go_enter Tryz.func238, Tryz.ntmps238
  go_wp2_with (at_builtin; refine wpList_append_grow _ rfl (.tmp 8) (.tmp 9) 33 rfl B0 193 i0 (.agg #[.int .i64 0, .int .i64 0]) 2 16 Tryz.underlying33 hi hz0 hz1 hz2 rfl (by decide) (.slice av bs.length cv) bs.length (pvs bs) rfl ho ⟨br, 0, none⟩ W cr (cvs W g) rfl (cvs_length _ _) (rowr_cells HG.out) (cvs_one _ _) (by unfold maxLen; omega) (by omega) hbs ?_; intro v2 w1 o2 g2; obtain ⟨a2, c2, rfl, hc2⟩ := own_room2 o2; rw [HLL.out] at o2 hc2 g2 ⊢; have D3 := g2.cellAt c3 N1.out; have E3 := (g2.frozen (o := 3) (by have := ST.out.lo; omega) N1.out).trans z3; have G2 := hide g2; have O2 := hide o2; clear g2 o2)
  have plo : B0 ≤ pb := ST.out.lo.1
  have C3 := World.cell?_setCell_same w1 ⟨pb, 3, none⟩ (.slice a2 L c2) D3
  have HK := hide (GSt.keep ST.out G2.out c3 HAP.out (bs' := bs ++ mkL W g) (by rw [List.length_append, mkL_length, HLL.out, pvs_append, ← cvs_mk]; exact O2.out))
  have HBW := hide ((G2.out.below hbs (fun k hk => HLT.out k hk)).trans (show Below B0 w1 (w1.setCell ⟨pb, 3, none⟩ (.slice a2 L c2)) from (by repeat' (first | with_reducible exact Below.refl _ _ | with_reducible assumption | with_reducible refine Below.drew ?_ | with_reducible refine Below.alloc ?_ ?_ _ | with_reducible refine Below.setCell ?_ ?_ _ | (simp; done) | (simp; omega) | omega))))
  generalize (w1.setCell ⟨pb, 3, none⟩ (.slice a2 L c2)) = wA at *
  clear D3 E3 G2 O2 ho c3 s1 z3 ST HAP HLT N1 HG
  have s1 := HK.out.s1
  have z3 := HK.out.z3
  have hba := HK.out.base
  have z5 : IntKind.i64.wrap (5 * (W : Int)) = 5 * (W : Int) := wrap_small (by omega) (by omega)
  by_cases hbig : 5 * W < L
  · have hbI : 5 * (W : Int) < (L : Int) := by omega
    have e1 : (W : Int) ≤ (L : Int) := by omega
    have e2 : ¬ c2 = W := by omega
    have e3 : ¬ W = c2 := by omega
    refine wp_region_held_drew (S := (fun w' => w'.cell? ⟨pb, 1, none⟩ = some (.int .i64 (W : Int)) ∧ w'.cell? ⟨pb, 3, none⟩ = some (.slice a2 L c2))) (by kernel_rfl) ?_ (fun hHeld => ?_)
    · (try dsimp only); exact ⟨s1, C3⟩
    refine wpAnyH_take (i := 0) (oi := ⟨_, _, _, _, _, _⟩) (v := ?_) rfl (by kernel_rfl) (by kernel_rfl) (by kernel_rfl) (fun _ _ _ h => h) (Or.inl ⟨by rfl, ?_⟩) hHeld ?_
    rotate_left
    · (intro w hSw; (try dsimp only at hSw); go_simp; try (with_reducible rfl))
    try simp only [Act.put, List.setIfInBounds_toArray, List.set_cons_zero, List.set_cons_succ]
    refine wpAnyH_take (i := 1) (oi := ⟨_, _, _, _, _, _⟩) (v := ?_) rfl (by kernel_rfl) (by kernel_rfl) (by kernel_rfl) (fun _ _ _ h => h) (Or.inl ⟨by rfl, ?_⟩) hHeld ?_
    rotate_left
    · (intro w hSw; (try dsimp only at hSw); go_simp; try (with_reducible rfl))
    try simp only [Act.put, List.setIfInBounds_toArray, List.set_cons_zero, List.set_cons_succ]
    refine wpAnyH_take (i := 2) (oi := ⟨_, _, _, _, _, _⟩) (v := ?_) rfl (by kernel_rfl) (by kernel_rfl) (by kernel_rfl) (fun _ _ _ h => h) (Or.inl ⟨by rfl, ?_⟩) hHeld ?_
    rotate_left
    · (intro w hSw; (try dsimp only at hSw); go_simp; try (with_reducible rfl))
    try simp only [Act.put, List.setIfInBounds_toArray, List.set_cons_zero, List.set_cons_succ]
    refine wpAnyH_take (i := 3) (oi := ⟨_, _, _, _, _, _⟩) (v := ?_) rfl (by kernel_rfl) (by kernel_rfl) (by kernel_rfl) (fun _ _ _ h => h) (Or.inl ⟨by rfl, ?_⟩) hHeld ?_
    rotate_left
    · (intro w hSw; (try dsimp only at hSw); go_simp; try (with_reducible rfl))
    try simp only [Act.put, List.setIfInBounds_toArray, List.set_cons_zero, List.set_cons_succ]
    refine wpAnyH_take (i := 4) (oi := ⟨_, _, _, _, _, _⟩) (v := ?_) rfl (by kernel_rfl) (by kernel_rfl) (by kernel_rfl) (fun _ _ _ h => h) (Or.inl ⟨by rfl, ?_⟩) hHeld ?_
    rotate_left
    · (intro w hSw; (try dsimp only at hSw); go_simp; try (with_reducible rfl))
    try simp only [Act.put, List.setIfInBounds_toArray, List.set_cons_zero, List.set_cons_succ]
    refine wpAnyH_take (i := 5) (oi := ⟨_, _, _, _, _, _⟩) (v := ?_) rfl (by kernel_rfl) (by kernel_rfl) (by kernel_rfl) (fun _ _ _ h => h) (Or.inl ⟨by rfl, ?_⟩) hHeld ?_
    rotate_left
    · (intro w hSw; (try dsimp only at hSw); go_simp; try (with_reducible rfl))
    try simp only [Act.put, List.setIfInBounds_toArray, List.set_cons_zero, List.set_cons_succ]
    refine wpAnyH_take (i := 6) (oi := ⟨_, _, _, _, _, _⟩) (v := ?_) rfl (by kernel_rfl) (by kernel_rfl) (by kernel_rfl) (fun _ _ _ h => h) (Or.inl ⟨by rfl, ?_⟩) hHeld ?_
    rotate_left
    · (intro w hSw; (try dsimp only at hSw); go_simp; try (with_reducible rfl))
    try simp only [Act.put, List.setIfInBounds_toArray, List.set_cons_zero, List.set_cons_succ]
    refine wpAnyH_take (i := 7) (oi := ⟨_, _, _, _, _, _⟩) (v := ?_) rfl (by kernel_rfl) (by kernel_rfl) (by kernel_rfl) (fun _ _ _ h => h) (Or.inl ⟨by rfl, ?_⟩) hHeld ?_
    rotate_left
    · (intro w hSw; (try dsimp only at hSw); go_simp; try (with_reducible rfl))
    try simp only [Act.put, List.setIfInBounds_toArray, List.set_cons_zero, List.set_cons_succ]
    refine wpAnyH_take (i := 8) (oi := ⟨_, _, _, _, _, _⟩) (v := ?_) rfl (by kernel_rfl) (by kernel_rfl) (by kernel_rfl) (fun _ _ _ h => h) (Or.inl ⟨by rfl, ?_⟩) hHeld ?_
    rotate_left
    · (intro w hSw; (try dsimp only at hSw); go_simp; try (with_reducible rfl))
    try simp only [Act.put, List.setIfInBounds_toArray, List.set_cons_zero, List.set_cons_succ]
    refine wpAnyH_take (i := 9) (oi := ⟨_, _, _, _, _, _⟩) (v := ?_) rfl (by kernel_rfl) (by kernel_rfl) (by kernel_rfl) (fun _ _ _ h => h) (Or.inl ⟨by rfl, ?_⟩) hHeld ?_
    rotate_left
    · (intro w hSw; (try dsimp only at hSw); go_simp; try (with_reducible rfl))
    try simp only [Act.put, List.setIfInBounds_toArray, List.set_cons_zero, List.set_cons_succ]
    refine wpAnyH_take (i := 10) (oi := ⟨_, _, _, _, _, _⟩) (v := ?_) rfl (by kernel_rfl) (by kernel_rfl) (by kernel_rfl) (fun _ _ _ h => h) (Or.inl ⟨by rfl, ?_⟩) hHeld ?_
    rotate_left
    · (intro w hSw; (try dsimp only at hSw); go_simp; try (with_reducible rfl))
    try simp only [Act.put, List.setIfInBounds_toArray, List.set_cons_zero, List.set_cons_succ]
    refine wpAnyH_done (by kernel_rfl) ?_ _
    clear hHeld
    replace HK := hide (HK.out.below (show Below wA.heap.size wA wA.drew from below_drewN (Below.refl _ _) 1))
    replace HBW := hide (HBW.out.trans (show Below B0 wA wA.drew from below_drewN (Below.refl _ _) 1))
    replace C3 : wA.drew.cell? ⟨pb, 3, none⟩ = some (.slice a2 L c2) := C3
    replace s1 : wA.drew.cell? ⟨pb, 1, none⟩ = some (.int .i64 (W : Int)) := s1
    replace z3 : wA.drew.frozen? ⟨pb, 3, none⟩ = false := z3
    replace hba : B0 ≤ wA.drew.heap.size := hba
    generalize wA.drew = wC at *
    clear wA
    rename World => wA
    go_wp2_with fail
    obtain ⟨v', c', o', a'⟩ := HK.out.ex
    rw [C3] at c'
    injection c' with c'
    subst c'
    have hpv : PRead wA (.slice a2 L c2) (bs ++ mkL W g) := (own_pairs o' (Nat.le_refl _)).read
    have hlow := pread_low hpv hc2 W (by rw [List.length_append, mkL_length]; omega)
    rw [if_neg e2] at hlow
    obtain ⟨ba, hba2⟩ : ∃ ba, a2 = some ⟨ba, 0, none⟩ := by
      obtain ⟨b9, c9, e9, _⟩ := own_row o' (by rw [List.length_append, mkL_length]; omega)
      injection e9 with e9
      exact ⟨b9, e9⟩
    subst hba2
    have hpr : PRead (wA.drew.alloc (.cells #[] 193)) (.slice (some ⟨ba, W * 2, none⟩) (L - W) (c2 - W)) ((bs ++ mkL W g).drop W) := by
      have h := hlow.below (w' := wA.drew.alloc (.cells #[] 193)) (by repeat' (first | with_reducible exact Below.refl _ _ | with_reducible assumption | with_reducible refine Below.drew ?_ | with_reducible refine Below.alloc ?_ ?_ _ | with_reducible refine Below.setCell ?_ ?_ _ | (simp; done) | (simp; omega) | omega))
      have hw0 : ¬ W * 2 = 0 := by omega
      simpa [Addr.add, hw0] using h
    have HA := hide a'
    clear o' a' hpv hlow
    have hlit : (wA.drew.alloc (.cells #[] 193)).ownsRow wA.heap.size 193 2 (.slice (some ⟨wA.heap.size, 0, none⟩) 0 0) 0 (pvs []) := World.ownsRow_lit (base := wA.heap.size) (e := 193) (size := 2) wA.drew #[] 0 (Nat.le_refl _) (by simp) rfl
    have hbal : Below wA.heap.size wA (wA.alloc (.cells #[] 193)) := (by repeat' (first | with_reducible exact Below.refl _ _ | with_reducible assumption | with_reducible refine Below.drew ?_ | with_reducible refine Below.alloc ?_ ?_ _ | with_reducible refine Below.setCell ?_ ?_ _ | (simp; done) | (simp; omega) | omega))
    have K1 := cellb hbal s1
    have K3 := cellb hbal C3
    refine till_region [14] (S := (fun w' => w'.cell? ⟨pb, 1, none⟩ = some (.int .i64 (W : Int)) ∧ w'.cell? ⟨pb, 3, none⟩ = some (.slice (some ⟨ba, 0, none⟩) L c2))) (by kernel_rfl) ?_ (fun hHeld => ?_)
    · (try dsimp only); exact ⟨s1, C3⟩
    refine till_take (i := 0) (oi := ⟨_, _, _, _, _, _⟩) (v := ?_) rfl (by kernel_rfl) (by kernel_rfl) (by kernel_rfl) (by kernel_rfl) (fun _ _ _ h => h) (Or.inl ⟨by rfl, ?_⟩) hHeld ?_
    rotate_left
    · (intro w hSw; (try dsimp only at hSw); go_simp; try (with_reducible rfl))
    try simp only [Act.put, List.setIfInBounds_toArray, List.set_cons_zero, List.set_cons_succ]
    refine till_take (i := 2) (oi := ⟨_, _, _, _, _, _⟩) (v := ?_) rfl (by kernel_rfl) (by kernel_rfl) (by kernel_rfl) (by kernel_rfl) (fun _ _ _ h => h) (Or.inl ⟨by rfl, ?_⟩) hHeld ?_
    rotate_left
    · (intro w hSw; (try dsimp only at hSw); go_simp; try (with_reducible rfl))
    try simp only [Act.put, List.setIfInBounds_toArray, List.set_cons_zero, List.set_cons_succ]
    refine till_take (i := 3) (oi := ⟨_, _, _, _, _, _⟩) (v := ?_) rfl (by kernel_rfl) (by kernel_rfl) (by kernel_rfl) (by kernel_rfl) (fun _ _ _ h => h) (Or.inl ⟨by rfl, ?_⟩) hHeld ?_
    rotate_left
    · (intro w hSw; (try dsimp only at hSw); go_simp; try (with_reducible rfl))
    try simp only [Act.put, List.setIfInBounds_toArray, List.set_cons_zero, List.set_cons_succ]
    refine till_take (i := 4) (oi := ⟨_, _, _, _, _, _⟩) (v := ?_) rfl (by kernel_rfl) (by kernel_rfl) (by kernel_rfl) (by kernel_rfl) (fun _ _ _ h => h) (Or.inl ⟨by rfl, ?_⟩) hHeld ?_
    rotate_left
    · (intro w hSw; (try dsimp only at hSw); go_simp; try (with_reducible rfl))
    try simp only [Act.put, List.setIfInBounds_toArray, List.set_cons_zero, List.set_cons_succ]
    refine till_take (i := 5) (oi := ⟨_, _, _, _, _, _⟩) (v := ?_) rfl (by kernel_rfl) (by kernel_rfl) (by kernel_rfl) (by kernel_rfl) (fun _ _ _ h => h) (Or.inl ⟨by rfl, ?_⟩) hHeld ?_
    rotate_left
    · (intro w hSw; (try dsimp only at hSw); go_simp; try (with_reducible rfl))
    try simp only [Act.put, List.setIfInBounds_toArray, List.set_cons_zero, List.set_cons_succ]
    refine till_take (i := 6) (oi := ⟨_, _, _, _, _, _⟩) (v := ?_) rfl (by kernel_rfl) (by kernel_rfl) (by kernel_rfl) (by kernel_rfl) (fun _ _ _ h => h) (Or.inl ⟨by rfl, ?_⟩) hHeld ?_
    rotate_left
    · (intro w hSw; (try dsimp only at hSw); go_simp; try (with_reducible rfl))
    try simp only [Act.put, List.setIfInBounds_toArray, List.set_cons_zero, List.set_cons_succ]
    refine till_take (i := 7) (oi := ⟨_, _, _, _, _, _⟩) (v := ?_) rfl (by kernel_rfl) (by kernel_rfl) (by kernel_rfl) (by kernel_rfl) (fun _ _ _ h => h) (Or.inl ⟨by rfl, ?_⟩) hHeld ?_
    rotate_left
    · (intro w hSw; (try dsimp only at hSw); go_simp; try (with_reducible rfl))
    try simp only [Act.put, List.setIfInBounds_toArray, List.set_cons_zero, List.set_cons_succ]
    refine till_take (i := 8) (oi := ⟨_, _, _, _, _, _⟩) (v := ?_) rfl (by kernel_rfl) (by kernel_rfl) (by kernel_rfl) (by kernel_rfl) (fun _ _ _ h => h) (Or.inl ⟨by rfl, ?_⟩) hHeld ?_
    rotate_left
    · (intro w hSw; (try dsimp only at hSw); go_simp; try (with_reducible rfl))
    try simp only [Act.put, List.setIfInBounds_toArray, List.set_cons_zero, List.set_cons_succ]
    refine till_take (i := 9) (oi := ⟨_, _, _, _, _, _⟩) (v := ?_) rfl (by kernel_rfl) (by kernel_rfl) (by kernel_rfl) (by kernel_rfl) (fun _ _ _ h => h) (Or.inl ⟨by rfl, ?_⟩) hHeld ?_
    rotate_left
    · (intro w hSw; (try dsimp only at hSw); go_simp; try (with_reducible rfl))
    try simp only [Act.put, List.setIfInBounds_toArray, List.set_cons_zero, List.set_cons_succ]
    refine till_take (i := 10) (oi := ⟨_, _, _, _, _, _⟩) (v := ?_) rfl (by kernel_rfl) (by kernel_rfl) (by kernel_rfl) (by kernel_rfl) (fun _ _ _ h => h) (Or.inl ⟨by rfl, ?_⟩) hHeld ?_
    rotate_left
    · (intro w hSw; (try dsimp only at hSw); go_simp; try (with_reducible rfl))
    try simp only [Act.put, List.setIfInBounds_toArray, List.set_cons_zero, List.set_cons_succ]
    refine till_ready (rs := [1]) (by kernel_rfl) (by simp) ?_
    refine (EachTill.cons (o := ⟨_, _, _, _, _, _⟩) rfl (fun K hK => ?_) EachTill.nil)
    go_simp
    refine hK.out _ _ ?_ ?_
    · (try dsimp only); exact ⟨K1, K3⟩
    clear hHeld hK K
    intro hHeld
    try simp only [Act.put, List.setIfInBounds_toArray, List.set_cons_zero, List.set_cons_succ]
    refine till_ready (rs := [11]) (by kernel_rfl) (by simp) ?_
    refine (EachTill.cons (o := ⟨_, _, _, _, _, _⟩) rfl (fun K hK => ?_) EachTill.nil)
    refine step_append_pread rfl (.tmp 25) (.tmp 34) 33 rfl wA.heap.size 193 i0 (.agg #[.int .i64 0, .int .i64 0]) 16 Tryz.underlying33 hi hz0 hz1 hz2 rfl _ 0 [] rfl hlit (some ⟨ba, W * 2, none⟩) ((bs ++ mkL W g).drop W) (L - W) (c2 - W) rfl (by rw [List.length_drop, List.length_append, mkL_length, HLL.out]) hpr (by unfold maxLen; omega) (by omega) (by show wA.heap.size ≤ (wA.drew.alloc _).heap.size; simp) ?_
    intro v3 w3 hown3 hgr3
    have hb3 : Below wA.heap.size wA w3 := (((below_drewN (Below.refl _ _) 1).alloc (Nat.le_refl _) _) : Below wA.heap.size wA (wA.drew.alloc (.cells #[] 193))).grown hgr3 (by show wA.heap.size ≤ (wA.drew.alloc _).heap.size; simp) (fun q hq => (hlit.lt q hq).1)
    replace K1 := cellb hb3 s1
    replace K3 := cellb hb3 C3
    have F3 : w3.frozen? ⟨pb, 3, none⟩ = false := (hb3.frozen (p := ⟨pb, 3, none⟩) (by have := HK.out.lo; show pb < _; omega)).trans z3
    try simp only [List.nil_append, Nat.zero_add] at hown3
    obtain ⟨a3, c3, rfl, hvc⟩ := own_room2 hown3
    have HO := hide hown3
    have HB3 := hide hb3
    clear hown3 hgr3 hb3
    refine hK.out _ _ ?_ ?_
    · (try dsimp only); exact ⟨K1, K3⟩
    clear hHeld hK K
    intro hHeld
    try simp only [Act.put, List.setIfInBounds_toArray, List.set_cons_zero, List.set_cons_succ]
    refine till_ready (rs := [12]) (by kernel_rfl) (by simp) ?_
    refine (EachTill.cons (o := ⟨_, _, _, _, _, _⟩) rfl (fun K hK => ?_) EachTill.nil)
    go_simp
    refine hK.out _ _ ?_ ?_
    · (try dsimp only); exact ⟨K1, K3⟩
    clear hHeld hK K
    intro hHeld
    try simp only [Act.put, List.setIfInBounds_toArray, List.set_cons_zero, List.set_cons_succ]
    refine till_ready (rs := [13]) (by kernel_rfl) (by simp) ?_
    refine (EachTill.cons (o := ⟨_, _, _, _, _, _⟩) rfl (fun K hK => ?_) EachTill.nil)
    go_simp
    refine hK.out _ _ ?_ ?_
    · (try dsimp only); exact ⟨K1, K3⟩
    clear hHeld hK K
    intro hHeld
    try simp only [Act.put, List.setIfInBounds_toArray, List.set_cons_zero, List.set_cons_succ]
    refine till_ready (rs := [14]) (by kernel_rfl) (by simp) ?_
    refine (EachTill.last (o := ⟨_, _, _, _, _, _⟩) rfl rfl (fun K hK => ?_) EachTill.nil)
    go_simp
    have HK3 := hide (GSt.keep (v := .slice (some ⟨ba, 0, none⟩) L c2) (v' := .slice a3 (L - W) c3) (bs' := (bs ++ mkL W g).drop W) HK.out ⟨(GrowTo.of_below HB3.out (.slice (some ⟨ba, 0, none⟩) L c2)).grown, spot_of_new HO.out (by omega)⟩ C3 HA.out (own_base (by rw [show ((bs ++ mkL W g).drop W).length = L - W by rw [List.length_drop, List.length_append, mkL_length, HLL.out]]; exact HO.out) hba))
    replace HB3 := hide ((HB3.out.mono hba).trans (show Below B0 w3 (w3.setCell ⟨pb, 3, none⟩ (.slice a3 (L - W) c3)) from (by repeat' (first | with_reducible exact Below.refl _ _ | with_reducible assumption | with_reducible refine Below.drew ?_ | with_reducible refine Below.alloc ?_ ?_ _ | with_reducible refine Below.setCell ?_ ?_ _ | (simp; done) | (simp; omega) | omega))))
    generalize (w3.setCell ⟨pb, 3, none⟩ (.slice a3 (L - W) c3)) = wB at *
    refine hK.out _ _ ?_ ?_
    · (try dsimp only); skip
    clear hHeld hK K
    intro hHeld
    try simp only [Act.put, List.setIfInBounds_toArray, List.set_cons_zero, List.set_cons_succ]
    refine till_done (by kernel_rfl) ?_ _
    clear hHeld
    go_wp2
    go_end0
    have hl : (bs ++ mkL W g).length = L := by rw [List.length_append, mkL_length]; exact HLL.out
    have hlast : lastL (5 * W) (bs ++ mkL W g) = (bs ++ mkL W g).drop W := by
      have h1 := HB.out
      have h2 : L = 6 * W := by
        have h3 := HLL.out
        have h4 : Hb = 5 := by
          rcases Nat.lt_or_ge Hb 5 with h | h
          · have := Nat.mul_le_mul_right W (show Hb ≤ 4 by omega)
            omega
          · omega
        rw [h4] at h1
        omega
      unfold lastL
      rw [hl, show L - 5 * W = W by omega]
    rw [hlast]
    exact ⟨⟨_, rfl⟩, HK3.out, HBW.out.trans HB3.out⟩
  · have hbI : ¬ 5 * (W : Int) < (L : Int) := by omega
    refine wp_region_held_drew (S := (fun w' => w'.cell? ⟨pb, 1, none⟩ = some (.int .i64 (W : Int)) ∧ w'.cell? ⟨pb, 3, none⟩ = some (.slice a2 L c2))) (by kernel_rfl) ?_ (fun hHeld => ?_)
    · (try dsimp only); exact ⟨s1, C3⟩
    refine wpAnyH_take (i := 0) (oi := ⟨_, _, _, _, _, _⟩) (v := ?_) rfl (by kernel_rfl) (by kernel_rfl) (by kernel_rfl) (fun _ _ _ h => h) (Or.inl ⟨by rfl, ?_⟩) hHeld ?_
    rotate_left
    · (intro w hSw; (try dsimp only at hSw); go_simp; try (with_reducible rfl))
    try simp only [Act.put, List.setIfInBounds_toArray, List.set_cons_zero, List.set_cons_succ]
    refine wpAnyH_take (i := 1) (oi := ⟨_, _, _, _, _, _⟩) (v := ?_) rfl (by kernel_rfl) (by kernel_rfl) (by kernel_rfl) (fun _ _ _ h => h) (Or.inl ⟨by rfl, ?_⟩) hHeld ?_
    rotate_left
    · (intro w hSw; (try dsimp only at hSw); go_simp; try (with_reducible rfl))
    try simp only [Act.put, List.setIfInBounds_toArray, List.set_cons_zero, List.set_cons_succ]
    refine wpAnyH_take (i := 2) (oi := ⟨_, _, _, _, _, _⟩) (v := ?_) rfl (by kernel_rfl) (by kernel_rfl) (by kernel_rfl) (fun _ _ _ h => h) (Or.inl ⟨by rfl, ?_⟩) hHeld ?_
    rotate_left
    · (intro w hSw; (try dsimp only at hSw); go_simp; try (with_reducible rfl))
    try simp only [Act.put, List.setIfInBounds_toArray, List.set_cons_zero, List.set_cons_succ]
    refine wpAnyH_take (i := 3) (oi := ⟨_, _, _, _, _, _⟩) (v := ?_) rfl (by kernel_rfl) (by kernel_rfl) (by kernel_rfl) (fun _ _ _ h => h) (Or.inl ⟨by rfl, ?_⟩) hHeld ?_
    rotate_left
    · (intro w hSw; (try dsimp only at hSw); go_simp; try (with_reducible rfl))
    try simp only [Act.put, List.setIfInBounds_toArray, List.set_cons_zero, List.set_cons_succ]
    refine wpAnyH_take (i := 4) (oi := ⟨_, _, _, _, _, _⟩) (v := ?_) rfl (by kernel_rfl) (by kernel_rfl) (by kernel_rfl) (fun _ _ _ h => h) (Or.inl ⟨by rfl, ?_⟩) hHeld ?_
    rotate_left
    · (intro w hSw; (try dsimp only at hSw); go_simp; try (with_reducible rfl))
    try simp only [Act.put, List.setIfInBounds_toArray, List.set_cons_zero, List.set_cons_succ]
    refine wpAnyH_take (i := 5) (oi := ⟨_, _, _, _, _, _⟩) (v := ?_) rfl (by kernel_rfl) (by kernel_rfl) (by kernel_rfl) (fun _ _ _ h => h) (Or.inl ⟨by rfl, ?_⟩) hHeld ?_
    rotate_left
    · (intro w hSw; (try dsimp only at hSw); go_simp; try (with_reducible rfl))
    try simp only [Act.put, List.setIfInBounds_toArray, List.set_cons_zero, List.set_cons_succ]
    refine wpAnyH_take (i := 6) (oi := ⟨_, _, _, _, _, _⟩) (v := ?_) rfl (by kernel_rfl) (by kernel_rfl) (by kernel_rfl) (fun _ _ _ h => h) (Or.inl ⟨by rfl, ?_⟩) hHeld ?_
    rotate_left
    · (intro w hSw; (try dsimp only at hSw); go_simp; try (with_reducible rfl))
    try simp only [Act.put, List.setIfInBounds_toArray, List.set_cons_zero, List.set_cons_succ]
    refine wpAnyH_take (i := 7) (oi := ⟨_, _, _, _, _, _⟩) (v := ?_) rfl (by kernel_rfl) (by kernel_rfl) (by kernel_rfl) (fun _ _ _ h => h) (Or.inl ⟨by rfl, ?_⟩) hHeld ?_
    rotate_left
    · (intro w hSw; (try dsimp only at hSw); go_simp; try (with_reducible rfl))
    try simp only [Act.put, List.setIfInBounds_toArray, List.set_cons_zero, List.set_cons_succ]
    refine wpAnyH_take (i := 8) (oi := ⟨_, _, _, _, _, _⟩) (v := ?_) rfl (by kernel_rfl) (by kernel_rfl) (by kernel_rfl) (fun _ _ _ h => h) (Or.inl ⟨by rfl, ?_⟩) hHeld ?_
    rotate_left
    · (intro w hSw; (try dsimp only at hSw); go_simp; try (with_reducible rfl))
    try simp only [Act.put, List.setIfInBounds_toArray, List.set_cons_zero, List.set_cons_succ]
    refine wpAnyH_take (i := 9) (oi := ⟨_, _, _, _, _, _⟩) (v := ?_) rfl (by kernel_rfl) (by kernel_rfl) (by kernel_rfl) (fun _ _ _ h => h) (Or.inl ⟨by rfl, ?_⟩) hHeld ?_
    rotate_left
    · (intro w hSw; (try dsimp only at hSw); go_simp; try (with_reducible rfl))
    try simp only [Act.put, List.setIfInBounds_toArray, List.set_cons_zero, List.set_cons_succ]
    refine wpAnyH_take (i := 10) (oi := ⟨_, _, _, _, _, _⟩) (v := ?_) rfl (by kernel_rfl) (by kernel_rfl) (by kernel_rfl) (fun _ _ _ h => h) (Or.inl ⟨by rfl, ?_⟩) hHeld ?_
    rotate_left
    · (intro w hSw; (try dsimp only at hSw); go_simp; try (with_reducible rfl))
    try simp only [Act.put, List.setIfInBounds_toArray, List.set_cons_zero, List.set_cons_succ]
    refine wpAnyH_done (by kernel_rfl) ?_ _
    clear hHeld
    replace HK := hide (HK.out.below (show Below wA.heap.size wA wA.drew from below_drewN (Below.refl _ _) 1))
    replace HBW := hide (HBW.out.trans (show Below B0 wA wA.drew from below_drewN (Below.refl _ _) 1))
    replace C3 : wA.drew.cell? ⟨pb, 3, none⟩ = some (.slice a2 L c2) := C3
    replace s1 : wA.drew.cell? ⟨pb, 1, none⟩ = some (.int .i64 (W : Int)) := s1
    replace z3 : wA.drew.frozen? ⟨pb, 3, none⟩ = false := z3
    replace hba : B0 ≤ wA.drew.heap.size := hba
    generalize wA.drew = wC at *
    clear wA
    rename World => wA
    go_wp2
    go_end0
    have hl : (bs ++ mkL W g).length = L := by rw [List.length_append, mkL_length]; exact HLL.out
    rw [lastL_short (by omega)]
    exact ⟨⟨_, rfl⟩, HK.out, HBW.out⟩
end Go.Proofs.YtdekegjplegkeaaGreat
