/-
  For every terminal and every two int64 the law FnExactResizeVt returns true: impl.ResizeVt answers at each terminal and each size what the model's ResizeVt answers, every field; its lists are memory of its own, and it turns no argument. No condition (the law itself passes terminals of more than 1048576 numbers, cells, tab stops and tables together by).
-/
import Derived.Test.YtdekegjplegkeaaGreatGridRes
import Derived.Test.YtdekegjplegkeaaGreatSlideFns
import Derived.Test.YtdekegjplegkeaaGreatPairAppend
import Derived.Test.YtdekegjplegkeaaGreatPlaceFns
import Derived.Deep.RegionHeld
import Derived.Deep.RegionHeld3
import Derived.RangeFuncNested
import Derived.RangeFuncBound
import Derived.RangeFuncCalls
import Derived.RangeFuncLeaves
import Derived.Shelf.Abstract
import Derived.Shelf.RegionOpen
import Derived.WalkKit
import Derived.OwnWalkIn
import Derived.TacticsInMore
import Derived.LoopNIn
import Derived.LoopIn
import Derived.Test.YtdekegjplegkeaaGreatGrow
import Derived.Test.YtdekegjplegkeaaGreatResMem
import Derived.Maps.OwnIn
import Derived.Test.YtdekegjplegkeaaGreatSheetFns
import Derived.Test.YtdekegjplegkeaaGreatUntil
import Derived.Test.YtdekegjplegkeaaGreatNewFns
import Derived.Test.YtdekegjplegkeaaGreatScrFns
import Derived.Test.YtdekegjplegkeaaGreatSegMem
import Derived.Deep.QuietTactic
import Derived.BigQuiet
import Derived.Test.YtdekegjplegkeaaGreatOwnScr
import Derived.Test.YtdekegjplegkeaaGreatScrNew2
import Derived.Test.YtdekegjplegkeaaGreatScrFault2
import Derived.Test.YtdekegjplegkeaaGreatCopyNew
import Derived.Test.YtdekegjplegkeaaGreatMem
import Derived.Test.YtdekegjplegkeaaGreatOffScr
import Derived.Test.YtdekegjplegkeaaGreatRows
import Derived.Test.YtdekegjplegkeaaGreatStepMath
import Derived.RegionTactic
import Derived.Test.YtdekegjplegkeaaGreatAppendRead
import Derived.Test.YtdekegjplegkeaaGreatVtNew
import Derived.Test.YtdekegjplegkeaaGreatVtFaults
import Derived.Test.YtdekegjplegkeaaGreatGridFns
import Derived.Test.YtdekegjplegkeaaGreatCellFns
import Derived.Test.YtdekegjplegkeaaGreatVtFns
import Derived.Test.YtdekegjplegkeaaGreatPairMem
import Derived.ProofKit
import Derived.OpenShut
import Derived.Below
import Derived.Deep.SlicePairs
import Derived.Lib.SmallJoins
import Derived.Test.YtdekegjplegkeaaGreatScrMem
import Derived.ChangeSlices
import Derived.Deep.Grids
import Derived.Test.YtdekegjplegkeaaGreatVtMem
import Derived.ShutString
import Derived.ChangeOld
/- Places and rows of a grid: impl.isPlace; spec.l3Place, l3RowOf, l3Row. -/
namespace Go.Proofs.YtdekegjplegkeaaGreat
set_option maxRecDepth 20000
open Go.ChangeShapes Go.WideShapes Go.ChangeAt Go.RowKit
set_option linter.unusedVariables false
set_option linter.unusedSimpArgs false
set_option maxRecDepth 20000

theorem pread_of_row {w : World} {b off n cap : Nat} {f : Nat → Int × Int} (h : RowR w b off n f) : PRead w (.slice (some ⟨b, off, none⟩) n cap) (mkL n f) := by
  refine ⟨_, _, by rw [mkL_length], .inr ⟨b, off, rfl, fun i hi => ?_⟩⟩
  rw [mkL_length] at hi
  rw [mkL_get _ _ _ hi]
  exact h i hi

set_option maxHeartbeats 2000000 in
theorem l3RowOf_calls (pb bx n cx k m u : Nat) (y wd : Int) (f : Nat → Int × Int) (w : World) (c1 : w.cell? ⟨pb, 1, none⟩ = some (.int .i64 wd)) (c2 : w.cell? ⟨pb, 2, none⟩ = some (.slice (some ⟨bx, 0, none⟩) n cx)) (hr : RowR w bx 0 n f) (hc : n ≤ cx)
    (hk : y * wd = (k : Int)) (hm : wd = (m : Int)) (hu : u = k + m) (hun : u ≤ n) (hn : n ≤ 1048576) (hm0 : 0 < m) (y0 : 0 ≤ y) (y1 : y ≤ 1000) :
    Calls Tryz.prog 194 #[.pointer (some ⟨pb, 0, none⟩), .int .i64 y] w fun e w' => ∃ v, e = .returned v ∧ w'.ownsRow w.heap.size 193 2 v m (pvs (mkL m (fun i => f (k + i)))) ∧ Below w.heap.size w w' := by
  obtain ⟨i0, hi, hz0, hz1, hz2⟩ := info_parts info_cell
  have e1 : IntKind.i64.wrap (y * wd) = (k : Int) := by rw [hk]; exact wrap_small (by omega) (by omega)
  have e2 : IntKind.i64.wrap ((y + 1) * wd) = (u : Int) := by rw [Int.add_mul, hk, hm]; rw [show (k : Int) + 1 * (m : Int) = (u : Int) by omega]; exact wrap_small (by omega) (by omega)
  have e3 : IntKind.i64.wrap (y + 1) = y + 1 := wrap_small (by omega) (by omega)
  have e4 : u ≤ cx := by omega
  have e5 : (k : Int) ≤ (u : Int) := by omega
  have e6 : (u : Int) ≤ (cx : Int) := by omega
  have e7 : ¬ cx = k := by omega
  have e8 : ¬ k = cx := by omega
  have e9 : k ≤ u := by omega
  have HK := hide hk
  have HM := hide hm
  have HU := hide hu
  clear hk hm
  have hpr : PRead (w.drew.alloc (.cells #[] 193)) (.slice (some ⟨bx, k * 2, none⟩) (u - k) (cx - k)) (mkL (u - k) (fun i => f (k + i))) := by
    have h := (hr.sub k (u - k) (by omega)).below (B := w.heap.size) (w' := w.drew.alloc (.cells #[] 193)) (by repeat' (first | with_reducible exact Below.refl _ _ | with_reducible assumption | with_reducible refine Below.drew ?_ | with_reducible refine Below.alloc ?_ ?_ _ | with_reducible refine Below.setCell ?_ ?_ _ | (simp; done) | (simp; omega) | omega)) (hr.lt (by omega))
    rw [Nat.zero_add] at h
    exact pread_of_row h
  clear hu hr
  go_enter Tryz.func194, Tryz.ntmps194
  go_wp2_with fail
  have hlit : (w.drew.alloc (.cells #[] 193)).ownsRow w.heap.size 193 2 (.slice (some ⟨w.heap.size, 0, none⟩) 0 0) 0 (pvs []) := World.ownsRow_lit (base := w.heap.size) (e := 193) (size := 2) w.drew #[] 0 (Nat.le_refl _) (by simp) rfl
  have hba : Below w.heap.size w (w.alloc (.cells #[] 193)) := (by repeat' (first | with_reducible exact Below.refl _ _ | with_reducible assumption | with_reducible refine Below.drew ?_ | with_reducible refine Below.alloc ?_ ?_ _ | with_reducible refine Below.setCell ?_ ?_ _ | (simp; done) | (simp; omega) | omega))
  have K1 := cellb hba c1
  have K2 := cellb hba c2
  refine wp_region_held_drew (S := (fun w' => w'.cell? ⟨pb, 1, none⟩ = some (.int .i64 wd) ∧ w'.cell? ⟨pb, 2, none⟩ = some (.slice (some ⟨bx, 0, none⟩) n cx))) (by kernel_rfl) ?_ (fun hHeld => ?_)
  · (try dsimp only); exact ⟨c1, c2⟩
  refine wpAnyH_take (i := 1) (oi := ⟨_, _, _, _, _, _⟩) (v := ?_) rfl (by kernel_rfl) (by kernel_rfl) (by kernel_rfl) (fun _ _ _ h => h) (Or.inl ⟨by rfl, ?_⟩) hHeld ?_
  rotate_left
  · (intro w hSw; (try dsimp only at hSw); go_simp; try (with_reducible rfl))
  try simp only [Act.put, List.setIfInBounds_toArray, List.set_cons_zero, List.set_cons_succ]
  refine wpAnyH_take (i := 2) (oi := ⟨_, _, _, _, _, _⟩) (v := ?_) rfl (by kernel_rfl) (by kernel_rfl) (by kernel_rfl) (fun _ _ _ h => h) (Or.inl ⟨by rfl, ?_⟩) hHeld ?_
  rotate_left
  · (intro w hSw; (try dsimp only at hSw); go_simp; try (with_reducible rfl))
  try simp only [Act.put, List.setIfInBounds_toArray, List.set_cons_zero, List.set_cons_succ]
  refine wpAnyH_take (i := 3) (oi := ⟨_, _, _, _, _, _⟩) (v := ?_) rfl (by kernel_rfl) (by kernel_rfl) (by kernel_rfl) (fun _ _ _ h => h) (Or.inl ⟨by rfl, ?_⟩) hHeld ?_
  rotate_left
  · (intro w hSw; (try dsimp only at hSw); go_simp; try (with_reducible rfl))
  try simp only [Act.put, List.setIfInBounds_toArray, List.set_cons_zero, List.set_cons_succ]
  refine wpAnyH_take (i := 4) (oi := ⟨_, _, _, _, _, _⟩) (v := ?_) rfl (by kernel_rfl) (by kernel_rfl) (by kernel_rfl) (fun _ _ _ h => h) (Or.inl ⟨by rfl, ?_⟩) hHeld ?_
  rotate_left
  · (intro w hSw; (try dsimp only at hSw); go_simp; try (with_reducible rfl))
  try simp only [Act.put, List.setIfInBounds_toArray, List.set_cons_zero, List.set_cons_succ]
  refine wpAnyH_take (i := 5) (oi := ⟨_, _, _, _, _, _⟩) (v := ?_) rfl (by kernel_rfl) (by kernel_rfl) (by kernel_rfl) (fun _ _ _ h => h) (Or.inl ⟨by rfl, ?_⟩) hHeld ?_
  rotate_left
  · (intro w hSw; (try dsimp only at hSw); go_simp; try (with_reducible rfl))
  try simp only [Act.put, List.setIfInBounds_toArray, List.set_cons_zero, List.set_cons_succ]
  refine wpAnyH_take (i := 6) (oi := ⟨_, _, _, _, _, _⟩) (v := ?_) rfl (by kernel_rfl) (by kernel_rfl) (by kernel_rfl) (fun _ _ _ h => h) (Or.inl ⟨by rfl, ?_⟩) hHeld ?_
  rotate_left
  · (intro w hSw; (try dsimp only at hSw); go_simp; try (with_reducible rfl))
  try simp only [Act.put, List.setIfInBounds_toArray, List.set_cons_zero, List.set_cons_succ]
  refine wpAnyH_take (i := 7) (oi := ⟨_, _, _, _, _, _⟩) (v := ?_) rfl (by kernel_rfl) (by kernel_rfl) (by kernel_rfl) (fun _ _ _ h => h) (Or.inl ⟨by rfl, ?_⟩) hHeld ?_
  rotate_left
  · (intro w hSw; (try dsimp only at hSw); go_simp; try (with_reducible rfl))
  try simp only [Act.put, List.setIfInBounds_toArray, List.set_cons_zero, List.set_cons_succ]
  refine wpAnyH_take (i := 8) (oi := ⟨_, _, _, _, _, _⟩) (v := ?_) rfl (by kernel_rfl) (by kernel_rfl) (by kernel_rfl) (fun _ _ _ h => h) (Or.inl ⟨by rfl, ?_⟩) hHeld ?_
  rotate_left
  · (intro w hSw; (try dsimp only at hSw); go_simp; try (with_reducible rfl))
  try simp only [Act.put, List.setIfInBounds_toArray, List.set_cons_zero, List.set_cons_succ]
  refine wpAnyH_take (i := 9) (oi := ⟨_, _, _, _, _, _⟩) (v := ?_) rfl (by kernel_rfl) (by kernel_rfl) (by kernel_rfl) (fun _ _ _ h => h) (Or.inl ⟨by rfl, ?_⟩) hHeld ?_
  rotate_left
  · (intro w hSw; (try dsimp only at hSw); go_simp; try (with_reducible rfl))
  try simp only [Act.put, List.setIfInBounds_toArray, List.set_cons_zero, List.set_cons_succ]
  refine wpAnyH_take (i := 10) (oi := ⟨_, _, _, _, _, _⟩) (v := ?_) rfl (by kernel_rfl) (by kernel_rfl) (by kernel_rfl) (fun _ _ _ h => h) (Or.inl ⟨by rfl, ?_⟩) hHeld ?_
  rotate_left
  · (intro w hSw; (try dsimp only at hSw); go_simp; try (with_reducible rfl))
  try simp only [Act.put, List.setIfInBounds_toArray, List.set_cons_zero, List.set_cons_succ]
  refine wpAnyH_take (i := 11) (oi := ⟨_, _, _, _, _, _⟩) (v := ?_) rfl (by kernel_rfl) (by kernel_rfl) (by kernel_rfl) (fun _ _ _ h => h) (Or.inl ⟨by rfl, ?_⟩) hHeld ?_
  rotate_left
  · (intro w hSw; (try dsimp only at hSw); go_simp; try (with_reducible rfl))
  try simp only [Act.put, List.setIfInBounds_toArray, List.set_cons_zero, List.set_cons_succ]
  refine wpAnyH_take (i := 12) (oi := ⟨_, _, _, _, _, _⟩) (v := ?_) rfl (by kernel_rfl) (by kernel_rfl) (by kernel_rfl) (fun _ _ _ h => h) (Or.inl ⟨by rfl, ?_⟩) hHeld ?_
  rotate_left
  · (intro w hSw; (try dsimp only at hSw); go_simp; try (with_reducible rfl))
  try simp only [Act.put, List.setIfInBounds_toArray, List.set_cons_zero, List.set_cons_succ]
  refine wpAnyH_take (i := 13) (oi := ⟨_, _, _, _, _, _⟩) (v := ?_) rfl (by kernel_rfl) (by kernel_rfl) (by kernel_rfl) (fun _ _ _ h => h) (Or.inl ⟨by rfl, ?_⟩) hHeld ?_
  rotate_left
  · (intro w hSw; (try dsimp only at hSw); go_simp; try (with_reducible rfl))
  try simp only [Act.put, List.setIfInBounds_toArray, List.set_cons_zero, List.set_cons_succ]
  refine wpAnyH_take (i := 14) (oi := ⟨_, _, _, _, _, _⟩) (v := ?_) rfl (by kernel_rfl) (by kernel_rfl) (by kernel_rfl) (fun _ _ _ h => h) (Or.inl ⟨by rfl, ?_⟩) hHeld ?_
  rotate_left
  · (intro w hSw; (try dsimp only at hSw); go_simp; try (with_reducible rfl))
  try simp only [Act.put, List.setIfInBounds_toArray, List.set_cons_zero, List.set_cons_succ]
  refine wpAnyH_take (i := 15) (oi := ⟨_, _, _, _, _, _⟩) (v := ?_) rfl (by kernel_rfl) (by kernel_rfl) (by kernel_rfl) (fun _ _ _ h => h) (Or.inl ⟨by rfl, ?_⟩) hHeld ?_
  rotate_left
  · (intro w hSw; (try dsimp only at hSw); go_simp; try (with_reducible rfl))
  try simp only [Act.put, List.setIfInBounds_toArray, List.set_cons_zero, List.set_cons_succ]
  refine wpAnyH_take (i := 16) (oi := ⟨_, _, _, _, _, _⟩) (v := ?_) rfl (by kernel_rfl) (by kernel_rfl) (by kernel_rfl) (fun _ _ _ h => h) (Or.inl ⟨by rfl, ?_⟩) hHeld ?_
  rotate_left
  · (intro w hSw; (try dsimp only at hSw); go_simp; try (with_reducible rfl))
  try simp only [Act.put, List.setIfInBounds_toArray, List.set_cons_zero, List.set_cons_succ]
  refine wpAnyH_take (i := 17) (oi := ⟨_, _, _, _, _, _⟩) (v := ?_) rfl (by kernel_rfl) (by kernel_rfl) (by kernel_rfl) (fun _ _ _ h => h) (Or.inl ⟨by rfl, ?_⟩) hHeld ?_
  rotate_left
  · (intro w hSw; (try dsimp only at hSw); go_simp; try (with_reducible rfl))
  try simp only [Act.put, List.setIfInBounds_toArray, List.set_cons_zero, List.set_cons_succ]
  refine wpAnyH_take (i := 18) (oi := ⟨_, _, _, _, _, _⟩) (v := ?_) rfl (by kernel_rfl) (by kernel_rfl) (by kernel_rfl) (fun _ _ _ h => h) (Or.inl ⟨by rfl, ?_⟩) hHeld ?_
  rotate_left
  · (intro w hSw; (try dsimp only at hSw); go_simp; try (with_reducible rfl))
  try simp only [Act.put, List.setIfInBounds_toArray, List.set_cons_zero, List.set_cons_succ]
  refine wpAnyH_ready (rs := [0]) (by kernel_rfl) (by simp) ?_
  refine (AllReadyH.cons (o := ⟨_, _, _, _, _, _⟩) rfl (fun K hK => ?_) AllReadyH.nil)
  go_simp
  refine hK.out _ _ ?_ ?_
  · (try dsimp only); exact ⟨K1, K2⟩
  clear hHeld hK K
  intro hHeld
  try simp only [Act.put, List.setIfInBounds_toArray, List.set_cons_zero, List.set_cons_succ]
  refine wpAnyH_ready (rs := [19]) (by kernel_rfl) (by simp) ?_
  refine (AllReadyH.cons (o := ⟨_, _, _, _, _, _⟩) rfl (fun K hK => ?_) AllReadyH.nil)
  refine step_append_pread rfl (.tmp 5) (.tmp 23) 33 rfl w.heap.size 193 i0 (.agg #[.int .i64 0, .int .i64 0]) 16 Tryz.underlying33 hi hz0 hz1 hz2 rfl _ 0 [] rfl hlit (some ⟨bx, k * 2, none⟩) (mkL (u - k) (fun i => f (k + i))) (u - k) (cx - k) rfl (by rw [mkL_length]) hpr (by unfold maxLen; omega) (by omega) (by show w.heap.size ≤ (w.drew.alloc _).heap.size; simp) ?_
  intro v w1 hown1 hgr1
  have hb1 : Below w.heap.size w w1 := (((below_drewN (Below.refl _ _) 1).alloc (Nat.le_refl _) _) : Below w.heap.size w (w.drew.alloc (.cells #[] 193))).grown hgr1 (by show w.heap.size ≤ (w.drew.alloc _).heap.size; simp) (fun q hq => (hlit.lt q hq).1)
  replace K1 := cellb hb1 c1
  replace K2 := cellb hb1 c2
  try simp only [List.nil_append, Nat.zero_add] at hown1
  obtain ⟨av, cv, rfl, hvc⟩ := own_room2 hown1
  have HO := hide hown1
  clear hown1 hgr1
  refine hK.out _ _ ?_ ?_
  · (try dsimp only); exact ⟨K1, K2⟩
  clear hHeld hK K
  intro hHeld
  try simp only [Act.put, List.setIfInBounds_toArray, List.set_cons_zero, List.set_cons_succ]
  refine wpAnyH_take (i := 20) (oi := ⟨_, _, _, _, _, _⟩) (v := ?_) rfl (by kernel_rfl) (by kernel_rfl) (by kernel_rfl) (fun _ _ _ h => h) (Or.inl ⟨by rfl, ?_⟩) hHeld ?_
  rotate_left
  · (intro w hSw; (try dsimp only at hSw); go_simp; try (with_reducible rfl))
  try simp only [Act.put, List.setIfInBounds_toArray, List.set_cons_zero, List.set_cons_succ]
  refine wpAnyH_done (by kernel_rfl) ?_ _
  go_wp2
  go_ret
  have hm' : u - k = m := by have := HU.out; omega
  refine ⟨.slice av (u - k) cv, rfl, ?_, hb1⟩
  have h := HO.out
  rw [hm'] at h ⊢
  exact h
set_option maxHeartbeats 2000000 in
theorem l3Row_calls (pb bx n cx k m u b' m' c' mm : Nat) (y wd : Int) (f g : Nat → Int × Int) (w : World) (c1 : w.cell? ⟨pb, 1, none⟩ = some (.int .i64 wd)) (c2 : w.cell? ⟨pb, 2, none⟩ = some (.slice (some ⟨bx, 0, none⟩) n cx)) (hr : Row w bx 0 n f) (hc : n ≤ cx) (hp : pb ≠ bx)
    (hg : RowR w b' 0 mm g) (hk : y * wd = (k : Int)) (hm : wd = (m : Int)) (hu : u = k + m) (hun : u ≤ n) (hn : n ≤ 1048576) (hm0 : 0 < m) (y0 : 0 ≤ y) (y1 : y ≤ 1000) (hmm : mm = min m' m) :
    Calls Tryz.prog 192 #[.pointer (some ⟨pb, 0, none⟩), .int .i64 y, .slice (some ⟨b', 0, none⟩) m' c'] w fun e w' => (∃ u, e = .returned u) ∧ Row w' bx 0 n (fun i => if k ≤ i ∧ i < k + mm then g (i - k) else f i) ∧ Touch bx 0 (n * 2) w w' := by
  have e1 : IntKind.i64.wrap (y * wd) = (k : Int) := by rw [hk]; exact wrap_small (by omega) (by omega)
  have e2 : IntKind.i64.wrap ((y + 1) * wd) = (u : Int) := by rw [Int.add_mul, hk, hm]; rw [show (k : Int) + 1 * (m : Int) = (u : Int) by omega]; exact wrap_small (by omega) (by omega)
  have e3 : IntKind.i64.wrap (y + 1) = y + 1 := wrap_small (by omega) (by omega)
  have e4 : u ≤ cx := by omega
  have e5 : (k : Int) ≤ (u : Int) := by omega
  have e6 : (u : Int) ≤ (cx : Int) := by omega
  have e7 : ¬ cx = k := by omega
  have e8 : ¬ k = cx := by omega
  have e9 : k ≤ u := by omega
  have HK := hide hk
  have HM := hide hm
  have HU := hide hu
  clear hk hm
  have hsub : Row w bx (k * 2) (u - k) (fun i => f (k + i)) := by have h := hr.sub k (u - k) (by omega); rw [Nat.zero_add] at h; exact h
  have HF := hide hr
  have HMM := hide hmm
  clear hr hu hmm
  go_enter Tryz.func192, Tryz.ntmps192
  go_wp2_with fail
  refine wp_region_held_drew (S := (fun w' => w'.cell? ⟨pb, 1, none⟩ = some (.int .i64 wd) ∧ w'.cell? ⟨pb, 2, none⟩ = some (.slice (some ⟨bx, 0, none⟩) n cx))) (by kernel_rfl) ?_ (fun hHeld => ?_)
  · (try dsimp only); exact ⟨c1, c2⟩
  refine wpAnyH_take (i := 0) (oi := ⟨_, _, _, _, _, _⟩) (v := ?_) rfl (by kernel_rfl) (by kernel_rfl) (by kernel_rfl) (fun _ _ _ h => h) (Or.inl ⟨by rfl, ?_⟩) hHeld ?_
  rotate_left
  · (intro w hSw; (try dsimp only at hSw); go_simp; try (with_reducible rfl))
  try simp only [Act.put, List.setIfInBounds_toArray, List.set_cons_zero, List.set_cons_succ]
  refine wpAnyH_take (i := 1) (oi := ⟨_, _, _, _, _, _⟩) (v := ?_) rfl (by kernel_rfl) (by kernel_rfl) (by kernel_rfl) (fun _ _ _ h => h) (Or.inl ⟨by rfl, ?_⟩) hHeld ?_
  rotate_left
  · (intro w hSw; (try dsimp only at hSw); go_simp; try (with_reducible rfl))
  try simp only [Act.put, List.setIfInBounds_toArray, List.set_cons_zero, List.set_cons_succ]
  refine wpAnyH_take (i := 2) (oi := ⟨_, _, _, _, _, _⟩) (v := ?_) rfl (by kernel_rfl) (by kernel_rfl) (by kernel_rfl) (fun _ _ _ h => h) (Or.inl ⟨by rfl, ?_⟩) hHeld ?_
  rotate_left
  · (intro w hSw; (try dsimp only at hSw); go_simp; try (with_reducible rfl))
  try simp only [Act.put, List.setIfInBounds_toArray, List.set_cons_zero, List.set_cons_succ]
  refine wpAnyH_take (i := 3) (oi := ⟨_, _, _, _, _, _⟩) (v := ?_) rfl (by kernel_rfl) (by kernel_rfl) (by kernel_rfl) (fun _ _ _ h => h) (Or.inl ⟨by rfl, ?_⟩) hHeld ?_
  rotate_left
  · (intro w hSw; (try dsimp only at hSw); go_simp; try (with_reducible rfl))
  try simp only [Act.put, List.setIfInBounds_toArray, List.set_cons_zero, List.set_cons_succ]
  refine wpAnyH_take (i := 4) (oi := ⟨_, _, _, _, _, _⟩) (v := ?_) rfl (by kernel_rfl) (by kernel_rfl) (by kernel_rfl) (fun _ _ _ h => h) (Or.inl ⟨by rfl, ?_⟩) hHeld ?_
  rotate_left
  · (intro w hSw; (try dsimp only at hSw); go_simp; try (with_reducible rfl))
  try simp only [Act.put, List.setIfInBounds_toArray, List.set_cons_zero, List.set_cons_succ]
  refine wpAnyH_take (i := 5) (oi := ⟨_, _, _, _, _, _⟩) (v := ?_) rfl (by kernel_rfl) (by kernel_rfl) (by kernel_rfl) (fun _ _ _ h => h) (Or.inl ⟨by rfl, ?_⟩) hHeld ?_
  rotate_left
  · (intro w hSw; (try dsimp only at hSw); go_simp; try (with_reducible rfl))
  try simp only [Act.put, List.setIfInBounds_toArray, List.set_cons_zero, List.set_cons_succ]
  refine wpAnyH_take (i := 6) (oi := ⟨_, _, _, _, _, _⟩) (v := ?_) rfl (by kernel_rfl) (by kernel_rfl) (by kernel_rfl) (fun _ _ _ h => h) (Or.inl ⟨by rfl, ?_⟩) hHeld ?_
  rotate_left
  · (intro w hSw; (try dsimp only at hSw); go_simp; try (with_reducible rfl))
  try simp only [Act.put, List.setIfInBounds_toArray, List.set_cons_zero, List.set_cons_succ]
  refine wpAnyH_take (i := 7) (oi := ⟨_, _, _, _, _, _⟩) (v := ?_) rfl (by kernel_rfl) (by kernel_rfl) (by kernel_rfl) (fun _ _ _ h => h) (Or.inl ⟨by rfl, ?_⟩) hHeld ?_
  rotate_left
  · (intro w hSw; (try dsimp only at hSw); go_simp; try (with_reducible rfl))
  try simp only [Act.put, List.setIfInBounds_toArray, List.set_cons_zero, List.set_cons_succ]
  refine wpAnyH_take (i := 8) (oi := ⟨_, _, _, _, _, _⟩) (v := ?_) rfl (by kernel_rfl) (by kernel_rfl) (by kernel_rfl) (fun _ _ _ h => h) (Or.inl ⟨by rfl, ?_⟩) hHeld ?_
  rotate_left
  · (intro w hSw; (try dsimp only at hSw); go_simp; try (with_reducible rfl))
  try simp only [Act.put, List.setIfInBounds_toArray, List.set_cons_zero, List.set_cons_succ]
  refine wpAnyH_take (i := 9) (oi := ⟨_, _, _, _, _, _⟩) (v := ?_) rfl (by kernel_rfl) (by kernel_rfl) (by kernel_rfl) (fun _ _ _ h => h) (Or.inl ⟨by rfl, ?_⟩) hHeld ?_
  rotate_left
  · (intro w hSw; (try dsimp only at hSw); go_simp; try (with_reducible rfl))
  try simp only [Act.put, List.setIfInBounds_toArray, List.set_cons_zero, List.set_cons_succ]
  refine wpAnyH_take (i := 10) (oi := ⟨_, _, _, _, _, _⟩) (v := ?_) rfl (by kernel_rfl) (by kernel_rfl) (by kernel_rfl) (fun _ _ _ h => h) (Or.inl ⟨by rfl, ?_⟩) hHeld ?_
  rotate_left
  · (intro w hSw; (try dsimp only at hSw); go_simp; try (with_reducible rfl))
  try simp only [Act.put, List.setIfInBounds_toArray, List.set_cons_zero, List.set_cons_succ]
  refine wpAnyH_take (i := 11) (oi := ⟨_, _, _, _, _, _⟩) (v := ?_) rfl (by kernel_rfl) (by kernel_rfl) (by kernel_rfl) (fun _ _ _ h => h) (Or.inl ⟨by rfl, ?_⟩) hHeld ?_
  rotate_left
  · (intro w hSw; (try dsimp only at hSw); go_simp; try (with_reducible rfl))
  try simp only [Act.put, List.setIfInBounds_toArray, List.set_cons_zero, List.set_cons_succ]
  refine wpAnyH_take (i := 12) (oi := ⟨_, _, _, _, _, _⟩) (v := ?_) rfl (by kernel_rfl) (by kernel_rfl) (by kernel_rfl) (fun _ _ _ h => h) (Or.inl ⟨by rfl, ?_⟩) hHeld ?_
  rotate_left
  · (intro w hSw; (try dsimp only at hSw); go_simp; try (with_reducible rfl))
  try simp only [Act.put, List.setIfInBounds_toArray, List.set_cons_zero, List.set_cons_succ]
  refine wpAnyH_take (i := 13) (oi := ⟨_, _, _, _, _, _⟩) (v := ?_) rfl (by kernel_rfl) (by kernel_rfl) (by kernel_rfl) (fun _ _ _ h => h) (Or.inl ⟨by rfl, ?_⟩) hHeld ?_
  rotate_left
  · (intro w hSw; (try dsimp only at hSw); go_simp; try (with_reducible rfl))
  try simp only [Act.put, List.setIfInBounds_toArray, List.set_cons_zero, List.set_cons_succ]
  refine wpAnyH_take (i := 14) (oi := ⟨_, _, _, _, _, _⟩) (v := ?_) rfl (by kernel_rfl) (by kernel_rfl) (by kernel_rfl) (fun _ _ _ h => h) (Or.inl ⟨by rfl, ?_⟩) hHeld ?_
  rotate_left
  · (intro w hSw; (try dsimp only at hSw); go_simp; try (with_reducible rfl))
  try simp only [Act.put, List.setIfInBounds_toArray, List.set_cons_zero, List.set_cons_succ]
  refine wpAnyH_take (i := 15) (oi := ⟨_, _, _, _, _, _⟩) (v := ?_) rfl (by kernel_rfl) (by kernel_rfl) (by kernel_rfl) (fun _ _ _ h => h) (Or.inl ⟨by rfl, ?_⟩) hHeld ?_
  rotate_left
  · (intro w hSw; (try dsimp only at hSw); go_simp; try (with_reducible rfl))
  try simp only [Act.put, List.setIfInBounds_toArray, List.set_cons_zero, List.set_cons_succ]
  refine wpAnyH_take (i := 16) (oi := ⟨_, _, _, _, _, _⟩) (v := ?_) rfl (by kernel_rfl) (by kernel_rfl) (by kernel_rfl) (fun _ _ _ h => h) (Or.inl ⟨by rfl, ?_⟩) hHeld ?_
  rotate_left
  · (intro w hSw; (try dsimp only at hSw); go_simp; try (with_reducible rfl))
  try simp only [Act.put, List.setIfInBounds_toArray, List.set_cons_zero, List.set_cons_succ]
  refine wpAnyH_take (i := 17) (oi := ⟨_, _, _, _, _, _⟩) (v := ?_) rfl (by kernel_rfl) (by kernel_rfl) (by kernel_rfl) (fun _ _ _ h => h) (Or.inl ⟨by rfl, ?_⟩) hHeld ?_
  rotate_left
  · (intro w hSw; (try dsimp only at hSw); go_simp; try (with_reducible rfl))
  try simp only [Act.put, List.setIfInBounds_toArray, List.set_cons_zero, List.set_cons_succ]
  refine wpAnyH_take (i := 18) (oi := ⟨_, _, _, _, _, _⟩) (v := ?_) rfl (by kernel_rfl) (by kernel_rfl) (by kernel_rfl) (fun _ _ _ h => h) (Or.inl ⟨by rfl, ?_⟩) hHeld ?_
  rotate_left
  · (intro w hSw; (try dsimp only at hSw); go_simp; try (with_reducible rfl))
  try simp only [Act.put, List.setIfInBounds_toArray, List.set_cons_zero, List.set_cons_succ]
  refine wpAnyH_ready (rs := [19]) (by kernel_rfl) (by simp) ?_
  refine (AllReadyH.cons (o := ⟨_, _, _, _, _, _⟩) rfl (fun K hK => ?_) AllReadyH.nil)
  refine step_copy2 rfl (.tmp 23) (.tmp 24) 33 33 rfl 193 Tryz.underlying33 cell_size2 (some ⟨bx, k * 2, none⟩) (some ⟨b', 0, none⟩) (u - k) (cx - k) m' c' mm rfl rfl (by have h1 := HU.out; have h2 := HMM.out; show mm = min m' (u - k); omega) bx (k * 2) (fun i => f (k + i)) hsub (fun _ => rfl) b' 0 g hg (fun _ => rfl) ?_
  intro w1 hrow1 ht1
  have K1 := ht1.cellAt (w := w.drew) c1 (by omega)
  have K2 := ht1.cellAt (w := w.drew) c2 (by omega)
  have HR := hide hrow1
  have HT := hide ht1
  clear hrow1 ht1
  refine hK.out _ _ ?_ ?_
  · (try dsimp only); exact ⟨K1, K2⟩
  clear hHeld hK K
  intro hHeld
  try simp only [Act.put, List.setIfInBounds_toArray, List.set_cons_zero, List.set_cons_succ]
  refine wpAnyH_done (by kernel_rfl) ?_ _
  go_wp2
  go_end0
  have hr' : Row w.drew bx 0 n f := HF.out
  have hu := HU.out
  have hmm := HMM.out
  refine ⟨⟨_, rfl⟩, (hr'.join (k := k) (m := u - k) (by rw [Nat.zero_add]; exact HT.out.mono (Nat.le_refl _) (by omega)) (by rw [Nat.zero_add]; exact HR.out) (by omega)).congr (fun i hi => ?_), (Touch.refl _ _ _ _).drew.trans (HT.out.mono (Nat.zero_le _) (by omega))⟩
  by_cases e : k ≤ i ∧ i < k + (u - k)
  · rw [if_pos e]
    by_cases e2 : i - k < mm
    · rw [if_pos e2, if_pos (by omega)]
    · rw [if_neg e2, if_neg (by omega), show k + (i - k) = i by omega]
  · rw [if_neg e, if_neg (by omega)]

end Go.Proofs.YtdekegjplegkeaaGreat

/- What ShiftCells answers, of the program and of the model. -/
namespace Go.Proofs.YtdekegjplegkeaaGreat
set_option maxRecDepth 20000
open Go.ChangeShapes Go.WideShapes Go.ChangeAt Go.RowKit
set_option linter.unusedVariables false
set_option linter.unusedSimpArgs false
set_option maxRecDepth 20000

def shiftOk (r wd y x n at' : Int) : Bool := placeB r wd y x && (decide (-12 ≤ n ∧ n ≤ 12) && atB at')
/-- Of a row of m cells from place K on the cells from X on, shifted by n to the right. -/
def shiftF (K X m : Nat) (n : Int) (f : Nat → Int × Int) (bl : Int × Int) (i : Nat) : Int × Int := if K + X ≤ i ∧ i < K + m then (if (X : Int) ≤ ((i - K : Nat) : Int) - n ∧ ((i - K : Nat) : Int) - n < m then f (K + (((i - K : Nat) : Int) - n).toNat) else bl) else f i
def shiftRes (r wd : Int) (cs bs : List (Int × Int)) (y x n at' : Int) : GRes := gres r wd cs bs (shiftOk r wd y x n at') ⟨0, r, wd, mkL cs.length (shiftF (y * wd).toNat x.toNat wd.toNat n (fun i => cs.getD i (0, 0)) (32, at')), bs⟩
theorem shiftRes_def (r wd : Int) (cs bs : List (Int × Int)) (y x n at' : Int) : shiftRes r wd cs bs y x n at' = gres r wd cs bs (shiftOk r wd y x n at') ⟨0, r, wd, mkL cs.length (shiftF (y * wd).toNat x.toNat wd.toNat n (fun i => cs.getD i (0, 0)) (32, at')), bs⟩ := rfl
theorem shiftRes_len (r wd : Int) (cs bs : List (Int × Int)) (y x n at' : Int) : (shiftRes r wd cs bs y x n at').cs.length ≤ 72 ∧ (shiftRes r wd cs bs y x n at').bs.length ≤ 60 := gres_len (fun h => by obtain ⟨_, _, _, h1, h2, h3⟩ := h.short; exact ⟨by rw [mkL_length]; exact h2, h3⟩)
/-- A place of a grid without a fault, as naturals. -/
theorem place_nats {r wd y x : Int} {cs bs : List (Int × Int)} (h : GFine r wd cs bs) (hp : placeB r wd y x = true) : ∃ K X m : Nat, y * wd = (K : Int) ∧ x = (X : Int) ∧ wd = (m : Int) ∧ K + m ≤ cs.length ∧ X < m ∧ 2 ≤ m ∧ m ≤ 12 ∧ 0 ≤ y ∧ y ≤ 1000 := by
  obtain ⟨R, W, rfl, rfl, n1, n2, n3, n4, n5, n6, n7, n8, n9, n10⟩ := h.nats
  unfold placeB at hp
  simp at hp
  obtain ⟨⟨p1, p2⟩, p3, p4⟩ := hp
  obtain ⟨Y, rfl⟩ : ∃ Y : Nat, y = Y := ⟨y.toNat, by omega⟩
  obtain ⟨X, rfl⟩ : ∃ X : Nat, x = X := ⟨x.toNat, by omega⟩
  have h1 : (Y + 1) * W ≤ R * W := Nat.mul_le_mul_right W (by omega)
  rw [Nat.add_mul] at h1
  exact ⟨Y * W, X, W, by rw [Int.natCast_mul], rfl, rfl, by omega, by omega, by omega, by omega, by omega, by omega⟩
theorem fine_bounds {r wd : Int} {cs bs : List (Int × Int)} (h : GFine r wd cs bs) : 1 ≤ r ∧ r ≤ 6 ∧ 2 ≤ wd ∧ wd ≤ 12 := by
  obtain ⟨s1, s2, s3, s4, _⟩ := size_mul h.size
  exact ⟨s1, s2, s3, s4⟩

set_option maxHeartbeats 2000000 in
theorem implShiftCells_calls (r wd : Int) (cs bs : List (Int × Int)) (y x n at' : Int) (v1 v2 : Value) (w : World) (hn1 : cs.length ≤ 1048576) (hn2 : bs.length ≤ 1048576) (h1 : PRead w v1 cs) (h2 : PRead w v2 bs) :
    Calls Tryz.prog 214 #[.agg #[.int .i64 r, .int .i64 wd, v1, v2], .int .i64 y, .int .i64 x, .int .i64 n, .int .i64 at'] w fun e w' => ∃ v5 v6, e = .returned (.agg #[.int .i64 (shiftRes r wd cs bs y x n at').code, .int .i64 (shiftRes r wd cs bs y x n at').rows, .int .i64 (shiftRes r wd cs bs y x n at').wd, v5, v6]) ∧ GOwn w.heap.size w'.heap.size w' v5 v6 (shiftRes r wd cs bs y x n at').cs (shiftRes r wd cs bs y x n at').bs ∧ Below w.heap.size w w' := by
  have h1' := h1
  obtain ⟨a1, c1, rfl, hx1⟩ := h1'
  clear hx1
  have h2' := h2
  obtain ⟨a2, c2, rfl, hx2⟩ := h2'
  clear hx2
  have hb0 : Below w.heap.size w ((w.alloc (.cells #[.int .i64 r, .int .i64 wd, .slice a1 cs.length c1, .slice a2 bs.length c2] 35)).alloc (.cells #[.int .i64 0, .int .i64 0, .int .i64 0, .slice none 0 0, .slice none 0 0] 185)) := (by repeat' (first | with_reducible exact Below.refl _ _ | with_reducible assumption | with_reducible refine Below.drew ?_ | with_reducible refine Below.alloc ?_ ?_ _ | with_reducible refine Below.setCell ?_ ?_ _ | (simp; done) | (simp; omega) | omega))
  have HF := implGridFault_calls r wd cs bs _ _ ((w.alloc (.cells #[.int .i64 r, .int .i64 wd, .slice a1 cs.length c1, .slice a2 bs.length c2] 35)).alloc (.cells #[.int .i64 0, .int .i64 0, .int .i64 0, .slice none 0 0, .slice none 0 0] 185)) hn1 hn2 (h1.below hb0) (h2.below hb0)
  have hbd : gridCode r wd cs bs = 0 → 1 ≤ r ∧ r ≤ 6 ∧ 2 ≤ wd ∧ wd ≤ 12 := fun h => fine_bounds (gfine_of_code h)
  by_cases hG : gridCode r wd cs bs = 0
  · cases k0 : placeB r wd y x with
    | false =>
      obtain ⟨g1, g2, g3, g4⟩ := hbd hG
      rw [shiftRes_def, gres_bad hG (by unfold shiftOk; first | (rw [k0]; rfl) | (rw [k0, k1]; rfl) | (rw [k0, k1, k2]; rfl))]
      rw [hG] at HF
      simp only [gbad]
      go_enter Tryz.func214, Tryz.ntmps214
      go_wp2_with fail
      refine HF.mono ?_
      rintro e w1 ⟨rfl, hb1⟩
      have A0 : w1.cell? ⟨w.heap.size, 0, none⟩ = some (.int .i64 r) := cellb hb1 (by simp [go_sem])
      have A1 : w1.cell? ⟨w.heap.size, 1, none⟩ = some (.int .i64 wd) := cellb hb1 (by simp [go_sem])
      have A2 : w1.cell? ⟨w.heap.size, 2, none⟩ = some (.slice a1 cs.length c1) := cellb hb1 (by simp [go_sem])
      have A3 : w1.cell? ⟨w.heap.size, 3, none⟩ = some (.slice a2 bs.length c2) := cellb hb1 (by simp [go_sem])
      have R0 : w1.cell? ⟨w.heap.size + 1, 0, none⟩ = some (.int .i64 0) := cellb hb1 (by simp [go_sem])
      have Z0 : w1.frozen? ⟨w.heap.size + 1, 0, none⟩ = false := by rw [hb1.frozen (p := ⟨w.heap.size + 1, 0, none⟩) (by simp)]; simp [go_sem]
      have R1 : w1.cell? ⟨w.heap.size + 1, 1, none⟩ = some (.int .i64 0) := cellb hb1 (by simp [go_sem])
      have Z1 : w1.frozen? ⟨w.heap.size + 1, 1, none⟩ = false := by rw [hb1.frozen (p := ⟨w.heap.size + 1, 1, none⟩) (by simp)]; simp [go_sem]
      have R2 : w1.cell? ⟨w.heap.size + 1, 2, none⟩ = some (.int .i64 0) := cellb hb1 (by simp [go_sem])
      have Z2 : w1.frozen? ⟨w.heap.size + 1, 2, none⟩ = false := by rw [hb1.frozen (p := ⟨w.heap.size + 1, 2, none⟩) (by simp)]; simp [go_sem]
      have R3 : w1.cell? ⟨w.heap.size + 1, 3, none⟩ = some (.slice none 0 0) := cellb hb1 (by simp [go_sem])
      have Z3 : w1.frozen? ⟨w.heap.size + 1, 3, none⟩ = false := by rw [hb1.frozen (p := ⟨w.heap.size + 1, 3, none⟩) (by simp)]; simp [go_sem]
      have R4 : w1.cell? ⟨w.heap.size + 1, 4, none⟩ = some (.slice none 0 0) := cellb hb1 (by simp [go_sem])
      have Z4 : w1.frozen? ⟨w.heap.size + 1, 4, none⟩ = false := by rw [hb1.frozen (p := ⟨w.heap.size + 1, 4, none⟩) (by simp)]; simp [go_sem]
      have hs1 : w.heap.size + 2 ≤ w1.heap.size := by have := hb1.size; simp at this; omega
      have b1 : Below w.heap.size w w1 := hb0.trans (hb1.mono (by simp; omega))
      clear hb1 hb0 HF
      go_wp2_with fail
      refine (isPlace_calls r wd y x a1 a2 cs.length bs.length c1 c2 g1 g2 g3 g4 _).mono ?_
      rintro e w7 ⟨rfl, hb7⟩
      rw [k0]
      replace A0 := cellb hb7 A0
      replace A1 := cellb hb7 A1
      replace A2 := cellb hb7 A2
      replace A3 := cellb hb7 A3
      replace R0 := cellb hb7 R0
      replace R1 := cellb hb7 R1
      replace R2 := cellb hb7 R2
      replace R3 := cellb hb7 R3
      replace R4 := cellb hb7 R4
      replace Z0 : w7.frozen? ⟨w.heap.size + 1, 0, none⟩ = false := by rw [hb7.frozen (p := ⟨w.heap.size + 1, 0, none⟩) (by simp; omega)]; exact Z0
      replace Z1 : w7.frozen? ⟨w.heap.size + 1, 1, none⟩ = false := by rw [hb7.frozen (p := ⟨w.heap.size + 1, 1, none⟩) (by simp; omega)]; exact Z1
      replace Z2 : w7.frozen? ⟨w.heap.size + 1, 2, none⟩ = false := by rw [hb7.frozen (p := ⟨w.heap.size + 1, 2, none⟩) (by simp; omega)]; exact Z2
      replace Z3 : w7.frozen? ⟨w.heap.size + 1, 3, none⟩ = false := by rw [hb7.frozen (p := ⟨w.heap.size + 1, 3, none⟩) (by simp; omega)]; exact Z3
      replace Z4 : w7.frozen? ⟨w.heap.size + 1, 4, none⟩ = false := by rw [hb7.frozen (p := ⟨w.heap.size + 1, 4, none⟩) (by simp; omega)]; exact Z4
      have b7 := b1.trans (hb7.mono b1.size)
      have hs7 : w1.heap.size ≤ w7.heap.size := hb7.size
      clear hb7 b1
      have b1 := b7
      clear b7
      go_wp2_with (first
        | (go_at_call 105; refine (isFromTo_calls _ _ _ _).mono ?_; rintro e w' ⟨rfl, hw⟩; rw [hw]; clear hw w'; rw [k1])
        | (go_at_call 102; refine (isAttr_calls _ _).mono ?_; rintro e w' ⟨rfl, hw⟩; rw [hw]; clear hw w'; rw [k2]))
      have hr := res5 (w := w7) (r := w.heap.size + 1) (.int .i64 3) (.int .i64 0) (.int .i64 0) (.slice none 0 0) (.slice none 0 0) R0 R1 R2 R3 R4
      go_wp2
      refine bodyPost_ret (v := .agg #[.int .i64 3, .int .i64 0, .int .i64 0, .slice none 0 0, .slice none 0 0]) (by simp only [results, Tryz.results214]; simp [go_sem, hr.1, hr.2.1, hr.2.2.1, hr.2.2.2.1, hr.2.2.2.2]) rfl ⟨_, _, rfl, ?_, b1.trans (show Below w.heap.size w7 _ from (by repeat' (first | with_reducible exact Below.refl _ _ | with_reducible assumption | with_reducible refine Below.drew ?_ | with_reducible refine Below.alloc ?_ ?_ _ | with_reducible refine Below.setCell ?_ ?_ _ | (simp; done) | (simp; omega) | omega)))⟩
      exact GOwn.nil _ _ _ (by have := b1.size; simp [World.setCell]; omega)
    | true =>
      cases k1 : decide (-12 ≤ n ∧ n ≤ 12) with
      | false =>
        obtain ⟨g1, g2, g3, g4⟩ := hbd hG
        rw [shiftRes_def, gres_bad hG (by unfold shiftOk; first | (rw [k0]; rfl) | (rw [k0, k1]; rfl) | (rw [k0, k1, k2]; rfl))]
        rw [hG] at HF
        simp only [gbad]
        go_enter Tryz.func214, Tryz.ntmps214
        go_wp2_with fail
        refine HF.mono ?_
        rintro e w1 ⟨rfl, hb1⟩
        have A0 : w1.cell? ⟨w.heap.size, 0, none⟩ = some (.int .i64 r) := cellb hb1 (by simp [go_sem])
        have A1 : w1.cell? ⟨w.heap.size, 1, none⟩ = some (.int .i64 wd) := cellb hb1 (by simp [go_sem])
        have A2 : w1.cell? ⟨w.heap.size, 2, none⟩ = some (.slice a1 cs.length c1) := cellb hb1 (by simp [go_sem])
        have A3 : w1.cell? ⟨w.heap.size, 3, none⟩ = some (.slice a2 bs.length c2) := cellb hb1 (by simp [go_sem])
        have R0 : w1.cell? ⟨w.heap.size + 1, 0, none⟩ = some (.int .i64 0) := cellb hb1 (by simp [go_sem])
        have Z0 : w1.frozen? ⟨w.heap.size + 1, 0, none⟩ = false := by rw [hb1.frozen (p := ⟨w.heap.size + 1, 0, none⟩) (by simp)]; simp [go_sem]
        have R1 : w1.cell? ⟨w.heap.size + 1, 1, none⟩ = some (.int .i64 0) := cellb hb1 (by simp [go_sem])
        have Z1 : w1.frozen? ⟨w.heap.size + 1, 1, none⟩ = false := by rw [hb1.frozen (p := ⟨w.heap.size + 1, 1, none⟩) (by simp)]; simp [go_sem]
        have R2 : w1.cell? ⟨w.heap.size + 1, 2, none⟩ = some (.int .i64 0) := cellb hb1 (by simp [go_sem])
        have Z2 : w1.frozen? ⟨w.heap.size + 1, 2, none⟩ = false := by rw [hb1.frozen (p := ⟨w.heap.size + 1, 2, none⟩) (by simp)]; simp [go_sem]
        have R3 : w1.cell? ⟨w.heap.size + 1, 3, none⟩ = some (.slice none 0 0) := cellb hb1 (by simp [go_sem])
        have Z3 : w1.frozen? ⟨w.heap.size + 1, 3, none⟩ = false := by rw [hb1.frozen (p := ⟨w.heap.size + 1, 3, none⟩) (by simp)]; simp [go_sem]
        have R4 : w1.cell? ⟨w.heap.size + 1, 4, none⟩ = some (.slice none 0 0) := cellb hb1 (by simp [go_sem])
        have Z4 : w1.frozen? ⟨w.heap.size + 1, 4, none⟩ = false := by rw [hb1.frozen (p := ⟨w.heap.size + 1, 4, none⟩) (by simp)]; simp [go_sem]
        have hs1 : w.heap.size + 2 ≤ w1.heap.size := by have := hb1.size; simp at this; omega
        have b1 : Below w.heap.size w w1 := hb0.trans (hb1.mono (by simp; omega))
        clear hb1 hb0 HF
        go_wp2_with fail
        refine (isPlace_calls r wd y x a1 a2 cs.length bs.length c1 c2 g1 g2 g3 g4 _).mono ?_
        rintro e w7 ⟨rfl, hb7⟩
        rw [k0]
        replace A0 := cellb hb7 A0
        replace A1 := cellb hb7 A1
        replace A2 := cellb hb7 A2
        replace A3 := cellb hb7 A3
        replace R0 := cellb hb7 R0
        replace R1 := cellb hb7 R1
        replace R2 := cellb hb7 R2
        replace R3 := cellb hb7 R3
        replace R4 := cellb hb7 R4
        replace Z0 : w7.frozen? ⟨w.heap.size + 1, 0, none⟩ = false := by rw [hb7.frozen (p := ⟨w.heap.size + 1, 0, none⟩) (by simp; omega)]; exact Z0
        replace Z1 : w7.frozen? ⟨w.heap.size + 1, 1, none⟩ = false := by rw [hb7.frozen (p := ⟨w.heap.size + 1, 1, none⟩) (by simp; omega)]; exact Z1
        replace Z2 : w7.frozen? ⟨w.heap.size + 1, 2, none⟩ = false := by rw [hb7.frozen (p := ⟨w.heap.size + 1, 2, none⟩) (by simp; omega)]; exact Z2
        replace Z3 : w7.frozen? ⟨w.heap.size + 1, 3, none⟩ = false := by rw [hb7.frozen (p := ⟨w.heap.size + 1, 3, none⟩) (by simp; omega)]; exact Z3
        replace Z4 : w7.frozen? ⟨w.heap.size + 1, 4, none⟩ = false := by rw [hb7.frozen (p := ⟨w.heap.size + 1, 4, none⟩) (by simp; omega)]; exact Z4
        have b7 := b1.trans (hb7.mono b1.size)
        have hs7 : w1.heap.size ≤ w7.heap.size := hb7.size
        clear hb7 b1
        have b1 := b7
        clear b7
        go_wp2_with (first
          | (go_at_call 105; refine (isFromTo_calls _ _ _ _).mono ?_; rintro e w' ⟨rfl, hw⟩; rw [hw]; clear hw w'; rw [k1])
          | (go_at_call 102; refine (isAttr_calls _ _).mono ?_; rintro e w' ⟨rfl, hw⟩; rw [hw]; clear hw w'; rw [k2]))
        have hr := res5 (w := w7) (r := w.heap.size + 1) (.int .i64 3) (.int .i64 0) (.int .i64 0) (.slice none 0 0) (.slice none 0 0) R0 R1 R2 R3 R4
        go_wp2
        refine bodyPost_ret (v := .agg #[.int .i64 3, .int .i64 0, .int .i64 0, .slice none 0 0, .slice none 0 0]) (by simp only [results, Tryz.results214]; simp [go_sem, hr.1, hr.2.1, hr.2.2.1, hr.2.2.2.1, hr.2.2.2.2]) rfl ⟨_, _, rfl, ?_, b1.trans (show Below w.heap.size w7 _ from (by repeat' (first | with_reducible exact Below.refl _ _ | with_reducible assumption | with_reducible refine Below.drew ?_ | with_reducible refine Below.alloc ?_ ?_ _ | with_reducible refine Below.setCell ?_ ?_ _ | (simp; done) | (simp; omega) | omega)))⟩
        exact GOwn.nil _ _ _ (by have := b1.size; simp [World.setCell]; omega)
      | true =>
        cases k2 : atB at' with
        | false =>
          obtain ⟨g1, g2, g3, g4⟩ := hbd hG
          rw [shiftRes_def, gres_bad hG (by unfold shiftOk; first | (rw [k0]; rfl) | (rw [k0, k1]; rfl) | (rw [k0, k1, k2]; rfl))]
          rw [hG] at HF
          simp only [gbad]
          go_enter Tryz.func214, Tryz.ntmps214
          go_wp2_with fail
          refine HF.mono ?_
          rintro e w1 ⟨rfl, hb1⟩
          have A0 : w1.cell? ⟨w.heap.size, 0, none⟩ = some (.int .i64 r) := cellb hb1 (by simp [go_sem])
          have A1 : w1.cell? ⟨w.heap.size, 1, none⟩ = some (.int .i64 wd) := cellb hb1 (by simp [go_sem])
          have A2 : w1.cell? ⟨w.heap.size, 2, none⟩ = some (.slice a1 cs.length c1) := cellb hb1 (by simp [go_sem])
          have A3 : w1.cell? ⟨w.heap.size, 3, none⟩ = some (.slice a2 bs.length c2) := cellb hb1 (by simp [go_sem])
          have R0 : w1.cell? ⟨w.heap.size + 1, 0, none⟩ = some (.int .i64 0) := cellb hb1 (by simp [go_sem])
          have Z0 : w1.frozen? ⟨w.heap.size + 1, 0, none⟩ = false := by rw [hb1.frozen (p := ⟨w.heap.size + 1, 0, none⟩) (by simp)]; simp [go_sem]
          have R1 : w1.cell? ⟨w.heap.size + 1, 1, none⟩ = some (.int .i64 0) := cellb hb1 (by simp [go_sem])
          have Z1 : w1.frozen? ⟨w.heap.size + 1, 1, none⟩ = false := by rw [hb1.frozen (p := ⟨w.heap.size + 1, 1, none⟩) (by simp)]; simp [go_sem]
          have R2 : w1.cell? ⟨w.heap.size + 1, 2, none⟩ = some (.int .i64 0) := cellb hb1 (by simp [go_sem])
          have Z2 : w1.frozen? ⟨w.heap.size + 1, 2, none⟩ = false := by rw [hb1.frozen (p := ⟨w.heap.size + 1, 2, none⟩) (by simp)]; simp [go_sem]
          have R3 : w1.cell? ⟨w.heap.size + 1, 3, none⟩ = some (.slice none 0 0) := cellb hb1 (by simp [go_sem])
          have Z3 : w1.frozen? ⟨w.heap.size + 1, 3, none⟩ = false := by rw [hb1.frozen (p := ⟨w.heap.size + 1, 3, none⟩) (by simp)]; simp [go_sem]
          have R4 : w1.cell? ⟨w.heap.size + 1, 4, none⟩ = some (.slice none 0 0) := cellb hb1 (by simp [go_sem])
          have Z4 : w1.frozen? ⟨w.heap.size + 1, 4, none⟩ = false := by rw [hb1.frozen (p := ⟨w.heap.size + 1, 4, none⟩) (by simp)]; simp [go_sem]
          have hs1 : w.heap.size + 2 ≤ w1.heap.size := by have := hb1.size; simp at this; omega
          have b1 : Below w.heap.size w w1 := hb0.trans (hb1.mono (by simp; omega))
          clear hb1 hb0 HF
          go_wp2_with fail
          refine (isPlace_calls r wd y x a1 a2 cs.length bs.length c1 c2 g1 g2 g3 g4 _).mono ?_
          rintro e w7 ⟨rfl, hb7⟩
          rw [k0]
          replace A0 := cellb hb7 A0
          replace A1 := cellb hb7 A1
          replace A2 := cellb hb7 A2
          replace A3 := cellb hb7 A3
          replace R0 := cellb hb7 R0
          replace R1 := cellb hb7 R1
          replace R2 := cellb hb7 R2
          replace R3 := cellb hb7 R3
          replace R4 := cellb hb7 R4
          replace Z0 : w7.frozen? ⟨w.heap.size + 1, 0, none⟩ = false := by rw [hb7.frozen (p := ⟨w.heap.size + 1, 0, none⟩) (by simp; omega)]; exact Z0
          replace Z1 : w7.frozen? ⟨w.heap.size + 1, 1, none⟩ = false := by rw [hb7.frozen (p := ⟨w.heap.size + 1, 1, none⟩) (by simp; omega)]; exact Z1
          replace Z2 : w7.frozen? ⟨w.heap.size + 1, 2, none⟩ = false := by rw [hb7.frozen (p := ⟨w.heap.size + 1, 2, none⟩) (by simp; omega)]; exact Z2
          replace Z3 : w7.frozen? ⟨w.heap.size + 1, 3, none⟩ = false := by rw [hb7.frozen (p := ⟨w.heap.size + 1, 3, none⟩) (by simp; omega)]; exact Z3
          replace Z4 : w7.frozen? ⟨w.heap.size + 1, 4, none⟩ = false := by rw [hb7.frozen (p := ⟨w.heap.size + 1, 4, none⟩) (by simp; omega)]; exact Z4
          have b7 := b1.trans (hb7.mono b1.size)
          have hs7 : w1.heap.size ≤ w7.heap.size := hb7.size
          clear hb7 b1
          have b1 := b7
          clear b7
          go_wp2_with (first
            | (go_at_call 105; refine (isFromTo_calls _ _ _ _).mono ?_; rintro e w' ⟨rfl, hw⟩; rw [hw]; clear hw w'; rw [k1])
            | (go_at_call 102; refine (isAttr_calls _ _).mono ?_; rintro e w' ⟨rfl, hw⟩; rw [hw]; clear hw w'; rw [k2]))
          have hr := res5 (w := w7) (r := w.heap.size + 1) (.int .i64 3) (.int .i64 0) (.int .i64 0) (.slice none 0 0) (.slice none 0 0) R0 R1 R2 R3 R4
          go_wp2
          refine bodyPost_ret (v := .agg #[.int .i64 3, .int .i64 0, .int .i64 0, .slice none 0 0, .slice none 0 0]) (by simp only [results, Tryz.results214]; simp [go_sem, hr.1, hr.2.1, hr.2.2.1, hr.2.2.2.1, hr.2.2.2.2]) rfl ⟨_, _, rfl, ?_, b1.trans (show Below w.heap.size w7 _ from (by repeat' (first | with_reducible exact Below.refl _ _ | with_reducible assumption | with_reducible refine Below.drew ?_ | with_reducible refine Below.alloc ?_ ?_ _ | with_reducible refine Below.setCell ?_ ?_ _ | (simp; done) | (simp; omega) | omega)))⟩
          exact GOwn.nil _ _ _ (by have := b1.size; simp [World.setCell]; omega)
        | true =>
          obtain ⟨g1, g2, g3, g4⟩ := hbd hG
          rw [shiftRes_def, gres_ok hG (by unfold shiftOk; rw [k0, k1, k2]; rfl)]
          rw [hG] at HF
          have hfine := gfine_of_code hG
          obtain ⟨n1, n2, hq, n8, n9, n10⟩ := hfine.short
          obtain ⟨Kr, X, m', eK, eX, eW, q1, q2, q3, q4, y0, y1⟩ := place_nats hfine k0
          clear hfine hG hbd
          have eK' : (y * wd).toNat = Kr := by omega
          have eW' : wd.toNat = m' := by omega
          subst eX
          have j1 := of_decide_eq_true k1
          rw [eK', eW', Int.toNat_natCast]
          have EK := hide eK
          have EW := hide eW
          clear eK eW eK' eW'
          go_enter Tryz.func214, Tryz.ntmps214
          go_wp2_with fail
          refine HF.mono ?_
          rintro e w1 ⟨rfl, hb1⟩
          have A0 : w1.cell? ⟨w.heap.size, 0, none⟩ = some (.int .i64 r) := cellb hb1 (by simp [go_sem])
          have A1 : w1.cell? ⟨w.heap.size, 1, none⟩ = some (.int .i64 wd) := cellb hb1 (by simp [go_sem])
          have A2 : w1.cell? ⟨w.heap.size, 2, none⟩ = some (.slice a1 cs.length c1) := cellb hb1 (by simp [go_sem])
          have A3 : w1.cell? ⟨w.heap.size, 3, none⟩ = some (.slice a2 bs.length c2) := cellb hb1 (by simp [go_sem])
          have R0 : w1.cell? ⟨w.heap.size + 1, 0, none⟩ = some (.int .i64 0) := cellb hb1 (by simp [go_sem])
          have Z0 : w1.frozen? ⟨w.heap.size + 1, 0, none⟩ = false := by rw [hb1.frozen (p := ⟨w.heap.size + 1, 0, none⟩) (by simp)]; simp [go_sem]
          have R1 : w1.cell? ⟨w.heap.size + 1, 1, none⟩ = some (.int .i64 0) := cellb hb1 (by simp [go_sem])
          have Z1 : w1.frozen? ⟨w.heap.size + 1, 1, none⟩ = false := by rw [hb1.frozen (p := ⟨w.heap.size + 1, 1, none⟩) (by simp)]; simp [go_sem]
          have R2 : w1.cell? ⟨w.heap.size + 1, 2, none⟩ = some (.int .i64 0) := cellb hb1 (by simp [go_sem])
          have Z2 : w1.frozen? ⟨w.heap.size + 1, 2, none⟩ = false := by rw [hb1.frozen (p := ⟨w.heap.size + 1, 2, none⟩) (by simp)]; simp [go_sem]
          have R3 : w1.cell? ⟨w.heap.size + 1, 3, none⟩ = some (.slice none 0 0) := cellb hb1 (by simp [go_sem])
          have Z3 : w1.frozen? ⟨w.heap.size + 1, 3, none⟩ = false := by rw [hb1.frozen (p := ⟨w.heap.size + 1, 3, none⟩) (by simp)]; simp [go_sem]
          have R4 : w1.cell? ⟨w.heap.size + 1, 4, none⟩ = some (.slice none 0 0) := cellb hb1 (by simp [go_sem])
          have Z4 : w1.frozen? ⟨w.heap.size + 1, 4, none⟩ = false := by rw [hb1.frozen (p := ⟨w.heap.size + 1, 4, none⟩) (by simp)]; simp [go_sem]
          have hs1 : w.heap.size + 2 ≤ w1.heap.size := by have := hb1.size; simp at this; omega
          have b1 : Below w.heap.size w w1 := hb0.trans (hb1.mono (by simp; omega))
          clear hb1 hb0 HF
          go_wp2_with fail
          refine (isPlace_calls r wd y (X : Int) a1 a2 cs.length bs.length c1 c2 g1 g2 g3 g4 _).mono ?_
          rintro e w7 ⟨rfl, hb7⟩
          rw [k0]
          replace A0 := cellb hb7 A0
          replace A1 := cellb hb7 A1
          replace A2 := cellb hb7 A2
          replace A3 := cellb hb7 A3
          replace R0 := cellb hb7 R0
          replace R1 := cellb hb7 R1
          replace R2 := cellb hb7 R2
          replace R3 := cellb hb7 R3
          replace R4 := cellb hb7 R4
          replace Z0 : w7.frozen? ⟨w.heap.size + 1, 0, none⟩ = false := by rw [hb7.frozen (p := ⟨w.heap.size + 1, 0, none⟩) (by simp; omega)]; exact Z0
          replace Z1 : w7.frozen? ⟨w.heap.size + 1, 1, none⟩ = false := by rw [hb7.frozen (p := ⟨w.heap.size + 1, 1, none⟩) (by simp; omega)]; exact Z1
          replace Z2 : w7.frozen? ⟨w.heap.size + 1, 2, none⟩ = false := by rw [hb7.frozen (p := ⟨w.heap.size + 1, 2, none⟩) (by simp; omega)]; exact Z2
          replace Z3 : w7.frozen? ⟨w.heap.size + 1, 3, none⟩ = false := by rw [hb7.frozen (p := ⟨w.heap.size + 1, 3, none⟩) (by simp; omega)]; exact Z3
          replace Z4 : w7.frozen? ⟨w.heap.size + 1, 4, none⟩ = false := by rw [hb7.frozen (p := ⟨w.heap.size + 1, 4, none⟩) (by simp; omega)]; exact Z4
          have b7 := b1.trans (hb7.mono b1.size)
          have hs7 : w1.heap.size ≤ w7.heap.size := hb7.size
          clear hb7 b1
          have b1 := b7
          clear b7
          go_wp2_with (first
            | (go_at_call 105; refine (isFromTo_calls _ _ _ _).mono ?_; rintro e w' ⟨rfl, hw⟩; rw [hw]; clear hw w'; rw [k1])
            | (go_at_call 102; refine (isAttr_calls _ _).mono ?_; rintro e w' ⟨rfl, hw⟩; rw [hw]; clear hw w'; rw [k2]))
          refine (sheetsOf_calls r wd cs bs _ _ w7 hn1 hn2 (h1.below b1) (h2.below b1)).mono ?_
          rintro e w2 ⟨x, y', m, rfl, m1, m2, ox, xm, oy, hb2⟩
          replace A0 := cellb hb2 A0
          replace A1 := cellb hb2 A1
          replace A2 := cellb hb2 A2
          replace A3 := cellb hb2 A3
          replace R0 := cellb hb2 R0
          replace R1 := cellb hb2 R1
          replace R2 := cellb hb2 R2
          replace R3 := cellb hb2 R3
          replace R4 := cellb hb2 R4
          replace Z0 : w2.frozen? ⟨w.heap.size + 1, 0, none⟩ = false := by rw [hb2.frozen (p := ⟨w.heap.size + 1, 0, none⟩) (by simp; omega)]; exact Z0
          replace Z1 : w2.frozen? ⟨w.heap.size + 1, 1, none⟩ = false := by rw [hb2.frozen (p := ⟨w.heap.size + 1, 1, none⟩) (by simp; omega)]; exact Z1
          replace Z2 : w2.frozen? ⟨w.heap.size + 1, 2, none⟩ = false := by rw [hb2.frozen (p := ⟨w.heap.size + 1, 2, none⟩) (by simp; omega)]; exact Z2
          replace Z3 : w2.frozen? ⟨w.heap.size + 1, 3, none⟩ = false := by rw [hb2.frozen (p := ⟨w.heap.size + 1, 3, none⟩) (by simp; omega)]; exact Z3
          replace Z4 : w2.frozen? ⟨w.heap.size + 1, 4, none⟩ = false := by rw [hb2.frozen (p := ⟨w.heap.size + 1, 4, none⟩) (by simp; omega)]; exact Z4
          have b2 := b1.trans (hb2.mono b1.size)
          have hs2 : w7.heap.size ≤ w2.heap.size := hb2.size
          obtain ⟨bx, cx, rfl, hcx, _, x1, x2, hrow⟩ := own_row ox n8
          obtain ⟨ay, cy, rfl, hyc⟩ := own_room2 oy
          have x3 : bx < m := xm bx rfl
          have HX := hide hrow
          have HY := hide oy
          clear hrow oy ox xm hb2
          go_wp2_with fail
          have hb3 : Below w2.heap.size w2 ((w2.alloc (.cells #[.int .i64 wd, .slice (some ⟨bx, 0, none⟩) cs.length cx] 217)).alloc (.cells #[.int .i64 wd, .slice ay bs.length cy] 217)) := (by repeat' (first | with_reducible exact Below.refl _ _ | with_reducible assumption | with_reducible refine Below.drew ?_ | with_reducible refine Below.alloc ?_ ?_ _ | with_reducible refine Below.setCell ?_ ?_ _ | (simp; done) | (simp; omega) | omega))
          have S0 : ((w2.alloc (.cells #[.int .i64 wd, .slice (some ⟨bx, 0, none⟩) cs.length cx] 217)).alloc (.cells #[.int .i64 wd, .slice ay bs.length cy] 217)).cell? ⟨w2.heap.size, 0, none⟩ = some (.int .i64 wd) := by simp [go_sem]
          have S1 : ((w2.alloc (.cells #[.int .i64 wd, .slice (some ⟨bx, 0, none⟩) cs.length cx] 217)).alloc (.cells #[.int .i64 wd, .slice ay bs.length cy] 217)).cell? ⟨w2.heap.size, 1, none⟩ = some (.slice (some ⟨bx, 0, none⟩) cs.length cx) := by simp [go_sem]
          have U0 : ((w2.alloc (.cells #[.int .i64 wd, .slice (some ⟨bx, 0, none⟩) cs.length cx] 217)).alloc (.cells #[.int .i64 wd, .slice ay bs.length cy] 217)).cell? ⟨w2.heap.size + 1, 0, none⟩ = some (.int .i64 wd) := by simp [go_sem]
          have U1 : ((w2.alloc (.cells #[.int .i64 wd, .slice (some ⟨bx, 0, none⟩) cs.length cx] 217)).alloc (.cells #[.int .i64 wd, .slice ay bs.length cy] 217)).cell? ⟨w2.heap.size + 1, 1, none⟩ = some (.slice ay bs.length cy) := by simp [go_sem]
          have hs3 : ((w2.alloc (.cells #[.int .i64 wd, .slice (some ⟨bx, 0, none⟩) cs.length cx] 217)).alloc (.cells #[.int .i64 wd, .slice ay bs.length cy] 217)).heap.size = w2.heap.size + 2 := by simp
          generalize ((w2.alloc (.cells #[.int .i64 wd, .slice (some ⟨bx, 0, none⟩) cs.length cx] 217)).alloc (.cells #[.int .i64 wd, .slice ay bs.length cy] 217)) = w3 at *
          replace A0 := cellb hb3 A0
          replace A1 := cellb hb3 A1
          replace A2 := cellb hb3 A2
          replace A3 := cellb hb3 A3
          replace R0 := cellb hb3 R0
          replace R1 := cellb hb3 R1
          replace R2 := cellb hb3 R2
          replace R3 := cellb hb3 R3
          replace R4 := cellb hb3 R4
          replace Z0 : w3.frozen? ⟨w.heap.size + 1, 0, none⟩ = false := by rw [hb3.frozen (p := ⟨w.heap.size + 1, 0, none⟩) (by simp; omega)]; exact Z0
          replace Z1 : w3.frozen? ⟨w.heap.size + 1, 1, none⟩ = false := by rw [hb3.frozen (p := ⟨w.heap.size + 1, 1, none⟩) (by simp; omega)]; exact Z1
          replace Z2 : w3.frozen? ⟨w.heap.size + 1, 2, none⟩ = false := by rw [hb3.frozen (p := ⟨w.heap.size + 1, 2, none⟩) (by simp; omega)]; exact Z2
          replace Z3 : w3.frozen? ⟨w.heap.size + 1, 3, none⟩ = false := by rw [hb3.frozen (p := ⟨w.heap.size + 1, 3, none⟩) (by simp; omega)]; exact Z3
          replace Z4 : w3.frozen? ⟨w.heap.size + 1, 4, none⟩ = false := by rw [hb3.frozen (p := ⟨w.heap.size + 1, 4, none⟩) (by simp; omega)]; exact Z4
          have b3 := b2.trans (hb3.mono b2.size)
          replace HX := hide (HX.out.below hb3 x2)
          replace HY := hide (own_below HY.out hb3)
          clear hb3 b2
          have z1 : (X : Int) ≤ (m' : Int) := by omega
          have z2 : X ≤ m' := by omega
          have z3 : ¬ cx - Kr = X := by omega
          have z4 : ¬ X = cx - Kr := by omega
          have z5 : IntKind.i64.wrap (-n) = -n := wrap_small (by omega) (by omega)
          refine wp_region_held_drew (S := (fun w' => w'.cell? ⟨w2.heap.size, 0, none⟩ = some (.int .i64 wd) ∧ w'.cell? ⟨w2.heap.size, 1, none⟩ = some (.slice (some ⟨bx, 0, none⟩) cs.length cx))) (by kernel_rfl) ?_ (fun hHeld => ?_)
          · (try dsimp only); exact ⟨S0, S1⟩
          refine wpAnyH_take (i := 0) (oi := ⟨_, _, _, _, _, _⟩) (v := ?_) rfl (by kernel_rfl) (by kernel_rfl) (by kernel_rfl) (fun _ _ _ h => h) (Or.inl ⟨by rfl, ?_⟩) hHeld ?_
          rotate_left
          · (intro w hSw; (try dsimp only at hSw); go_simp; try (with_reducible rfl))
          try simp only [Act.put, List.setIfInBounds_toArray, List.set_cons_zero, List.set_cons_succ]
          refine wpAnyH_take (i := 1) (oi := ⟨_, _, _, _, _, _⟩) (v := ?_) rfl (by kernel_rfl) (by kernel_rfl) (by kernel_rfl) (fun _ _ _ h => h) (Or.inl ⟨by rfl, ?_⟩) hHeld ?_
          rotate_left
          · (intro w hSw; (try dsimp only at hSw); go_simp; try (with_reducible rfl))
          try simp only [Act.put, List.setIfInBounds_toArray, List.set_cons_zero, List.set_cons_succ]
          refine wpAnyH_take (i := 3) (oi := ⟨_, _, _, _, _, _⟩) (v := ?_) rfl (by kernel_rfl) (by kernel_rfl) (by kernel_rfl) (fun _ _ _ h => h) (Or.inl ⟨by rfl, ?_⟩) hHeld ?_
          rotate_left
          · (intro w hSw; (try dsimp only at hSw); go_simp; try (with_reducible rfl))
          try simp only [Act.put, List.setIfInBounds_toArray, List.set_cons_zero, List.set_cons_succ]
          refine wpAnyH_take (i := 5) (oi := ⟨_, _, _, _, _, _⟩) (v := ?_) rfl (by kernel_rfl) (by kernel_rfl) (by kernel_rfl) (fun _ _ _ h => h) (Or.inl ⟨by rfl, ?_⟩) hHeld ?_
          rotate_left
          · (intro w hSw; (try dsimp only at hSw); go_simp; try (with_reducible rfl))
          try simp only [Act.put, List.setIfInBounds_toArray, List.set_cons_zero, List.set_cons_succ]
          refine wpAnyH_take (i := 6) (oi := ⟨_, _, _, _, _, _⟩) (v := ?_) rfl (by kernel_rfl) (by kernel_rfl) (by kernel_rfl) (fun _ _ _ h => h) (Or.inl ⟨by rfl, ?_⟩) hHeld ?_
          rotate_left
          · (intro w hSw; (try dsimp only at hSw); go_simp; try (with_reducible rfl))
          try simp only [Act.put, List.setIfInBounds_toArray, List.set_cons_zero, List.set_cons_succ]
          refine wpAnyH_take (i := 7) (oi := ⟨_, _, _, _, _, _⟩) (v := ?_) rfl (by kernel_rfl) (by kernel_rfl) (by kernel_rfl) (fun _ _ _ h => h) (Or.inl ⟨by rfl, ?_⟩) hHeld ?_
          rotate_left
          · (intro w hSw; (try dsimp only at hSw); go_simp; try (with_reducible rfl))
          try simp only [Act.put, List.setIfInBounds_toArray, List.set_cons_zero, List.set_cons_succ]
          refine wpAnyH_ready (rs := [2]) (by kernel_rfl) (by simp) ?_
          refine AllReadyH.cons (o := ⟨_, _, _, _, _, _⟩) rfl (fun K hK => ?_) AllReadyH.nil
          go_simp
          go_at_call 215
          refine (row_calls wd y bx 0 cs.length cx Kr m' _ ⟨hcx, _, rfl, fun _ => rfl⟩ EK.out EW.out y0 y1 q1 hn1 _).mono ?_
          rintro e w4 ⟨vr, rfl, ⟨hcr, ar, rfl, har⟩, hb4⟩
          obtain rfl := har (by omega)
          rw [Nat.zero_add]
          replace hb4 : Below w3.heap.size w3 w4 := (below_drewN (Below.refl _ _) 1).trans hb4
          have hs4 : w3.heap.size ≤ w4.heap.size := hb4.size
          replace A0 := cellb hb4 A0
          replace A1 := cellb hb4 A1
          replace A2 := cellb hb4 A2
          replace A3 := cellb hb4 A3
          replace R0 := cellb hb4 R0
          replace R1 := cellb hb4 R1
          replace R2 := cellb hb4 R2
          replace R3 := cellb hb4 R3
          replace R4 := cellb hb4 R4
          replace S0 := cellb hb4 S0
          replace S1 := cellb hb4 S1
          replace U0 := cellb hb4 U0
          replace U1 := cellb hb4 U1
          replace Z0 : w4.frozen? ⟨w.heap.size + 1, 0, none⟩ = false := by rw [hb4.frozen (p := ⟨w.heap.size + 1, 0, none⟩) (by simp; omega)]; exact Z0
          replace Z1 : w4.frozen? ⟨w.heap.size + 1, 1, none⟩ = false := by rw [hb4.frozen (p := ⟨w.heap.size + 1, 1, none⟩) (by simp; omega)]; exact Z1
          replace Z2 : w4.frozen? ⟨w.heap.size + 1, 2, none⟩ = false := by rw [hb4.frozen (p := ⟨w.heap.size + 1, 2, none⟩) (by simp; omega)]; exact Z2
          replace Z3 : w4.frozen? ⟨w.heap.size + 1, 3, none⟩ = false := by rw [hb4.frozen (p := ⟨w.heap.size + 1, 3, none⟩) (by simp; omega)]; exact Z3
          replace Z4 : w4.frozen? ⟨w.heap.size + 1, 4, none⟩ = false := by rw [hb4.frozen (p := ⟨w.heap.size + 1, 4, none⟩) (by simp; omega)]; exact Z4
          have b4 := b3.trans (hb4.mono b3.size)
          replace HX := hide (HX.out.below hb4 (by omega))
          replace HY := hide (own_below HY.out hb4)
          clear b3 hb4
          try go_wp2_with fail
          refine hK.out _ _ ?_ ?_
          · (try dsimp only); exact ⟨S0, S1⟩
          clear hHeld hK K
          intro hHeld
          try simp only [Act.put, List.setIfInBounds_toArray, List.set_cons_zero, List.set_cons_succ]
          refine wpAnyH_take (i := 4) (oi := ⟨_, _, _, _, _, _⟩) (v := ?_) rfl (by kernel_rfl) (by kernel_rfl) (by kernel_rfl) (fun _ _ _ h => h) (Or.inl ⟨by rfl, ?_⟩) hHeld ?_
          rotate_left
          · (intro w hSw; (try dsimp only at hSw); go_simp; try (with_reducible rfl))
          try simp only [Act.put, List.setIfInBounds_toArray, List.set_cons_zero, List.set_cons_succ]
          refine wpAnyH_ready (rs := [8]) (by kernel_rfl) (by simp) ?_
          refine AllReadyH.cons (o := ⟨_, _, _, _, _, _⟩) rfl (fun K hK => ?_) AllReadyH.nil
          go_simp
          go_at_call 198
          refine (blankOf_calls at' _).mono ?_
          rintro e w5 ⟨rfl, hb5⟩
          have hs5 : w4.heap.size ≤ w5.heap.size := hb5.size
          replace A0 := cellb hb5 A0
          replace A1 := cellb hb5 A1
          replace A2 := cellb hb5 A2
          replace A3 := cellb hb5 A3
          replace R0 := cellb hb5 R0
          replace R1 := cellb hb5 R1
          replace R2 := cellb hb5 R2
          replace R3 := cellb hb5 R3
          replace R4 := cellb hb5 R4
          replace S0 := cellb hb5 S0
          replace S1 := cellb hb5 S1
          replace U0 := cellb hb5 U0
          replace U1 := cellb hb5 U1
          replace Z0 : w5.frozen? ⟨w.heap.size + 1, 0, none⟩ = false := by rw [hb5.frozen (p := ⟨w.heap.size + 1, 0, none⟩) (by simp; omega)]; exact Z0
          replace Z1 : w5.frozen? ⟨w.heap.size + 1, 1, none⟩ = false := by rw [hb5.frozen (p := ⟨w.heap.size + 1, 1, none⟩) (by simp; omega)]; exact Z1
          replace Z2 : w5.frozen? ⟨w.heap.size + 1, 2, none⟩ = false := by rw [hb5.frozen (p := ⟨w.heap.size + 1, 2, none⟩) (by simp; omega)]; exact Z2
          replace Z3 : w5.frozen? ⟨w.heap.size + 1, 3, none⟩ = false := by rw [hb5.frozen (p := ⟨w.heap.size + 1, 3, none⟩) (by simp; omega)]; exact Z3
          replace Z4 : w5.frozen? ⟨w.heap.size + 1, 4, none⟩ = false := by rw [hb5.frozen (p := ⟨w.heap.size + 1, 4, none⟩) (by simp; omega)]; exact Z4
          have b5 := b4.trans (hb5.mono b4.size)
          replace HX := hide (HX.out.below hb5 (by omega))
          replace HY := hide (own_below HY.out hb5)
          clear b4 hb5
          try go_wp2_with fail
          refine hK.out _ _ ?_ ?_
          · (try dsimp only); exact ⟨S0, S1⟩
          clear hHeld hK K
          intro hHeld
          try simp only [Act.put, List.setIfInBounds_toArray, List.set_cons_zero, List.set_cons_succ]
          refine wpAnyH_ready (rs := [9]) (by kernel_rfl) (by simp) ?_
          refine AllReadyH.cons (o := ⟨_, _, _, _, _, _⟩) rfl (fun K hK => ?_) AllReadyH.nil
          go_simp
          go_at_call 229
          refine (slide_calls bx (Kr * 2 + X * 2) (m' - X) (cx - Kr - X) _ (fun i => cs.getD (Kr + (X + i)) (0, 0)) (-n) 32 at' w5 ⟨by omega, _, rfl, fun _ => rfl⟩ (by have h := (HX.out.sub Kr m' (by omega)).sub X (m' - X) (by omega); rw [Nat.zero_add] at h; exact h) (by omega) (by omega) (by omega)).mono ?_
          rintro e w6 ⟨⟨u6, rfl⟩, hr6, ht6⟩
          replace A0 := ht6.cellAt A0 (by omega)
          replace A1 := ht6.cellAt A1 (by omega)
          replace A2 := ht6.cellAt A2 (by omega)
          replace A3 := ht6.cellAt A3 (by omega)
          replace R0 := ht6.cellAt R0 (by omega)
          replace R1 := ht6.cellAt R1 (by omega)
          replace R2 := ht6.cellAt R2 (by omega)
          replace R3 := ht6.cellAt R3 (by omega)
          replace R4 := ht6.cellAt R4 (by omega)
          replace S0 := ht6.cellAt S0 (by omega)
          replace S1 := ht6.cellAt S1 (by omega)
          replace U0 := ht6.cellAt U0 (by omega)
          replace U1 := ht6.cellAt U1 (by omega)
          replace Z0 := ht6.frozenAt (by omega) Z0
          replace Z1 := ht6.frozenAt (by omega) Z1
          replace Z2 := ht6.frozenAt (by omega) Z2
          replace Z3 := ht6.frozenAt (by omega) Z3
          replace Z4 := ht6.frozenAt (by omega) Z4
          have b6 : Below w.heap.size w w6 := b5.trans (ht6.below (by omega) (by omega))
          have hs6 : w5.heap.size ≤ w6.heap.size := ht6.size
          have l6 := HY.out.lt
          replace HY := hide (own_touch HY.out ht6 (fun k hk => by have := (l6 k hk).1; omega))
          clear l6 b5
          replace HX := hide (HX.out.join (k := Kr + X) (m := m' - X) (by rw [Nat.zero_add, Nat.add_mul]; exact ht6.mono (Nat.le_refl _) (by omega)) (by rw [Nat.zero_add, Nat.add_mul]; exact hr6) (by omega))
          clear hr6 ht6
          try go_wp2_with fail
          refine hK.out _ _ ?_ ?_
          · (try dsimp only); exact ⟨S0, S1⟩
          clear hHeld hK K
          intro hHeld
          try simp only [Act.put, List.setIfInBounds_toArray, List.set_cons_zero, List.set_cons_succ]
          refine wpAnyH_done (by kernel_rfl) ?_ _
          clear hHeld
          go_wp2_with fail
          refine (gridOf_calls wd wd n1 n2 (some ⟨bx, 0, none⟩) ay cs.length bs.length cx cy hn1 w6).mono ?_
          rintro e w8 ⟨rfl, hb8⟩
          rw [hq.out]
          replace R0 := cellb hb8 R0
          replace R1 := cellb hb8 R1
          replace R2 := cellb hb8 R2
          replace R3 := cellb hb8 R3
          replace R4 := cellb hb8 R4
          replace Z0 : w8.frozen? ⟨w.heap.size + 1, 0, none⟩ = false := by rw [hb8.frozen (p := ⟨w.heap.size + 1, 0, none⟩) (by simp; omega)]; exact Z0
          replace Z1 : w8.frozen? ⟨w.heap.size + 1, 1, none⟩ = false := by rw [hb8.frozen (p := ⟨w.heap.size + 1, 1, none⟩) (by simp; omega)]; exact Z1
          replace Z2 : w8.frozen? ⟨w.heap.size + 1, 2, none⟩ = false := by rw [hb8.frozen (p := ⟨w.heap.size + 1, 2, none⟩) (by simp; omega)]; exact Z2
          replace Z3 : w8.frozen? ⟨w.heap.size + 1, 3, none⟩ = false := by rw [hb8.frozen (p := ⟨w.heap.size + 1, 3, none⟩) (by simp; omega)]; exact Z3
          replace Z4 : w8.frozen? ⟨w.heap.size + 1, 4, none⟩ = false := by rw [hb8.frozen (p := ⟨w.heap.size + 1, 4, none⟩) (by simp; omega)]; exact Z4
          have b8 := b6.trans (hb8.mono b6.size)
          have hs8 : w6.heap.size ≤ w8.heap.size := hb8.size
          have HX8 := hide (HX.out.below hb8 (by omega))
          have HY8 := hide (own_below HY.out hb8)
          clear hb8 HX HY
          have hr := res5 (w := w8) (r := w.heap.size + 1) (.int .i64 0) (.int .i64 r) (.int .i64 wd) (.slice (some ⟨bx, 0, none⟩) cs.length cx) (.slice ay bs.length cy) R0 R1 R2 R3 R4
          go_wp2
          refine bodyPost_ret (v := .agg #[.int .i64 0, .int .i64 r, .int .i64 wd, .slice (some ⟨bx, 0, none⟩) cs.length cx, .slice ay bs.length cy]) (by simp only [results, Tryz.results214]; simp [go_sem, hr.1, hr.2.1, hr.2.2.1, hr.2.2.2.1, hr.2.2.2.2]) rfl ⟨_, _, rfl, ?_, b8.trans (show Below w.heap.size w8 _ from (by repeat' (first | with_reducible exact Below.refl _ _ | with_reducible assumption | with_reducible refine Below.drew ?_ | with_reducible refine Below.alloc ?_ ?_ _ | with_reducible refine Below.setCell ?_ ?_ _ | (simp; done) | (simp; omega) | omega)))⟩
          refine (gown_of (w := w8) (base := w7.heap.size) (m := m) (HX8.out.congr (fun i hi => ?_)) (by omega) (by omega) HY8.out (by omega) (by omega) (by simp [World.setCell]) (fun k _ => ?_) (by omega)).mono (by omega) (Nat.le_refl _)
          · unfold shiftF slideF
            by_cases e : Kr + X ≤ i ∧ i < Kr + X + (m' - X)
            · rw [if_pos e, if_pos (show Kr + X ≤ i ∧ i < Kr + m' by omega)]
              by_cases e2 : (X : Int) ≤ ((i - Kr : Nat) : Int) - n ∧ ((i - Kr : Nat) : Int) - n < m'
              · rw [if_pos e2, if_pos (show 0 ≤ ((i - (Kr + X) : Nat) : Int) + -n ∧ ((i - (Kr + X) : Nat) : Int) + -n < ((m' - X : Nat) : Int) by omega)]
                dsimp only
                rw [show Kr + (X + (((i - (Kr + X) : Nat) : Int) + -n).toNat) = Kr + (((i - Kr : Nat) : Int) - n).toNat by omega]
              · rw [if_neg e2, if_neg (show ¬ (0 ≤ ((i - (Kr + X) : Nat) : Int) + -n ∧ ((i - (Kr + X) : Nat) : Int) + -n < ((m' - X : Nat) : Int)) by omega)]
            · rw [if_neg e, if_neg (show ¬ (Kr + X ≤ i ∧ i < Kr + m') by omega)]
          · by_cases hk : k < w7.heap.size
            · exact .inr hk
            · left
              simp only [World.setCell, Array.getElem?_modify]
              repeat rw [if_neg (by omega)]
  · rw [shiftRes_def, gres_fault hG]
    generalize gridCode r wd cs bs = code at *
    have hcb : (code != 0) = true := by simpa using hG
    simp only [gbad]
    go_enter Tryz.func214, Tryz.ntmps214
    go_wp2_with fail
    refine HF.mono ?_
    rintro e w1 ⟨rfl, hb1⟩
    have A0 : w1.cell? ⟨w.heap.size, 0, none⟩ = some (.int .i64 r) := cellb hb1 (by simp [go_sem])
    have A1 : w1.cell? ⟨w.heap.size, 1, none⟩ = some (.int .i64 wd) := cellb hb1 (by simp [go_sem])
    have A2 : w1.cell? ⟨w.heap.size, 2, none⟩ = some (.slice a1 cs.length c1) := cellb hb1 (by simp [go_sem])
    have A3 : w1.cell? ⟨w.heap.size, 3, none⟩ = some (.slice a2 bs.length c2) := cellb hb1 (by simp [go_sem])
    have R0 : w1.cell? ⟨w.heap.size + 1, 0, none⟩ = some (.int .i64 0) := cellb hb1 (by simp [go_sem])
    have Z0 : w1.frozen? ⟨w.heap.size + 1, 0, none⟩ = false := by rw [hb1.frozen (p := ⟨w.heap.size + 1, 0, none⟩) (by simp)]; simp [go_sem]
    have R1 : w1.cell? ⟨w.heap.size + 1, 1, none⟩ = some (.int .i64 0) := cellb hb1 (by simp [go_sem])
    have Z1 : w1.frozen? ⟨w.heap.size + 1, 1, none⟩ = false := by rw [hb1.frozen (p := ⟨w.heap.size + 1, 1, none⟩) (by simp)]; simp [go_sem]
    have R2 : w1.cell? ⟨w.heap.size + 1, 2, none⟩ = some (.int .i64 0) := cellb hb1 (by simp [go_sem])
    have Z2 : w1.frozen? ⟨w.heap.size + 1, 2, none⟩ = false := by rw [hb1.frozen (p := ⟨w.heap.size + 1, 2, none⟩) (by simp)]; simp [go_sem]
    have R3 : w1.cell? ⟨w.heap.size + 1, 3, none⟩ = some (.slice none 0 0) := cellb hb1 (by simp [go_sem])
    have Z3 : w1.frozen? ⟨w.heap.size + 1, 3, none⟩ = false := by rw [hb1.frozen (p := ⟨w.heap.size + 1, 3, none⟩) (by simp)]; simp [go_sem]
    have R4 : w1.cell? ⟨w.heap.size + 1, 4, none⟩ = some (.slice none 0 0) := cellb hb1 (by simp [go_sem])
    have Z4 : w1.frozen? ⟨w.heap.size + 1, 4, none⟩ = false := by rw [hb1.frozen (p := ⟨w.heap.size + 1, 4, none⟩) (by simp)]; simp [go_sem]
    have hs1 : w.heap.size + 2 ≤ w1.heap.size := by have := hb1.size; simp at this; omega
    have b1 : Below w.heap.size w w1 := hb0.trans (hb1.mono (by simp; omega))
    clear hb1 hb0 HF
    have hr := res5 (w := w1) (r := w.heap.size + 1) (.int .i64 code) (.int .i64 0) (.int .i64 0) (.slice none 0 0) (.slice none 0 0) R0 R1 R2 R3 R4
    go_wp2
    refine bodyPost_ret (v := .agg #[.int .i64 code, .int .i64 0, .int .i64 0, .slice none 0 0, .slice none 0 0]) (by simp only [results, Tryz.results214]; simp [go_sem, hr.1, hr.2.1, hr.2.2.1, hr.2.2.2.1, hr.2.2.2.2]) rfl ⟨_, _, rfl, ?_, b1.trans (show Below w.heap.size w1 _ from (by repeat' (first | with_reducible exact Below.refl _ _ | with_reducible assumption | with_reducible refine Below.drew ?_ | with_reducible refine Below.alloc ?_ ?_ _ | with_reducible refine Below.setCell ?_ ?_ _ | (simp; done) | (simp; omega) | omega)))⟩
    exact GOwn.nil _ _ _ (by have := b1.size; simp [World.setCell]; omega)

set_option maxHeartbeats 2000000 in
theorem l3Shift_calls (pb bx N cx K X m : Nat) (y wd n at' : Int) (f : Nat → Int × Int) (w : World) (c1 : w.cell? ⟨pb, 1, none⟩ = some (.int .i64 wd)) (c2 : w.cell? ⟨pb, 2, none⟩ = some (.slice (some ⟨bx, 0, none⟩) N cx)) (hr : Row w bx 0 N f) (hc : N ≤ cx) (hp : pb ≠ bx) (hpw : pb < w.heap.size)
    (hK : y * wd = (K : Int)) (hm : wd = (m : Int)) (hKm : K + m ≤ N) (hN : N ≤ 72) (hX : X < m) (hm12 : m ≤ 12) (y0 : 0 ≤ y) (y1 : y ≤ 1000) (n1 : -12 ≤ n) (n2 : n ≤ 12) :
    Calls Tryz.prog 149 #[.pointer (some ⟨pb, 0, none⟩), .int .i64 y, .int .i64 X, .int .i64 n, .int .i64 at'] w fun e w' => (∃ u, e = .returned u) ∧ Row w' bx 0 N (shiftF K X m n f (32, at')) ∧ Touch bx 0 (N * 2) w w' := by
  obtain ⟨i0, hi, hz0, hz1, hz2⟩ := info_parts info_cell
  have hbx : bx < w.heap.size := hr.lt (by omega)
  have HRO := l3RowOf_calls pb bx N cx K m (K + m) y wd f w c1 c2 hr.read hc hK hm rfl hKm (by omega) (by omega) y0 y1
  have HF := hide hr
  have HK := hide hK
  have HM := hide hm
  clear hr hK hm
  go_enter Tryz.func149, Tryz.ntmps149
  go_wp2_with fail
  refine HRO.mono ?_
  rintro e w1 ⟨vw, rfl, ow, hb1⟩
  clear HRO
  have hs1 : w.heap.size ≤ w1.heap.size := hb1.size
  obtain ⟨bw, cw, rfl, hcw, _, u1, u2, hroww⟩ := own_row ow (by omega)
  have hlit : (w1.alloc (.cells #[] 193)).ownsRow w1.heap.size 193 2 (.slice (some ⟨w1.heap.size, 0, none⟩) 0 0) 0 (pvs []) := World.ownsRow_lit (base := w1.heap.size) (e := 193) (size := 2) w1 #[] 0 (Nat.le_refl _) (by simp) rfl
  have hpr : PRead (w1.alloc (.cells #[] 193)) (.slice (some ⟨bw, 0, none⟩) m cw) (mkL m (fun i => f (K + i))) := (pread_of_row (hroww.congr (fun i hi => mkL_get _ _ _ hi)).read).below ((Below.refl _ _).alloc (Nat.le_refl _) _)
  have D1 := cellb hb1 c1
  have D2 := cellb hb1 c2
  have HW := hide (hroww.congr (fun i hi => mkL_get _ _ _ hi)).read
  have HF1 := hide (HF.out.below hb1 hbx)
  have HB1 := hide hb1
  clear hroww ow hb1
  go_wp2_with (at_builtin; refine wpList_append_pread _ rfl (.tmp 17) (.tmp 18) 33 rfl w1.heap.size 193 i0 (.agg #[.int .i64 0, .int .i64 0]) 16 Tryz.underlying33 hi hz0 hz1 hz2 rfl _ 0 [] rfl hlit (some ⟨bw, 0, none⟩) (mkL m (fun i => f (K + i))) m cw rfl (by rw [mkL_length]) hpr (by unfold maxLen; omega) (by omega) (by simp) ?_)
  intro vn w2 on hgr
  have hb2 : Below w1.heap.size w1 w2 := (((Below.refl _ _).alloc (Nat.le_refl _) _) : Below w1.heap.size w1 (w1.alloc (.cells #[] 193))).grown hgr (by simp) (fun q hq => (hlit.lt q hq).1)
  try simp only [List.nil_append, Nat.zero_add] at on
  obtain ⟨bn, cn, rfl, hcn, _, v1, v2, hrown⟩ := own_row on (by omega)
  have hs2 : w1.heap.size ≤ w2.heap.size := hb2.size
  replace D1 := cellb hb2 D1
  replace D2 := cellb hb2 D2
  replace HW := hide (HW.out.below hb2 u2)
  replace HF1 := hide (HF1.out.below hb2 (by omega))
  have HB2 := hide (HB1.out.trans (hb2.mono hs1))
  have HN := hide (hrown.congr (fun i hi => mkL_get _ _ _ hi))
  clear hrown on hgr hlit hpr hb2 HB1
  go_wp2
  go_loopw [12] (fun i wr => ∃ k : Nat, X ≤ k ∧ k ≤ m ∧ i = .int .i64 k ∧ Touch bn 0 (m * 2) w2 wr ∧ Hid (Row wr bn 0 m (fun j => if X ≤ j ∧ j < k then (if (X : Int) ≤ (j : Int) - n ∧ (j : Int) - n < m then f (K + ((j : Int) - n).toNat) else (32, at')) else f (K + j)))) (fun i _ => m - (intOf i).toNat)
  case atStart => exact ⟨X, Nat.le_refl _, by omega, rfl, Touch.refl _ _ _ _, hide (HN.out.congr (fun i hi => by rw [if_neg (by omega)]))⟩
  case round =>
    obtain ⟨k, hk1, hk2, rfl, ht, hrow⟩ := hrel
    have E1 := ht.cellAt D1 (by omega)
    have E2 := ht.cellAt D2 (by omega)
    have hkm : wd = (m : Int) := HM.out
    by_cases hlt : k < m
    · have hltI : (k : Int) < wd := by omega
      have hltM : (k : Int) < (m : Int) := by omega
      obtain ⟨⟨g1, g2⟩, f1, f2⟩ := hrow.out k hlt
      rw [Nat.zero_add] at g1 g2 f1 f2
      generalize ((fun j => if X ≤ j ∧ j < k then (if (X : Int) ≤ (j : Int) - n ∧ (j : Int) - n < m then f (K + ((j : Int) - n).toNat) else (32, at')) else f (K + j)) k).2 = o2 at g2
      generalize ((fun j => if X ≤ j ∧ j < k then (if (X : Int) ≤ (j : Int) - n ∧ (j : Int) - n < m then f (K + ((j : Int) - n).toNat) else (32, at')) else f (K + j)) k).1 = o1 at g1
      have HT := hide ht
      have w3 : 2 ≤ wd ∨ wd < 2 := by omega
      have wd1 : 0 ≤ wd := by omega
      have wd2 : wd ≤ 12 := by omega
      have HKM := hide hkm
      clear hkm w3 ht
      go_wp2_with fail
      refine (l1In_calls ((k : Int) - n) X (wd - 1) _).mono ?_
      rintro e w' ⟨rfl, hw⟩
      rw [hw]
      clear hw w'
      cases hd : decide ((X : Int) ≤ (k : Int) - n ∧ (k : Int) - n ≤ wd - 1) with
      | true =>
        have hd' := of_decide_eq_true hd
        obtain ⟨q, hq⟩ : ∃ q : Nat, (k : Int) - n = (q : Int) := ⟨((k : Int) - n).toNat, by omega⟩
        have hqm : q < m := by have := HKM.out; omega
        have hqI : (q : Int) < (m : Int) := by omega
        obtain ⟨p1, p2⟩ := (HW.out.touch HT.out (by omega)) q hqm
        rw [Nat.zero_add] at p1 p2
        dsimp only at p1 p2
        generalize hfq : f (K + q) = fq at p1 p2
        obtain ⟨fq1, fq2⟩ := fq
        dsimp only at p1 p2
        have g3 : (wr.setCell ⟨bn, k * 2, none⟩ (.int .i64 fq1)).cell? ⟨bn, k * 2 + 1, none⟩ = some (.int .i64 o2) := by rw [World.cell?_setCell_other _ _ _ _ (addr_ne (by omega))]; exact g2
        have HQ := hide hq
        have HFQ := hide hfq
        have HD := hide hd'
        clear hfq hd' hd
        go_wp2
        go_roundw
        case rel =>
          have hst := hrow.out.store hlt fq1 fq2
          rw [Nat.zero_add] at hst
          refine ⟨k + 1, by omega, by omega, by go_num, HT.out.trans (by have h := touch_store (b := bn) (off := 0) (k := k) wr (.int .i64 fq1) (.int .i64 fq2) (p := 0) (q := m * 2) (by omega) (by omega); rw [Nat.zero_add] at h; exact h), hide (hst.congr (fun i hi => ?_))⟩
          by_cases e : i = k
          · subst e
            have h1 := HQ.out
            have h2 := HD.out
            have h3 := HKM.out
            rw [if_pos rfl, if_pos (show X ≤ i ∧ i < i + 1 by omega), if_pos (show (X : Int) ≤ (i : Int) - n ∧ (i : Int) - n < m by omega), show ((i : Int) - n).toNat = q by omega, HFQ.out]
          · rw [if_neg e]
            by_cases e2 : X ≤ i ∧ i < k
            · rw [if_pos e2, if_pos (show X ≤ i ∧ i < k + 1 by omega)]
            · rw [if_neg e2, if_neg (show ¬ (X ≤ i ∧ i < k + 1) by omega)]
        case measure => simp [intOf]; omega
      | false =>
        have HD := hide (of_decide_eq_false hd)
        clear hd
        have g3 : (wr.setCell ⟨bn, k * 2, none⟩ (.int .i64 32)).cell? ⟨bn, k * 2 + 1, none⟩ = some (.int .i64 o2) := by rw [World.cell?_setCell_other _ _ _ _ (addr_ne (by omega))]; exact g2
        go_wp2
        go_roundw
        case rel =>
          have hst := hrow.out.store hlt 32 at'
          rw [Nat.zero_add] at hst
          refine ⟨k + 1, by omega, by omega, by go_num, HT.out.trans (by have h := touch_store (b := bn) (off := 0) (k := k) wr (.int .i64 32) (.int .i64 at') (p := 0) (q := m * 2) (by omega) (by omega); rw [Nat.zero_add] at h; exact h), hide (hst.congr (fun i hi => ?_))⟩
          by_cases e : i = k
          · subst e
            have h2 := HD.out
            have h3 := HKM.out
            rw [if_pos rfl, if_pos (show X ≤ i ∧ i < i + 1 by omega), if_neg (show ¬ ((X : Int) ≤ (i : Int) - n ∧ (i : Int) - n < m) by omega)]
          · rw [if_neg e]
            by_cases e2 : X ≤ i ∧ i < k
            · rw [if_pos e2, if_pos (show X ≤ i ∧ i < k + 1 by omega)]
            · rw [if_neg e2, if_neg (show ¬ (X ≤ i ∧ i < k + 1) by omega)]
        case measure => simp [intOf]; omega
    · obtain rfl : k = m := by omega
      have hge : ¬ ((k : Int) < wd) := by omega
      have HKM := hide hkm
      have HT := hide ht
      clear hkm ht
      go_wp2_with fail
      refine (l3Row_calls pb bx N cx K k (K + k) bn k cn k y wd f _ wr E1 E2 (HF1.out.touch HT.out (by omega)) hc hp hrow.out.read HK.out HKM.out rfl hKm (by omega) (by omega) y0 y1 (by omega)).mono ?_
      rintro e w4 ⟨⟨u4, rfl⟩, hr4, ht4⟩
      have H4 := hide hr4
      have T4 := hide ht4
      clear hr4 ht4
      go_wp2
      go_end0
      refine ⟨⟨_, rfl⟩, H4.out.congr (fun i hi => ?_), (Touch.of_below (HB2.out.trans (HT.out.below (B := w.heap.size) (by omega) (by omega))) (Nat.le_refl _) hbx).trans T4.out⟩
      · unfold shiftF
        by_cases e : K ≤ i ∧ i < K + k
        · rw [if_pos e]
          by_cases e2 : X ≤ i - K ∧ i - K < k
          · rw [if_pos e2, if_pos (show K + X ≤ i ∧ i < K + k by omega)]
          · rw [if_neg e2, if_neg (show ¬ (K + X ≤ i ∧ i < K + k) by omega), show K + (i - K) = i by omega]
        · rw [if_neg e, if_neg (show ¬ (K + X ≤ i ∧ i < K + k) by omega)]
end Go.Proofs.YtdekegjplegkeaaGreat

/- The rows of a sheet, told by impl's iterator: what it hands to each round, for every body that leaves the iterator's own box alone. -/
namespace Go.Proofs.YtdekegjplegkeaaGreat
set_option maxRecDepth 20000
open Go.ChangeShapes Go.WideShapes Go.ChangeAt Go.RowKit Go.Shelf
attribute [local go_sem] Oper.semAt_some
set_option linter.unusedVariables false
set_option linter.unusedSimpArgs false
set_option maxRecDepth 100000

/-- The y-th of H rows of m cells, as a round is handed it. -/
def rowEnc (b off m H cap : Nat) (y : Nat) : Array Value := #[.int .i64 ((y % H : Nat) : Int), .slice (some ⟨b, off + (y % H) * m * 2, none⟩) m (cap - (y % H) * m)]
/-- What a round that goes on leaves: the iterator's own box. -/
def KeepBox (Bs : Nat) (W W' : World) : Prop := W'.heap[Bs]? = W.heap[Bs]?

theorem abides_below {β : Type} {B : Nat} {J : β → World → Prop} (h : AbidesFrom B J) {s : β} {W W' : World} (hs : J s W) (hb : Below W.heap.size W W') : J s W' :=
  h s W W' none hs ⟨hb.os, hb.tape, hb.output, hb.size, fun k hk _ => hb.block k hk⟩ (fun r e => by cases e)

set_option maxHeartbeats 2000000 in
theorem rows1_in (n : Nat) (l Bs b off m H N cap : Nat) (wd : Int) (a : Option Addr) (hN : N = H * m) (hwd : wd = (m : Int)) (hm : 1 ≤ m) (hm2 : m ≤ 1000) (hH : H ≤ 1000) (hc : N ≤ cap) (ha : 0 < N → a = some ⟨b, off, none⟩) (hN1 : N ≤ 1048576) (J Jx : List Nat → World → Prop)
    (W : World) (hJ : AbidesFrom W.heap.size J)
    (hY : ∀ pre x W1, J pre W1 → pre.length < H → YieldAt Fence.wide (n - 1) Tryz.prog l (rowEnc b off m H cap x) W1 fun e W' =>
      (e = .returned (.bool true) ∧ J (pre ++ [x]) W' ∧ KeepBox Bs W1 W') ∨ (e = .returned (.bool false) ∧ Jx (pre ++ [x]) W'))
    (c0 : W.cell? ⟨Bs, 0, none⟩ = some (.int .i64 wd)) (c1 : W.cell? ⟨Bs, 1, none⟩ = some (.slice a N cap)) (h0 : J [] W) :
    CallsIn Fence.wide n Tryz.prog 237 #[.func (.yield l) #[] #[], .pointer (some ⟨Bs, 0, none⟩)] W fun e W' => (∃ v, e = .returned v) ∧
      ((∃ ys, ys = List.range H ∧ J ys W') ∨ (∃ pre, (∃ k, k ≤ H ∧ pre = List.range k) ∧ Jx pre W')) := by
  have hq : (N : Int) / wd = (H : Int) := by rw [hN, hwd, Int.natCast_mul]; exact Int.mul_ediv_cancel _ (by omega)
  have HQ := hide hq
  have HN := hide hN
  have HWD := hide hwd
  have w1' : 1 ≤ wd := by omega
  have w2' : wd ≤ 1000 := by omega
  have HA := hide ha
  clear hq hN hwd ha
  refine callsIn_of_wp Tryz.func237 rfl trivial ?_ rfl
  simp only [Tryz.ntmps237, List.size_toArray, List.length_cons, List.length_nil, Nat.reduceAdd, Nat.reduceSub, Array.replicate_succ, Array.replicate_zero, List.push_toArray, List.append_toArray, List.nil_append, List.cons_append]
  gi_wp2
  refine ⟨trivial, fun h => by simp [Fence.wide] at h, (callsIn_wide.2 (height_calls wd w1' w2' a N cap hN1 _)).mono ?_⟩
  rintro e W2 ⟨rfl, hb2⟩
  rw [HQ.out]
  replace c0 := cellb hb2 c0
  replace c1 := cellb hb2 c1
  have h2 : J [] W2 := abides_below hJ h0 hb2
  clear hb2
  gi_wp2
  gi_loopw [6] (fun i wr => ∃ k : Nat, k ≤ H ∧ i = .int .i64 k ∧ J (List.range k) wr ∧ wr.cell? ⟨Bs, 0, none⟩ = some (.int .i64 wd) ∧ wr.cell? ⟨Bs, 1, none⟩ = some (.slice a N cap)) (fun i _ => H - (intOf i).toNat)
  case atStart => exact ⟨0, Nat.zero_le _, rfl, h2, c0, c1⟩
  case round =>
    obtain ⟨k, hk, rfl, hJs, d0, d1⟩ := hrel
    clear c0 c1 h2 h0
    by_cases hlt : k < H
    · have hltI : (k : Int) < (H : Int) := by omega
      have hkm : k * m + m ≤ N := by
        have h := Nat.mul_le_mul_right m (show k + 1 ≤ H by omega)
        rw [Nat.add_mul, ← HN.out] at h
        omega
      have hNp : 0 < N := by omega
      have hkw : (k : Int) * wd = ((k * m : Nat) : Int) := by rw [HWD.out, Int.natCast_mul]
      have HKW := hide hkw
      clear hkw
      gi_wp2
      refine ⟨trivial, fun h => by simp [Fence.wide] at h, (callsIn_wide.2 (row_calls wd k b off N cap (k * m) m (.slice a N cap) ⟨hc, a, rfl, HA.out⟩ HKW.out HWD.out (by omega) (by omega) hkm hN1 wr)).mono ?_⟩
      rintro e W3 ⟨v, rfl, ⟨hcv, av, rfl, hav⟩, hb3⟩
      obtain rfl := hav (by omega)
      replace d0 := cellb hb3 d0
      replace d1 := cellb hb3 d1
      have hJ3 : J (List.range k) W3 := abides_below hJ hJs hb3
      clear hb3 hJs
      obtain ⟨fn, tmps, assign, body, hy, hR⟩ := hY _ k W3 hJ3 (by simpa using hlt)
      have hmod : k % H = k := Nat.mod_eq_of_lt hlt
      simp only [rowEnc, hmod] at hy
      gi_wp2
      refine ⟨fun h => by simp [Fence.wide] at h, hR.mono ?_⟩
      rintro e W4 (⟨rfl, hJ4, hk4⟩ | ⟨rfl, hx4⟩)
      · have d0' : W4.cell? ⟨Bs, 0, none⟩ = some (.int .i64 wd) := (World.cell?_of_block (w := W3) (a := ⟨Bs, 0, none⟩) hk4).trans d0
        have d1' : W4.cell? ⟨Bs, 1, none⟩ = some (.slice a N cap) := (World.cell?_of_block (w := W3) (a := ⟨Bs, 1, none⟩) hk4).trans d1
        gi_wp2
        go_roundw
        case rel => exact ⟨k + 1, by omega, by go_num, by rw [List.range_succ]; exact hJ4, d0', d1'⟩
        case measure => simp [intOf]; omega
      · gi_wp2
        refine bodyPost_ret (results_none rfl _ _ _) rfl ?_
        exact ⟨⟨_, rfl⟩, .inr ⟨_, ⟨k + 1, by omega, (List.range_succ).symm⟩, hx4⟩⟩
    · obtain rfl : k = H := by omega
      have hge : ¬ ((k : Int) < (k : Int)) := by omega
      gi_wp2
      go_end0
      first
        | exact ⟨⟨_, rfl⟩, .inl ⟨_, rfl, hJs⟩⟩
        | exact ⟨⟨_, rfl⟩, .inl hJs⟩

/-- The iterator's contract. -/
theorem rows_stops (n : Nat) (Bs b off m H N cap : Nat) (wd : Int) (a : Option Addr) (hN : N = H * m) (hwd : wd = (m : Int)) (hm : 1 ≤ m) (hm2 : m ≤ 1000) (hH : H ≤ 1000) (hc : N ≤ cap) (ha : 0 < N → a = some ⟨b, off, none⟩) (hN1 : N ≤ 1048576) (w : World) (hBs : Bs < w.heap.size)
    (c0 : w.cell? ⟨Bs, 0, none⟩ = some (.int .i64 wd)) (c1 : w.cell? ⟨Bs, 1, none⟩ = some (.slice a N cap)) :
    SeqStopsK Fence.wide n Tryz.prog 237 #[.pointer (some ⟨Bs, 0, none⟩)] (rowEnc b off m H cap) (KeepBox Bs) (fun ys => ys = List.range H) (fun pre => ∃ k, k ≤ H ∧ pre = List.range k) H w := fun l J Jx W hW hJ _ hY h0 =>
  rows1_in n l Bs b off m H N cap wd a hN hwd hm hm2 hH hc ha hN1 J Jx W hJ hY (cellb hW c0) (cellb hW c1) h0

theorem rows_calls (wd : Int) (a : Option Addr) (N cap : Nat) (w : World) :
    Calls Tryz.prog 225 #[.agg #[.int .i64 wd, .slice a N cap]] w fun e w' => e = .returned (.func (.func 237) #[] #[.pointer (some ⟨w.heap.size, 0, none⟩)]) ∧ w' = w.alloc (.cells #[.int .i64 wd, .slice a N cap] 217) := by
  go_enter Tryz.func225, Tryz.ntmps225
  go_wp2
  go_ret
  exact ⟨rfl, rfl⟩

end Go.Proofs.YtdekegjplegkeaaGreat

/- A sheet followed by the rows of another, walked: impl's followedBy, that ranges over the iterator of rows. -/
namespace Go.Proofs.YtdekegjplegkeaaGreat
set_option maxRecDepth 20000
open Go.ChangeShapes Go.WideShapes Go.ChangeAt Go.RowKit Go.Shelf
attribute [local go_sem] Oper.semAt_some
set_option linter.unusedVariables false
set_option linter.unusedSimpArgs false
set_option maxRecDepth 100000

/-- The cells of the rows that have come. -/
def rowsL (m H : Nat) (f : Nat → Int × Int) (pre : List Nat) : List (Int × Int) := pre.flatMap fun y => mkL m (fun i => f ((y % H) * m + i))
theorem rowsL_snoc (m H : Nat) (f : Nat → Int × Int) (pre : List Nat) (x : Nat) : rowsL m H f (pre ++ [x]) = rowsL m H f pre ++ mkL m (fun i => f ((x % H) * m + i)) := by simp [rowsL]
theorem cvs_mk (m : Nat) (g : Nat → Int × Int) : cvs m g = pvs (mkL m g) := by simp [cvs, pvs, mkL, List.flatMap_map]
theorem mkL_add (n k : Nat) (f : Nat → Int × Int) : mkL (n + k) f = mkL n f ++ mkL k (fun i => f (n + i)) := by
  simp [mkL, List.range_add]
theorem rowsL_range (m H : Nat) (f : Nat → Int × Int) : ∀ k, k ≤ H → rowsL m H f (List.range k) = mkL (k * m) f
  | 0, _ => by simp [rowsL, mkL]
  | k + 1, h => by
    rw [List.range_succ, rowsL_snoc, rowsL_range m H f k (by omega), Nat.add_mul, Nat.one_mul, mkL_add, Nat.mod_eq_of_lt (by omega : k < H)]

/-- Between two rounds: the box of the sheet that is appended to (sb), the result's box, the row that is owned. -/
structure FolI (w : World) (wd : Int) (base k m H : Nat) (bs : List (Int × Int)) (f : Nat → Int × Int) (v0 : Value) (pre : List Nat) (W : World) : Prop where
  c0 : W.cell? ⟨w.heap.size, 0, none⟩ = some (.int .i64 wd)
  f1 : W.frozen? ⟨w.heap.size, 1, none⟩ = false
  r0 : W.cell? ⟨w.heap.size + 2, 0, none⟩ = some (.int .i64 0)
  r1 : W.cell? ⟨w.heap.size + 2, 1, none⟩ = some (.slice none 0 0)
  z0 : W.frozen? ⟨w.heap.size + 2, 0, none⟩ = false
  z1 : W.frozen? ⟨w.heap.size + 2, 1, none⟩ = false
  size : w.heap.size + 4 ≤ W.heap.size
  ex : ∃ v, W.cell? ⟨w.heap.size, 1, none⟩ = some v ∧ W.ownsRow base 193 2 v (k + pre.length * m) (pvs (bs ++ rowsL m H f pre)) ∧ GrowTo w W v0 v ∧ (∀ j, v.ownBlock = some j → j < w.heap.size ∨ w.heap.size + 4 ≤ j)

theorem FolI.own {w : World} {wd : Int} {base k m H : Nat} {bs : List (Int × Int)} {f : Nat → Int × Int} {v0 : Value} {B : Nat} (hB : w.heap.size ≤ B) : OwnFrom B (fun pre W => FolI w wd base k m H bs f v0 pre W) := by
  intro pre W W' row h hg hr
  have hr' : ∀ r, row = some r → ∃ o : Obj, W.heap[r]? = some o ∧ o.isCells = false := fun r e => (hr r e).2
  obtain ⟨v, h1, h2, h3, h4⟩ := h.ex
  refine ⟨cell_kept h.c0 hg hr', (frozen_kept h1 hg hr').trans h.f1, cell_kept h.r0 hg hr', cell_kept h.r1 hg hr', (frozen_kept h.r0 hg hr').trans h.z0, (frozen_kept h.r1 hg hr').trans h.z1, Nat.le_trans h.size hg.size, v, cell_kept h1 hg hr', ?_, ?_, h4⟩
  · refine own_block h2 fun j hj => ?_
    obtain ⟨_, h2'⟩ := h2
    rcases h2' with ⟨rfl, _⟩ | ⟨g, cap, cur, rfl, _, hgc, _⟩
    · cases hj
    · have : g = j := by simpa [Value.ownBlock] using hj
      subst this
      exact grownBy_keeps_cells hg hr' hgc rfl
  · refine ⟨⟨hg.os.trans h3.grown.os, hg.tape.trans h3.grown.tape, hg.output.trans h3.grown.output, Nat.le_trans h3.grown.size hg.size, fun j hj hne => ?_⟩, h3.spot⟩
    refine (hg.block j (Nat.lt_of_lt_of_le hj h3.grown.size) (fun e => ?_)).trans (h3.grown.block j hj hne)
    have := (hr j e.symm).1
    omega

set_option maxHeartbeats 4000000 in
theorem followedBy_calls (wd : Int) (base k m H N cap b off : Nat) (a : Option Addr) (v : Value) (bs : List (Int × Int)) (f : Nat → Int × Int) (w : World) (hown : w.ownsRow base 193 2 v k (pvs bs)) (hbase : base ≤ w.heap.size)
    (hr : RowR w b off N f) (hbne : some b ≠ v.ownBlock) (hN : N = H * m) (hwd : wd = (m : Int)) (hm : 1 ≤ m) (hm2 : m ≤ 1000) (hH : H ≤ 1000) (hc : N ≤ cap) (ha : 0 < N → a = some ⟨b, off, none⟩) (hN1 : N ≤ 100000) (hk : k ≤ 100000) :
    Calls Tryz.prog 239 #[.agg #[.int .i64 wd, v], .agg #[.int .i64 wd, .slice a N cap]] w fun e w' => ∃ v', e = .returned (.agg #[.int .i64 wd, v']) ∧ w'.ownsRow base 193 2 v' (k + N) (pvs (bs ++ mkL N f)) ∧ GrowTo w w' v v' := by
  obtain ⟨i0, hi, hz0, hz1, hz2⟩ := info_parts info_cell
  have hlt := hown.lt
  obtain ⟨av, cv, rfl, hcv⟩ := own_room2 hown
  have HOWN := hide hown
  have HLT := hide hlt
  have HR := hide hr
  have HN := hide hN
  have HW := hide hwd
  have HA := hide ha
  clear hown hlt hr hN hwd ha
  refine (callsIn_wide (n := 5)).1 ?_
  refine callsIn_of_wp_marks Tryz.func239 rfl trivial ?_ rfl
  simp only [Tryz.ntmps239, List.size_toArray, List.length_cons, List.length_nil, Nat.reduceAdd, Nat.reduceSub, Array.replicate_succ, Array.replicate_zero, List.push_toArray, List.append_toArray, List.nil_append, List.cons_append]
  gi_wp2
  refine ⟨trivial, (callsIn_wide.2 (rows_calls wd a N cap _)).mono ?_⟩
  rintro e w' ⟨rfl, rfl⟩
  have hbL : Below w.heap.size w ((((w.alloc (.cells #[.int .i64 wd, .slice av k cv] 217)).alloc (.cells #[.int .i64 wd, .slice a N cap] 217)).alloc (.cells #[.int .i64 0, .slice none 0 0] 217)).alloc (.cells #[.int .i64 wd, .slice a N cap] 217)) := (by repeat' (first | with_reducible exact Below.refl _ _ | with_reducible assumption | with_reducible refine Below.drew ?_ | with_reducible refine Below.alloc ?_ ?_ _ | with_reducible refine Below.setCell ?_ ?_ _ | (simp; done) | (simp; omega) | omega))
  have hI0 : FolI w wd base k m H bs f (.slice av k cv) [] ((((w.alloc (.cells #[.int .i64 wd, .slice av k cv] 217)).alloc (.cells #[.int .i64 wd, .slice a N cap] 217)).alloc (.cells #[.int .i64 0, .slice none 0 0] 217)).alloc (.cells #[.int .i64 wd, .slice a N cap] 217)) := by
    refine ⟨by simp [go_sem], by simp [go_sem], by simp [go_sem], by simp [go_sem], by simp [go_sem], by simp [go_sem], by simp, .slice av k cv, by simp [go_sem], ?_, GrowTo.of_below hbL _, fun j hj => .inl (HLT.out j hj).2⟩
    have h := own_below HOWN.out hbL
    simpa [rowsL] using h
  have hsL : ((((w.alloc (.cells #[.int .i64 wd, .slice av k cv] 217)).alloc (.cells #[.int .i64 wd, .slice a N cap] 217)).alloc (.cells #[.int .i64 0, .slice none 0 0] 217)).alloc (.cells #[.int .i64 wd, .slice a N cap] 217)).heap.size = w.heap.size + 4 := by simp
  have q0 : ((((w.alloc (.cells #[.int .i64 wd, .slice av k cv] 217)).alloc (.cells #[.int .i64 wd, .slice a N cap] 217)).alloc (.cells #[.int .i64 0, .slice none 0 0] 217)).alloc (.cells #[.int .i64 wd, .slice a N cap] 217)).cell? ⟨w.heap.size + 3, 0, none⟩ = some (.int .i64 wd) := by simp [go_sem]
  have q1 : ((((w.alloc (.cells #[.int .i64 wd, .slice av k cv] 217)).alloc (.cells #[.int .i64 wd, .slice a N cap] 217)).alloc (.cells #[.int .i64 0, .slice none 0 0] 217)).alloc (.cells #[.int .i64 wd, .slice a N cap] 217)).cell? ⟨w.heap.size + 3, 1, none⟩ = some (.slice a N cap) := by simp [go_sem]
  have esz : (((w.alloc (.cells #[.int .i64 wd, .slice av k cv] 217)).alloc (.cells #[.int .i64 wd, .slice a N cap] 217)).alloc (.cells #[.int .i64 0, .slice none 0 0] 217)).heap.size = w.heap.size + 3 := by simp
  rw [esz]
  clear esz
  generalize ((((w.alloc (.cells #[.int .i64 wd, .slice av k cv] 217)).alloc (.cells #[.int .i64 wd, .slice a N cap] 217)).alloc (.cells #[.int .i64 0, .slice none 0 0] 217)).alloc (.cells #[.int .i64 wd, .slice a N cap] 217)) = wL at *
  gi_wp2
  have hblt : 0 < N → b < w.heap.size := fun h => HR.out.lt h
  refine wpIn_rangeFunc_ownF rfl (by omega) (gf := 237) (lb := #[.pointer (some ⟨w.heap.size + 3, 0, none⟩)]) rfl trivial (enters_of Tryz.func237 (by kernel_rfl) rfl)
    (rows_stops _ (w.heap.size + 3) b off m H N cap wd a HN.out HW.out hm hm2 hH hc HA.out (by omega) wL (by omega) q0 q1) (fun h k => k.trans h) (fun W l o o' hl h h1 h2 => World.putObj_heap_other (by omega)) (Below.refl _ _) (fun _ => rfl)
    (fun pre W => FolI w wd base k m H bs f (.slice av k cv) pre W) (fun _ _ _ => False) (FolI.own (by omega)) (fun _ _ _ _ _ hs _ _ => hs) hI0
    (fun x => { tmps := #[.agg #[.int .i64 wd, .slice av k cv], .agg #[.int .i64 wd, .slice a N cap], .pointer (some ⟨w.heap.size, 0, none⟩), .pointer (some ⟨w.heap.size + 1, 0, none⟩), .pointer (some ⟨w.heap.size + 1 + 1, 0, none⟩), undef, .slice (some ⟨b, off + (x % H) * m * 2, none⟩) m (cap - (x % H) * m), .agg #[.int .i64 wd, .slice a N cap], .func (.func 237) #[] #[.pointer (some ⟨w.heap.size + 3, 0, none⟩)], .int .i64 ((x : Int) % (H : Int)), .slice (some ⟨b, off + (x % H) * m * 2, none⟩) m (cap - (x % H) * m), undef, undef, undef, undef, undef, undef], defers := [] }) ?assign ?body ?done ?stop
  case assign =>
    intro l x W K hK
    simp only [rowEnc]
    gi_wp2
    exact hK
  case body =>
    rintro l pre x W hF hlen
    obtain ⟨v, c1, ho, hgt, hsp⟩ := hF.ex
    have hH0 : 0 < H := by omega
    have hx : x % H < H := Nat.mod_lt _ hH0
    have hrl := rowsL_snoc m H f pre x
    have hym : x % H * m + m ≤ N := by
      have h := Nat.mul_le_mul_right m (show x % H + 1 ≤ H by omega)
      rw [Nat.add_mul, ← HN.out] at h
      omega
    have hlm : pre.length * m + m ≤ N := by
      have h := Nat.mul_le_mul_right m (show pre.length + 1 ≤ H by omega)
      rw [Nat.add_mul, ← HN.out] at h
      omega
    have hrow : RowR W b (off + x % H * m * 2) m (fun i => f (x % H * m + i)) := ((HR.out.block (hgt.grown.block b (hblt (by omega)) hbne)).sub (x % H * m) m hym)
    have hnews := rowr_cells hrow
    have HRL := hide hrl
    generalize x % H = y at *
    obtain ⟨avv, cvv, rfl, hcvv⟩ := own_room2 ho
    have hbs : base ≤ W.heap.size := Nat.le_trans hbase (Nat.le_trans (by omega) hF.size)
    have F0 := hF.c0
    have F1 := hF.f1
    have HI := hide hF
    clear hrl hrow hF
    gi_wp2_with (gi_at_builtin; refine wpListIn_append_own_at (w := W) rfl (.tmp 12) (.tmp 13) 33 rfl base 193 i0 (.agg #[.int .i64 0, .int .i64 0]) 2 16 Tryz.underlying33 hi hz0 hz1 hz2 rfl (by decide) _ _ _ rfl ho ⟨b, off + y * m * 2, none⟩ m (cap - y * m) (cvs m (fun i => f (y * m + i))) rfl (cvs_length _ _) hnews (cvs_one _ _) (by unfold maxLen; omega) (by omega) hbs ?_; intro v2 W2 ho2 hg2 hn2 hs2; obtain ⟨a2, c2, rfl, hc2⟩ := own_room2 ho2; have hbk : ∀ j, w.heap.size ≤ j → j < w.heap.size + 4 → W2.heap[j]? = W.heap[j]? := fun j h1 h2 => hg2.block j (by have := HI.out.size; omega) (fun e => by have := hsp j e.symm; omega); have d1 := (World.cell?_of_block (w := W) (a := ⟨w.heap.size, 1, none⟩) (hbk _ (Nat.le_refl _) (by show w.heap.size < _; omega))).trans c1; have e1 := (World.frozen?_of_block (w := W) (a := ⟨w.heap.size, 1, none⟩) (hbk _ (Nat.le_refl _) (by show w.heap.size < _; omega))).trans F1)
    have hI := HI.out
    have hW2 : W.heap.size ≤ W2.heap.size := hg2.size
    have hsz := hI.size
    have hcells : ∀ j o, (Value.slice avv (k + pre.length * m) cvv).ownBlock = some j → W.heap[j]? = some o → o.isCells = true := by
      intro j o hj ho'
      obtain ⟨_, h2'⟩ := ho
      rcases h2' with ⟨h3, _⟩ | ⟨g, cap', cur, h3, _, hgc, _⟩
      · rw [h3] at hj; cases hj
      · rw [h3] at hj
        have : g = j := by simpa [Value.ownBlock] using hj
        subst this
        rw [hgc] at ho'
        injection ho' with ho'
        subst ho'
        rfl
    refine ⟨(KeepsOthers.of_grownBy hg2 (fun j o e h => hcells j o e h)).trans (KeepsOthers.setCell _ _ _), ?_, ?_⟩
    · show _ = _
      rw [Below.heap_setCell _ _ _ _ (by simp)]
      exact hbk _ (by omega) (by omega)
    · have cc : ∀ {q o u}, w.heap.size ≤ q → q < w.heap.size + 4 → W.cell? ⟨q, o, none⟩ = some u → W2.cell? ⟨q, o, none⟩ = some u := fun h1 h2 h => (World.cell?_of_block (w := W) (hbk _ h1 h2)).trans h
      have zz : ∀ {q o x}, w.heap.size ≤ q → q < w.heap.size + 4 → W.frozen? ⟨q, o, none⟩ = x → W2.frozen? ⟨q, o, none⟩ = x := fun h1 h2 h => (World.frozen?_of_block (w := W) (hbk _ h1 h2)).trans h
      have hgt2 : GrowTo W W2 (.slice avv (k + pre.length * m) cvv) (.slice a2 (k + pre.length * m + m) c2) := ⟨hg2, by rcases hs2 with e | e; exact .inl e; exact .inr ⟨_, e, Nat.le_refl _⟩⟩
      have hsp2 : ∀ j, (Value.slice a2 (k + pre.length * m + m) c2).ownBlock = some j → j < w.heap.size ∨ w.heap.size + 4 ≤ j := by
        intro j hj
        rcases hs2 with e | e
        · exact hsp j (e.symm.trans hj)
        · rw [e] at hj; injection hj with hj; omega
      refine ⟨?_, ?_, ?_, ?_, ?_, ?_, ?_, .slice a2 (k + pre.length * m + m) c2, ?_, ?_, ?_, hsp2⟩
      · rw [World.cell?_setCell_other _ _ _ _ (addr_ne (by omega))]; exact cc (Nat.le_refl _) (by omega) hI.c0
      · rw [World.frozen?_setCell]; exact e1
      · rw [World.cell?_setCell_other _ _ _ _ (addr_ne (by omega))]; exact cc (by omega) (by omega) hI.r0
      · rw [World.cell?_setCell_other _ _ _ _ (addr_ne (by omega))]; exact cc (by omega) (by omega) hI.r1
      · rw [World.frozen?_setCell]; exact zz (by omega) (by omega) hI.z0
      · rw [World.frozen?_setCell]; exact zz (by omega) (by omega) hI.z1
      · simp [World.setCell]; omega
      · exact World.cell?_setCell_same _ _ _ d1
      · have h := own_setCell (b := w.heap.size) (o := 1) (u := .slice a2 (k + pre.length * m + m) c2) ho2 (fun e => by have := hsp2 _ e.symm; omega)
        rw [List.length_append, List.length_singleton, Nat.add_mul, Nat.one_mul, ← Nat.add_assoc, HRL.out, ← List.append_assoc, pvs_append, ← cvs_mk]
        exact h
      · exact (hgt.trans hgt2).setCell (by simp) _
  case done =>
    rintro D ys W hD rfl hF hK
    obtain ⟨v, c1, ho, hgt, hsp⟩ := hF.ex
    have hlen : (List.range H).length * m = N := by rw [List.length_range]; exact HN.out.symm
    rw [hlen, rowsL_range m H f H (Nat.le_refl _), ← HN.out] at ho
    obtain ⟨avv, cvv, rfl, hcvv⟩ := own_room2 ho
    have F0 := hF.c0
    have F1 := hF.f1
    have R0 := hF.r0
    have R1 := hF.r1
    have Z0 := hF.z0
    have Z1 := hF.z1
    have hsz := hF.size
    obtain ⟨s0, s1⟩ := res2 (w := W) (r := w.heap.size + 2) (.int .i64 wd) (.slice avv (k + N) cvv) R0 R1
    have HO := hide ho
    have HG := hide hgt
    have HS := hide hsp
    have HKK := hide hK
    clear ho hgt hsp hF hlen
    gi_wp2
    rw [show w.heap.size + 1 + 1 = w.heap.size + 2 from rfl]
    have HOO := hide (own_setCell (b := w.heap.size + 2) (o := 1) (u := .slice avv (k + N) cvv) (own_setCell (b := w.heap.size + 2) (o := 0) (u := .int .i64 wd) HO.out (fun e => by have := HS.out _ e.symm; omega)) (fun e => by have := HS.out _ e.symm; omega))
    have HGG := hide ((HG.out.setCell (p := ⟨w.heap.size + 2, 0, none⟩) (by simp) (.int .i64 wd)).setCell (p := ⟨w.heap.size + 2, 1, none⟩) (by simp) (.slice avv (k + N) cvv))
    have hK2 := ((KeepsOthers.setCell W ⟨w.heap.size + 2, 0, none⟩ (.int .i64 wd)).trans (KeepsOthers.setCell _ ⟨w.heap.size + 2, 1, none⟩ (.slice avv (k + N) cvv))).same D _ HKK.out rfl
    generalize ((W.setCell ⟨w.heap.size + 2, 0, none⟩ (.int .i64 wd)).setCell ⟨w.heap.size + 2, 1, none⟩ (.slice avv (k + N) cvv)) = W3 at *
    refine ⟨by simp, .inl ⟨_, _, rfl, run_takeDeferred hK2, ?_⟩⟩
    have hrow : ∀ r, some D = some r → ∃ o : Obj, W3.heap[r]? = some o ∧ o.isCells = false := by
      rintro r e
      injection e with e
      subst e
      exact ⟨_, hK2, rfl⟩
    have t0 := cell_kept s0 (grownBy_putObj' W3 D (.deferred none)) hrow
    have t1 := cell_kept s1 (grownBy_putObj' W3 D (.deferred none)) hrow
    refine ⟨_, ?_, .slice avv (k + N) cvv, rfl, ownsRow_putObj HOO.out _ hK2 rfl, ?_⟩
    · simp [results, Tryz.results239, go_sem, t0, t1]
    · have hG := HGG.out
      have hgp := grownBy_putObj' W3 D (.deferred none)
      refine ⟨⟨hgp.os.trans hG.grown.os, hgp.tape.trans hG.grown.tape, hgp.output.trans hG.grown.output, Nat.le_trans hG.grown.size hgp.size, fun j hj hne => ?_⟩, hG.spot⟩
      refine (hgp.block j (Nat.lt_of_lt_of_le hj hG.grown.size) (fun e => ?_)).trans (hG.grown.block j hj hne)
      injection e with e
      omega
  case stop =>
    rintro D c pre W _ _ h _
    exact h.elim

end Go.Proofs.YtdekegjplegkeaaGreat

/- The last rows of a sheet: impl's last, walked. -/
namespace Go.Proofs.YtdekegjplegkeaaGreat
set_option maxRecDepth 20000
open Go.ChangeShapes Go.WideShapes Go.ChangeAt Go.RowKit
set_option linter.unusedVariables false
set_option linter.unusedSimpArgs false
set_option maxRecDepth 20000

set_option maxHeartbeats 2000000 in
theorem last_calls (wd : Int) (b off n cap H m : Nat) (v : Value) (hv : SlAt v b off n cap) (hn : n = H * m) (hm : wd = (m : Int)) (h1 : 1 ≤ m) (h2 : m ≤ 1000) (hH : H ≤ 1000) (hn1 : n ≤ 1048576) (w : World) :
    Calls Tryz.prog 240 #[.agg #[.int .i64 wd, v], .int .i64 5] w fun e w' => ∃ v', e = .returned (.agg #[.int .i64 wd, v']) ∧ SlAt v' b (off + ((H - 5) * m) * 2) (n - (H - 5) * m) (cap - (H - 5) * m) ∧ Below w.heap.size w w' := by
  have hv' := hv
  obtain ⟨hc, a, rfl, ha⟩ := hv'
  have hq : (n : Int) / wd = (H : Int) := by
    rw [hn, hm, Int.natCast_mul]
    exact Int.mul_ediv_cancel _ (by omega)
  have hle : (H - 5) * m ≤ n := by rw [hn]; exact Nat.mul_le_mul_right m (by omega)
  have HP := fun (f : Int) (hf : f = ((H - 5 : Nat) : Int)) (w : World) => part_calls wd f (H : Int) b off n cap ((H - 5) * m) n (.slice a n cap) hv (by rw [hm, hf, Int.natCast_mul]) (by rw [hm, hn, Int.natCast_mul]) hle (Nat.le_refl _) hn1 w
  have HH := fun w => height_calls wd (by omega) (by omega) a n cap hn1 w
  rw [hq] at HH
  have HN := hide hn
  have HM := hide hm
  clear hn hm ha hv hq
  have hb0 : Below w.heap.size w ((w.alloc (.cells #[.int .i64 wd, .slice a n cap] 217)).alloc (.cells #[.int .i64 0, .slice none 0 0] 217)) := (by repeat' (first | with_reducible exact Below.refl _ _ | with_reducible assumption | with_reducible refine Below.drew ?_ | with_reducible refine Below.alloc ?_ ?_ _ | with_reducible refine Below.setCell ?_ ?_ _ | (simp; done) | (simp; omega) | omega))
  have s5 : IntKind.i64.wrap ((H : Int) - 5) = (H : Int) - 5 := wrap_small (by omega) (by omega)
  go_enter Tryz.func240, Tryz.ntmps240
  go_wp2_with fail
  refine (HH _).mono ?_
  rintro e w1 ⟨rfl, hb1⟩
  have A0 : w1.cell? ⟨w.heap.size, 0, none⟩ = some (.int .i64 wd) := cellb hb1 (by simp [go_sem])
  have A1 : w1.cell? ⟨w.heap.size, 1, none⟩ = some (.slice a n cap) := cellb hb1 (by simp [go_sem])
  have R0 : w1.cell? ⟨w.heap.size + 1, 0, none⟩ = some (.int .i64 0) := cellb hb1 (by simp [go_sem])
  have R1 : w1.cell? ⟨w.heap.size + 1, 1, none⟩ = some (.slice none 0 0) := cellb hb1 (by simp [go_sem])
  have Z0 : w1.frozen? ⟨w.heap.size + 1, 0, none⟩ = false := by rw [hb1.frozen (p := ⟨w.heap.size + 1, 0, none⟩) (by simp)]; simp [go_sem]
  have Z1 : w1.frozen? ⟨w.heap.size + 1, 1, none⟩ = false := by rw [hb1.frozen (p := ⟨w.heap.size + 1, 1, none⟩) (by simp)]; simp [go_sem]
  have hs1 : w.heap.size + 2 ≤ w1.heap.size := by have := hb1.size; simp at this; omega
  have b1 : Below w.heap.size w w1 := hb0.trans (hb1.mono (by simp; omega))
  clear hb1 hb0 HH
  by_cases h5 : H ≤ 5
  · have h5I : (H : Int) - 5 ≤ 0 := by omega
    have h5J : ¬ (0 : Int) < (H : Int) - 5 := by omega
    go_wp2_with fail
    refine (HP 0 (by omega) _).mono ?_
    rintro e w2 ⟨v2, rfl, hs, hb2⟩
    have hs' := hs
    obtain ⟨_, a2, rfl, _⟩ := hs'
    obtain ⟨q, hq⟩ : ∃ q, q = (H - 5) * m := ⟨_, rfl⟩
    rw [← hq] at hs
    obtain ⟨nn, hnn⟩ : ∃ nn, nn = n - q := ⟨_, rfl⟩
    obtain ⟨cc, hcc⟩ : ∃ cc, cc = cap - q := ⟨_, rfl⟩
    rw [← hnn, ← hcc] at hs
    rw [← hq, ← hnn, ← hcc]
    have HQ := hide hq
    have HNN := hide hnn
    have HCC := hide hcc
    clear hq hnn hcc
    have HS := hide hs
    replace R0 := cellb hb2 R0
    replace R1 := cellb hb2 R1
    replace Z0 : w2.frozen? ⟨w.heap.size + 1, 0, none⟩ = false := by rw [hb2.frozen (p := ⟨w.heap.size + 1, 0, none⟩) (by simp; omega)]; exact Z0
    replace Z1 : w2.frozen? ⟨w.heap.size + 1, 1, none⟩ = false := by rw [hb2.frozen (p := ⟨w.heap.size + 1, 1, none⟩) (by simp; omega)]; exact Z1
    have b2 := b1.trans (hb2.mono b1.size)
    clear hs hb2 HP
    obtain ⟨t0, t1⟩ := res2 (w := w2) (r := w.heap.size + 1) (.int .i64 wd) (.slice a2 nn cc) R0 R1
    go_wp2
    refine bodyPost_ret (v := .agg #[.int .i64 wd, .slice a2 nn cc]) (by simp [results, Tryz.results240, go_sem, t0, t1]) rfl ⟨_, rfl, (by have e1 := HQ.out; have e2 := HNN.out; have e3 := HCC.out; subst e1 e2 e3; exact HS.out), b2.trans (show Below w.heap.size w2 _ from (by repeat' (first | with_reducible exact Below.refl _ _ | with_reducible assumption | with_reducible refine Below.drew ?_ | with_reducible refine Below.alloc ?_ ?_ _ | with_reducible refine Below.setCell ?_ ?_ _ | (simp; done) | (simp; omega) | omega)))⟩
  · have h5I : (0 : Int) ≤ (H : Int) - 5 := by omega
    have h5K : ¬ (H : Int) - 5 ≤ 0 := by omega
    have h5J : (0 : Int) < (H : Int) - 5 := by omega
    go_wp2_with fail
    refine (HP ((H : Int) - 5) (by omega) _).mono ?_
    rintro e w2 ⟨v2, rfl, hs, hb2⟩
    have hs' := hs
    obtain ⟨_, a2, rfl, _⟩ := hs'
    obtain ⟨q, hq⟩ : ∃ q, q = (H - 5) * m := ⟨_, rfl⟩
    rw [← hq] at hs
    obtain ⟨nn, hnn⟩ : ∃ nn, nn = n - q := ⟨_, rfl⟩
    obtain ⟨cc, hcc⟩ : ∃ cc, cc = cap - q := ⟨_, rfl⟩
    rw [← hnn, ← hcc] at hs
    rw [← hq, ← hnn, ← hcc]
    have HQ := hide hq
    have HNN := hide hnn
    have HCC := hide hcc
    clear hq hnn hcc
    have HS := hide hs
    replace R0 := cellb hb2 R0
    replace R1 := cellb hb2 R1
    replace Z0 : w2.frozen? ⟨w.heap.size + 1, 0, none⟩ = false := by rw [hb2.frozen (p := ⟨w.heap.size + 1, 0, none⟩) (by simp; omega)]; exact Z0
    replace Z1 : w2.frozen? ⟨w.heap.size + 1, 1, none⟩ = false := by rw [hb2.frozen (p := ⟨w.heap.size + 1, 1, none⟩) (by simp; omega)]; exact Z1
    have b2 := b1.trans (hb2.mono b1.size)
    clear hs hb2 HP
    obtain ⟨t0, t1⟩ := res2 (w := w2) (r := w.heap.size + 1) (.int .i64 wd) (.slice a2 nn cc) R0 R1
    go_wp2
    refine bodyPost_ret (v := .agg #[.int .i64 wd, .slice a2 nn cc]) (by simp [results, Tryz.results240, go_sem, t0, t1]) rfl ⟨_, rfl, (by have e1 := HQ.out; have e2 := HNN.out; have e3 := HCC.out; subst e1 e2 e3; exact HS.out), b2.trans (show Below w.heap.size w2 _ from (by repeat' (first | with_reducible exact Below.refl _ _ | with_reducible assumption | with_reducible refine Below.drew ?_ | with_reducible refine Below.alloc ?_ ?_ _ | with_reducible refine Below.setCell ?_ ?_ _ | (simp; done) | (simp; omega) | omega)))⟩

end Go.Proofs.YtdekegjplegkeaaGreat

/- What ScrollGrid answers, of the program. -/
namespace Go.Proofs.YtdekegjplegkeaaGreat
set_option maxRecDepth 20000
open Go.ChangeShapes Go.WideShapes Go.ChangeAt Go.RowKit
set_option linter.unusedVariables false
set_option linter.unusedSimpArgs false
set_option maxRecDepth 20000

def lastL (k : Nat) (l : List (Int × Int)) : List (Int × Int) := l.drop (l.length - k)
def scrollOk (r top bot n at' : Int) : Bool := decide (0 ≤ top ∧ top ≤ bot) && (decide (0 ≤ bot ∧ bot ≤ r - 1) && (decide (-9 ≤ n ∧ n ≤ 9) && atB at'))
/-- The L cells from place A on go n places towards the first one of them. -/
def scrollF (A L : Nat) (n : Int) (f : Nat → Int × Int) (bl : Int × Int) (i : Nat) : Int × Int := if A ≤ i ∧ i < A + L then slideF L n (fun j => f (A + j)) bl (i - A) else f i
def scrollB (W top : Nat) (k : Nat) (f : Nat → Int × Int) (bs : List (Int × Int)) : List (Int × Int) := if top = 0 then lastL (5 * W) (bs ++ mkL (k * W) f) else bs
def scrollRes (r wd : Int) (cs bs : List (Int × Int)) (top bot n at' : Int) : GRes := gres r wd cs bs (scrollOk r top bot n at') ⟨0, r, wd, mkL cs.length (scrollF (top.toNat * wd.toNat) ((bot + 1 - top).toNat * wd.toNat) (n * wd) (fun i => cs.getD i (0, 0)) (32, at')), scrollB wd.toNat top.toNat (max 0 (min n (bot + 1))).toNat (fun i => cs.getD i (0, 0)) bs⟩
theorem scrollRes_def (r wd : Int) (cs bs : List (Int × Int)) (top bot n at' : Int) : scrollRes r wd cs bs top bot n at' = gres r wd cs bs (scrollOk r top bot n at') ⟨0, r, wd, mkL cs.length (scrollF (top.toNat * wd.toNat) ((bot + 1 - top).toNat * wd.toNat) (n * wd) (fun i => cs.getD i (0, 0)) (32, at')), scrollB wd.toNat top.toNat (max 0 (min n (bot + 1))).toNat (fun i => cs.getD i (0, 0)) bs⟩ := rfl
theorem lastL_length (k : Nat) (l : List (Int × Int)) : (lastL k l).length = min l.length k := by unfold lastL; rw [List.length_drop]; omega
theorem scrollRes_len (r wd : Int) (cs bs : List (Int × Int)) (top bot n at' : Int) : (scrollRes r wd cs bs top bot n at').cs.length ≤ 72 ∧ (scrollRes r wd cs bs top bot n at').bs.length ≤ 60 := gres_len (fun h => by
  obtain ⟨R, W, e1, e2, n1, n2, n3, n4, n5, n6, n7, n8, n9, n10⟩ := h.nats
  refine ⟨by rw [mkL_length]; exact n9, ?_⟩
  show (scrollB _ _ _ _ _).length ≤ 60
  unfold scrollB
  split
  · rw [lastL_length]
    omega
  · exact n10)
theorem lastL_short {k : Nat} {l : List (Int × Int)} (h : l.length ≤ k) : lastL k l = l := by
  unfold lastL
  rw [show l.length - k = 0 by omega, List.drop_zero]
theorem lastL_lastL (k : Nat) (x y : List (Int × Int)) : lastL k (lastL k x ++ y) = lastL k (x ++ y) := by
  unfold lastL
  rw [List.length_append, List.length_append, List.length_drop, List.drop_append, List.drop_append, List.drop_drop, List.length_drop]
  congr 2 <;> omega
/-- One row more that left: kept behind the others, the first one let go where there are more than five. -/
theorem scrollB_succ {W k : Nat} {f g : Nat → Int × Int} {bs : List (Int × Int)} (hg : ∀ i, i < W → g i = f (k * W + i)) : lastL (5 * W) (scrollB W 0 k f bs ++ mkL W g) = scrollB W 0 (k + 1) f bs := by
  unfold scrollB
  rw [if_pos rfl, if_pos rfl, lastL_lastL, List.append_assoc, Nat.add_mul, Nat.one_mul, mkL_add, mkL_congr hg]
theorem scrollF_same (A L : Nat) (f : Nat → Int × Int) (bl : Int × Int) (i : Nat) : scrollF A L 0 f bl i = f i := by
  unfold scrollF slideF
  by_cases h : A ≤ i ∧ i < A + L
  · rw [if_pos h, if_pos (by omega)]
    dsimp only
    rw [show A + (((i - A : Nat) : Int) + 0).toNat = i by omega]
  · rw [if_neg h]
theorem scrollF_up (A L k m : Nat) (f : Nat → Int × Int) (bl : Int × Int) (i : Nat) : scrollF A L (m : Int) (scrollF A L (k : Int) f bl) bl i = scrollF A L ((k + m : Nat) : Int) f bl i := by
  unfold scrollF slideF
  by_cases h : A ≤ i ∧ i < A + L
  · rw [if_pos h, if_pos h]
    by_cases h1 : 0 ≤ ((i - A : Nat) : Int) + (m : Int) ∧ ((i - A : Nat) : Int) + (m : Int) < L
    · rw [if_pos h1]
      dsimp only
      rw [if_pos (by omega)]
      by_cases h2 : 0 ≤ ((i - A : Nat) : Int) + ((k + m : Nat) : Int) ∧ ((i - A : Nat) : Int) + ((k + m : Nat) : Int) < L
      · rw [if_pos h2, if_pos (by omega)]
        congr 1
        omega
      · rw [if_neg h2, if_neg (by omega)]
    · rw [if_neg h1, if_neg (by omega)]
  · rw [if_neg h, if_neg h, if_neg h]
theorem scrollF_down (A L k m : Nat) (f : Nat → Int × Int) (bl : Int × Int) (i : Nat) : scrollF A L (-(m : Int)) (scrollF A L (-(k : Int)) f bl) bl i = scrollF A L (-((k + m : Nat) : Int)) f bl i := by
  unfold scrollF slideF
  by_cases h : A ≤ i ∧ i < A + L
  · rw [if_pos h, if_pos h]
    by_cases h1 : 0 ≤ ((i - A : Nat) : Int) + (-(m : Int)) ∧ ((i - A : Nat) : Int) + (-(m : Int)) < L
    · rw [if_pos h1]
      dsimp only
      rw [if_pos (by omega)]
      by_cases h2 : 0 ≤ ((i - A : Nat) : Int) + (-((k + m : Nat) : Int)) ∧ ((i - A : Nat) : Int) + (-((k + m : Nat) : Int)) < L
      · rw [if_pos h2, if_pos (by omega)]
        congr 1
        omega
      · rw [if_neg h2, if_neg (by omega)]
    · rw [if_neg h1, if_neg (by omega)]
  · rw [if_neg h, if_neg h, if_neg h]
/-- Farther than there are rows is as far as there are rows. -/
theorem scrollF_far {A L : Nat} {n m : Int} {f : Nat → Int × Int} {bl : Int × Int} (h : ((L : Int) ≤ n ∧ (L : Int) ≤ m) ∨ (n ≤ -(L : Int) ∧ m ≤ -(L : Int)) ∨ n = m) (i : Nat) : scrollF A L n f bl i = scrollF A L m f bl i := by
  rcases h with h | h | rfl
  · unfold scrollF slideF
    by_cases h1 : A ≤ i ∧ i < A + L
    · rw [if_pos h1, if_pos h1, if_neg (by omega), if_neg (by omega)]
    · rw [if_neg h1, if_neg h1]
  · unfold scrollF slideF
    by_cases h1 : A ≤ i ∧ i < A + L
    · rw [if_pos h1, if_pos h1, if_neg (by omega), if_neg (by omega)]
    · rw [if_neg h1, if_neg h1]
  · rfl
theorem scrollB_drop {W lv q Hb : Nat} {f : Nat → Int × Int} {bs : List (Int × Int)} (hq : q = lv * W) (hb : bs.length = Hb * W) : scrollB W 0 lv f bs = List.drop ((Hb + lv - 5) * W) (bs ++ mkL q f) := by
  subst hq
  unfold scrollB lastL
  rw [if_pos rfl, List.length_append, mkL_length, hb, ← Nat.add_mul, ← Nat.sub_mul]
theorem scrollB_low {W T lv : Nat} {f : Nat → Int × Int} {bs : List (Int × Int)} (h : ¬ T = 0) : scrollB W T lv f bs = bs := if_neg h
theorem rows_pos {T B W : Nat} (h : T ≤ B) (h1 : 0 < W) : 0 < (B + 1) * W - T * W := by
  rw [← Nat.sub_mul]
  exact Nat.mul_pos (by omega) h1
theorem mul_small {n : Int} {W : Nat} (h : -9 ≤ n ∧ n ≤ 9) (h1 : W ≤ 12) : -108 ≤ n * (W : Int) ∧ n * (W : Int) ≤ 108 := by
  have a := Int.mul_le_mul_of_nonneg_right h.2 (show (0 : Int) ≤ (W : Int) by omega)
  have b := Int.mul_le_mul_of_nonneg_right h.1 (show (0 : Int) ≤ (W : Int) by omega)
  omega
/-- A scroll of a grid without a fault, in naturals. -/
theorem scroll_nats {r wd top bot : Int} {cs bs : List (Int × Int)} (h : GFine r wd cs bs) (h0 : 0 ≤ top ∧ top ≤ bot) (h1 : 0 ≤ bot ∧ bot ≤ r - 1) : ∃ T B W : Nat, top = (T : Int) ∧ bot = (B : Int) ∧ wd = (W : Int) ∧ T ≤ B ∧ B ≤ 5 ∧ 2 ≤ W ∧ W ≤ 12 ∧ T * W ≤ (B + 1) * W ∧ (B + 1) * W ≤ cs.length ∧ ∃ Hb, Hb ≤ 5 ∧ bs.length = Hb * W := by
  obtain ⟨R, W, rfl, rfl, n1, n2, n3, n4, n5, n6, n7, n8, n9, n10⟩ := h.nats
  obtain ⟨T, rfl⟩ : ∃ Y : Nat, top = Y := ⟨top.toNat, by omega⟩
  obtain ⟨B, rfl⟩ : ∃ X : Nat, bot = X := ⟨bot.toNat, by omega⟩
  have hd : bs.length = bs.length / W * W := (Nat.div_mul_cancel (Nat.dvd_of_mod_eq_zero n7)).symm
  refine ⟨T, B, W, rfl, rfl, rfl, by omega, by omega, by omega, by omega, Nat.mul_le_mul_right W (by omega), by rw [n5]; exact Nat.mul_le_mul_right W (by omega), bs.length / W, ?_, hd⟩
  exact Nat.div_le_of_le_mul (by rw [Nat.mul_comm]; exact n6)

theorem own_spotG {w : World} {base n : Nat} {e : TypeId} {v : Value} {xs : List (Int × Int)} (h : w.ownsRow base e 2 v n (pvs xs)) (hb : base < w.heap.size) : ∃ bb a cap, v = .slice a n cap ∧ SlAt v bb 0 n cap ∧ base ≤ bb ∧ bb < w.heap.size ∧ (v.ownBlock = some bb ∨ bb = base) ∧ PairsAt bb (bb + 1) w v xs ∧ xs.length = n := by
  by_cases h0 : 0 < n
  · obtain ⟨b, cap, rfl, hc, hl, h1, h2, hr⟩ := own_row h h0
    refine ⟨b, _, cap, rfl, ⟨hc, _, rfl, fun _ => rfl⟩, h1, h2, .inl rfl, ⟨_, _, by rw [hl], .inr ⟨b, 0, rfl, Nat.le_refl _, Nat.lt_succ_self _, fun i hi => hr i (by omega)⟩⟩, hl⟩
  · obtain ⟨a, cap, rfl, hc⟩ := own_room2 h
    have hl : xs.length = n := by
      have := h.1
      rw [pvs_length] at this
      omega
    obtain rfl : n = 0 := by omega
    obtain rfl := List.length_eq_zero_iff.1 hl
    exact ⟨base, a, cap, rfl, ⟨hc, a, rfl, fun h => by omega⟩, Nat.le_refl _, hb, .inr rfl, PairsAt.nil _ _ _ _ _, rfl⟩
theorem pairs_drop {w : World} {bb n cap k hi cap' : Nat} {v v' : Value} {xs : List (Int × Int)} (h : PairsAt bb hi w v xs) (hs : SlAt v bb 0 n cap) (hs' : SlAt v' bb (0 + k * 2) (n - k) cap') (hl : xs.length = n) (hk : k ≤ n) : PairsAt bb hi w v' (xs.drop k) := by
  obtain ⟨_, a', rfl, ha'⟩ := hs'
  obtain ⟨_, a, rfl, ha⟩ := hs
  by_cases h0 : n - k = 0
  · rw [h0, List.drop_eq_nil_of_le (by omega)]
    exact PairsAt.nil _ _ _ _ _
  · obtain ⟨a2, c2, e, h⟩ := h
    injection e with e1 e2 e3
    refine ⟨_, _, by rw [List.length_drop, hl], .inr ?_⟩
    rcases h with h | ⟨b, off, h1, h2, h3, h4⟩
    · rw [h] at hl; simp at hl; omega
    · rw [← e1, ha (by omega)] at h1
      injection h1 with h1
      injection h1 with e4 e5
      subst e4
      subst e5
      refine ⟨_, _, ha' (by omega), h2, h3, fun i hi => ?_⟩
      rw [List.length_drop] at hi
      have := h4 (k + i) (by omega)
      rw [List.getD_eq_getElem?_getD, List.getElem?_drop, ← List.getD_eq_getElem?_getD, show 0 + k * 2 + i * 2 = 0 + (k + i) * 2 by omega]
      exact this
theorem pairs_touch {w w' : World} {lo hi b p q : Nat} {v : Value} {xs : List (Int × Int)} (h : PairsAt lo hi w v xs) (t : Touch b p q w w') (hb : b < lo) (hs : hi ≤ w.heap.size) : PairsAt lo hi w' v xs :=
  h.of_blocks fun i h1 h2 => t.block i (by omega) (by omega)
theorem GrowTo.cellAt {w w' : World} {v v' u : Value} {b o : Nat} (h : GrowTo w w' v v') (c : w.cell? ⟨b, o, none⟩ = some u) (hne : some b ≠ v.ownBlock) : w'.cell? ⟨b, o, none⟩ = some u := (h.cell (block_lt_of_cell c) hne).trans c
/-- What a result holds, whose second list lies in one block. -/
theorem gown_of2 {w w' : World} {base bb bx n cx : Nat} {F : Nat → Int × Int} {y : Value} {bs : List (Int × Int)} (hr : Row w bx 0 n F) (h1 : base ≤ bx) (p2 : PairsAt bb (bb + 1) w y bs) (hb : bx < bb) (hbb : bb < w.heap.size)
    (hs : w.heap.size ≤ w'.heap.size) (hk : ∀ k, k < w.heap.size → w'.heap[k]? = w.heap[k]? ∨ k < base) : GOwn base w'.heap.size w' (.slice (some ⟨bx, 0, none⟩) n cx) y (mkL n F) bs := by
  have p1 : PairsAt bx (bx + 1) w (.slice (some ⟨bx, 0, none⟩) n cx) (mkL n F) := PairsAt.of_row hr (Nat.le_refl _) (Nat.lt_succ_self _)
  refine ((GOwn.of (lo := base) (hi := w.heap.size) p1 p2 h1 (by omega) (by omega) (by omega) (.inl (by omega))).of_blocks (fun i h1 h2 => ?_)).mono (Nat.le_refl _) hs
  rcases hk i h2 with h | h
  · exact h
  · omega

set_option maxHeartbeats 2000000 in
theorem implScrollGrid_calls (r wd : Int) (cs bs : List (Int × Int)) (top bot n at' : Int) (v1 v2 : Value) (w : World) (hn1 : cs.length ≤ 1048576) (hn2 : bs.length ≤ 1048576) (h1 : PRead w v1 cs) (h2 : PRead w v2 bs) :
    Calls Tryz.prog 228 #[.agg #[.int .i64 r, .int .i64 wd, v1, v2], .int .i64 top, .int .i64 bot, .int .i64 n, .int .i64 at'] w fun e w' => ∃ v5 v6, e = .returned (.agg #[.int .i64 (scrollRes r wd cs bs top bot n at').code, .int .i64 (scrollRes r wd cs bs top bot n at').rows, .int .i64 (scrollRes r wd cs bs top bot n at').wd, v5, v6]) ∧ GOwn w.heap.size w'.heap.size w' v5 v6 (scrollRes r wd cs bs top bot n at').cs (scrollRes r wd cs bs top bot n at').bs ∧ Below w.heap.size w w' := by
  have h1' := h1
  obtain ⟨a1, c1, rfl, hx1⟩ := h1'
  clear hx1
  have h2' := h2
  obtain ⟨a2, c2, rfl, hx2⟩ := h2'
  clear hx2
  have hb0 : Below w.heap.size w ((w.alloc (.cells #[.int .i64 r, .int .i64 wd, .slice a1 cs.length c1, .slice a2 bs.length c2] 35)).alloc (.cells #[.int .i64 0, .int .i64 0, .int .i64 0, .slice none 0 0, .slice none 0 0] 185)) := (by repeat' (first | with_reducible exact Below.refl _ _ | with_reducible assumption | with_reducible refine Below.drew ?_ | with_reducible refine Below.alloc ?_ ?_ _ | with_reducible refine Below.setCell ?_ ?_ _ | (simp; done) | (simp; omega) | omega))
  have HF := implGridFault_calls r wd cs bs _ _ ((w.alloc (.cells #[.int .i64 r, .int .i64 wd, .slice a1 cs.length c1, .slice a2 bs.length c2] 35)).alloc (.cells #[.int .i64 0, .int .i64 0, .int .i64 0, .slice none 0 0, .slice none 0 0] 185)) hn1 hn2 (h1.below hb0) (h2.below hb0)
  have hbd : gridCode r wd cs bs = 0 → 1 ≤ r ∧ r ≤ 6 ∧ 2 ≤ wd ∧ wd ≤ 12 := fun h => fine_bounds (gfine_of_code h)
  by_cases hG : gridCode r wd cs bs = 0
  · cases k0 : decide (0 ≤ top ∧ top ≤ bot) with
    | false =>
      obtain ⟨g1, g2, g3, g4⟩ := hbd hG
      rw [scrollRes_def, gres_bad hG (by unfold scrollOk; first | (rw [k0]; rfl) | (rw [k0, k1]; rfl) | (rw [k0, k1, k2]; rfl) | (rw [k0, k1, k2, k3]; rfl))]
      rw [hG] at HF
      simp only [gbad]
      go_enter Tryz.func228, Tryz.ntmps228
      go_wp2_with fail
      refine HF.mono ?_
      rintro e w1 ⟨rfl, hb1⟩
      have A0 : w1.cell? ⟨w.heap.size, 0, none⟩ = some (.int .i64 r) := cellb hb1 (by simp [go_sem])
      have A1 : w1.cell? ⟨w.heap.size, 1, none⟩ = some (.int .i64 wd) := cellb hb1 (by simp [go_sem])
      have A2 : w1.cell? ⟨w.heap.size, 2, none⟩ = some (.slice a1 cs.length c1) := cellb hb1 (by simp [go_sem])
      have A3 : w1.cell? ⟨w.heap.size, 3, none⟩ = some (.slice a2 bs.length c2) := cellb hb1 (by simp [go_sem])
      have R0 : w1.cell? ⟨w.heap.size + 1, 0, none⟩ = some (.int .i64 0) := cellb hb1 (by simp [go_sem])
      have Z0 : w1.frozen? ⟨w.heap.size + 1, 0, none⟩ = false := by rw [hb1.frozen (p := ⟨w.heap.size + 1, 0, none⟩) (by simp)]; simp [go_sem]
      have R1 : w1.cell? ⟨w.heap.size + 1, 1, none⟩ = some (.int .i64 0) := cellb hb1 (by simp [go_sem])
      have Z1 : w1.frozen? ⟨w.heap.size + 1, 1, none⟩ = false := by rw [hb1.frozen (p := ⟨w.heap.size + 1, 1, none⟩) (by simp)]; simp [go_sem]
      have R2 : w1.cell? ⟨w.heap.size + 1, 2, none⟩ = some (.int .i64 0) := cellb hb1 (by simp [go_sem])
      have Z2 : w1.frozen? ⟨w.heap.size + 1, 2, none⟩ = false := by rw [hb1.frozen (p := ⟨w.heap.size + 1, 2, none⟩) (by simp)]; simp [go_sem]
      have R3 : w1.cell? ⟨w.heap.size + 1, 3, none⟩ = some (.slice none 0 0) := cellb hb1 (by simp [go_sem])
      have Z3 : w1.frozen? ⟨w.heap.size + 1, 3, none⟩ = false := by rw [hb1.frozen (p := ⟨w.heap.size + 1, 3, none⟩) (by simp)]; simp [go_sem]
      have R4 : w1.cell? ⟨w.heap.size + 1, 4, none⟩ = some (.slice none 0 0) := cellb hb1 (by simp [go_sem])
      have Z4 : w1.frozen? ⟨w.heap.size + 1, 4, none⟩ = false := by rw [hb1.frozen (p := ⟨w.heap.size + 1, 4, none⟩) (by simp)]; simp [go_sem]
      have hs1 : w.heap.size + 2 ≤ w1.heap.size := by have := hb1.size; simp at this; omega
      have b1 : Below w.heap.size w w1 := hb0.trans (hb1.mono (by simp; omega))
      clear hb1 hb0 HF
      go_wp2_with (first
        | (go_at_call 105; refine (isFromTo_calls _ _ _ _).mono ?_; rintro e w' ⟨rfl, hw⟩; rw [hw]; clear hw w'; first | rw [k0] | rw [k1] | rw [k2])
        | (go_at_call 102; refine (isAttr_calls _ _).mono ?_; rintro e w' ⟨rfl, hw⟩; rw [hw]; clear hw w'; rw [k3]))
      have hr := res5 (w := w1) (r := w.heap.size + 1) (.int .i64 3) (.int .i64 0) (.int .i64 0) (.slice none 0 0) (.slice none 0 0) R0 R1 R2 R3 R4
      go_wp2
      refine bodyPost_ret (v := .agg #[.int .i64 3, .int .i64 0, .int .i64 0, .slice none 0 0, .slice none 0 0]) (by simp only [results, Tryz.results228]; simp [go_sem, hr.1, hr.2.1, hr.2.2.1, hr.2.2.2.1, hr.2.2.2.2]) rfl ⟨_, _, rfl, ?_, b1.trans (show Below w.heap.size w1 _ from (by repeat' (first | with_reducible exact Below.refl _ _ | with_reducible assumption | with_reducible refine Below.drew ?_ | with_reducible refine Below.alloc ?_ ?_ _ | with_reducible refine Below.setCell ?_ ?_ _ | (simp; done) | (simp; omega) | omega)))⟩
      exact GOwn.nil _ _ _ (by have := b1.size; simp [World.setCell]; omega)
    | true =>
      cases k1 : decide (0 ≤ bot ∧ bot ≤ r - 1) with
      | false =>
        obtain ⟨g1, g2, g3, g4⟩ := hbd hG
        rw [scrollRes_def, gres_bad hG (by unfold scrollOk; first | (rw [k0]; rfl) | (rw [k0, k1]; rfl) | (rw [k0, k1, k2]; rfl) | (rw [k0, k1, k2, k3]; rfl))]
        rw [hG] at HF
        simp only [gbad]
        go_enter Tryz.func228, Tryz.ntmps228
        go_wp2_with fail
        refine HF.mono ?_
        rintro e w1 ⟨rfl, hb1⟩
        have A0 : w1.cell? ⟨w.heap.size, 0, none⟩ = some (.int .i64 r) := cellb hb1 (by simp [go_sem])
        have A1 : w1.cell? ⟨w.heap.size, 1, none⟩ = some (.int .i64 wd) := cellb hb1 (by simp [go_sem])
        have A2 : w1.cell? ⟨w.heap.size, 2, none⟩ = some (.slice a1 cs.length c1) := cellb hb1 (by simp [go_sem])
        have A3 : w1.cell? ⟨w.heap.size, 3, none⟩ = some (.slice a2 bs.length c2) := cellb hb1 (by simp [go_sem])
        have R0 : w1.cell? ⟨w.heap.size + 1, 0, none⟩ = some (.int .i64 0) := cellb hb1 (by simp [go_sem])
        have Z0 : w1.frozen? ⟨w.heap.size + 1, 0, none⟩ = false := by rw [hb1.frozen (p := ⟨w.heap.size + 1, 0, none⟩) (by simp)]; simp [go_sem]
        have R1 : w1.cell? ⟨w.heap.size + 1, 1, none⟩ = some (.int .i64 0) := cellb hb1 (by simp [go_sem])
        have Z1 : w1.frozen? ⟨w.heap.size + 1, 1, none⟩ = false := by rw [hb1.frozen (p := ⟨w.heap.size + 1, 1, none⟩) (by simp)]; simp [go_sem]
        have R2 : w1.cell? ⟨w.heap.size + 1, 2, none⟩ = some (.int .i64 0) := cellb hb1 (by simp [go_sem])
        have Z2 : w1.frozen? ⟨w.heap.size + 1, 2, none⟩ = false := by rw [hb1.frozen (p := ⟨w.heap.size + 1, 2, none⟩) (by simp)]; simp [go_sem]
        have R3 : w1.cell? ⟨w.heap.size + 1, 3, none⟩ = some (.slice none 0 0) := cellb hb1 (by simp [go_sem])
        have Z3 : w1.frozen? ⟨w.heap.size + 1, 3, none⟩ = false := by rw [hb1.frozen (p := ⟨w.heap.size + 1, 3, none⟩) (by simp)]; simp [go_sem]
        have R4 : w1.cell? ⟨w.heap.size + 1, 4, none⟩ = some (.slice none 0 0) := cellb hb1 (by simp [go_sem])
        have Z4 : w1.frozen? ⟨w.heap.size + 1, 4, none⟩ = false := by rw [hb1.frozen (p := ⟨w.heap.size + 1, 4, none⟩) (by simp)]; simp [go_sem]
        have hs1 : w.heap.size + 2 ≤ w1.heap.size := by have := hb1.size; simp at this; omega
        have b1 : Below w.heap.size w w1 := hb0.trans (hb1.mono (by simp; omega))
        clear hb1 hb0 HF
        go_wp2_with (first
          | (go_at_call 105; refine (isFromTo_calls _ _ _ _).mono ?_; rintro e w' ⟨rfl, hw⟩; rw [hw]; clear hw w'; first | rw [k0] | rw [k1] | rw [k2])
          | (go_at_call 102; refine (isAttr_calls _ _).mono ?_; rintro e w' ⟨rfl, hw⟩; rw [hw]; clear hw w'; rw [k3]))
        have hr := res5 (w := w1) (r := w.heap.size + 1) (.int .i64 3) (.int .i64 0) (.int .i64 0) (.slice none 0 0) (.slice none 0 0) R0 R1 R2 R3 R4
        go_wp2
        refine bodyPost_ret (v := .agg #[.int .i64 3, .int .i64 0, .int .i64 0, .slice none 0 0, .slice none 0 0]) (by simp only [results, Tryz.results228]; simp [go_sem, hr.1, hr.2.1, hr.2.2.1, hr.2.2.2.1, hr.2.2.2.2]) rfl ⟨_, _, rfl, ?_, b1.trans (show Below w.heap.size w1 _ from (by repeat' (first | with_reducible exact Below.refl _ _ | with_reducible assumption | with_reducible refine Below.drew ?_ | with_reducible refine Below.alloc ?_ ?_ _ | with_reducible refine Below.setCell ?_ ?_ _ | (simp; done) | (simp; omega) | omega)))⟩
        exact GOwn.nil _ _ _ (by have := b1.size; simp [World.setCell]; omega)
      | true =>
        cases k2 : decide (-9 ≤ n ∧ n ≤ 9) with
        | false =>
          obtain ⟨g1, g2, g3, g4⟩ := hbd hG
          rw [scrollRes_def, gres_bad hG (by unfold scrollOk; first | (rw [k0]; rfl) | (rw [k0, k1]; rfl) | (rw [k0, k1, k2]; rfl) | (rw [k0, k1, k2, k3]; rfl))]
          rw [hG] at HF
          simp only [gbad]
          go_enter Tryz.func228, Tryz.ntmps228
          go_wp2_with fail
          refine HF.mono ?_
          rintro e w1 ⟨rfl, hb1⟩
          have A0 : w1.cell? ⟨w.heap.size, 0, none⟩ = some (.int .i64 r) := cellb hb1 (by simp [go_sem])
          have A1 : w1.cell? ⟨w.heap.size, 1, none⟩ = some (.int .i64 wd) := cellb hb1 (by simp [go_sem])
          have A2 : w1.cell? ⟨w.heap.size, 2, none⟩ = some (.slice a1 cs.length c1) := cellb hb1 (by simp [go_sem])
          have A3 : w1.cell? ⟨w.heap.size, 3, none⟩ = some (.slice a2 bs.length c2) := cellb hb1 (by simp [go_sem])
          have R0 : w1.cell? ⟨w.heap.size + 1, 0, none⟩ = some (.int .i64 0) := cellb hb1 (by simp [go_sem])
          have Z0 : w1.frozen? ⟨w.heap.size + 1, 0, none⟩ = false := by rw [hb1.frozen (p := ⟨w.heap.size + 1, 0, none⟩) (by simp)]; simp [go_sem]
          have R1 : w1.cell? ⟨w.heap.size + 1, 1, none⟩ = some (.int .i64 0) := cellb hb1 (by simp [go_sem])
          have Z1 : w1.frozen? ⟨w.heap.size + 1, 1, none⟩ = false := by rw [hb1.frozen (p := ⟨w.heap.size + 1, 1, none⟩) (by simp)]; simp [go_sem]
          have R2 : w1.cell? ⟨w.heap.size + 1, 2, none⟩ = some (.int .i64 0) := cellb hb1 (by simp [go_sem])
          have Z2 : w1.frozen? ⟨w.heap.size + 1, 2, none⟩ = false := by rw [hb1.frozen (p := ⟨w.heap.size + 1, 2, none⟩) (by simp)]; simp [go_sem]
          have R3 : w1.cell? ⟨w.heap.size + 1, 3, none⟩ = some (.slice none 0 0) := cellb hb1 (by simp [go_sem])
          have Z3 : w1.frozen? ⟨w.heap.size + 1, 3, none⟩ = false := by rw [hb1.frozen (p := ⟨w.heap.size + 1, 3, none⟩) (by simp)]; simp [go_sem]
          have R4 : w1.cell? ⟨w.heap.size + 1, 4, none⟩ = some (.slice none 0 0) := cellb hb1 (by simp [go_sem])
          have Z4 : w1.frozen? ⟨w.heap.size + 1, 4, none⟩ = false := by rw [hb1.frozen (p := ⟨w.heap.size + 1, 4, none⟩) (by simp)]; simp [go_sem]
          have hs1 : w.heap.size + 2 ≤ w1.heap.size := by have := hb1.size; simp at this; omega
          have b1 : Below w.heap.size w w1 := hb0.trans (hb1.mono (by simp; omega))
          clear hb1 hb0 HF
          go_wp2_with (first
            | (go_at_call 105; refine (isFromTo_calls _ _ _ _).mono ?_; rintro e w' ⟨rfl, hw⟩; rw [hw]; clear hw w'; first | rw [k0] | rw [k1] | rw [k2])
            | (go_at_call 102; refine (isAttr_calls _ _).mono ?_; rintro e w' ⟨rfl, hw⟩; rw [hw]; clear hw w'; rw [k3]))
          have hr := res5 (w := w1) (r := w.heap.size + 1) (.int .i64 3) (.int .i64 0) (.int .i64 0) (.slice none 0 0) (.slice none 0 0) R0 R1 R2 R3 R4
          go_wp2
          refine bodyPost_ret (v := .agg #[.int .i64 3, .int .i64 0, .int .i64 0, .slice none 0 0, .slice none 0 0]) (by simp only [results, Tryz.results228]; simp [go_sem, hr.1, hr.2.1, hr.2.2.1, hr.2.2.2.1, hr.2.2.2.2]) rfl ⟨_, _, rfl, ?_, b1.trans (show Below w.heap.size w1 _ from (by repeat' (first | with_reducible exact Below.refl _ _ | with_reducible assumption | with_reducible refine Below.drew ?_ | with_reducible refine Below.alloc ?_ ?_ _ | with_reducible refine Below.setCell ?_ ?_ _ | (simp; done) | (simp; omega) | omega)))⟩
          exact GOwn.nil _ _ _ (by have := b1.size; simp [World.setCell]; omega)
        | true =>
          cases k3 : atB at' with
          | false =>
            obtain ⟨g1, g2, g3, g4⟩ := hbd hG
            rw [scrollRes_def, gres_bad hG (by unfold scrollOk; first | (rw [k0]; rfl) | (rw [k0, k1]; rfl) | (rw [k0, k1, k2]; rfl) | (rw [k0, k1, k2, k3]; rfl))]
            rw [hG] at HF
            simp only [gbad]
            go_enter Tryz.func228, Tryz.ntmps228
            go_wp2_with fail
            refine HF.mono ?_
            rintro e w1 ⟨rfl, hb1⟩
            have A0 : w1.cell? ⟨w.heap.size, 0, none⟩ = some (.int .i64 r) := cellb hb1 (by simp [go_sem])
            have A1 : w1.cell? ⟨w.heap.size, 1, none⟩ = some (.int .i64 wd) := cellb hb1 (by simp [go_sem])
            have A2 : w1.cell? ⟨w.heap.size, 2, none⟩ = some (.slice a1 cs.length c1) := cellb hb1 (by simp [go_sem])
            have A3 : w1.cell? ⟨w.heap.size, 3, none⟩ = some (.slice a2 bs.length c2) := cellb hb1 (by simp [go_sem])
            have R0 : w1.cell? ⟨w.heap.size + 1, 0, none⟩ = some (.int .i64 0) := cellb hb1 (by simp [go_sem])
            have Z0 : w1.frozen? ⟨w.heap.size + 1, 0, none⟩ = false := by rw [hb1.frozen (p := ⟨w.heap.size + 1, 0, none⟩) (by simp)]; simp [go_sem]
            have R1 : w1.cell? ⟨w.heap.size + 1, 1, none⟩ = some (.int .i64 0) := cellb hb1 (by simp [go_sem])
            have Z1 : w1.frozen? ⟨w.heap.size + 1, 1, none⟩ = false := by rw [hb1.frozen (p := ⟨w.heap.size + 1, 1, none⟩) (by simp)]; simp [go_sem]
            have R2 : w1.cell? ⟨w.heap.size + 1, 2, none⟩ = some (.int .i64 0) := cellb hb1 (by simp [go_sem])
            have Z2 : w1.frozen? ⟨w.heap.size + 1, 2, none⟩ = false := by rw [hb1.frozen (p := ⟨w.heap.size + 1, 2, none⟩) (by simp)]; simp [go_sem]
            have R3 : w1.cell? ⟨w.heap.size + 1, 3, none⟩ = some (.slice none 0 0) := cellb hb1 (by simp [go_sem])
            have Z3 : w1.frozen? ⟨w.heap.size + 1, 3, none⟩ = false := by rw [hb1.frozen (p := ⟨w.heap.size + 1, 3, none⟩) (by simp)]; simp [go_sem]
            have R4 : w1.cell? ⟨w.heap.size + 1, 4, none⟩ = some (.slice none 0 0) := cellb hb1 (by simp [go_sem])
            have Z4 : w1.frozen? ⟨w.heap.size + 1, 4, none⟩ = false := by rw [hb1.frozen (p := ⟨w.heap.size + 1, 4, none⟩) (by simp)]; simp [go_sem]
            have hs1 : w.heap.size + 2 ≤ w1.heap.size := by have := hb1.size; simp at this; omega
            have b1 : Below w.heap.size w w1 := hb0.trans (hb1.mono (by simp; omega))
            clear hb1 hb0 HF
            go_wp2_with (first
              | (go_at_call 105; refine (isFromTo_calls _ _ _ _).mono ?_; rintro e w' ⟨rfl, hw⟩; rw [hw]; clear hw w'; first | rw [k0] | rw [k1] | rw [k2])
              | (go_at_call 102; refine (isAttr_calls _ _).mono ?_; rintro e w' ⟨rfl, hw⟩; rw [hw]; clear hw w'; rw [k3]))
            have hr := res5 (w := w1) (r := w.heap.size + 1) (.int .i64 3) (.int .i64 0) (.int .i64 0) (.slice none 0 0) (.slice none 0 0) R0 R1 R2 R3 R4
            go_wp2
            refine bodyPost_ret (v := .agg #[.int .i64 3, .int .i64 0, .int .i64 0, .slice none 0 0, .slice none 0 0]) (by simp only [results, Tryz.results228]; simp [go_sem, hr.1, hr.2.1, hr.2.2.1, hr.2.2.2.1, hr.2.2.2.2]) rfl ⟨_, _, rfl, ?_, b1.trans (show Below w.heap.size w1 _ from (by repeat' (first | with_reducible exact Below.refl _ _ | with_reducible assumption | with_reducible refine Below.drew ?_ | with_reducible refine Below.alloc ?_ ?_ _ | with_reducible refine Below.setCell ?_ ?_ _ | (simp; done) | (simp; omega) | omega)))⟩
            exact GOwn.nil _ _ _ (by have := b1.size; simp [World.setCell]; omega)
          | true =>
            obtain ⟨g1, g2, g3, g4⟩ := hbd hG
            rw [scrollRes_def, gres_ok hG (by unfold scrollOk; rw [k0, k1, k2, k3]; rfl)]
            rw [hG] at HF
            have hfine := gfine_of_code hG
            obtain ⟨n1, n2, hq, n8, n9, n10⟩ := hfine.short
            obtain ⟨T, B, W, rfl, rfl, eW, q1, q2, q3, q4, q5, q6, Hb, q7, q8⟩ := scroll_nats hfine (of_decide_eq_true k0) (of_decide_eq_true k1)
            clear hfine hG hbd
            have j2 := of_decide_eq_true k2
            have eW' : wd.toNat = W := by omega
            rw [eW', Int.toNat_natCast, show ((B : Int) + 1 - (T : Int)).toNat = B + 1 - T by omega]
            obtain ⟨lv, hlv⟩ : ∃ lv : Nat, max 0 (min n ((B : Int) + 1)) = (lv : Int) := ⟨(max 0 (min n ((B : Int) + 1))).toNat, by omega⟩
            rw [show (max 0 (min n ((B : Int) + 1))).toNat = lv by omega]
            have EW := hide eW
            have Q8 := hide q8
            clear eW eW' q8
            go_enter Tryz.func228, Tryz.ntmps228
            go_wp2_with fail
            refine HF.mono ?_
            rintro e w1 ⟨rfl, hb1⟩
            have A0 : w1.cell? ⟨w.heap.size, 0, none⟩ = some (.int .i64 r) := cellb hb1 (by simp [go_sem])
            have A1 : w1.cell? ⟨w.heap.size, 1, none⟩ = some (.int .i64 wd) := cellb hb1 (by simp [go_sem])
            have A2 : w1.cell? ⟨w.heap.size, 2, none⟩ = some (.slice a1 cs.length c1) := cellb hb1 (by simp [go_sem])
            have A3 : w1.cell? ⟨w.heap.size, 3, none⟩ = some (.slice a2 bs.length c2) := cellb hb1 (by simp [go_sem])
            have R0 : w1.cell? ⟨w.heap.size + 1, 0, none⟩ = some (.int .i64 0) := cellb hb1 (by simp [go_sem])
            have Z0 : w1.frozen? ⟨w.heap.size + 1, 0, none⟩ = false := by rw [hb1.frozen (p := ⟨w.heap.size + 1, 0, none⟩) (by simp)]; simp [go_sem]
            have R1 : w1.cell? ⟨w.heap.size + 1, 1, none⟩ = some (.int .i64 0) := cellb hb1 (by simp [go_sem])
            have Z1 : w1.frozen? ⟨w.heap.size + 1, 1, none⟩ = false := by rw [hb1.frozen (p := ⟨w.heap.size + 1, 1, none⟩) (by simp)]; simp [go_sem]
            have R2 : w1.cell? ⟨w.heap.size + 1, 2, none⟩ = some (.int .i64 0) := cellb hb1 (by simp [go_sem])
            have Z2 : w1.frozen? ⟨w.heap.size + 1, 2, none⟩ = false := by rw [hb1.frozen (p := ⟨w.heap.size + 1, 2, none⟩) (by simp)]; simp [go_sem]
            have R3 : w1.cell? ⟨w.heap.size + 1, 3, none⟩ = some (.slice none 0 0) := cellb hb1 (by simp [go_sem])
            have Z3 : w1.frozen? ⟨w.heap.size + 1, 3, none⟩ = false := by rw [hb1.frozen (p := ⟨w.heap.size + 1, 3, none⟩) (by simp)]; simp [go_sem]
            have R4 : w1.cell? ⟨w.heap.size + 1, 4, none⟩ = some (.slice none 0 0) := cellb hb1 (by simp [go_sem])
            have Z4 : w1.frozen? ⟨w.heap.size + 1, 4, none⟩ = false := by rw [hb1.frozen (p := ⟨w.heap.size + 1, 4, none⟩) (by simp)]; simp [go_sem]
            have hs1 : w.heap.size + 2 ≤ w1.heap.size := by have := hb1.size; simp at this; omega
            have b1 : Below w.heap.size w w1 := hb0.trans (hb1.mono (by simp; omega))
            clear hb1 hb0 HF
            go_wp2_with (first
              | (go_at_call 105; refine (isFromTo_calls _ _ _ _).mono ?_; rintro e w' ⟨rfl, hw⟩; rw [hw]; clear hw w'; first | rw [k0] | rw [k1] | rw [k2])
              | (go_at_call 102; refine (isAttr_calls _ _).mono ?_; rintro e w' ⟨rfl, hw⟩; rw [hw]; clear hw w'; rw [k3]))
            refine (sheetsOf_calls r wd cs bs _ _ w1 hn1 hn2 (h1.below b1) (h2.below b1)).mono ?_
            rintro e w2 ⟨x, y, m, rfl, m1, m2, ox, xm, oy, hb2⟩
            replace A0 := cellb hb2 A0
            replace A1 := cellb hb2 A1
            replace A2 := cellb hb2 A2
            replace A3 := cellb hb2 A3
            replace R0 := cellb hb2 R0
            replace R1 := cellb hb2 R1
            replace R2 := cellb hb2 R2
            replace R3 := cellb hb2 R3
            replace R4 := cellb hb2 R4
            replace Z0 : w2.frozen? ⟨w.heap.size + 1, 0, none⟩ = false := by rw [hb2.frozen (p := ⟨w.heap.size + 1, 0, none⟩) (by simp; omega)]; exact Z0
            replace Z1 : w2.frozen? ⟨w.heap.size + 1, 1, none⟩ = false := by rw [hb2.frozen (p := ⟨w.heap.size + 1, 1, none⟩) (by simp; omega)]; exact Z1
            replace Z2 : w2.frozen? ⟨w.heap.size + 1, 2, none⟩ = false := by rw [hb2.frozen (p := ⟨w.heap.size + 1, 2, none⟩) (by simp; omega)]; exact Z2
            replace Z3 : w2.frozen? ⟨w.heap.size + 1, 3, none⟩ = false := by rw [hb2.frozen (p := ⟨w.heap.size + 1, 3, none⟩) (by simp; omega)]; exact Z3
            replace Z4 : w2.frozen? ⟨w.heap.size + 1, 4, none⟩ = false := by rw [hb2.frozen (p := ⟨w.heap.size + 1, 4, none⟩) (by simp; omega)]; exact Z4
            have b2 := b1.trans (hb2.mono b1.size)
            have hs2 : w1.heap.size ≤ w2.heap.size := hb2.size
            obtain ⟨bx, cx, rfl, hcx, _, x1, x2, hrow⟩ := own_row ox n8
            obtain ⟨ay, cy, rfl, hyc⟩ := own_room2 oy
            have x3 : bx < m := xm bx rfl
            have HX := hide hrow
            have HY := hide oy
            have HL := hide oy.lt
            clear hrow oy ox xm hb2
            by_cases hT : T = 0
            · subst hT
              obtain ⟨mn, hmn⟩ : ∃ mn, (if (B : Int) + 1 < n then (B : Int) + 1 else n) = mn := ⟨_, rfl⟩
              have hmx : (if 0 < mn then mn else 0) = (lv : Int) := by rw [← hmn]; split <;> split <;> omega
              have hlb : lv ≤ B + 1 := by omega
              clear hlv
              go_wp2_with fail
              have hb3 : Below w2.heap.size w2 ((w2.alloc (.cells #[.int .i64 wd, .slice (some ⟨bx, 0, none⟩) cs.length cx] 217)).alloc (.cells #[.int .i64 wd, .slice ay bs.length cy] 217)) := (by repeat' (first | with_reducible exact Below.refl _ _ | with_reducible assumption | with_reducible refine Below.drew ?_ | with_reducible refine Below.alloc ?_ ?_ _ | with_reducible refine Below.setCell ?_ ?_ _ | (simp; done) | (simp; omega) | omega))
              have S0 : ((w2.alloc (.cells #[.int .i64 wd, .slice (some ⟨bx, 0, none⟩) cs.length cx] 217)).alloc (.cells #[.int .i64 wd, .slice ay bs.length cy] 217)).cell? ⟨w2.heap.size, 0, none⟩ = some (.int .i64 wd) := by simp [go_sem]
              have S1 : ((w2.alloc (.cells #[.int .i64 wd, .slice (some ⟨bx, 0, none⟩) cs.length cx] 217)).alloc (.cells #[.int .i64 wd, .slice ay bs.length cy] 217)).cell? ⟨w2.heap.size, 1, none⟩ = some (.slice (some ⟨bx, 0, none⟩) cs.length cx) := by simp [go_sem]
              have U0 : ((w2.alloc (.cells #[.int .i64 wd, .slice (some ⟨bx, 0, none⟩) cs.length cx] 217)).alloc (.cells #[.int .i64 wd, .slice ay bs.length cy] 217)).cell? ⟨w2.heap.size + 1, 0, none⟩ = some (.int .i64 wd) := by simp [go_sem]
              have U1 : ((w2.alloc (.cells #[.int .i64 wd, .slice (some ⟨bx, 0, none⟩) cs.length cx] 217)).alloc (.cells #[.int .i64 wd, .slice ay bs.length cy] 217)).cell? ⟨w2.heap.size + 1, 1, none⟩ = some (.slice ay bs.length cy) := by simp [go_sem]
              have ZU0 : ((w2.alloc (.cells #[.int .i64 wd, .slice (some ⟨bx, 0, none⟩) cs.length cx] 217)).alloc (.cells #[.int .i64 wd, .slice ay bs.length cy] 217)).frozen? ⟨w2.heap.size + 1, 0, none⟩ = false := by simp [go_sem]
              have ZU1 : ((w2.alloc (.cells #[.int .i64 wd, .slice (some ⟨bx, 0, none⟩) cs.length cx] 217)).alloc (.cells #[.int .i64 wd, .slice ay bs.length cy] 217)).frozen? ⟨w2.heap.size + 1, 1, none⟩ = false := by simp [go_sem]
              have hs3 : ((w2.alloc (.cells #[.int .i64 wd, .slice (some ⟨bx, 0, none⟩) cs.length cx] 217)).alloc (.cells #[.int .i64 wd, .slice ay bs.length cy] 217)).heap.size = w2.heap.size + 2 := by simp
              generalize ((w2.alloc (.cells #[.int .i64 wd, .slice (some ⟨bx, 0, none⟩) cs.length cx] 217)).alloc (.cells #[.int .i64 wd, .slice ay bs.length cy] 217)) = w3 at *
              replace A0 := cellb hb3 A0
              replace A1 := cellb hb3 A1
              replace A2 := cellb hb3 A2
              replace A3 := cellb hb3 A3
              replace R0 := cellb hb3 R0
              replace R1 := cellb hb3 R1
              replace R2 := cellb hb3 R2
              replace R3 := cellb hb3 R3
              replace R4 := cellb hb3 R4
              replace Z0 : w3.frozen? ⟨w.heap.size + 1, 0, none⟩ = false := by rw [hb3.frozen (p := ⟨w.heap.size + 1, 0, none⟩) (by simp; omega)]; exact Z0
              replace Z1 : w3.frozen? ⟨w.heap.size + 1, 1, none⟩ = false := by rw [hb3.frozen (p := ⟨w.heap.size + 1, 1, none⟩) (by simp; omega)]; exact Z1
              replace Z2 : w3.frozen? ⟨w.heap.size + 1, 2, none⟩ = false := by rw [hb3.frozen (p := ⟨w.heap.size + 1, 2, none⟩) (by simp; omega)]; exact Z2
              replace Z3 : w3.frozen? ⟨w.heap.size + 1, 3, none⟩ = false := by rw [hb3.frozen (p := ⟨w.heap.size + 1, 3, none⟩) (by simp; omega)]; exact Z3
              replace Z4 : w3.frozen? ⟨w.heap.size + 1, 4, none⟩ = false := by rw [hb3.frozen (p := ⟨w.heap.size + 1, 4, none⟩) (by simp; omega)]; exact Z4
              have b3 := b2.trans (hb3.mono b2.size)
              replace HX := hide (HX.out.below hb3 x2)
              replace HY := hide (own_below HY.out hb3)
              clear hb3 b2
              clear hmn hmx
              obtain ⟨q, hqe⟩ : ∃ q, q = lv * W := ⟨_, rfl⟩
              have hq1 : q ≤ (B + 1) * W := by rw [hqe]; exact Nat.mul_le_mul_right W hlb
              have HQ := hide hqe
              clear hqe
              refine till_region [6] (S := (fun w' => w'.cell? ⟨w2.heap.size, 0, none⟩ = some (.int .i64 wd) ∧ w'.cell? ⟨w2.heap.size, 1, none⟩ = some (.slice (some ⟨bx, 0, none⟩) cs.length cx) ∧ w'.cell? ⟨w2.heap.size + 1, 0, none⟩ = some (.int .i64 wd) ∧ w'.cell? ⟨w2.heap.size + 1, 1, none⟩ = some (.slice ay bs.length cy))) (by kernel_rfl) ?_ (fun hHeld => ?_)
              · (try dsimp only); exact ⟨S0, S1, U0, U1⟩
              refine till_take (i := 0) (oi := ⟨_, _, _, _, _, _⟩) (v := ?_) rfl (by kernel_rfl) (by kernel_rfl) (by kernel_rfl) (by kernel_rfl) (fun _ _ _ h => h) (Or.inl ⟨by rfl, ?_⟩) hHeld ?_
              rotate_left
              · (intro w hSw; (try dsimp only at hSw); go_simp; try (with_reducible rfl))
              try simp only [Act.put, List.setIfInBounds_toArray, List.set_cons_zero, List.set_cons_succ]
              refine till_take (i := 1) (oi := ⟨_, _, _, _, _, _⟩) (v := ?_) rfl (by kernel_rfl) (by kernel_rfl) (by kernel_rfl) (by kernel_rfl) (fun _ _ _ h => h) (Or.inl ⟨by rfl, ?_⟩) hHeld ?_
              rotate_left
              · (intro w hSw; (try dsimp only at hSw); go_simp; try (with_reducible rfl))
              try simp only [Act.put, List.setIfInBounds_toArray, List.set_cons_zero, List.set_cons_succ]
              refine till_take (i := 2) (oi := ⟨_, _, _, _, _, _⟩) (v := ?_) rfl (by kernel_rfl) (by kernel_rfl) (by kernel_rfl) (by kernel_rfl) (fun _ _ _ h => h) (Or.inl ⟨by rfl, ?_⟩) hHeld ?_
              rotate_left
              · (intro w hSw; (try dsimp only at hSw); go_simp; try (with_reducible rfl))
              try simp only [Act.put, List.setIfInBounds_toArray, List.set_cons_zero, List.set_cons_succ]
              refine till_ready (rs := [3]) (by kernel_rfl) (by simp) ?_
              refine EachTill.cons (o := ⟨_, _, _, _, _, _⟩) rfl (fun K hK => ?_) EachTill.nil
              go_simp
              go_at_call 230
              refine (part_calls wd 0 (lv : Int) bx 0 cs.length cx 0 q _ ⟨hcx, _, rfl, fun _ => rfl⟩ (by simp) (by rw [EW.out, HQ.out, Int.natCast_mul]) (by omega) (by omega) hn1 _).mono ?_
              rintro e w4 ⟨vp, rfl, hslp, hb4⟩
              simp only [Nat.zero_mul, Nat.add_zero, Nat.sub_zero] at hslp
              obtain ⟨hcp, ap, rfl, hap⟩ := hslp
              have HAP := hide hap
              clear hap
              replace hb4 : Below w3.heap.size w3 w4 := (below_drewN (Below.refl _ _) 1).trans hb4
              have hs4 : w3.heap.size ≤ w4.heap.size := hb4.size
              replace A0 := cellb hb4 A0
              replace A1 := cellb hb4 A1
              replace A2 := cellb hb4 A2
              replace A3 := cellb hb4 A3
              replace R0 := cellb hb4 R0
              replace R1 := cellb hb4 R1
              replace R2 := cellb hb4 R2
              replace R3 := cellb hb4 R3
              replace R4 := cellb hb4 R4
              replace S0 := cellb hb4 S0
              replace S1 := cellb hb4 S1
              replace U0 := cellb hb4 U0
              replace U1 := cellb hb4 U1
              replace Z0 : w4.frozen? ⟨w.heap.size + 1, 0, none⟩ = false := by rw [hb4.frozen (p := ⟨w.heap.size + 1, 0, none⟩) (by simp; omega)]; exact Z0
              replace Z1 : w4.frozen? ⟨w.heap.size + 1, 1, none⟩ = false := by rw [hb4.frozen (p := ⟨w.heap.size + 1, 1, none⟩) (by simp; omega)]; exact Z1
              replace Z2 : w4.frozen? ⟨w.heap.size + 1, 2, none⟩ = false := by rw [hb4.frozen (p := ⟨w.heap.size + 1, 2, none⟩) (by simp; omega)]; exact Z2
              replace Z3 : w4.frozen? ⟨w.heap.size + 1, 3, none⟩ = false := by rw [hb4.frozen (p := ⟨w.heap.size + 1, 3, none⟩) (by simp; omega)]; exact Z3
              replace Z4 : w4.frozen? ⟨w.heap.size + 1, 4, none⟩ = false := by rw [hb4.frozen (p := ⟨w.heap.size + 1, 4, none⟩) (by simp; omega)]; exact Z4
              have b4 := b3.trans (hb4.mono b3.size)
              replace HX := hide (HX.out.below hb4 (by omega))
              replace ZU0 : w4.frozen? ⟨w2.heap.size + 1, 0, none⟩ = false := by rw [hb4.frozen (p := ⟨w2.heap.size + 1, 0, none⟩) (by simp; omega)]; exact ZU0
              replace ZU1 : w4.frozen? ⟨w2.heap.size + 1, 1, none⟩ = false := by rw [hb4.frozen (p := ⟨w2.heap.size + 1, 1, none⟩) (by simp; omega)]; exact ZU1
              replace HY := hide (own_below HY.out hb4)
              clear b3 hb4
              try go_wp2_with fail
              refine hK.out _ _ ?_ ?_
              · (try dsimp only); exact ⟨S0, S1, U0, U1⟩
              clear hHeld hK K
              intro hHeld
              try simp only [Act.put, List.setIfInBounds_toArray, List.set_cons_zero, List.set_cons_succ]
              refine till_ready (rs := [4]) (by kernel_rfl) (by simp) ?_
              refine EachTill.cons (o := ⟨_, _, _, _, _, _⟩) rfl (fun K hK => ?_) EachTill.nil
              go_simp
              go_at_call 239
              refine (followedBy_calls wd m bs.length W lv q cx bx 0 ap _ bs (fun i => cs.getD i (0, 0)) w4 HY.out (by omega) (fun i hi => (HX.out i (by omega)).1) (fun e => by have := (HL.out bx e.symm).1; omega) HQ.out EW.out (by omega) (by omega) (by omega) hcp HAP.out (by omega) (by omega)).mono ?_
              rintro e w5 ⟨vf, rfl, of, gf⟩
              have hs5 : w4.heap.size ≤ w5.heap.size := gf.grown.size
              replace A0 := gf.cellAt A0 (fun e => by have := HL.out _ e.symm; omega)
              replace A1 := gf.cellAt A1 (fun e => by have := HL.out _ e.symm; omega)
              replace A2 := gf.cellAt A2 (fun e => by have := HL.out _ e.symm; omega)
              replace A3 := gf.cellAt A3 (fun e => by have := HL.out _ e.symm; omega)
              replace R0 := gf.cellAt R0 (fun e => by have := HL.out _ e.symm; omega)
              replace R1 := gf.cellAt R1 (fun e => by have := HL.out _ e.symm; omega)
              replace R2 := gf.cellAt R2 (fun e => by have := HL.out _ e.symm; omega)
              replace R3 := gf.cellAt R3 (fun e => by have := HL.out _ e.symm; omega)
              replace R4 := gf.cellAt R4 (fun e => by have := HL.out _ e.symm; omega)
              replace S0 := gf.cellAt S0 (fun e => by have := HL.out _ e.symm; omega)
              replace S1 := gf.cellAt S1 (fun e => by have := HL.out _ e.symm; omega)
              replace U0 := gf.cellAt U0 (fun e => by have := HL.out _ e.symm; omega)
              replace U1 := gf.cellAt U1 (fun e => by have := HL.out _ e.symm; omega)
              replace Z0 : w5.frozen? ⟨w.heap.size + 1, 0, none⟩ = false := (gf.frozen (by omega) (fun e => by have := HL.out _ e.symm; omega)).trans Z0
              replace Z1 : w5.frozen? ⟨w.heap.size + 1, 1, none⟩ = false := (gf.frozen (by omega) (fun e => by have := HL.out _ e.symm; omega)).trans Z1
              replace Z2 : w5.frozen? ⟨w.heap.size + 1, 2, none⟩ = false := (gf.frozen (by omega) (fun e => by have := HL.out _ e.symm; omega)).trans Z2
              replace Z3 : w5.frozen? ⟨w.heap.size + 1, 3, none⟩ = false := (gf.frozen (by omega) (fun e => by have := HL.out _ e.symm; omega)).trans Z3
              replace Z4 : w5.frozen? ⟨w.heap.size + 1, 4, none⟩ = false := (gf.frozen (by omega) (fun e => by have := HL.out _ e.symm; omega)).trans Z4
              replace ZU0 : w5.frozen? ⟨w2.heap.size + 1, 0, none⟩ = false := (gf.frozen (by omega) (fun e => by have := HL.out _ e.symm; omega)).trans ZU0
              replace ZU1 : w5.frozen? ⟨w2.heap.size + 1, 1, none⟩ = false := (gf.frozen (by omega) (fun e => by have := HL.out _ e.symm; omega)).trans ZU1
              have b5 := b4.trans (gf.below (base := w.heap.size) (by omega) (fun k hk => by have := HL.out k hk; omega))
              replace HX := hide (HX.out.block (gf.block (by omega) (fun e => by have := HL.out _ e.symm; omega)))
              have hsf := gf.spot
              clear b4 gf HY HAP
              obtain ⟨bb, af, cf, rfl, hslf, m3, bbs, hob, hpf, hlf⟩ := own_spotG of (by omega)
              have BBN : bb ≠ w2.heap.size + 1 := by
                rcases hob with h | h
                · rcases hsf with e | ⟨k, e, hk⟩
                  · have := HL.out bb (by rw [← e]; exact h)
                    omega
                  · rw [h] at e
                    injection e with e
                    omega
                · omega
              clear hob hsf
              have HP := hide hpf
              have HSL := hide hslf
              have HLF := hide hlf
              clear hpf hslf hlf of
              try go_wp2_with fail
              refine hK.out _ _ ?_ ?_
              · (try dsimp only); exact ⟨S0, S1, U0, U1⟩
              clear hHeld hK K
              intro hHeld
              try simp only [Act.put, List.setIfInBounds_toArray, List.set_cons_zero, List.set_cons_succ]
              refine till_ready (rs := [5]) (by kernel_rfl) (by simp) ?_
              refine EachTill.cons (o := ⟨_, _, _, _, _, _⟩) rfl (fun K hK => ?_) EachTill.nil
              go_simp
              go_at_call 240
              refine (last_calls wd bb 0 (bs.length + q) cf (Hb + lv) W _ HSL.out (by rw [Q8.out, HQ.out, Nat.add_mul]) EW.out (by omega) (by omega) (by omega) (by omega) _).mono ?_
              rintro e w6 ⟨vl, rfl, hsll, hb6⟩
              replace HP := hide (pairs_drop HP.out HSL.out hsll HLF.out (by rw [Q8.out, HQ.out, ← Nat.add_mul]; exact Nat.mul_le_mul_right W (by omega)))
              obtain ⟨_, al, rfl, _⟩ := hsll
              obtain ⟨nl, hnl⟩ : ∃ nl, nl = bs.length + q - (Hb + lv - 5) * W := ⟨_, rfl⟩
              obtain ⟨cl, hcl⟩ : ∃ cl, cl = cf - (Hb + lv - 5) * W := ⟨_, rfl⟩
              rw [← hnl, ← hcl] at HP
              rw [← hnl, ← hcl]
              clear hnl hcl
              have hs6 : w5.heap.size ≤ w6.heap.size := hb6.size
              replace A0 := cellb hb6 A0
              replace A1 := cellb hb6 A1
              replace A2 := cellb hb6 A2
              replace A3 := cellb hb6 A3
              replace R0 := cellb hb6 R0
              replace R1 := cellb hb6 R1
              replace R2 := cellb hb6 R2
              replace R3 := cellb hb6 R3
              replace R4 := cellb hb6 R4
              replace S0 := cellb hb6 S0
              replace S1 := cellb hb6 S1
              replace U0 := cellb hb6 U0
              replace U1 := cellb hb6 U1
              replace Z0 : w6.frozen? ⟨w.heap.size + 1, 0, none⟩ = false := by rw [hb6.frozen (p := ⟨w.heap.size + 1, 0, none⟩) (by simp; omega)]; exact Z0
              replace Z1 : w6.frozen? ⟨w.heap.size + 1, 1, none⟩ = false := by rw [hb6.frozen (p := ⟨w.heap.size + 1, 1, none⟩) (by simp; omega)]; exact Z1
              replace Z2 : w6.frozen? ⟨w.heap.size + 1, 2, none⟩ = false := by rw [hb6.frozen (p := ⟨w.heap.size + 1, 2, none⟩) (by simp; omega)]; exact Z2
              replace Z3 : w6.frozen? ⟨w.heap.size + 1, 3, none⟩ = false := by rw [hb6.frozen (p := ⟨w.heap.size + 1, 3, none⟩) (by simp; omega)]; exact Z3
              replace Z4 : w6.frozen? ⟨w.heap.size + 1, 4, none⟩ = false := by rw [hb6.frozen (p := ⟨w.heap.size + 1, 4, none⟩) (by simp; omega)]; exact Z4
              have b6 := b5.trans (hb6.mono b5.size)
              replace HX := hide (HX.out.below hb6 (by omega))
              replace ZU0 : w6.frozen? ⟨w2.heap.size + 1, 0, none⟩ = false := by rw [hb6.frozen (p := ⟨w2.heap.size + 1, 0, none⟩) (by simp; omega)]; exact ZU0
              replace ZU1 : w6.frozen? ⟨w2.heap.size + 1, 1, none⟩ = false := by rw [hb6.frozen (p := ⟨w2.heap.size + 1, 1, none⟩) (by simp; omega)]; exact ZU1
              replace HP := hide (HP.out.below hb6 (by omega))
              clear b5 hb6
              try go_wp2_with fail
              refine hK.out _ _ ?_ ?_
              · (try dsimp only); exact ⟨S0, S1, U0, U1⟩
              clear hHeld hK K
              intro hHeld
              try simp only [Act.put, List.setIfInBounds_toArray, List.set_cons_zero, List.set_cons_succ]
              refine till_ready (rs := [6]) (by kernel_rfl) (by simp) ?_
              refine EachTill.last (o := ⟨_, _, _, _, _, _⟩) rfl rfl (fun K hK => ?_) EachTill.nil
              go_simp
              have ht7 : Touch (w2.heap.size + 1) 0 2 w6 ((w6.setCell ⟨w2.heap.size + 1, 0, none⟩ (.int .i64 wd)).setCell ⟨w2.heap.size + 1, 1, none⟩ (.slice al nl cl)) := ((Touch.refl _ _ _ _).setCell (by omega) (by omega) _).setCell (by omega) (by omega) _
              obtain ⟨V0, V1⟩ := res2 (w := w6) (r := w2.heap.size + 1) (.int .i64 wd) (.slice al nl cl) U0 U1
              generalize ((w6.setCell ⟨w2.heap.size + 1, 0, none⟩ (.int .i64 wd)).setCell ⟨w2.heap.size + 1, 1, none⟩ (.slice al nl cl)) = w7 at *
              clear U0 U1
              replace A0 := ht7.cellAt A0 (by omega)
              replace A1 := ht7.cellAt A1 (by omega)
              replace A2 := ht7.cellAt A2 (by omega)
              replace A3 := ht7.cellAt A3 (by omega)
              replace R0 := ht7.cellAt R0 (by omega)
              replace R1 := ht7.cellAt R1 (by omega)
              replace R2 := ht7.cellAt R2 (by omega)
              replace R3 := ht7.cellAt R3 (by omega)
              replace R4 := ht7.cellAt R4 (by omega)
              replace S0 := ht7.cellAt S0 (by omega)
              replace S1 := ht7.cellAt S1 (by omega)
              replace Z0 := ht7.frozenAt (by omega) Z0
              replace Z1 := ht7.frozenAt (by omega) Z1
              replace Z2 := ht7.frozenAt (by omega) Z2
              replace Z3 := ht7.frozenAt (by omega) Z3
              replace Z4 := ht7.frozenAt (by omega) Z4
              have U0 := V0
              have U1 := V1
              clear V0 V1
              have b7 : Below w.heap.size w w7 := b6.trans (ht7.below (by omega) (by omega))
              have hs7 : w6.heap.size ≤ w7.heap.size := ht7.size
              replace HX := hide (HX.out.touch ht7 (by omega))
              replace HP := hide (HP.out.of_blocks fun i h1 h2 => ht7.block i (by omega) (by omega))
              clear b6 ht7 ZU0 ZU1
              refine hK.out _ _ ?_ ?_
              · (try dsimp only); skip
              clear hHeld hK K
              intro hHeld
              try simp only [Act.put, List.setIfInBounds_toArray, List.set_cons_zero, List.set_cons_succ]
              refine till_done (by kernel_rfl) ?_ _
              clear hHeld
              clear HSL HLF
              go_wp2_with fail
              obtain ⟨p, hpe⟩ : ∃ p, p = 0 * W := ⟨_, rfl⟩
              obtain ⟨u, hue⟩ : ∃ u, u = (B + 1) * W := ⟨_, rfl⟩
              have LPOS : 0 < u - p := by rw [hpe, hue]; exact rows_pos (by omega) (by omega)
              have HPE := hide hpe
              have HUE := hide hue
              have p5 : p ≤ u := by omega
              have p6 : u ≤ cs.length := by rw [hue]; exact q6
              clear hpe hue
              have z1 : IntKind.i64.wrap ((B : Int) + 1) = (B : Int) + 1 := wrap_small (by omega) (by omega)
              have z2 : IntKind.i64.wrap (n * wd) = n * wd := by obtain ⟨p1, p2⟩ := mul_small j2 q4; rw [EW.out]; exact wrap_small (by omega) (by omega)
              have fs := fld_sheet1
              refine wp_region_held_drew (S := (fun w' => w'.cell? ⟨w2.heap.size, 0, none⟩ = some (.int .i64 wd) ∧ w'.cell? ⟨w2.heap.size, 1, none⟩ = some (.slice (some ⟨bx, 0, none⟩) cs.length cx) ∧ w'.cell? ⟨w.heap.size, 1, none⟩ = some (.int .i64 wd))) (by kernel_rfl) ?_ (fun hHeld => ?_)
              · (try dsimp only); exact ⟨S0, S1, A1⟩
              refine wpAnyH_take (i := 0) (oi := ⟨_, _, _, _, _, _⟩) (v := ?_) rfl (by kernel_rfl) (by kernel_rfl) (by kernel_rfl) (fun _ _ _ h => h) (Or.inl ⟨by rfl, ?_⟩) hHeld ?_
              rotate_left
              · (intro w hSw; (try dsimp only at hSw); go_simp; try (with_reducible rfl))
              try simp only [Act.put, List.setIfInBounds_toArray, List.set_cons_zero, List.set_cons_succ]
              refine wpAnyH_take (i := 1) (oi := ⟨_, _, _, _, _, _⟩) (v := ?_) rfl (by kernel_rfl) (by kernel_rfl) (by kernel_rfl) (fun _ _ _ h => h) (Or.inl ⟨by rfl, ?_⟩) hHeld ?_
              rotate_left
              · (intro w hSw; (try dsimp only at hSw); go_simp; try (with_reducible rfl))
              try simp only [Act.put, List.setIfInBounds_toArray, List.set_cons_zero, List.set_cons_succ]
              refine wpAnyH_take (i := 2) (oi := ⟨_, _, _, _, _, _⟩) (v := ?_) rfl (by kernel_rfl) (by kernel_rfl) (by kernel_rfl) (fun _ _ _ h => h) (Or.inl ⟨by rfl, ?_⟩) hHeld ?_
              rotate_left
              · (intro w hSw; (try dsimp only at hSw); go_simp; try (with_reducible rfl))
              try simp only [Act.put, List.setIfInBounds_toArray, List.set_cons_zero, List.set_cons_succ]
              refine wpAnyH_take (i := 3) (oi := ⟨_, _, _, _, _, _⟩) (v := ?_) rfl (by kernel_rfl) (by kernel_rfl) (by kernel_rfl) (fun _ _ _ h => h) (Or.inl ⟨by rfl, ?_⟩) hHeld ?_
              rotate_left
              · (intro w hSw; (try dsimp only at hSw); go_simp; try (with_reducible rfl))
              try simp only [Act.put, List.setIfInBounds_toArray, List.set_cons_zero, List.set_cons_succ]
              refine wpAnyH_take (i := 6) (oi := ⟨_, _, _, _, _, _⟩) (v := ?_) rfl (by kernel_rfl) (by kernel_rfl) (by kernel_rfl) (fun _ _ _ h => h) (Or.inl ⟨by rfl, ?_⟩) hHeld ?_
              rotate_left
              · (intro w hSw; (try dsimp only at hSw); go_simp; try (with_reducible rfl))
              try simp only [Act.put, List.setIfInBounds_toArray, List.set_cons_zero, List.set_cons_succ]
              refine wpAnyH_take (i := 7) (oi := ⟨_, _, _, _, _, _⟩) (v := ?_) rfl (by kernel_rfl) (by kernel_rfl) (by kernel_rfl) (fun _ _ _ h => h) (Or.inl ⟨by rfl, ?_⟩) hHeld ?_
              rotate_left
              · (intro w hSw; (try dsimp only at hSw); go_simp; try (with_reducible rfl))
              try simp only [Act.put, List.setIfInBounds_toArray, List.set_cons_zero, List.set_cons_succ]
              refine wpAnyH_take (i := 8) (oi := ⟨_, _, _, _, _, _⟩) (v := ?_) rfl (by kernel_rfl) (by kernel_rfl) (by kernel_rfl) (fun _ _ _ h => h) (Or.inl ⟨by rfl, ?_⟩) hHeld ?_
              rotate_left
              · (intro w hSw; (try dsimp only at hSw); go_simp; try (with_reducible rfl))
              try simp only [Act.put, List.setIfInBounds_toArray, List.set_cons_zero, List.set_cons_succ]
              refine wpAnyH_take (i := 9) (oi := ⟨_, _, _, _, _, _⟩) (v := ?_) rfl (by kernel_rfl) (by kernel_rfl) (by kernel_rfl) (fun _ _ _ h => h) (Or.inl ⟨by rfl, ?_⟩) hHeld ?_
              rotate_left
              · (intro w hSw; (try dsimp only at hSw); go_simp; try (with_reducible rfl))
              try simp only [Act.put, List.setIfInBounds_toArray, List.set_cons_zero, List.set_cons_succ]
              refine wpAnyH_take (i := 10) (oi := ⟨_, _, _, _, _, _⟩) (v := ?_) rfl (by kernel_rfl) (by kernel_rfl) (by kernel_rfl) (fun _ _ _ h => h) (Or.inl ⟨by rfl, ?_⟩) hHeld ?_
              rotate_left
              · (intro w hSw; (try dsimp only at hSw); go_simp; try (with_reducible rfl))
              try simp only [Act.put, List.setIfInBounds_toArray, List.set_cons_zero, List.set_cons_succ]
              refine wpAnyH_ready (rs := [4]) (by kernel_rfl) (by simp) ?_
              refine AllReadyH.cons (o := ⟨_, _, _, _, _, _⟩) rfl (fun K hK => ?_) AllReadyH.nil
              go_simp
              go_at_call 230
              refine (part_calls wd 0 ((B : Int) + 1) bx 0 cs.length cx p u _ ⟨hcx, _, rfl, fun _ => rfl⟩ (by rw [EW.out, HPE.out, Int.natCast_mul]; simp) (by rw [EW.out, HUE.out, Int.natCast_mul]; rfl) p5 p6 hn1 _).mono ?_
              rintro e wp ⟨vp, rfl, ⟨hcp, ap, rfl, hap⟩, hbp⟩
              obtain rfl := hap LPOS
              rw [Nat.zero_add]
              replace hbp : Below w7.heap.size w7 wp := (below_drewN (Below.refl _ _) 1).trans hbp
              have hsp : w7.heap.size ≤ wp.heap.size := hbp.size
              replace A0 := cellb hbp A0
              replace A1 := cellb hbp A1
              replace A2 := cellb hbp A2
              replace A3 := cellb hbp A3
              replace R0 := cellb hbp R0
              replace R1 := cellb hbp R1
              replace R2 := cellb hbp R2
              replace R3 := cellb hbp R3
              replace R4 := cellb hbp R4
              replace S0 := cellb hbp S0
              replace S1 := cellb hbp S1
              replace U0 := cellb hbp U0
              replace U1 := cellb hbp U1
              replace Z0 : wp.frozen? ⟨w.heap.size + 1, 0, none⟩ = false := by rw [hbp.frozen (p := ⟨w.heap.size + 1, 0, none⟩) (by simp; omega)]; exact Z0
              replace Z1 : wp.frozen? ⟨w.heap.size + 1, 1, none⟩ = false := by rw [hbp.frozen (p := ⟨w.heap.size + 1, 1, none⟩) (by simp; omega)]; exact Z1
              replace Z2 : wp.frozen? ⟨w.heap.size + 1, 2, none⟩ = false := by rw [hbp.frozen (p := ⟨w.heap.size + 1, 2, none⟩) (by simp; omega)]; exact Z2
              replace Z3 : wp.frozen? ⟨w.heap.size + 1, 3, none⟩ = false := by rw [hbp.frozen (p := ⟨w.heap.size + 1, 3, none⟩) (by simp; omega)]; exact Z3
              replace Z4 : wp.frozen? ⟨w.heap.size + 1, 4, none⟩ = false := by rw [hbp.frozen (p := ⟨w.heap.size + 1, 4, none⟩) (by simp; omega)]; exact Z4
              have bp := b7.trans (hbp.mono b7.size)
              replace HX := hide (HX.out.below hbp (by omega))
              replace HP := hide (HP.out.below hbp (by omega))
              clear b7 hbp
              try go_wp2_with fail
              refine hK.out _ _ ?_ ?_
              · (try dsimp only); exact ⟨S0, S1, A1⟩
              clear hHeld hK K
              intro hHeld
              try simp only [Act.put, List.setIfInBounds_toArray, List.set_cons_zero, List.set_cons_succ]
              refine wpAnyH_take (i := 5) (oi := ⟨_, _, _, _, _, _⟩) (v := ?_) rfl (by kernel_rfl) (by kernel_rfl) (by kernel_rfl) (fun _ _ _ h => h) (Or.inl ⟨by rfl, ?_⟩) hHeld ?_
              rotate_left
              · (intro w hSw; (try dsimp only at hSw); go_simp; try (with_reducible rfl))
              try simp only [Act.put, List.setIfInBounds_toArray, List.set_cons_zero, List.set_cons_succ]
              refine wpAnyH_ready (rs := [11]) (by kernel_rfl) (by simp) ?_
              refine AllReadyH.cons (o := ⟨_, _, _, _, _, _⟩) rfl (fun K hK => ?_) AllReadyH.nil
              go_simp
              go_at_call 198
              refine (blankOf_calls at' _).mono ?_
              rintro e wq ⟨rfl, hbq⟩
              have hsq : wp.heap.size ≤ wq.heap.size := hbq.size
              replace A0 := cellb hbq A0
              replace A1 := cellb hbq A1
              replace A2 := cellb hbq A2
              replace A3 := cellb hbq A3
              replace R0 := cellb hbq R0
              replace R1 := cellb hbq R1
              replace R2 := cellb hbq R2
              replace R3 := cellb hbq R3
              replace R4 := cellb hbq R4
              replace S0 := cellb hbq S0
              replace S1 := cellb hbq S1
              replace U0 := cellb hbq U0
              replace U1 := cellb hbq U1
              replace Z0 : wq.frozen? ⟨w.heap.size + 1, 0, none⟩ = false := by rw [hbq.frozen (p := ⟨w.heap.size + 1, 0, none⟩) (by simp; omega)]; exact Z0
              replace Z1 : wq.frozen? ⟨w.heap.size + 1, 1, none⟩ = false := by rw [hbq.frozen (p := ⟨w.heap.size + 1, 1, none⟩) (by simp; omega)]; exact Z1
              replace Z2 : wq.frozen? ⟨w.heap.size + 1, 2, none⟩ = false := by rw [hbq.frozen (p := ⟨w.heap.size + 1, 2, none⟩) (by simp; omega)]; exact Z2
              replace Z3 : wq.frozen? ⟨w.heap.size + 1, 3, none⟩ = false := by rw [hbq.frozen (p := ⟨w.heap.size + 1, 3, none⟩) (by simp; omega)]; exact Z3
              replace Z4 : wq.frozen? ⟨w.heap.size + 1, 4, none⟩ = false := by rw [hbq.frozen (p := ⟨w.heap.size + 1, 4, none⟩) (by simp; omega)]; exact Z4
              have bq := bp.trans (hbq.mono bp.size)
              replace HX := hide (HX.out.below hbq (by omega))
              replace HP := hide (HP.out.below hbq (by omega))
              clear bp hbq
              try go_wp2_with fail
              refine hK.out _ _ ?_ ?_
              · (try dsimp only); exact ⟨S0, S1, A1⟩
              clear hHeld hK K
              intro hHeld
              try simp only [Act.put, List.setIfInBounds_toArray, List.set_cons_zero, List.set_cons_succ]
              refine wpAnyH_ready (rs := [12]) (by kernel_rfl) (by simp) ?_
              refine AllReadyH.cons (o := ⟨_, _, _, _, _, _⟩) rfl (fun K hK => ?_) AllReadyH.nil
              go_simp
              go_at_call 229
              refine (slide_calls bx (p * 2) (u - p) (cx - p) _ (fun i => cs.getD (p + i) (0, 0)) (n * wd) 32 at' wq ⟨by omega, _, rfl, fun _ => rfl⟩ (by have h := HX.out.sub p (u - p) (by omega); rw [Nat.zero_add] at h; exact h) (by omega) (by omega) LPOS).mono ?_
              rintro e wr ⟨⟨ur, rfl⟩, hrr, htr⟩
              replace A0 := htr.cellAt A0 (by omega)
              replace A1 := htr.cellAt A1 (by omega)
              replace A2 := htr.cellAt A2 (by omega)
              replace A3 := htr.cellAt A3 (by omega)
              replace R0 := htr.cellAt R0 (by omega)
              replace R1 := htr.cellAt R1 (by omega)
              replace R2 := htr.cellAt R2 (by omega)
              replace R3 := htr.cellAt R3 (by omega)
              replace R4 := htr.cellAt R4 (by omega)
              replace S0 := htr.cellAt S0 (by omega)
              replace S1 := htr.cellAt S1 (by omega)
              replace U0 := htr.cellAt U0 (by omega)
              replace U1 := htr.cellAt U1 (by omega)
              replace Z0 := htr.frozenAt (by omega) Z0
              replace Z1 := htr.frozenAt (by omega) Z1
              replace Z2 := htr.frozenAt (by omega) Z2
              replace Z3 := htr.frozenAt (by omega) Z3
              replace Z4 := htr.frozenAt (by omega) Z4
              have br : Below w.heap.size w wr := bq.trans (htr.below (by omega) (by omega))
              have hsr : wq.heap.size ≤ wr.heap.size := htr.size
              replace HP := hide (pairs_touch HP.out htr (by omega) (by omega))
              replace HX := hide (HX.out.join (k := p) (m := u - p) (by rw [Nat.zero_add, Nat.zero_add, Nat.add_mul]; exact htr) (by rw [Nat.zero_add]; exact hrr) (by omega))
              clear hrr htr bq
              try go_wp2_with fail
              refine hK.out _ _ ?_ ?_
              · (try dsimp only); exact ⟨S0, S1, A1⟩
              clear hHeld hK K
              intro hHeld
              try simp only [Act.put, List.setIfInBounds_toArray, List.set_cons_zero, List.set_cons_succ]
              refine wpAnyH_done (by kernel_rfl) ?_ _
              clear hHeld
              go_wp2_with fail
              refine (gridOf_calls wd wd n1 n2 (some ⟨bx, 0, none⟩) al cs.length (nl) cx cl hn1 wr).mono ?_
              rintro e w8 ⟨rfl, hb8⟩
              rw [hq.out]
              replace R0 := cellb hb8 R0
              replace R1 := cellb hb8 R1
              replace R2 := cellb hb8 R2
              replace R3 := cellb hb8 R3
              replace R4 := cellb hb8 R4
              replace Z0 : w8.frozen? ⟨w.heap.size + 1, 0, none⟩ = false := by rw [hb8.frozen (p := ⟨w.heap.size + 1, 0, none⟩) (by simp; omega)]; exact Z0
              replace Z1 : w8.frozen? ⟨w.heap.size + 1, 1, none⟩ = false := by rw [hb8.frozen (p := ⟨w.heap.size + 1, 1, none⟩) (by simp; omega)]; exact Z1
              replace Z2 : w8.frozen? ⟨w.heap.size + 1, 2, none⟩ = false := by rw [hb8.frozen (p := ⟨w.heap.size + 1, 2, none⟩) (by simp; omega)]; exact Z2
              replace Z3 : w8.frozen? ⟨w.heap.size + 1, 3, none⟩ = false := by rw [hb8.frozen (p := ⟨w.heap.size + 1, 3, none⟩) (by simp; omega)]; exact Z3
              replace Z4 : w8.frozen? ⟨w.heap.size + 1, 4, none⟩ = false := by rw [hb8.frozen (p := ⟨w.heap.size + 1, 4, none⟩) (by simp; omega)]; exact Z4
              have b8 := br.trans (hb8.mono br.size)
              have hs8 : wr.heap.size ≤ w8.heap.size := hb8.size
              have HX8 := hide (HX.out.below hb8 (by omega))
              have HP8 := hide (HP.out.below hb8 (by omega))
              clear hb8 HX HP
              have hr := res5 (w := w8) (r := w.heap.size + 1) (.int .i64 0) (.int .i64 r) (.int .i64 wd) (.slice (some ⟨bx, 0, none⟩) cs.length cx) (.slice al nl cl) R0 R1 R2 R3 R4
              go_wp2
              refine bodyPost_ret (v := .agg #[.int .i64 0, .int .i64 r, .int .i64 wd, .slice (some ⟨bx, 0, none⟩) cs.length cx, .slice al nl cl]) (by simp only [results, Tryz.results228]; simp [go_sem, hr.1, hr.2.1, hr.2.2.1, hr.2.2.2.1, hr.2.2.2.2]) rfl ⟨_, _, rfl, ?_, b8.trans (show Below w.heap.size w8 _ from (by repeat' (first | with_reducible exact Below.refl _ _ | with_reducible assumption | with_reducible refine Below.drew ?_ | with_reducible refine Below.alloc ?_ ?_ _ | with_reducible refine Below.setCell ?_ ?_ _ | (simp; done) | (simp; omega) | omega)))⟩
              rw [scrollB_drop HQ.out Q8.out]
              refine (gown_of2 (w := w8) (base := w1.heap.size) (bb := bb) (HX8.out.congr (fun i hi => ?_)) (by omega) HP8.out (by omega) (by omega) (by simp [World.setCell]) (fun k _ => ?_)).mono (by omega) (Nat.le_refl _)
              · unfold scrollF
                rw [Nat.sub_mul, ← HPE.out, ← HUE.out]
              · by_cases hk : k < w1.heap.size
                · exact .inr hk
                · left
                  simp only [World.setCell, Array.getElem?_modify]
                  repeat rw [if_neg (by omega)]
            · have hT0 : ¬ (T : Int) = 0 := by omega
              clear hlv
              go_wp2_with fail
              have hb3 : Below w2.heap.size w2 ((w2.alloc (.cells #[.int .i64 wd, .slice (some ⟨bx, 0, none⟩) cs.length cx] 217)).alloc (.cells #[.int .i64 wd, .slice ay bs.length cy] 217)) := (by repeat' (first | with_reducible exact Below.refl _ _ | with_reducible assumption | with_reducible refine Below.drew ?_ | with_reducible refine Below.alloc ?_ ?_ _ | with_reducible refine Below.setCell ?_ ?_ _ | (simp; done) | (simp; omega) | omega))
              have S0 : ((w2.alloc (.cells #[.int .i64 wd, .slice (some ⟨bx, 0, none⟩) cs.length cx] 217)).alloc (.cells #[.int .i64 wd, .slice ay bs.length cy] 217)).cell? ⟨w2.heap.size, 0, none⟩ = some (.int .i64 wd) := by simp [go_sem]
              have S1 : ((w2.alloc (.cells #[.int .i64 wd, .slice (some ⟨bx, 0, none⟩) cs.length cx] 217)).alloc (.cells #[.int .i64 wd, .slice ay bs.length cy] 217)).cell? ⟨w2.heap.size, 1, none⟩ = some (.slice (some ⟨bx, 0, none⟩) cs.length cx) := by simp [go_sem]
              have U0 : ((w2.alloc (.cells #[.int .i64 wd, .slice (some ⟨bx, 0, none⟩) cs.length cx] 217)).alloc (.cells #[.int .i64 wd, .slice ay bs.length cy] 217)).cell? ⟨w2.heap.size + 1, 0, none⟩ = some (.int .i64 wd) := by simp [go_sem]
              have U1 : ((w2.alloc (.cells #[.int .i64 wd, .slice (some ⟨bx, 0, none⟩) cs.length cx] 217)).alloc (.cells #[.int .i64 wd, .slice ay bs.length cy] 217)).cell? ⟨w2.heap.size + 1, 1, none⟩ = some (.slice ay bs.length cy) := by simp [go_sem]
              have ZU0 : ((w2.alloc (.cells #[.int .i64 wd, .slice (some ⟨bx, 0, none⟩) cs.length cx] 217)).alloc (.cells #[.int .i64 wd, .slice ay bs.length cy] 217)).frozen? ⟨w2.heap.size + 1, 0, none⟩ = false := by simp [go_sem]
              have ZU1 : ((w2.alloc (.cells #[.int .i64 wd, .slice (some ⟨bx, 0, none⟩) cs.length cx] 217)).alloc (.cells #[.int .i64 wd, .slice ay bs.length cy] 217)).frozen? ⟨w2.heap.size + 1, 1, none⟩ = false := by simp [go_sem]
              have hs3 : ((w2.alloc (.cells #[.int .i64 wd, .slice (some ⟨bx, 0, none⟩) cs.length cx] 217)).alloc (.cells #[.int .i64 wd, .slice ay bs.length cy] 217)).heap.size = w2.heap.size + 2 := by simp
              generalize ((w2.alloc (.cells #[.int .i64 wd, .slice (some ⟨bx, 0, none⟩) cs.length cx] 217)).alloc (.cells #[.int .i64 wd, .slice ay bs.length cy] 217)) = w3 at *
              replace A0 := cellb hb3 A0
              replace A1 := cellb hb3 A1
              replace A2 := cellb hb3 A2
              replace A3 := cellb hb3 A3
              replace R0 := cellb hb3 R0
              replace R1 := cellb hb3 R1
              replace R2 := cellb hb3 R2
              replace R3 := cellb hb3 R3
              replace R4 := cellb hb3 R4
              replace Z0 : w3.frozen? ⟨w.heap.size + 1, 0, none⟩ = false := by rw [hb3.frozen (p := ⟨w.heap.size + 1, 0, none⟩) (by simp; omega)]; exact Z0
              replace Z1 : w3.frozen? ⟨w.heap.size + 1, 1, none⟩ = false := by rw [hb3.frozen (p := ⟨w.heap.size + 1, 1, none⟩) (by simp; omega)]; exact Z1
              replace Z2 : w3.frozen? ⟨w.heap.size + 1, 2, none⟩ = false := by rw [hb3.frozen (p := ⟨w.heap.size + 1, 2, none⟩) (by simp; omega)]; exact Z2
              replace Z3 : w3.frozen? ⟨w.heap.size + 1, 3, none⟩ = false := by rw [hb3.frozen (p := ⟨w.heap.size + 1, 3, none⟩) (by simp; omega)]; exact Z3
              replace Z4 : w3.frozen? ⟨w.heap.size + 1, 4, none⟩ = false := by rw [hb3.frozen (p := ⟨w.heap.size + 1, 4, none⟩) (by simp; omega)]; exact Z4
              have b3 := b2.trans (hb3.mono b2.size)
              replace HX := hide (HX.out.below hb3 x2)
              replace HY := hide (own_below HY.out hb3)
              clear hb3 b2
              obtain ⟨bb, _, _, _, _, m3, bbs, _, hpf, _⟩ := own_spotG HY.out (by omega)
              have HP := hide hpf
              clear hpf HY
              obtain ⟨p, hpe⟩ : ∃ p, p = T * W := ⟨_, rfl⟩
              obtain ⟨u, hue⟩ : ∃ u, u = (B + 1) * W := ⟨_, rfl⟩
              have LPOS : 0 < u - p := by rw [hpe, hue]; exact rows_pos (by omega) (by omega)
              have HPE := hide hpe
              have HUE := hide hue
              have p5 : p ≤ u := by omega
              have p6 : u ≤ cs.length := by rw [hue]; exact q6
              clear hpe hue
              have z1 : IntKind.i64.wrap ((B : Int) + 1) = (B : Int) + 1 := wrap_small (by omega) (by omega)
              have z2 : IntKind.i64.wrap (n * wd) = n * wd := by obtain ⟨p1, p2⟩ := mul_small j2 q4; rw [EW.out]; exact wrap_small (by omega) (by omega)
              have fs := fld_sheet1
              refine wp_region_held_drew (S := (fun w' => w'.cell? ⟨w2.heap.size, 0, none⟩ = some (.int .i64 wd) ∧ w'.cell? ⟨w2.heap.size, 1, none⟩ = some (.slice (some ⟨bx, 0, none⟩) cs.length cx) ∧ w'.cell? ⟨w.heap.size, 1, none⟩ = some (.int .i64 wd))) (by kernel_rfl) ?_ (fun hHeld => ?_)
              · (try dsimp only); exact ⟨S0, S1, A1⟩
              refine wpAnyH_take (i := 0) (oi := ⟨_, _, _, _, _, _⟩) (v := ?_) rfl (by kernel_rfl) (by kernel_rfl) (by kernel_rfl) (fun _ _ _ h => h) (Or.inl ⟨by rfl, ?_⟩) hHeld ?_
              rotate_left
              · (intro w hSw; (try dsimp only at hSw); go_simp; try (with_reducible rfl))
              try simp only [Act.put, List.setIfInBounds_toArray, List.set_cons_zero, List.set_cons_succ]
              refine wpAnyH_take (i := 1) (oi := ⟨_, _, _, _, _, _⟩) (v := ?_) rfl (by kernel_rfl) (by kernel_rfl) (by kernel_rfl) (fun _ _ _ h => h) (Or.inl ⟨by rfl, ?_⟩) hHeld ?_
              rotate_left
              · (intro w hSw; (try dsimp only at hSw); go_simp; try (with_reducible rfl))
              try simp only [Act.put, List.setIfInBounds_toArray, List.set_cons_zero, List.set_cons_succ]
              refine wpAnyH_take (i := 2) (oi := ⟨_, _, _, _, _, _⟩) (v := ?_) rfl (by kernel_rfl) (by kernel_rfl) (by kernel_rfl) (fun _ _ _ h => h) (Or.inl ⟨by rfl, ?_⟩) hHeld ?_
              rotate_left
              · (intro w hSw; (try dsimp only at hSw); go_simp; try (with_reducible rfl))
              try simp only [Act.put, List.setIfInBounds_toArray, List.set_cons_zero, List.set_cons_succ]
              refine wpAnyH_take (i := 3) (oi := ⟨_, _, _, _, _, _⟩) (v := ?_) rfl (by kernel_rfl) (by kernel_rfl) (by kernel_rfl) (fun _ _ _ h => h) (Or.inl ⟨by rfl, ?_⟩) hHeld ?_
              rotate_left
              · (intro w hSw; (try dsimp only at hSw); go_simp; try (with_reducible rfl))
              try simp only [Act.put, List.setIfInBounds_toArray, List.set_cons_zero, List.set_cons_succ]
              refine wpAnyH_take (i := 6) (oi := ⟨_, _, _, _, _, _⟩) (v := ?_) rfl (by kernel_rfl) (by kernel_rfl) (by kernel_rfl) (fun _ _ _ h => h) (Or.inl ⟨by rfl, ?_⟩) hHeld ?_
              rotate_left
              · (intro w hSw; (try dsimp only at hSw); go_simp; try (with_reducible rfl))
              try simp only [Act.put, List.setIfInBounds_toArray, List.set_cons_zero, List.set_cons_succ]
              refine wpAnyH_take (i := 7) (oi := ⟨_, _, _, _, _, _⟩) (v := ?_) rfl (by kernel_rfl) (by kernel_rfl) (by kernel_rfl) (fun _ _ _ h => h) (Or.inl ⟨by rfl, ?_⟩) hHeld ?_
              rotate_left
              · (intro w hSw; (try dsimp only at hSw); go_simp; try (with_reducible rfl))
              try simp only [Act.put, List.setIfInBounds_toArray, List.set_cons_zero, List.set_cons_succ]
              refine wpAnyH_take (i := 8) (oi := ⟨_, _, _, _, _, _⟩) (v := ?_) rfl (by kernel_rfl) (by kernel_rfl) (by kernel_rfl) (fun _ _ _ h => h) (Or.inl ⟨by rfl, ?_⟩) hHeld ?_
              rotate_left
              · (intro w hSw; (try dsimp only at hSw); go_simp; try (with_reducible rfl))
              try simp only [Act.put, List.setIfInBounds_toArray, List.set_cons_zero, List.set_cons_succ]
              refine wpAnyH_take (i := 9) (oi := ⟨_, _, _, _, _, _⟩) (v := ?_) rfl (by kernel_rfl) (by kernel_rfl) (by kernel_rfl) (fun _ _ _ h => h) (Or.inl ⟨by rfl, ?_⟩) hHeld ?_
              rotate_left
              · (intro w hSw; (try dsimp only at hSw); go_simp; try (with_reducible rfl))
              try simp only [Act.put, List.setIfInBounds_toArray, List.set_cons_zero, List.set_cons_succ]
              refine wpAnyH_take (i := 10) (oi := ⟨_, _, _, _, _, _⟩) (v := ?_) rfl (by kernel_rfl) (by kernel_rfl) (by kernel_rfl) (fun _ _ _ h => h) (Or.inl ⟨by rfl, ?_⟩) hHeld ?_
              rotate_left
              · (intro w hSw; (try dsimp only at hSw); go_simp; try (with_reducible rfl))
              try simp only [Act.put, List.setIfInBounds_toArray, List.set_cons_zero, List.set_cons_succ]
              refine wpAnyH_ready (rs := [4]) (by kernel_rfl) (by simp) ?_
              refine AllReadyH.cons (o := ⟨_, _, _, _, _, _⟩) rfl (fun K hK => ?_) AllReadyH.nil
              go_simp
              go_at_call 230
              refine (part_calls wd (T : Int) ((B : Int) + 1) bx 0 cs.length cx p u _ ⟨hcx, _, rfl, fun _ => rfl⟩ (by rw [EW.out, HPE.out, Int.natCast_mul]) (by rw [EW.out, HUE.out, Int.natCast_mul]; rfl) p5 p6 hn1 _).mono ?_
              rintro e wp ⟨vp, rfl, ⟨hcp, ap, rfl, hap⟩, hbp⟩
              obtain rfl := hap LPOS
              rw [Nat.zero_add]
              replace hbp : Below w3.heap.size w3 wp := (below_drewN (Below.refl _ _) 1).trans hbp
              have hsp : w3.heap.size ≤ wp.heap.size := hbp.size
              replace A0 := cellb hbp A0
              replace A1 := cellb hbp A1
              replace A2 := cellb hbp A2
              replace A3 := cellb hbp A3
              replace R0 := cellb hbp R0
              replace R1 := cellb hbp R1
              replace R2 := cellb hbp R2
              replace R3 := cellb hbp R3
              replace R4 := cellb hbp R4
              replace S0 := cellb hbp S0
              replace S1 := cellb hbp S1
              replace U0 := cellb hbp U0
              replace U1 := cellb hbp U1
              replace Z0 : wp.frozen? ⟨w.heap.size + 1, 0, none⟩ = false := by rw [hbp.frozen (p := ⟨w.heap.size + 1, 0, none⟩) (by simp; omega)]; exact Z0
              replace Z1 : wp.frozen? ⟨w.heap.size + 1, 1, none⟩ = false := by rw [hbp.frozen (p := ⟨w.heap.size + 1, 1, none⟩) (by simp; omega)]; exact Z1
              replace Z2 : wp.frozen? ⟨w.heap.size + 1, 2, none⟩ = false := by rw [hbp.frozen (p := ⟨w.heap.size + 1, 2, none⟩) (by simp; omega)]; exact Z2
              replace Z3 : wp.frozen? ⟨w.heap.size + 1, 3, none⟩ = false := by rw [hbp.frozen (p := ⟨w.heap.size + 1, 3, none⟩) (by simp; omega)]; exact Z3
              replace Z4 : wp.frozen? ⟨w.heap.size + 1, 4, none⟩ = false := by rw [hbp.frozen (p := ⟨w.heap.size + 1, 4, none⟩) (by simp; omega)]; exact Z4
              have bp := b3.trans (hbp.mono b3.size)
              replace HX := hide (HX.out.below hbp (by omega))
              replace HP := hide (HP.out.below hbp (by omega))
              clear b3 hbp
              try go_wp2_with fail
              refine hK.out _ _ ?_ ?_
              · (try dsimp only); exact ⟨S0, S1, A1⟩
              clear hHeld hK K
              intro hHeld
              try simp only [Act.put, List.setIfInBounds_toArray, List.set_cons_zero, List.set_cons_succ]
              refine wpAnyH_take (i := 5) (oi := ⟨_, _, _, _, _, _⟩) (v := ?_) rfl (by kernel_rfl) (by kernel_rfl) (by kernel_rfl) (fun _ _ _ h => h) (Or.inl ⟨by rfl, ?_⟩) hHeld ?_
              rotate_left
              · (intro w hSw; (try dsimp only at hSw); go_simp; try (with_reducible rfl))
              try simp only [Act.put, List.setIfInBounds_toArray, List.set_cons_zero, List.set_cons_succ]
              refine wpAnyH_ready (rs := [11]) (by kernel_rfl) (by simp) ?_
              refine AllReadyH.cons (o := ⟨_, _, _, _, _, _⟩) rfl (fun K hK => ?_) AllReadyH.nil
              go_simp
              go_at_call 198
              refine (blankOf_calls at' _).mono ?_
              rintro e wq ⟨rfl, hbq⟩
              have hsq : wp.heap.size ≤ wq.heap.size := hbq.size
              replace A0 := cellb hbq A0
              replace A1 := cellb hbq A1
              replace A2 := cellb hbq A2
              replace A3 := cellb hbq A3
              replace R0 := cellb hbq R0
              replace R1 := cellb hbq R1
              replace R2 := cellb hbq R2
              replace R3 := cellb hbq R3
              replace R4 := cellb hbq R4
              replace S0 := cellb hbq S0
              replace S1 := cellb hbq S1
              replace U0 := cellb hbq U0
              replace U1 := cellb hbq U1
              replace Z0 : wq.frozen? ⟨w.heap.size + 1, 0, none⟩ = false := by rw [hbq.frozen (p := ⟨w.heap.size + 1, 0, none⟩) (by simp; omega)]; exact Z0
              replace Z1 : wq.frozen? ⟨w.heap.size + 1, 1, none⟩ = false := by rw [hbq.frozen (p := ⟨w.heap.size + 1, 1, none⟩) (by simp; omega)]; exact Z1
              replace Z2 : wq.frozen? ⟨w.heap.size + 1, 2, none⟩ = false := by rw [hbq.frozen (p := ⟨w.heap.size + 1, 2, none⟩) (by simp; omega)]; exact Z2
              replace Z3 : wq.frozen? ⟨w.heap.size + 1, 3, none⟩ = false := by rw [hbq.frozen (p := ⟨w.heap.size + 1, 3, none⟩) (by simp; omega)]; exact Z3
              replace Z4 : wq.frozen? ⟨w.heap.size + 1, 4, none⟩ = false := by rw [hbq.frozen (p := ⟨w.heap.size + 1, 4, none⟩) (by simp; omega)]; exact Z4
              have bq := bp.trans (hbq.mono bp.size)
              replace HX := hide (HX.out.below hbq (by omega))
              replace HP := hide (HP.out.below hbq (by omega))
              clear bp hbq
              try go_wp2_with fail
              refine hK.out _ _ ?_ ?_
              · (try dsimp only); exact ⟨S0, S1, A1⟩
              clear hHeld hK K
              intro hHeld
              try simp only [Act.put, List.setIfInBounds_toArray, List.set_cons_zero, List.set_cons_succ]
              refine wpAnyH_ready (rs := [12]) (by kernel_rfl) (by simp) ?_
              refine AllReadyH.cons (o := ⟨_, _, _, _, _, _⟩) rfl (fun K hK => ?_) AllReadyH.nil
              go_simp
              go_at_call 229
              refine (slide_calls bx (p * 2) (u - p) (cx - p) _ (fun i => cs.getD (p + i) (0, 0)) (n * wd) 32 at' wq ⟨by omega, _, rfl, fun _ => rfl⟩ (by have h := HX.out.sub p (u - p) (by omega); rw [Nat.zero_add] at h; exact h) (by omega) (by omega) LPOS).mono ?_
              rintro e wr ⟨⟨ur, rfl⟩, hrr, htr⟩
              replace A0 := htr.cellAt A0 (by omega)
              replace A1 := htr.cellAt A1 (by omega)
              replace A2 := htr.cellAt A2 (by omega)
              replace A3 := htr.cellAt A3 (by omega)
              replace R0 := htr.cellAt R0 (by omega)
              replace R1 := htr.cellAt R1 (by omega)
              replace R2 := htr.cellAt R2 (by omega)
              replace R3 := htr.cellAt R3 (by omega)
              replace R4 := htr.cellAt R4 (by omega)
              replace S0 := htr.cellAt S0 (by omega)
              replace S1 := htr.cellAt S1 (by omega)
              replace U0 := htr.cellAt U0 (by omega)
              replace U1 := htr.cellAt U1 (by omega)
              replace Z0 := htr.frozenAt (by omega) Z0
              replace Z1 := htr.frozenAt (by omega) Z1
              replace Z2 := htr.frozenAt (by omega) Z2
              replace Z3 := htr.frozenAt (by omega) Z3
              replace Z4 := htr.frozenAt (by omega) Z4
              have br : Below w.heap.size w wr := bq.trans (htr.below (by omega) (by omega))
              have hsr : wq.heap.size ≤ wr.heap.size := htr.size
              replace HP := hide (pairs_touch HP.out htr (by omega) (by omega))
              replace HX := hide (HX.out.join (k := p) (m := u - p) (by rw [Nat.zero_add, Nat.zero_add, Nat.add_mul]; exact htr) (by rw [Nat.zero_add]; exact hrr) (by omega))
              clear hrr htr bq
              try go_wp2_with fail
              refine hK.out _ _ ?_ ?_
              · (try dsimp only); exact ⟨S0, S1, A1⟩
              clear hHeld hK K
              intro hHeld
              try simp only [Act.put, List.setIfInBounds_toArray, List.set_cons_zero, List.set_cons_succ]
              refine wpAnyH_done (by kernel_rfl) ?_ _
              clear hHeld
              go_wp2_with fail
              refine (gridOf_calls wd wd n1 n2 (some ⟨bx, 0, none⟩) ay cs.length (bs.length) cx cy hn1 wr).mono ?_
              rintro e w8 ⟨rfl, hb8⟩
              rw [hq.out]
              replace R0 := cellb hb8 R0
              replace R1 := cellb hb8 R1
              replace R2 := cellb hb8 R2
              replace R3 := cellb hb8 R3
              replace R4 := cellb hb8 R4
              replace Z0 : w8.frozen? ⟨w.heap.size + 1, 0, none⟩ = false := by rw [hb8.frozen (p := ⟨w.heap.size + 1, 0, none⟩) (by simp; omega)]; exact Z0
              replace Z1 : w8.frozen? ⟨w.heap.size + 1, 1, none⟩ = false := by rw [hb8.frozen (p := ⟨w.heap.size + 1, 1, none⟩) (by simp; omega)]; exact Z1
              replace Z2 : w8.frozen? ⟨w.heap.size + 1, 2, none⟩ = false := by rw [hb8.frozen (p := ⟨w.heap.size + 1, 2, none⟩) (by simp; omega)]; exact Z2
              replace Z3 : w8.frozen? ⟨w.heap.size + 1, 3, none⟩ = false := by rw [hb8.frozen (p := ⟨w.heap.size + 1, 3, none⟩) (by simp; omega)]; exact Z3
              replace Z4 : w8.frozen? ⟨w.heap.size + 1, 4, none⟩ = false := by rw [hb8.frozen (p := ⟨w.heap.size + 1, 4, none⟩) (by simp; omega)]; exact Z4
              have b8 := br.trans (hb8.mono br.size)
              have hs8 : wr.heap.size ≤ w8.heap.size := hb8.size
              have HX8 := hide (HX.out.below hb8 (by omega))
              have HP8 := hide (HP.out.below hb8 (by omega))
              clear hb8 HX HP
              have hr := res5 (w := w8) (r := w.heap.size + 1) (.int .i64 0) (.int .i64 r) (.int .i64 wd) (.slice (some ⟨bx, 0, none⟩) cs.length cx) (.slice ay bs.length cy) R0 R1 R2 R3 R4
              go_wp2
              refine bodyPost_ret (v := .agg #[.int .i64 0, .int .i64 r, .int .i64 wd, .slice (some ⟨bx, 0, none⟩) cs.length cx, .slice ay bs.length cy]) (by simp only [results, Tryz.results228]; simp [go_sem, hr.1, hr.2.1, hr.2.2.1, hr.2.2.2.1, hr.2.2.2.2]) rfl ⟨_, _, rfl, ?_, b8.trans (show Below w.heap.size w8 _ from (by repeat' (first | with_reducible exact Below.refl _ _ | with_reducible assumption | with_reducible refine Below.drew ?_ | with_reducible refine Below.alloc ?_ ?_ _ | with_reducible refine Below.setCell ?_ ?_ _ | (simp; done) | (simp; omega) | omega)))⟩
              rw [scrollB_low hT]
              refine (gown_of2 (w := w8) (base := w1.heap.size) (bb := bb) (HX8.out.congr (fun i hi => ?_)) (by omega) HP8.out (by omega) (by omega) (by simp [World.setCell]) (fun k _ => ?_)).mono (by omega) (Nat.le_refl _)
              · unfold scrollF
                rw [Nat.sub_mul, ← HPE.out, ← HUE.out]
              · by_cases hk : k < w1.heap.size
                · exact .inr hk
                · left
                  simp only [World.setCell, Array.getElem?_modify]
                  repeat rw [if_neg (by omega)]
  · rw [scrollRes_def, gres_fault hG]
    generalize gridCode r wd cs bs = code at *
    have hcb : (code != 0) = true := by simpa using hG
    simp only [gbad]
    go_enter Tryz.func228, Tryz.ntmps228
    go_wp2_with fail
    refine HF.mono ?_
    rintro e w1 ⟨rfl, hb1⟩
    have A0 : w1.cell? ⟨w.heap.size, 0, none⟩ = some (.int .i64 r) := cellb hb1 (by simp [go_sem])
    have A1 : w1.cell? ⟨w.heap.size, 1, none⟩ = some (.int .i64 wd) := cellb hb1 (by simp [go_sem])
    have A2 : w1.cell? ⟨w.heap.size, 2, none⟩ = some (.slice a1 cs.length c1) := cellb hb1 (by simp [go_sem])
    have A3 : w1.cell? ⟨w.heap.size, 3, none⟩ = some (.slice a2 bs.length c2) := cellb hb1 (by simp [go_sem])
    have R0 : w1.cell? ⟨w.heap.size + 1, 0, none⟩ = some (.int .i64 0) := cellb hb1 (by simp [go_sem])
    have Z0 : w1.frozen? ⟨w.heap.size + 1, 0, none⟩ = false := by rw [hb1.frozen (p := ⟨w.heap.size + 1, 0, none⟩) (by simp)]; simp [go_sem]
    have R1 : w1.cell? ⟨w.heap.size + 1, 1, none⟩ = some (.int .i64 0) := cellb hb1 (by simp [go_sem])
    have Z1 : w1.frozen? ⟨w.heap.size + 1, 1, none⟩ = false := by rw [hb1.frozen (p := ⟨w.heap.size + 1, 1, none⟩) (by simp)]; simp [go_sem]
    have R2 : w1.cell? ⟨w.heap.size + 1, 2, none⟩ = some (.int .i64 0) := cellb hb1 (by simp [go_sem])
    have Z2 : w1.frozen? ⟨w.heap.size + 1, 2, none⟩ = false := by rw [hb1.frozen (p := ⟨w.heap.size + 1, 2, none⟩) (by simp)]; simp [go_sem]
    have R3 : w1.cell? ⟨w.heap.size + 1, 3, none⟩ = some (.slice none 0 0) := cellb hb1 (by simp [go_sem])
    have Z3 : w1.frozen? ⟨w.heap.size + 1, 3, none⟩ = false := by rw [hb1.frozen (p := ⟨w.heap.size + 1, 3, none⟩) (by simp)]; simp [go_sem]
    have R4 : w1.cell? ⟨w.heap.size + 1, 4, none⟩ = some (.slice none 0 0) := cellb hb1 (by simp [go_sem])
    have Z4 : w1.frozen? ⟨w.heap.size + 1, 4, none⟩ = false := by rw [hb1.frozen (p := ⟨w.heap.size + 1, 4, none⟩) (by simp)]; simp [go_sem]
    have hs1 : w.heap.size + 2 ≤ w1.heap.size := by have := hb1.size; simp at this; omega
    have b1 : Below w.heap.size w w1 := hb0.trans (hb1.mono (by simp; omega))
    clear hb1 hb0 HF
    have hr := res5 (w := w1) (r := w.heap.size + 1) (.int .i64 code) (.int .i64 0) (.int .i64 0) (.slice none 0 0) (.slice none 0 0) R0 R1 R2 R3 R4
    go_wp2
    refine bodyPost_ret (v := .agg #[.int .i64 code, .int .i64 0, .int .i64 0, .slice none 0 0, .slice none 0 0]) (by simp only [results, Tryz.results228]; simp [go_sem, hr.1, hr.2.1, hr.2.2.1, hr.2.2.2.1, hr.2.2.2.2]) rfl ⟨_, _, rfl, ?_, b1.trans (show Below w.heap.size w1 _ from (by repeat' (first | with_reducible exact Below.refl _ _ | with_reducible assumption | with_reducible refine Below.drew ?_ | with_reducible refine Below.alloc ?_ ?_ _ | with_reducible refine Below.setCell ?_ ?_ _ | (simp; done) | (simp; omega) | omega)))⟩
    exact GOwn.nil _ _ _ (by have := b1.size; simp [World.setCell]; omega)

end Go.Proofs.YtdekegjplegkeaaGreat

/- A grid that is turned in place (GSt), and spec.l3Keep: a row that left at the top is kept. -/
namespace Go.Proofs.YtdekegjplegkeaaGreat
set_option maxRecDepth 20000
open Go.ChangeShapes Go.WideShapes Go.ChangeAt Go.RowKit
set_option linter.unusedVariables false
set_option linter.unusedSimpArgs false
set_option maxRecDepth 20000

/-- A copied grid in its box pb: its cells lie in block bx, the row of those that left is owned. -/
structure GSt (B0 pb bx N cx : Nat) (r wd : Int) (f : Nat → Int × Int) (bs : List (Int × Int)) (w : World) : Prop where
  s0 : w.cell? ⟨pb, 0, none⟩ = some (.int .i64 r)
  s1 : w.cell? ⟨pb, 1, none⟩ = some (.int .i64 wd)
  s2 : w.cell? ⟨pb, 2, none⟩ = some (.slice (some ⟨bx, 0, none⟩) N cx)
  z3 : w.frozen? ⟨pb, 3, none⟩ = false
  row : Row w bx 0 N f
  lo : B0 ≤ pb ∧ B0 ≤ bx ∧ pb ≠ bx ∧ pb < w.heap.size ∧ bx < w.heap.size
  ex : ∃ v, w.cell? ⟨pb, 3, none⟩ = some v ∧ w.ownsRow B0 193 2 v bs.length (pvs bs) ∧ (∀ k, v.ownBlock = some k → k ≠ pb ∧ k ≠ bx)
theorem GSt.congr {B0 pb bx N cx : Nat} {r wd : Int} {f g : Nat → Int × Int} {bs : List (Int × Int)} {w : World} (h : GSt B0 pb bx N cx r wd f bs w) (e : ∀ i, i < N → f i = g i) : GSt B0 pb bx N cx r wd g bs w := ⟨h.s0, h.s1, h.s2, h.z3, h.row.congr e, h.lo, h.ex⟩
theorem GSt.below {B0 pb bx N cx : Nat} {r wd : Int} {f : Nat → Int × Int} {bs : List (Int × Int)} {w w' : World} (h : GSt B0 pb bx N cx r wd f bs w) (hb : Below w.heap.size w w') : GSt B0 pb bx N cx r wd f bs w' := by
  obtain ⟨v, c, o, a⟩ := h.ex
  have l := h.lo
  have hs := hb.size
  exact ⟨cellb hb h.s0, cellb hb h.s1, cellb hb h.s2, (hb.frozen (p := ⟨pb, 3, none⟩) l.2.2.2.1).trans h.z3, h.row.below hb l.2.2.2.2, ⟨l.1, l.2.1, l.2.2.1, by omega, by omega⟩, v, cellb hb c, own_below o hb, a⟩
theorem GSt.touch {B0 pb bx N cx p q : Nat} {r wd : Int} {f g : Nat → Int × Int} {bs : List (Int × Int)} {w w' : World} (h : GSt B0 pb bx N cx r wd f bs w) (t : Touch bx p q w w') (hr : Row w' bx 0 N g) : GSt B0 pb bx N cx r wd g bs w' := by
  obtain ⟨v, c, o, a⟩ := h.ex
  have l := h.lo
  have hs := t.size
  exact ⟨t.cellAt h.s0 (by omega), t.cellAt h.s1 (by omega), t.cellAt h.s2 (by omega), t.frozenAt (by omega) h.z3, hr, ⟨l.1, l.2.1, l.2.2.1, by omega, by omega⟩, v, t.cellAt c (by omega), own_touch o t (fun k hk => (a k hk).2), a⟩
theorem GSt.base {B0 pb bx N cx : Nat} {r wd : Int} {f : Nat → Int × Int} {bs : List (Int × Int)} {w : World} (h : GSt B0 pb bx N cx r wd f bs w) : B0 ≤ w.heap.size := by have := h.lo; omega
/-- A new value is laid into the box. -/
theorem GSt.keep {B0 pb bx N cx : Nat} {r wd : Int} {f : Nat → Int × Int} {bs bs' : List (Int × Int)} {w w' : World} {v v' : Value} (h : GSt B0 pb bx N cx r wd f bs w) (g : GrowTo w w' v v') (c : w.cell? ⟨pb, 3, none⟩ = some v) (a : ∀ k, v.ownBlock = some k → k ≠ pb ∧ k ≠ bx) (o : w'.ownsRow B0 193 2 v' bs'.length (pvs bs')) : GSt B0 pb bx N cx r wd f bs' (w'.setCell ⟨pb, 3, none⟩ v') := by
  have l := h.lo
  have n1 : some pb ≠ v.ownBlock := fun e => (a pb e.symm).1 rfl
  have n2 : some bx ≠ v.ownBlock := fun e => (a bx e.symm).2 rfl
  have a' : ∀ k, v'.ownBlock = some k → k ≠ pb ∧ k ≠ bx := by
    intro k hk
    rcases g.spot with e | ⟨q, e, hq⟩
    · exact a k (e.symm.trans hk)
    · rw [hk] at e
      injection e with e
      omega
  have hs := g.grown.size
  have d3 := g.cellAt c n1
  have t : Touch pb 3 4 w' (w'.setCell ⟨pb, 3, none⟩ v') := (Touch.refl _ _ _ _).setCell (by omega) (by omega) _
  refine ⟨t.cellAt (g.cellAt h.s0 n1) (by omega), t.cellAt (g.cellAt h.s1 n1) (by omega), t.cellAt (g.cellAt h.s2 n1) (by omega), t.frozenAt (by omega) ((g.frozen l.2.2.2.1 n1).trans h.z3), (h.row.block (g.block l.2.2.2.2 n2)).touch t (by omega), ⟨l.1, l.2.1, l.2.2.1, ?_, ?_⟩, v', World.cell?_setCell_same _ _ _ d3, own_setCell o (fun e => (a' pb e.symm).1 rfl), a'⟩
  · have := t.size; omega
  · have := t.size; omega

theorem spot_of_new {w : World} {base n : Nat} {e : TypeId} {v v0 : Value} {xs : List Value} (h : w.ownsRow base e 2 v n xs) (hn : 0 < n) : v.ownBlock = v0.ownBlock ∨ ∃ k, v.ownBlock = some k ∧ base ≤ k := by
  rcases h.2 with ⟨_, h0⟩ | ⟨g, cap, cur, rfl, hb, _⟩
  · omega
  · exact .inr ⟨g, rfl, hb⟩
set_option maxHeartbeats 2000000 in
theorem l3Keep_calls (B0 pb bx N cx br cr W Hb : Nat) (r : Int) (f g : Nat → Int × Int) (bs : List (Int × Int)) (w : World) (st : GSt B0 pb bx N cx r (W : Int) f bs w) (hg : RowR w br 0 W g) (h2 : 2 ≤ W) (h12 : W ≤ 12) (hb : bs.length = Hb * W) (h5 : Hb ≤ 5) :
    Calls Tryz.prog 238 #[.pointer (some ⟨pb, 0, none⟩), .slice (some ⟨br, 0, none⟩) W cr] w fun e w' => (∃ u, e = .returned u) ∧ GSt B0 pb bx N cx r (W : Int) f (lastL (5 * W) (bs ++ mkL W g)) w' ∧ Below B0 w w' := by
  obtain ⟨i0, hi, hz0, hz1, hz2⟩ := info_parts info_cell
  obtain ⟨v, c3, ho, hap⟩ := st.ex
  obtain ⟨av, cv, rfl, hcv⟩ := own_room2 ho
  have hlt := ho.lt
  have hbm : bs.length ≤ 5 * W := by rw [hb]; exact Nat.mul_le_mul_right W h5
  have hbs := st.base
  obtain ⟨L, hL⟩ : ∃ L, bs.length + W = L := ⟨_, rfl⟩
  have HLL := hide hL
  have hL1 : W ≤ L := by omega
  have hL2 : L ≤ 6 * W := by omega
  clear hL
  have s1 := st.s1
  have z3 := st.z3
  have n1 : some pb ≠ (Value.slice av bs.length cv).ownBlock := fun e => (hap pb e.symm).1 rfl
  have ST := hide st
  have HAP := hide hap
  have HB := hide hb
  have HG := hide hg
  have HLT := hide hlt
  have N1 := hide n1
  clear st hap hb hg hlt n1
  go_enter Tryz.func238, Tryz.ntmps238
  go_wp2_with (at_builtin; refine wpList_append_grow _ rfl (.tmp 8) (.tmp 9) 33 rfl B0 193 i0 (.agg #[.int .i64 0, .int .i64 0]) 2 16 Tryz.underlying33 hi hz0 hz1 hz2 rfl (by decide) (.slice av bs.length cv) bs.length (pvs bs) rfl ho ⟨br, 0, none⟩ W cr (cvs W g) rfl (cvs_length _ _) (rowr_cells HG.out) (cvs_one _ _) (by unfold maxLen; omega) (by omega) hbs ?_; intro v2 w1 o2 g2; obtain ⟨a2, c2, rfl, hc2⟩ := own_room2 o2; rw [HLL.out] at o2 hc2 g2 ⊢; have D3 := g2.cellAt c3 N1.out; have E3 := (g2.frozen (o := 3) (by have := ST.out.lo; omega) N1.out).trans z3; have G2 := hide g2; have O2 := hide o2; clear g2 o2)
  have plo : B0 ≤ pb := ST.out.lo.1
  have C3 := World.cell?_setCell_same w1 ⟨pb, 3, none⟩ (.slice a2 L c2) D3
  have HK := hide (GSt.keep ST.out G2.out c3 HAP.out (bs' := bs ++ mkL W g) (by rw [List.length_append, mkL_length, HLL.out, pvs_append, ← cvs_mk]; exact O2.out))
  have HBW := hide ((G2.out.below hbs (fun k hk => HLT.out k hk)).trans (show Below B0 w1 (w1.setCell ⟨pb, 3, none⟩ (.slice a2 L c2)) from (by repeat' (first | with_reducible exact Below.refl _ _ | with_reducible assumption | with_reducible refine Below.drew ?_ | with_reducible refine Below.alloc ?_ ?_ _ | with_reducible refine Below.setCell ?_ ?_ _ | (simp; done) | (simp; omega) | omega))))
  generalize (w1.setCell ⟨pb, 3, none⟩ (.slice a2 L c2)) = wA at *
  clear D3 E3 G2 O2 ho c3 s1 z3 ST HAP HLT N1 HG
  have s1 := HK.out.s1
  have z3 := HK.out.z3
  have hba := HK.out.base
  have z5 : IntKind.i64.wrap (5 * (W : Int)) = 5 * (W : Int) := wrap_small (by omega) (by omega)
  by_cases hbig : 5 * W < L
  · have hbI : 5 * (W : Int) < (L : Int) := by omega
    have e1 : (W : Int) ≤ (L : Int) := by omega
    have e2 : ¬ c2 = W := by omega
    have e3 : ¬ W = c2 := by omega
    refine wp_region_held_drew (S := (fun w' => w'.cell? ⟨pb, 1, none⟩ = some (.int .i64 (W : Int)) ∧ w'.cell? ⟨pb, 3, none⟩ = some (.slice a2 L c2))) (by kernel_rfl) ?_ (fun hHeld => ?_)
    · (try dsimp only); exact ⟨s1, C3⟩
    refine wpAnyH_take (i := 0) (oi := ⟨_, _, _, _, _, _⟩) (v := ?_) rfl (by kernel_rfl) (by kernel_rfl) (by kernel_rfl) (fun _ _ _ h => h) (Or.inl ⟨by rfl, ?_⟩) hHeld ?_
    rotate_left
    · (intro w hSw; (try dsimp only at hSw); go_simp; try (with_reducible rfl))
    try simp only [Act.put, List.setIfInBounds_toArray, List.set_cons_zero, List.set_cons_succ]
    refine wpAnyH_take (i := 1) (oi := ⟨_, _, _, _, _, _⟩) (v := ?_) rfl (by kernel_rfl) (by kernel_rfl) (by kernel_rfl) (fun _ _ _ h => h) (Or.inl ⟨by rfl, ?_⟩) hHeld ?_
    rotate_left
    · (intro w hSw; (try dsimp only at hSw); go_simp; try (with_reducible rfl))
    try simp only [Act.put, List.setIfInBounds_toArray, List.set_cons_zero, List.set_cons_succ]
    refine wpAnyH_take (i := 2) (oi := ⟨_, _, _, _, _, _⟩) (v := ?_) rfl (by kernel_rfl) (by kernel_rfl) (by kernel_rfl) (fun _ _ _ h => h) (Or.inl ⟨by rfl, ?_⟩) hHeld ?_
    rotate_left
    · (intro w hSw; (try dsimp only at hSw); go_simp; try (with_reducible rfl))
    try simp only [Act.put, List.setIfInBounds_toArray, List.set_cons_zero, List.set_cons_succ]
    refine wpAnyH_take (i := 3) (oi := ⟨_, _, _, _, _, _⟩) (v := ?_) rfl (by kernel_rfl) (by kernel_rfl) (by kernel_rfl) (fun _ _ _ h => h) (Or.inl ⟨by rfl, ?_⟩) hHeld ?_
    rotate_left
    · (intro w hSw; (try dsimp only at hSw); go_simp; try (with_reducible rfl))
    try simp only [Act.put, List.setIfInBounds_toArray, List.set_cons_zero, List.set_cons_succ]
    refine wpAnyH_take (i := 4) (oi := ⟨_, _, _, _, _, _⟩) (v := ?_) rfl (by kernel_rfl) (by kernel_rfl) (by kernel_rfl) (fun _ _ _ h => h) (Or.inl ⟨by rfl, ?_⟩) hHeld ?_
    rotate_left
    · (intro w hSw; (try dsimp only at hSw); go_simp; try (with_reducible rfl))
    try simp only [Act.put, List.setIfInBounds_toArray, List.set_cons_zero, List.set_cons_succ]
    refine wpAnyH_take (i := 5) (oi := ⟨_, _, _, _, _, _⟩) (v := ?_) rfl (by kernel_rfl) (by kernel_rfl) (by kernel_rfl) (fun _ _ _ h => h) (Or.inl ⟨by rfl, ?_⟩) hHeld ?_
    rotate_left
    · (intro w hSw; (try dsimp only at hSw); go_simp; try (with_reducible rfl))
    try simp only [Act.put, List.setIfInBounds_toArray, List.set_cons_zero, List.set_cons_succ]
    refine wpAnyH_take (i := 6) (oi := ⟨_, _, _, _, _, _⟩) (v := ?_) rfl (by kernel_rfl) (by kernel_rfl) (by kernel_rfl) (fun _ _ _ h => h) (Or.inl ⟨by rfl, ?_⟩) hHeld ?_
    rotate_left
    · (intro w hSw; (try dsimp only at hSw); go_simp; try (with_reducible rfl))
    try simp only [Act.put, List.setIfInBounds_toArray, List.set_cons_zero, List.set_cons_succ]
    refine wpAnyH_take (i := 7) (oi := ⟨_, _, _, _, _, _⟩) (v := ?_) rfl (by kernel_rfl) (by kernel_rfl) (by kernel_rfl) (fun _ _ _ h => h) (Or.inl ⟨by rfl, ?_⟩) hHeld ?_
    rotate_left
    · (intro w hSw; (try dsimp only at hSw); go_simp; try (with_reducible rfl))
    try simp only [Act.put, List.setIfInBounds_toArray, List.set_cons_zero, List.set_cons_succ]
    refine wpAnyH_take (i := 8) (oi := ⟨_, _, _, _, _, _⟩) (v := ?_) rfl (by kernel_rfl) (by kernel_rfl) (by kernel_rfl) (fun _ _ _ h => h) (Or.inl ⟨by rfl, ?_⟩) hHeld ?_
    rotate_left
    · (intro w hSw; (try dsimp only at hSw); go_simp; try (with_reducible rfl))
    try simp only [Act.put, List.setIfInBounds_toArray, List.set_cons_zero, List.set_cons_succ]
    refine wpAnyH_take (i := 9) (oi := ⟨_, _, _, _, _, _⟩) (v := ?_) rfl (by kernel_rfl) (by kernel_rfl) (by kernel_rfl) (fun _ _ _ h => h) (Or.inl ⟨by rfl, ?_⟩) hHeld ?_
    rotate_left
    · (intro w hSw; (try dsimp only at hSw); go_simp; try (with_reducible rfl))
    try simp only [Act.put, List.setIfInBounds_toArray, List.set_cons_zero, List.set_cons_succ]
    refine wpAnyH_take (i := 10) (oi := ⟨_, _, _, _, _, _⟩) (v := ?_) rfl (by kernel_rfl) (by kernel_rfl) (by kernel_rfl) (fun _ _ _ h => h) (Or.inl ⟨by rfl, ?_⟩) hHeld ?_
    rotate_left
    · (intro w hSw; (try dsimp only at hSw); go_simp; try (with_reducible rfl))
    try simp only [Act.put, List.setIfInBounds_toArray, List.set_cons_zero, List.set_cons_succ]
    refine wpAnyH_done (by kernel_rfl) ?_ _
    clear hHeld
    replace HK := hide (HK.out.below (show Below wA.heap.size wA wA.drew from below_drewN (Below.refl _ _) 1))
    replace HBW := hide (HBW.out.trans (show Below B0 wA wA.drew from below_drewN (Below.refl _ _) 1))
    replace C3 : wA.drew.cell? ⟨pb, 3, none⟩ = some (.slice a2 L c2) := C3
    replace s1 : wA.drew.cell? ⟨pb, 1, none⟩ = some (.int .i64 (W : Int)) := s1
    replace z3 : wA.drew.frozen? ⟨pb, 3, none⟩ = false := z3
    replace hba : B0 ≤ wA.drew.heap.size := hba
    generalize wA.drew = wC at *
    clear wA
    rename World => wA
    go_wp2_with fail
    obtain ⟨v', c', o', a'⟩ := HK.out.ex
    rw [C3] at c'
    injection c' with c'
    subst c'
    have hpv : PRead wA (.slice a2 L c2) (bs ++ mkL W g) := (own_pairs o' (Nat.le_refl _)).read
    have hlow := pread_low hpv hc2 W (by rw [List.length_append, mkL_length]; omega)
    rw [if_neg e2] at hlow
    obtain ⟨ba, hba2⟩ : ∃ ba, a2 = some ⟨ba, 0, none⟩ := by
      obtain ⟨b9, c9, e9, _⟩ := own_row o' (by rw [List.length_append, mkL_length]; omega)
      injection e9 with e9
      exact ⟨b9, e9⟩
    subst hba2
    have hpr : PRead (wA.drew.alloc (.cells #[] 193)) (.slice (some ⟨ba, W * 2, none⟩) (L - W) (c2 - W)) ((bs ++ mkL W g).drop W) := by
      have h := hlow.below (w' := wA.drew.alloc (.cells #[] 193)) (by repeat' (first | with_reducible exact Below.refl _ _ | with_reducible assumption | with_reducible refine Below.drew ?_ | with_reducible refine Below.alloc ?_ ?_ _ | with_reducible refine Below.setCell ?_ ?_ _ | (simp; done) | (simp; omega) | omega))
      have hw0 : ¬ W * 2 = 0 := by omega
      simpa [Addr.add, hw0] using h
    have HA := hide a'
    clear o' a' hpv hlow
    have hlit : (wA.drew.alloc (.cells #[] 193)).ownsRow wA.heap.size 193 2 (.slice (some ⟨wA.heap.size, 0, none⟩) 0 0) 0 (pvs []) := World.ownsRow_lit (base := wA.heap.size) (e := 193) (size := 2) wA.drew #[] 0 (Nat.le_refl _) (by simp) rfl
    have hbal : Below wA.heap.size wA (wA.alloc (.cells #[] 193)) := (by repeat' (first | with_reducible exact Below.refl _ _ | with_reducible assumption | with_reducible refine Below.drew ?_ | with_reducible refine Below.alloc ?_ ?_ _ | with_reducible refine Below.setCell ?_ ?_ _ | (simp; done) | (simp; omega) | omega))
    have K1 := cellb hbal s1
    have K3 := cellb hbal C3
    refine till_region [14] (S := (fun w' => w'.cell? ⟨pb, 1, none⟩ = some (.int .i64 (W : Int)) ∧ w'.cell? ⟨pb, 3, none⟩ = some (.slice (some ⟨ba, 0, none⟩) L c2))) (by kernel_rfl) ?_ (fun hHeld => ?_)
    · (try dsimp only); exact ⟨s1, C3⟩
    refine till_take (i := 0) (oi := ⟨_, _, _, _, _, _⟩) (v := ?_) rfl (by kernel_rfl) (by kernel_rfl) (by kernel_rfl) (by kernel_rfl) (fun _ _ _ h => h) (Or.inl ⟨by rfl, ?_⟩) hHeld ?_
    rotate_left
    · (intro w hSw; (try dsimp only at hSw); go_simp; try (with_reducible rfl))
    try simp only [Act.put, List.setIfInBounds_toArray, List.set_cons_zero, List.set_cons_succ]
    refine till_take (i := 2) (oi := ⟨_, _, _, _, _, _⟩) (v := ?_) rfl (by kernel_rfl) (by kernel_rfl) (by kernel_rfl) (by kernel_rfl) (fun _ _ _ h => h) (Or.inl ⟨by rfl, ?_⟩) hHeld ?_
    rotate_left
    · (intro w hSw; (try dsimp only at hSw); go_simp; try (with_reducible rfl))
    try simp only [Act.put, List.setIfInBounds_toArray, List.set_cons_zero, List.set_cons_succ]
    refine till_take (i := 3) (oi := ⟨_, _, _, _, _, _⟩) (v := ?_) rfl (by kernel_rfl) (by kernel_rfl) (by kernel_rfl) (by kernel_rfl) (fun _ _ _ h => h) (Or.inl ⟨by rfl, ?_⟩) hHeld ?_
    rotate_left
    · (intro w hSw; (try dsimp only at hSw); go_simp; try (with_reducible rfl))
    try simp only [Act.put, List.setIfInBounds_toArray, List.set_cons_zero, List.set_cons_succ]
    refine till_take (i := 4) (oi := ⟨_, _, _, _, _, _⟩) (v := ?_) rfl (by kernel_rfl) (by kernel_rfl) (by kernel_rfl) (by kernel_rfl) (fun _ _ _ h => h) (Or.inl ⟨by rfl, ?_⟩) hHeld ?_
    rotate_left
    · (intro w hSw; (try dsimp only at hSw); go_simp; try (with_reducible rfl))
    try simp only [Act.put, List.setIfInBounds_toArray, List.set_cons_zero, List.set_cons_succ]
    refine till_take (i := 5) (oi := ⟨_, _, _, _, _, _⟩) (v := ?_) rfl (by kernel_rfl) (by kernel_rfl) (by kernel_rfl) (by kernel_rfl) (fun _ _ _ h => h) (Or.inl ⟨by rfl, ?_⟩) hHeld ?_
    rotate_left
    · (intro w hSw; (try dsimp only at hSw); go_simp; try (with_reducible rfl))
    try simp only [Act.put, List.setIfInBounds_toArray, List.set_cons_zero, List.set_cons_succ]
    refine till_take (i := 6) (oi := ⟨_, _, _, _, _, _⟩) (v := ?_) rfl (by kernel_rfl) (by kernel_rfl) (by kernel_rfl) (by kernel_rfl) (fun _ _ _ h => h) (Or.inl ⟨by rfl, ?_⟩) hHeld ?_
    rotate_left
    · (intro w hSw; (try dsimp only at hSw); go_simp; try (with_reducible rfl))
    try simp only [Act.put, List.setIfInBounds_toArray, List.set_cons_zero, List.set_cons_succ]
    refine till_take (i := 7) (oi := ⟨_, _, _, _, _, _⟩) (v := ?_) rfl (by kernel_rfl) (by kernel_rfl) (by kernel_rfl) (by kernel_rfl) (fun _ _ _ h => h) (Or.inl ⟨by rfl, ?_⟩) hHeld ?_
    rotate_left
    · (intro w hSw; (try dsimp only at hSw); go_simp; try (with_reducible rfl))
    try simp only [Act.put, List.setIfInBounds_toArray, List.set_cons_zero, List.set_cons_succ]
    refine till_take (i := 8) (oi := ⟨_, _, _, _, _, _⟩) (v := ?_) rfl (by kernel_rfl) (by kernel_rfl) (by kernel_rfl) (by kernel_rfl) (fun _ _ _ h => h) (Or.inl ⟨by rfl, ?_⟩) hHeld ?_
    rotate_left
    · (intro w hSw; (try dsimp only at hSw); go_simp; try (with_reducible rfl))
    try simp only [Act.put, List.setIfInBounds_toArray, List.set_cons_zero, List.set_cons_succ]
    refine till_take (i := 9) (oi := ⟨_, _, _, _, _, _⟩) (v := ?_) rfl (by kernel_rfl) (by kernel_rfl) (by kernel_rfl) (by kernel_rfl) (fun _ _ _ h => h) (Or.inl ⟨by rfl, ?_⟩) hHeld ?_
    rotate_left
    · (intro w hSw; (try dsimp only at hSw); go_simp; try (with_reducible rfl))
    try simp only [Act.put, List.setIfInBounds_toArray, List.set_cons_zero, List.set_cons_succ]
    refine till_take (i := 10) (oi := ⟨_, _, _, _, _, _⟩) (v := ?_) rfl (by kernel_rfl) (by kernel_rfl) (by kernel_rfl) (by kernel_rfl) (fun _ _ _ h => h) (Or.inl ⟨by rfl, ?_⟩) hHeld ?_
    rotate_left
    · (intro w hSw; (try dsimp only at hSw); go_simp; try (with_reducible rfl))
    try simp only [Act.put, List.setIfInBounds_toArray, List.set_cons_zero, List.set_cons_succ]
    refine till_ready (rs := [1]) (by kernel_rfl) (by simp) ?_
    refine (EachTill.cons (o := ⟨_, _, _, _, _, _⟩) rfl (fun K hK => ?_) EachTill.nil)
    go_simp
    refine hK.out _ _ ?_ ?_
    · (try dsimp only); exact ⟨K1, K3⟩
    clear hHeld hK K
    intro hHeld
    try simp only [Act.put, List.setIfInBounds_toArray, List.set_cons_zero, List.set_cons_succ]
    refine till_ready (rs := [11]) (by kernel_rfl) (by simp) ?_
    refine (EachTill.cons (o := ⟨_, _, _, _, _, _⟩) rfl (fun K hK => ?_) EachTill.nil)
    refine step_append_pread rfl (.tmp 25) (.tmp 34) 33 rfl wA.heap.size 193 i0 (.agg #[.int .i64 0, .int .i64 0]) 16 Tryz.underlying33 hi hz0 hz1 hz2 rfl _ 0 [] rfl hlit (some ⟨ba, W * 2, none⟩) ((bs ++ mkL W g).drop W) (L - W) (c2 - W) rfl (by rw [List.length_drop, List.length_append, mkL_length, HLL.out]) hpr (by unfold maxLen; omega) (by omega) (by show wA.heap.size ≤ (wA.drew.alloc _).heap.size; simp) ?_
    intro v3 w3 hown3 hgr3
    have hb3 : Below wA.heap.size wA w3 := (((below_drewN (Below.refl _ _) 1).alloc (Nat.le_refl _) _) : Below wA.heap.size wA (wA.drew.alloc (.cells #[] 193))).grown hgr3 (by show wA.heap.size ≤ (wA.drew.alloc _).heap.size; simp) (fun q hq => (hlit.lt q hq).1)
    replace K1 := cellb hb3 s1
    replace K3 := cellb hb3 C3
    have F3 : w3.frozen? ⟨pb, 3, none⟩ = false := (hb3.frozen (p := ⟨pb, 3, none⟩) (by have := HK.out.lo; show pb < _; omega)).trans z3
    try simp only [List.nil_append, Nat.zero_add] at hown3
    obtain ⟨a3, c3, rfl, hvc⟩ := own_room2 hown3
    have HO := hide hown3
    have HB3 := hide hb3
    clear hown3 hgr3 hb3
    refine hK.out _ _ ?_ ?_
    · (try dsimp only); exact ⟨K1, K3⟩
    clear hHeld hK K
    intro hHeld
    try simp only [Act.put, List.setIfInBounds_toArray, List.set_cons_zero, List.set_cons_succ]
    refine till_ready (rs := [12]) (by kernel_rfl) (by simp) ?_
    refine (EachTill.cons (o := ⟨_, _, _, _, _, _⟩) rfl (fun K hK => ?_) EachTill.nil)
    go_simp
    refine hK.out _ _ ?_ ?_
    · (try dsimp only); exact ⟨K1, K3⟩
    clear hHeld hK K
    intro hHeld
    try simp only [Act.put, List.setIfInBounds_toArray, List.set_cons_zero, List.set_cons_succ]
    refine till_ready (rs := [13]) (by kernel_rfl) (by simp) ?_
    refine (EachTill.cons (o := ⟨_, _, _, _, _, _⟩) rfl (fun K hK => ?_) EachTill.nil)
    go_simp
    refine hK.out _ _ ?_ ?_
    · (try dsimp only); exact ⟨K1, K3⟩
    clear hHeld hK K
    intro hHeld
    try simp only [Act.put, List.setIfInBounds_toArray, List.set_cons_zero, List.set_cons_succ]
    refine till_ready (rs := [14]) (by kernel_rfl) (by simp) ?_
    refine (EachTill.last (o := ⟨_, _, _, _, _, _⟩) rfl rfl (fun K hK => ?_) EachTill.nil)
    go_simp
    have HK3 := hide (GSt.keep (v := .slice (some ⟨ba, 0, none⟩) L c2) (v' := .slice a3 (L - W) c3) (bs' := (bs ++ mkL W g).drop W) HK.out ⟨(GrowTo.of_below HB3.out (.slice (some ⟨ba, 0, none⟩) L c2)).grown, spot_of_new HO.out (by omega)⟩ C3 HA.out (own_base (by rw [show ((bs ++ mkL W g).drop W).length = L - W by rw [List.length_drop, List.length_append, mkL_length, HLL.out]]; exact HO.out) hba))
    replace HB3 := hide ((HB3.out.mono hba).trans (show Below B0 w3 (w3.setCell ⟨pb, 3, none⟩ (.slice a3 (L - W) c3)) from (by repeat' (first | with_reducible exact Below.refl _ _ | with_reducible assumption | with_reducible refine Below.drew ?_ | with_reducible refine Below.alloc ?_ ?_ _ | with_reducible refine Below.setCell ?_ ?_ _ | (simp; done) | (simp; omega) | omega))))
    generalize (w3.setCell ⟨pb, 3, none⟩ (.slice a3 (L - W) c3)) = wB at *
    refine hK.out _ _ ?_ ?_
    · (try dsimp only); skip
    clear hHeld hK K
    intro hHeld
    try simp only [Act.put, List.setIfInBounds_toArray, List.set_cons_zero, List.set_cons_succ]
    refine till_done (by kernel_rfl) ?_ _
    clear hHeld
    go_wp2
    go_end0
    have hl : (bs ++ mkL W g).length = L := by rw [List.length_append, mkL_length]; exact HLL.out
    have hlast : lastL (5 * W) (bs ++ mkL W g) = (bs ++ mkL W g).drop W := by
      have h1 := HB.out
      have h2 : L = 6 * W := by
        have h3 := HLL.out
        have h4 : Hb = 5 := by
          rcases Nat.lt_or_ge Hb 5 with h | h
          · have := Nat.mul_le_mul_right W (show Hb ≤ 4 by omega)
            omega
          · omega
        rw [h4] at h1
        omega
      unfold lastL
      rw [hl, show L - 5 * W = W by omega]
    rw [hlast]
    exact ⟨⟨_, rfl⟩, HK3.out, HBW.out.trans HB3.out⟩
  · have hbI : ¬ 5 * (W : Int) < (L : Int) := by omega
    refine wp_region_held_drew (S := (fun w' => w'.cell? ⟨pb, 1, none⟩ = some (.int .i64 (W : Int)) ∧ w'.cell? ⟨pb, 3, none⟩ = some (.slice a2 L c2))) (by kernel_rfl) ?_ (fun hHeld => ?_)
    · (try dsimp only); exact ⟨s1, C3⟩
    refine wpAnyH_take (i := 0) (oi := ⟨_, _, _, _, _, _⟩) (v := ?_) rfl (by kernel_rfl) (by kernel_rfl) (by kernel_rfl) (fun _ _ _ h => h) (Or.inl ⟨by rfl, ?_⟩) hHeld ?_
    rotate_left
    · (intro w hSw; (try dsimp only at hSw); go_simp; try (with_reducible rfl))
    try simp only [Act.put, List.setIfInBounds_toArray, List.set_cons_zero, List.set_cons_succ]
    refine wpAnyH_take (i := 1) (oi := ⟨_, _, _, _, _, _⟩) (v := ?_) rfl (by kernel_rfl) (by kernel_rfl) (by kernel_rfl) (fun _ _ _ h => h) (Or.inl ⟨by rfl, ?_⟩) hHeld ?_
    rotate_left
    · (intro w hSw; (try dsimp only at hSw); go_simp; try (with_reducible rfl))
    try simp only [Act.put, List.setIfInBounds_toArray, List.set_cons_zero, List.set_cons_succ]
    refine wpAnyH_take (i := 2) (oi := ⟨_, _, _, _, _, _⟩) (v := ?_) rfl (by kernel_rfl) (by kernel_rfl) (by kernel_rfl) (fun _ _ _ h => h) (Or.inl ⟨by rfl, ?_⟩) hHeld ?_
    rotate_left
    · (intro w hSw; (try dsimp only at hSw); go_simp; try (with_reducible rfl))
    try simp only [Act.put, List.setIfInBounds_toArray, List.set_cons_zero, List.set_cons_succ]
    refine wpAnyH_take (i := 3) (oi := ⟨_, _, _, _, _, _⟩) (v := ?_) rfl (by kernel_rfl) (by kernel_rfl) (by kernel_rfl) (fun _ _ _ h => h) (Or.inl ⟨by rfl, ?_⟩) hHeld ?_
    rotate_left
    · (intro w hSw; (try dsimp only at hSw); go_simp; try (with_reducible rfl))
    try simp only [Act.put, List.setIfInBounds_toArray, List.set_cons_zero, List.set_cons_succ]
    refine wpAnyH_take (i := 4) (oi := ⟨_, _, _, _, _, _⟩) (v := ?_) rfl (by kernel_rfl) (by kernel_rfl) (by kernel_rfl) (fun _ _ _ h => h) (Or.inl ⟨by rfl, ?_⟩) hHeld ?_
    rotate_left
    · (intro w hSw; (try dsimp only at hSw); go_simp; try (with_reducible rfl))
    try simp only [Act.put, List.setIfInBounds_toArray, List.set_cons_zero, List.set_cons_succ]
    refine wpAnyH_take (i := 5) (oi := ⟨_, _, _, _, _, _⟩) (v := ?_) rfl (by kernel_rfl) (by kernel_rfl) (by kernel_rfl) (fun _ _ _ h => h) (Or.inl ⟨by rfl, ?_⟩) hHeld ?_
    rotate_left
    · (intro w hSw; (try dsimp only at hSw); go_simp; try (with_reducible rfl))
    try simp only [Act.put, List.setIfInBounds_toArray, List.set_cons_zero, List.set_cons_succ]
    refine wpAnyH_take (i := 6) (oi := ⟨_, _, _, _, _, _⟩) (v := ?_) rfl (by kernel_rfl) (by kernel_rfl) (by kernel_rfl) (fun _ _ _ h => h) (Or.inl ⟨by rfl, ?_⟩) hHeld ?_
    rotate_left
    · (intro w hSw; (try dsimp only at hSw); go_simp; try (with_reducible rfl))
    try simp only [Act.put, List.setIfInBounds_toArray, List.set_cons_zero, List.set_cons_succ]
    refine wpAnyH_take (i := 7) (oi := ⟨_, _, _, _, _, _⟩) (v := ?_) rfl (by kernel_rfl) (by kernel_rfl) (by kernel_rfl) (fun _ _ _ h => h) (Or.inl ⟨by rfl, ?_⟩) hHeld ?_
    rotate_left
    · (intro w hSw; (try dsimp only at hSw); go_simp; try (with_reducible rfl))
    try simp only [Act.put, List.setIfInBounds_toArray, List.set_cons_zero, List.set_cons_succ]
    refine wpAnyH_take (i := 8) (oi := ⟨_, _, _, _, _, _⟩) (v := ?_) rfl (by kernel_rfl) (by kernel_rfl) (by kernel_rfl) (fun _ _ _ h => h) (Or.inl ⟨by rfl, ?_⟩) hHeld ?_
    rotate_left
    · (intro w hSw; (try dsimp only at hSw); go_simp; try (with_reducible rfl))
    try simp only [Act.put, List.setIfInBounds_toArray, List.set_cons_zero, List.set_cons_succ]
    refine wpAnyH_take (i := 9) (oi := ⟨_, _, _, _, _, _⟩) (v := ?_) rfl (by kernel_rfl) (by kernel_rfl) (by kernel_rfl) (fun _ _ _ h => h) (Or.inl ⟨by rfl, ?_⟩) hHeld ?_
    rotate_left
    · (intro w hSw; (try dsimp only at hSw); go_simp; try (with_reducible rfl))
    try simp only [Act.put, List.setIfInBounds_toArray, List.set_cons_zero, List.set_cons_succ]
    refine wpAnyH_take (i := 10) (oi := ⟨_, _, _, _, _, _⟩) (v := ?_) rfl (by kernel_rfl) (by kernel_rfl) (by kernel_rfl) (fun _ _ _ h => h) (Or.inl ⟨by rfl, ?_⟩) hHeld ?_
    rotate_left
    · (intro w hSw; (try dsimp only at hSw); go_simp; try (with_reducible rfl))
    try simp only [Act.put, List.setIfInBounds_toArray, List.set_cons_zero, List.set_cons_succ]
    refine wpAnyH_done (by kernel_rfl) ?_ _
    clear hHeld
    replace HK := hide (HK.out.below (show Below wA.heap.size wA wA.drew from below_drewN (Below.refl _ _) 1))
    replace HBW := hide (HBW.out.trans (show Below B0 wA wA.drew from below_drewN (Below.refl _ _) 1))
    replace C3 : wA.drew.cell? ⟨pb, 3, none⟩ = some (.slice a2 L c2) := C3
    replace s1 : wA.drew.cell? ⟨pb, 1, none⟩ = some (.int .i64 (W : Int)) := s1
    replace z3 : wA.drew.frozen? ⟨pb, 3, none⟩ = false := z3
    replace hba : B0 ≤ wA.drew.heap.size := hba
    generalize wA.drew = wC at *
    clear wA
    rename World => wA
    go_wp2
    go_end0
    have hl : (bs ++ mkL W g).length = L := by rw [List.length_append, mkL_length]; exact HLL.out
    rw [lastL_short (by omega)]
    exact ⟨⟨_, rfl⟩, HK.out, HBW.out⟩
end Go.Proofs.YtdekegjplegkeaaGreat

/- What ScrollGrid answers, of the model: one row at a time (spec.l3Scroll), so many times (spec.l3Many). -/
namespace Go.Proofs.YtdekegjplegkeaaGreat
set_option maxRecDepth 20000
open Go.ChangeShapes Go.WideShapes Go.ChangeAt Go.RowKit
set_option linter.unusedVariables false
set_option linter.unusedSimpArgs false
set_option maxRecDepth 20000

theorem l1Min_calls (a b : Int) (w : World) : Calls Tryz.prog 133 #[.int .i64 a, .int .i64 b] w fun e w' => e = .returned (.int .i64 (min a b)) ∧ w' = w := by
  by_cases h : a < b
  · go_enter Tryz.func133, Tryz.ntmps133
    go_wp2
    go_ret
    exact ⟨by rw [show min a b = a by omega]; rfl, rfl⟩
  · go_enter Tryz.func133, Tryz.ntmps133
    go_wp2
    go_ret
    exact ⟨by rw [show min a b = b by omega]; rfl, rfl⟩
def upF (T W y : Nat) (f : Nat → Int × Int) (i : Nat) : Int × Int := if T * W ≤ i ∧ i < y * W then f (i + W) else f i
def dnF (B W y : Nat) (f : Nat → Int × Int) (i : Nat) : Int × Int := if (y + 1) * W ≤ i ∧ i < (B + 1) * W then f (i - W) else f i
theorem upF_first (T W : Nat) (f : Nat → Int × Int) (i : Nat) : f i = upF T W T f i := by
  unfold upF
  rw [if_neg (by omega)]
theorem upF_step {T W y : Nat} {f : Nat → Int × Int} (h : T ≤ y) (i : Nat) : (if y * W ≤ i ∧ i < y * W + W then upF T W y f ((y + 1) * W + (i - y * W)) else upF T W y f i) = upF T W (y + 1) f i := by
  have h1 : (y + 1) * W = y * W + W := by rw [Nat.add_mul, Nat.one_mul]
  have h2 : T * W ≤ y * W := Nat.mul_le_mul_right W h
  unfold upF
  rw [h1]
  by_cases e : y * W ≤ i ∧ i < y * W + W
  · rw [if_pos e, if_neg (by omega), if_pos (by omega), show y * W + W + (i - y * W) = i + W by omega]
  · rw [if_neg e]
    by_cases e2 : T * W ≤ i ∧ i < y * W
    · rw [if_pos e2, if_pos (by omega)]
    · rw [if_neg e2, if_neg (by omega)]
theorem upF_last {T B W : Nat} {f : Nat → Int × Int} {bl : Int × Int} (h : T ≤ B) (i : Nat) : (if B * W ≤ i ∧ i < B * W + W then bl else upF T W B f i) = scrollF (T * W) ((B + 1 - T) * W) (W : Int) f bl i := by
  have h2 : T * W ≤ B * W := Nat.mul_le_mul_right W h
  unfold upF scrollF slideF
  rw [Nat.sub_mul, Nat.add_mul, Nat.one_mul]
  by_cases e : B * W ≤ i ∧ i < B * W + W
  · rw [if_pos e, if_pos (by omega), if_neg (by omega)]
  · rw [if_neg e]
    by_cases e2 : T * W ≤ i ∧ i < B * W
    · rw [if_pos e2, if_pos (by omega), if_pos (by omega)]
      dsimp only
      rw [show T * W + (((i - T * W : Nat) : Int) + (W : Int)).toNat = i + W by omega]
    · rw [if_neg e2, if_neg (by omega)]
theorem dnF_first (B W : Nat) (f : Nat → Int × Int) (i : Nat) : f i = dnF B W B f i := by
  unfold dnF
  rw [if_neg (by omega)]
theorem dnF_step {B W y : Nat} {f : Nat → Int × Int} (h : 0 < y) (hB : y ≤ B) (i : Nat) : (if y * W ≤ i ∧ i < y * W + W then dnF B W y f ((y - 1) * W + (i - y * W)) else dnF B W y f i) = dnF B W (y - 1) f i := by
  have h1 : y * W = (y - 1) * W + W := by
    obtain ⟨z, rfl⟩ : ∃ z, y = z + 1 := ⟨y - 1, by omega⟩
    rw [Nat.add_sub_cancel, Nat.add_mul, Nat.one_mul]
  have h2 : (y + 1) * W ≤ (B + 1) * W := Nat.mul_le_mul_right W (by omega)
  have h3 : (y + 1) * W = y * W + W := by rw [Nat.add_mul, Nat.one_mul]
  unfold dnF
  rw [show y - 1 + 1 = y by omega]
  by_cases e : y * W ≤ i ∧ i < y * W + W
  · rw [if_pos e, if_neg (by omega), if_pos (by omega), show (y - 1) * W + (i - y * W) = i - W by omega]
  · rw [if_neg e]
    by_cases e2 : (y + 1) * W ≤ i ∧ i < (B + 1) * W
    · rw [if_pos e2, if_pos (by omega)]
    · rw [if_neg e2, if_neg (by omega)]
theorem dnF_last {T B W : Nat} {f : Nat → Int × Int} {bl : Int × Int} (h : T ≤ B) (i : Nat) : (if T * W ≤ i ∧ i < T * W + W then bl else dnF B W T f i) = scrollF (T * W) ((B + 1 - T) * W) (-(W : Int)) f bl i := by
  have h2 : T * W ≤ B * W := Nat.mul_le_mul_right W h
  unfold dnF scrollF slideF
  rw [Nat.sub_mul, Nat.add_mul, Nat.one_mul, Nat.add_mul, Nat.one_mul]
  by_cases e : T * W ≤ i ∧ i < T * W + W
  · rw [if_pos e, if_pos (by omega), if_neg (by omega)]
  · rw [if_neg e]
    by_cases e2 : T * W + W ≤ i ∧ i < B * W + W
    · rw [if_pos e2, if_pos (by omega), if_pos (by omega)]
      dsimp only
      rw [show T * W + (((i - T * W : Nat) : Int) + -(W : Int)).toNat = i - W by omega]
    · rw [if_neg e2, if_neg (by omega)]
theorem rep_get (n : Nat) (x : Int × Int) (i : Nat) (h : i < n) : (List.replicate n x).getD i (0, 0) = x := by simp [List.getD_eq_getElem?_getD, h]

set_option maxHeartbeats 2000000 in
theorem l3Scroll_down (B0 pb bx N cx T B W Hb : Nat) (r at' : Int) (f : Nat → Int × Int) (bs : List (Int × Int)) (w : World) (st : GSt B0 pb bx N cx r (W : Int) f bs w) (hcx : N ≤ cx) (hN : N ≤ 72) (h2 : 2 ≤ W) (h12 : W ≤ 12) (hTB : T ≤ B) (hB5 : B ≤ 5) (hBN : (B + 1) * W ≤ N) :
    Calls Tryz.prog 226 #[.pointer (some ⟨pb, 0, none⟩), .int .i64 T, .int .i64 B, .bool false, .int .i64 at'] w fun e w' => (∃ u, e = .returned u) ∧ GSt B0 pb bx N cx r (W : Int) (scrollF (T * W) ((B + 1 - T) * W) (-(W : Int)) f (32, at')) bs w' ∧ Below B0 w w' := by
  have HS := hide st
  have HBL : Hid (Below B0 w w) := hide (Below.refl _ _)
  clear st
  go_enter Tryz.func226, Tryz.ntmps226
  go_wp2
  go_loopw [11] (fun i wr => ∃ y : Nat, T ≤ y ∧ y ≤ B ∧ i = .int .i64 y ∧ Hid (GSt B0 pb bx N cx r (W : Int) (dnF B W y f) bs wr) ∧ Hid (Below B0 w wr)) (fun i _ => (intOf i).toNat)
  case atStart => exact ⟨B, hTB, Nat.le_refl _, rfl, hide (HS.out.congr (fun i _ => dnF_first B W f i)), HBL⟩
  case round =>
    obtain ⟨y, hy1, hy2, rfl, hst, hbl⟩ := hrel
    by_cases hlt : T < y
    · have hltI : (T : Int) < (y : Int) := by omega
      have e1 : y * W = (y - 1) * W + W := by
        obtain ⟨z, hz⟩ : ∃ z, y = z + 1 := ⟨y - 1, by omega⟩
        rw [hz, Nat.add_sub_cancel, Nat.add_mul, Nat.one_mul]
      have e2 : (y + 1) * W ≤ (B + 1) * W := Nat.mul_le_mul_right W (by omega)
      have RBN : y * W + W ≤ N := by rw [Nat.add_mul, Nat.one_mul] at e2; omega
      have FBN : (y - 1) * W + W ≤ N := by omega
      have ey : (y : Int) - 1 = ((y - 1 : Nat) : Int) := by omega
      have EY := hide ey
      clear e1 e2 ey
      have s1 := hst.out.s1
      have s2 := hst.out.s2
      go_wp2_with fail
      refine (l3RowOf_calls pb bx N cx ((y - 1) * W) W ((y - 1) * W + W) ((y : Int) - 1) (W : Int) _ wr s1 s2 hst.out.row.read hcx (by rw [Int.natCast_mul, EY.out]) rfl rfl FBN (by omega) (by omega) (by omega) (by omega)).mono ?_
      rintro e w2 ⟨v, rfl, ov, hb2⟩
      obtain ⟨br, cr, rfl, hcr, _, u1, u2, hrv⟩ := own_row ov (by omega)
      have st2 := hide (hst.out.below hb2)
      have bl2 := hide (hbl.out.trans (hb2.mono hst.out.base))
      have rv := hide (hrv.congr (fun i hi => mkL_get _ _ _ hi))
      clear hrv ov hb2 hst hbl s1 s2
      go_wp2_with fail
      refine (l3Row_calls pb bx N cx (y * W) W (y * W + W) br W cr W (y : Int) (W : Int) _ _ w2 st2.out.s1 st2.out.s2 st2.out.row hcx st2.out.lo.2.2.1 rv.out.read (by rw [Int.natCast_mul]) rfl rfl RBN (by omega) (by omega) (by omega) (by omega) (by omega)).mono ?_
      rintro e w3 ⟨⟨u3, rfl⟩, hr3, ht3⟩
      have H3 := hide (st2.out.touch ht3 hr3)
      have B3 := hide (bl2.out.trans (ht3.below st2.out.lo.2.1 st2.out.base))
      clear hr3 ht3 st2 bl2 rv
      go_wp2
      go_roundw
      case rel => exact ⟨y - 1, by omega, by omega, by first | rfl | go_num | (rw [EY.out]), hide (H3.out.congr (fun i _ => dnF_step (by omega) hy2 i)), B3⟩
      case measure => simp [intOf]; omega
    · obtain rfl : y = T := by omega
      have hge : ¬ ((y : Int) < (y : Int)) := by omega
      have RBN : y * W + W ≤ N := by have := Nat.mul_le_mul_right W (show y + 1 ≤ B + 1 by omega); rw [Nat.add_mul, Nat.one_mul] at this; omega
      have s1 := hst.out.s1
      go_wp2_with fail
      refine (l3Blanks_calls W at' (by omega) wr).mono ?_
      rintro e w2 ⟨v, rfl, ov, hb2⟩
      obtain ⟨br, cr, rfl, hcr, _, u1, u2, hrv⟩ := own_row ov (by omega)
      have st2 := hide (hst.out.below hb2)
      have bl2 := hide (hbl.out.trans (hb2.mono hst.out.base))
      have rv := hide (hrv.congr (g := fun _ => (32, at')) (fun i hi => rep_get _ _ _ hi))
      clear hrv ov hb2 hst hbl s1
      go_wp2_with fail
      refine (l3Row_calls pb bx N cx (y * W) W (y * W + W) br W cr W (y : Int) (W : Int) _ _ w2 st2.out.s1 st2.out.s2 st2.out.row hcx st2.out.lo.2.2.1 rv.out.read (by rw [Int.natCast_mul]) rfl rfl RBN (by omega) (by omega) (by omega) (by omega) (by omega)).mono ?_
      rintro e w3 ⟨⟨u3, rfl⟩, hr3, ht3⟩
      have H3 := hide (st2.out.touch ht3 hr3)
      have B3 := hide (bl2.out.trans (ht3.below st2.out.lo.2.1 st2.out.base))
      clear hr3 ht3 st2 bl2 rv
      go_wp2
      go_end0
      exact ⟨⟨_, rfl⟩, H3.out.congr (fun i _ => dnF_last hTB i), B3.out⟩
set_option maxHeartbeats 2000000 in
theorem l3Scroll_low (B0 pb bx N cx T B W Hb : Nat) (r at' : Int) (f : Nat → Int × Int) (bs : List (Int × Int)) (w : World) (st : GSt B0 pb bx N cx r (W : Int) f bs w) (hcx : N ≤ cx) (hN : N ≤ 72) (h2 : 2 ≤ W) (h12 : W ≤ 12) (hTB : T ≤ B) (hB5 : B ≤ 5) (hBN : (B + 1) * W ≤ N) (hT : ¬ T = 0) :
    Calls Tryz.prog 226 #[.pointer (some ⟨pb, 0, none⟩), .int .i64 T, .int .i64 B, .bool true, .int .i64 at'] w fun e w' => (∃ u, e = .returned u) ∧ GSt B0 pb bx N cx r (W : Int) (scrollF (T * W) ((B + 1 - T) * W) (W : Int) f (32, at')) bs w' ∧ Below B0 w w' := by
  have HS := hide st
  have HBL : Hid (Below B0 w w) := hide (Below.refl _ _)
  have hT0 : ((T : Int) == 0) = false := by rw [beq_eq_false_iff_ne]; omega
  clear st
  go_enter Tryz.func226, Tryz.ntmps226
  go_wp2
  go_loopw [10] (fun i wr => ∃ y : Nat, T ≤ y ∧ y ≤ B ∧ i = .int .i64 y ∧ Hid (GSt B0 pb bx N cx r (W : Int) (upF T W y f) bs wr) ∧ Hid (Below B0 w wr)) (fun i _ => B - (intOf i).toNat)
  case atStart => exact ⟨T, Nat.le_refl _, hTB, rfl, hide (HS.out.congr (fun i _ => upF_first T W f i)), HBL⟩
  case round =>
    obtain ⟨y, hy1, hy2, rfl, hst, hbl⟩ := hrel
    by_cases hlt : y < B
    · have hltI : (y : Int) < (B : Int) := by omega
      have e1 : (y + 1) * W = y * W + W := by rw [Nat.add_mul, Nat.one_mul]
      have e2 : (y + 1) * W + W ≤ (B + 1) * W := by have := Nat.mul_le_mul_right W (show y + 2 ≤ B + 1 by omega); rw [Nat.add_mul] at this; omega
      have FBN : (y + 1) * W + W ≤ N := by omega
      have RBN : y * W + W ≤ N := by omega
      clear e1 e2
      have s1 := hst.out.s1
      have s2 := hst.out.s2
      go_wp2_with fail
      refine (l3RowOf_calls pb bx N cx ((y + 1) * W) W ((y + 1) * W + W) ((y : Int) + 1) (W : Int) _ wr s1 s2 hst.out.row.read hcx (by rw [Int.natCast_mul, Int.natCast_add]; rfl) rfl rfl FBN (by omega) (by omega) (by omega) (by omega)).mono ?_
      rintro e w2 ⟨v, rfl, ov, hb2⟩
      obtain ⟨br, cr, rfl, hcr, _, u1, u2, hrv⟩ := own_row ov (by omega)
      have st2 := hide (hst.out.below hb2)
      have bl2 := hide (hbl.out.trans (hb2.mono hst.out.base))
      have rv := hide (hrv.congr (fun i hi => mkL_get _ _ _ hi))
      clear hrv ov hb2 hst hbl s1 s2
      go_wp2_with fail
      refine (l3Row_calls pb bx N cx (y * W) W (y * W + W) br W cr W (y : Int) (W : Int) _ _ w2 st2.out.s1 st2.out.s2 st2.out.row hcx st2.out.lo.2.2.1 rv.out.read (by rw [Int.natCast_mul]) rfl rfl RBN (by omega) (by omega) (by omega) (by omega) (by omega)).mono ?_
      rintro e w3 ⟨⟨u3, rfl⟩, hr3, ht3⟩
      have H3 := hide (st2.out.touch ht3 hr3)
      have B3 := hide (bl2.out.trans (ht3.below st2.out.lo.2.1 st2.out.base))
      clear hr3 ht3 st2 bl2 rv
      go_wp2
      go_roundw
      case rel => exact ⟨y + 1, by omega, by omega, by go_num, hide (H3.out.congr (fun i _ => upF_step hy1 i)), B3⟩
      case measure => simp [intOf]; omega
    · obtain rfl : y = B := by omega
      have hge : ¬ ((y : Int) < (y : Int)) := by omega
      have RBN : y * W + W ≤ N := by rw [Nat.add_mul, Nat.one_mul] at hBN; exact hBN
      have s1 := hst.out.s1
      go_wp2_with fail
      refine (l3Blanks_calls W at' (by omega) wr).mono ?_
      rintro e w2 ⟨v, rfl, ov, hb2⟩
      obtain ⟨br, cr, rfl, hcr, _, u1, u2, hrv⟩ := own_row ov (by omega)
      have st2 := hide (hst.out.below hb2)
      have bl2 := hide (hbl.out.trans (hb2.mono hst.out.base))
      have rv := hide (hrv.congr (g := fun _ => (32, at')) (fun i hi => rep_get _ _ _ hi))
      clear hrv ov hb2 hst hbl s1
      go_wp2_with fail
      refine (l3Row_calls pb bx N cx (y * W) W (y * W + W) br W cr W (y : Int) (W : Int) _ _ w2 st2.out.s1 st2.out.s2 st2.out.row hcx st2.out.lo.2.2.1 rv.out.read (by rw [Int.natCast_mul]) rfl rfl RBN (by omega) (by omega) (by omega) (by omega) (by omega)).mono ?_
      rintro e w3 ⟨⟨u3, rfl⟩, hr3, ht3⟩
      have H3 := hide (st2.out.touch ht3 hr3)
      have B3 := hide (bl2.out.trans (ht3.below st2.out.lo.2.1 st2.out.base))
      clear hr3 ht3 st2 bl2 rv
      go_wp2
      refine bodyPost_ret (results_none rfl _ _ _) rfl ?_
      exact ⟨⟨_, rfl⟩, H3.out.congr (fun i _ => upF_last hTB i), B3.out⟩
set_option maxHeartbeats 2000000 in
theorem l3Scroll_top (B0 pb bx N cx B W Hb : Nat) (r at' : Int) (f : Nat → Int × Int) (bs : List (Int × Int)) (w : World) (st : GSt B0 pb bx N cx r (W : Int) f bs w) (hcx : N ≤ cx) (hN : N ≤ 72) (h2 : 2 ≤ W) (h12 : W ≤ 12) (hTB : 0 ≤ B) (hB5 : B ≤ 5) (hBN : (B + 1) * W ≤ N) (hb : bs.length = Hb * W) (h5 : Hb ≤ 5) :
    Calls Tryz.prog 226 #[.pointer (some ⟨pb, 0, none⟩), .int .i64 0, .int .i64 B, .bool true, .int .i64 at'] w fun e w' => (∃ u, e = .returned u) ∧ GSt B0 pb bx N cx r (W : Int) (scrollF (0 * W) ((B + 1 - 0) * W) (W : Int) f (32, at')) (lastL (5 * W) (bs ++ mkL W f)) w' ∧ Below B0 w w' := by
  have HS := hide st
  have HB := hide hb
  have hWN : W ≤ N := by have := Nat.mul_le_mul_right W (show 1 ≤ B + 1 by omega); omega
  have s1 := st.s1
  have s2 := st.s2
  clear st hb
  go_enter Tryz.func226, Tryz.ntmps226
  go_wp2_with fail
  refine (l3RowOf_calls pb bx N cx 0 W W 0 (W : Int) f w s1 s2 HS.out.row.read hcx (by simp) rfl (by omega) hWN (by omega) (by omega) (by omega) (by omega)).mono ?_
  rintro e w1 ⟨v, rfl, ov, hb1⟩
  obtain ⟨br, cr, rfl, hcr, _, u1, u2, hrv⟩ := own_row ov (by omega)
  have bl1 := hide (hb1.mono HS.out.base)
  replace HS := hide (HS.out.below hb1)
  have rv := hide (hrv.congr (fun i hi => mkL_get _ _ _ hi))
  clear hrv ov hb1 s1 s2
  go_wp2_with fail
  refine (l3Keep_calls B0 pb bx N cx br cr W Hb r f _ bs w1 HS.out rv.out.read h2 h12 HB.out h5).mono ?_
  rintro e w9 ⟨⟨u9, rfl⟩, st9, hb9⟩
  rw [mkL_congr (g := f) (fun i _ => by rw [Nat.zero_add])] at st9
  replace HS := hide st9
  have HBL := hide (bl1.out.trans hb9)
  clear st9 hb9 bl1 rv
  go_wp2
  go_loopw [10] (fun i wr => ∃ y : Nat, 0 ≤ y ∧ y ≤ B ∧ i = .int .i64 y ∧ Hid (GSt B0 pb bx N cx r (W : Int) (upF 0 W y f) (lastL (5 * W) (bs ++ mkL W f)) wr) ∧ Hid (Below B0 w wr)) (fun i _ => B - (intOf i).toNat)
  case atStart => exact ⟨0, Nat.le_refl _, hTB, rfl, hide (HS.out.congr (fun i _ => upF_first 0 W f i)), HBL⟩
  case round =>
    obtain ⟨y, hy1, hy2, rfl, hst, hbl⟩ := hrel
    by_cases hlt : y < B
    · have hltI : (y : Int) < (B : Int) := by omega
      have e1 : (y + 1) * W = y * W + W := by rw [Nat.add_mul, Nat.one_mul]
      have e2 : (y + 1) * W + W ≤ (B + 1) * W := by have := Nat.mul_le_mul_right W (show y + 2 ≤ B + 1 by omega); rw [Nat.add_mul] at this; omega
      have FBN : (y + 1) * W + W ≤ N := by omega
      have RBN : y * W + W ≤ N := by omega
      clear e1 e2
      have s1 := hst.out.s1
      have s2 := hst.out.s2
      go_wp2_with fail
      refine (l3RowOf_calls pb bx N cx ((y + 1) * W) W ((y + 1) * W + W) ((y : Int) + 1) (W : Int) _ wr s1 s2 hst.out.row.read hcx (by rw [Int.natCast_mul, Int.natCast_add]; rfl) rfl rfl FBN (by omega) (by omega) (by omega) (by omega)).mono ?_
      rintro e w2 ⟨v, rfl, ov, hb2⟩
      obtain ⟨br, cr, rfl, hcr, _, u1, u2, hrv⟩ := own_row ov (by omega)
      have st2 := hide (hst.out.below hb2)
      have bl2 := hide (hbl.out.trans (hb2.mono hst.out.base))
      have rv := hide (hrv.congr (fun i hi => mkL_get _ _ _ hi))
      clear hrv ov hb2 hst hbl s1 s2
      go_wp2_with fail
      refine (l3Row_calls pb bx N cx (y * W) W (y * W + W) br W cr W (y : Int) (W : Int) _ _ w2 st2.out.s1 st2.out.s2 st2.out.row hcx st2.out.lo.2.2.1 rv.out.read (by rw [Int.natCast_mul]) rfl rfl RBN (by omega) (by omega) (by omega) (by omega) (by omega)).mono ?_
      rintro e w3 ⟨⟨u3, rfl⟩, hr3, ht3⟩
      have H3 := hide (st2.out.touch ht3 hr3)
      have B3 := hide (bl2.out.trans (ht3.below st2.out.lo.2.1 st2.out.base))
      clear hr3 ht3 st2 bl2 rv
      go_wp2
      go_roundw
      case rel => exact ⟨y + 1, by omega, by omega, by go_num, hide (H3.out.congr (fun i _ => upF_step hy1 i)), B3⟩
      case measure => simp [intOf]; omega
    · obtain rfl : y = B := by omega
      have hge : ¬ ((y : Int) < (y : Int)) := by omega
      have RBN : y * W + W ≤ N := by rw [Nat.add_mul, Nat.one_mul] at hBN; exact hBN
      have s1 := hst.out.s1
      go_wp2_with fail
      refine (l3Blanks_calls W at' (by omega) wr).mono ?_
      rintro e w2 ⟨v, rfl, ov, hb2⟩
      obtain ⟨br, cr, rfl, hcr, _, u1, u2, hrv⟩ := own_row ov (by omega)
      have st2 := hide (hst.out.below hb2)
      have bl2 := hide (hbl.out.trans (hb2.mono hst.out.base))
      have rv := hide (hrv.congr (g := fun _ => (32, at')) (fun i hi => rep_get _ _ _ hi))
      clear hrv ov hb2 hst hbl s1
      go_wp2_with fail
      refine (l3Row_calls pb bx N cx (y * W) W (y * W + W) br W cr W (y : Int) (W : Int) _ _ w2 st2.out.s1 st2.out.s2 st2.out.row hcx st2.out.lo.2.2.1 rv.out.read (by rw [Int.natCast_mul]) rfl rfl RBN (by omega) (by omega) (by omega) (by omega) (by omega)).mono ?_
      rintro e w3 ⟨⟨u3, rfl⟩, hr3, ht3⟩
      have H3 := hide (st2.out.touch ht3 hr3)
      have B3 := hide (bl2.out.trans (ht3.below st2.out.lo.2.1 st2.out.base))
      clear hr3 ht3 st2 bl2 rv
      go_wp2
      refine bodyPost_ret (results_none rfl _ _ _) rfl ?_
      exact ⟨⟨_, rfl⟩, H3.out.congr (fun i _ => upF_last hTB i), B3.out⟩
theorem scrollB_zero {W T : Nat} {f : Nat → Int × Int} {bs : List (Int × Int)} (h : bs.length ≤ 5 * W) : scrollB W T 0 f bs = bs := by
  unfold scrollB
  split
  · rw [lastL_short (by rw [List.length_append, mkL_length]; omega)]
    simp [mkL]
  · rfl
theorem scrollB_length {W T Hb k : Nat} {f : Nat → Int × Int} {bs : List (Int × Int)} (hb : bs.length = Hb * W) (h5 : Hb ≤ 5) : ∃ H, H ≤ 5 ∧ (scrollB W T k f bs).length = H * W := by
  unfold scrollB
  split
  · rw [lastL_length, List.length_append, mkL_length, hb, ← Nat.add_mul]
    rcases Nat.lt_or_ge (Hb + k) 5 with h | h
    · exact ⟨Hb + k, by omega, by have := Nat.mul_le_mul_right W (show Hb + k ≤ 5 by omega); omega⟩
    · exact ⟨5, by omega, by have := Nat.mul_le_mul_right W (show 5 ≤ Hb + k by omega); omega⟩
  · exact ⟨Hb, h5, hb⟩
theorem scroll_first {W L k : Nat} {f : Nat → Int × Int} {bl : Int × Int} (h : k * W + W ≤ L) (i : Nat) (hi : i < W) : scrollF (0 * W) L ((k * W : Nat) : Int) f bl i = f (k * W + i) := by
  unfold scrollF slideF
  rw [Nat.zero_mul, if_pos (by omega), if_pos (by omega)]
  dsimp only
  rw [show 0 + (((i - 0 : Nat) : Int) + ((k * W : Nat) : Int)).toNat = k * W + i by omega]

set_option maxHeartbeats 2000000 in
theorem l3Many_down (B0 pb bx N cx T B W Hb c : Nat) (r at' n : Int) (f : Nat → Int × Int) (bs : List (Int × Int)) (w : World) (st : GSt B0 pb bx N cx r (W : Int) f bs w) (hcx : N ≤ cx) (hN : N ≤ 72) (h2 : 2 ≤ W) (h12 : W ≤ 12) (hTB : T ≤ B) (hB5 : B ≤ 5) (hBN : (B + 1) * W ≤ N) (hb : bs.length = Hb * W) (h5 : Hb ≤ 5) (nn : Nat) (hn : n = -(nn : Int)) (hn0 : 0 < nn) (hn9 : nn ≤ 9) (hc : c = min nn (B + 1 - T)) :
    Calls Tryz.prog 202 #[.pointer (some ⟨pb, 0, none⟩), .int .i64 T, .int .i64 B, .int .i64 n, .int .i64 at'] w fun e w' => (∃ u, e = .returned u) ∧ GSt B0 pb bx N cx r (W : Int) (scrollF (T * W) ((B + 1 - T) * W) (-((c * W : Nat) : Int)) f (32, at')) bs w' ∧ Below B0 w w' := by
  have HS := hide st
  have HB := hide hb
  clear st hb
  have hmin : min (nn : Int) ((B : Int) - (T : Int) + 1) = (c : Int) := by omega
  have hneg : -(nn : Int) < 0 := by omega
  have hneg2 : ¬ (0 : Int) < -(nn : Int) := by omega
  have hcl : c ≤ B + 1 - T := by omega
  subst hn
  clear hc
  go_enter Tryz.func202, Tryz.ntmps202
  go_wp2_with fail
  refine (l1Min_calls _ _ w).mono ?_
  rintro e w' ⟨rfl, hw⟩
  rw [hw]
  clear hw w'
  rw [hmin]
  clear hmin
  go_wp2
  go_loopw [3] (fun i wr => ∃ j k : Nat, j + k = c ∧ i = .int .i64 j ∧ Hid (GSt B0 pb bx N cx r (W : Int) (scrollF (T * W) ((B + 1 - T) * W) (-((k * W : Nat) : Int)) f (32, at')) bs wr) ∧ Hid (Below B0 w wr)) (fun i _ => (intOf i).toNat)
  case atStart => exact ⟨c, 0, by omega, rfl, hide (HS.out.congr (fun i _ => by rw [Nat.zero_mul]; exact (scrollF_same _ _ _ _ i).symm)), hide (Below.refl _ _)⟩
  case round =>
    obtain ⟨j, k, hjk, rfl, hst, hbl⟩ := hrel
    by_cases hj : 0 < j
    · have hjI : (0 : Int) < (j : Int) := by omega
      have ej : (j : Int) - 1 = ((j - 1 : Nat) : Int) := by omega
      have EJ := hide ej
      have hkL : k * W + W ≤ (B + 1 - T) * W := by have := Nat.mul_le_mul_right W (show k + 1 ≤ B + 1 - T by omega); rw [Nat.add_mul, Nat.one_mul] at this; exact this
      have ek : (k + 1) * W = k * W + W := by rw [Nat.add_mul, Nat.one_mul]
      have EKK := hide ek
      clear ej ek
      go_wp2_with fail
      refine (l3Scroll_down B0 pb bx N cx T B W Hb r at' _ bs wr hst.out hcx hN h2 h12 hTB hB5 hBN).mono ?_
      rintro e w3 ⟨⟨u3, rfl⟩, st3, hb3⟩
      have H3 := hide (st3.congr (g := scrollF (T * W) ((B + 1 - T) * W) (-(((k + 1) * W : Nat) : Int)) f (32, at')) (fun i _ => by rw [scrollF_down, EKK.out]))
      have B3 := hide (hbl.out.trans hb3)
      clear st3 hb3 hst hbl
      go_wp2
      go_roundw
      case rel => exact ⟨j - 1, k + 1, by omega, by first | rfl | go_num | (rw [EJ.out]), H3, B3⟩
      case measure => simp [intOf]; omega
    · obtain rfl : j = 0 := by omega
      obtain rfl : k = c := by omega
      go_wp2
      go_end0
      exact ⟨⟨_, rfl⟩, hst.out, hbl.out⟩
set_option maxHeartbeats 2000000 in
theorem l3Many_zero (B0 pb bx N cx T B W Hb c : Nat) (r at' n : Int) (f : Nat → Int × Int) (bs : List (Int × Int)) (w : World) (st : GSt B0 pb bx N cx r (W : Int) f bs w) (hcx : N ≤ cx) (hN : N ≤ 72) (h2 : 2 ≤ W) (h12 : W ≤ 12) (hTB : T ≤ B) (hB5 : B ≤ 5) (hBN : (B + 1) * W ≤ N) (hb : bs.length = Hb * W) (h5 : Hb ≤ 5) (hn : n = 0) :
    Calls Tryz.prog 202 #[.pointer (some ⟨pb, 0, none⟩), .int .i64 T, .int .i64 B, .int .i64 n, .int .i64 at'] w fun e w' => (∃ u, e = .returned u) ∧ GSt B0 pb bx N cx r (W : Int) (scrollF (T * W) ((B + 1 - T) * W) 0 f (32, at')) bs w' ∧ Below B0 w w' := by
  have HS := hide st
  have hmin : min (0 : Int) ((B : Int) - (T : Int) + 1) = 0 := by omega
  subst hn
  clear st
  go_enter Tryz.func202, Tryz.ntmps202
  go_wp2_with fail
  refine (l1Min_calls _ _ w).mono ?_
  rintro e w' ⟨rfl, hw⟩
  rw [hw]
  clear hw w'
  rw [hmin]
  clear hmin
  go_wp2
  go_loopw [3] (fun i wr => i = .int .i64 0 ∧ wr = w) (fun i _ => 0)
  case atStart => exact ⟨rfl, rfl⟩
  case round =>
    obtain ⟨rfl, rfl⟩ := hrel
    go_wp2
    go_end0
    exact ⟨⟨_, rfl⟩, HS.out.congr (fun i _ => (scrollF_same _ _ _ _ i).symm), Below.refl _ _⟩
set_option maxHeartbeats 2000000 in
theorem l3Many_low (B0 pb bx N cx T B W Hb c : Nat) (r at' n : Int) (f : Nat → Int × Int) (bs : List (Int × Int)) (w : World) (st : GSt B0 pb bx N cx r (W : Int) f bs w) (hcx : N ≤ cx) (hN : N ≤ 72) (h2 : 2 ≤ W) (h12 : W ≤ 12) (hTB : T ≤ B) (hB5 : B ≤ 5) (hBN : (B + 1) * W ≤ N) (hb : bs.length = Hb * W) (h5 : Hb ≤ 5) (nn : Nat) (hn : n = (nn : Int)) (hn0 : 0 < nn) (hn9 : nn ≤ 9) (hc : c = min nn (B + 1 - T)) (hT : ¬ T = 0) :
    Calls Tryz.prog 202 #[.pointer (some ⟨pb, 0, none⟩), .int .i64 T, .int .i64 B, .int .i64 n, .int .i64 at'] w fun e w' => (∃ u, e = .returned u) ∧ GSt B0 pb bx N cx r (W : Int) (scrollF (T * W) ((B + 1 - T) * W) ((c * W : Nat) : Int) f (32, at')) bs w' ∧ Below B0 w w' := by
  have HS := hide st
  have HB := hide hb
  clear st hb
  have hmin : min (nn : Int) ((B : Int) - (T : Int) + 1) = (c : Int) := by omega
  have hpos : (0 : Int) < (nn : Int) := by omega
  have hpos2 : ¬ (nn : Int) < 0 := by omega
  have hcl : c ≤ B + 1 - T := by omega
  subst hn
  clear hc
  go_enter Tryz.func202, Tryz.ntmps202
  go_wp2_with fail
  refine (l1Min_calls _ _ w).mono ?_
  rintro e w' ⟨rfl, hw⟩
  rw [hw]
  clear hw w'
  rw [hmin]
  clear hmin
  go_wp2
  go_loopw [3] (fun i wr => ∃ j k : Nat, j + k = c ∧ i = .int .i64 j ∧ Hid (GSt B0 pb bx N cx r (W : Int) (scrollF (T * W) ((B + 1 - T) * W) ((k * W : Nat) : Int) f (32, at')) bs wr) ∧ Hid (Below B0 w wr)) (fun i _ => (intOf i).toNat)
  case atStart => exact ⟨c, 0, by omega, rfl, hide (HS.out.congr (fun i _ => by rw [Nat.zero_mul]; exact (scrollF_same _ _ _ _ i).symm)), hide (Below.refl _ _)⟩
  case round =>
    obtain ⟨j, k, hjk, rfl, hst, hbl⟩ := hrel
    by_cases hj : 0 < j
    · have hjI : (0 : Int) < (j : Int) := by omega
      have ej : (j : Int) - 1 = ((j - 1 : Nat) : Int) := by omega
      have EJ := hide ej
      have hkL : k * W + W ≤ (B + 1 - T) * W := by have := Nat.mul_le_mul_right W (show k + 1 ≤ B + 1 - T by omega); rw [Nat.add_mul, Nat.one_mul] at this; exact this
      have ek : (k + 1) * W = k * W + W := by rw [Nat.add_mul, Nat.one_mul]
      have EKK := hide ek
      clear ej ek
      go_wp2_with fail
      refine (l3Scroll_low B0 pb bx N cx T B W Hb r at' _ bs wr hst.out hcx hN h2 h12 hTB hB5 hBN hT).mono ?_
      rintro e w3 ⟨⟨u3, rfl⟩, st3, hb3⟩
      have H3 := hide (st3.congr (g := scrollF (T * W) ((B + 1 - T) * W) (((k + 1) * W : Nat) : Int) f (32, at')) (fun i _ => by rw [scrollF_up, EKK.out]))
      have B3 := hide (hbl.out.trans hb3)
      clear st3 hb3 hst hbl
      go_wp2
      go_roundw
      case rel => exact ⟨j - 1, k + 1, by omega, by first | rfl | go_num | (rw [EJ.out]), H3, B3⟩
      case measure => simp [intOf]; omega
    · obtain rfl : j = 0 := by omega
      obtain rfl : k = c := by omega
      go_wp2
      go_end0
      exact ⟨⟨_, rfl⟩, hst.out, hbl.out⟩
set_option maxHeartbeats 2000000 in
theorem l3Many_top (B0 pb bx N cx B W Hb c : Nat) (r at' n : Int) (f : Nat → Int × Int) (bs : List (Int × Int)) (w : World) (st : GSt B0 pb bx N cx r (W : Int) f bs w) (hcx : N ≤ cx) (hN : N ≤ 72) (h2 : 2 ≤ W) (h12 : W ≤ 12) (hTB : 0 ≤ B) (hB5 : B ≤ 5) (hBN : (B + 1) * W ≤ N) (hb : bs.length = Hb * W) (h5 : Hb ≤ 5) (nn : Nat) (hn : n = (nn : Int)) (hn0 : 0 < nn) (hn9 : nn ≤ 9) (hc : c = min nn (B + 1 - 0)) :
    Calls Tryz.prog 202 #[.pointer (some ⟨pb, 0, none⟩), .int .i64 0, .int .i64 B, .int .i64 n, .int .i64 at'] w fun e w' => (∃ u, e = .returned u) ∧ GSt B0 pb bx N cx r (W : Int) (scrollF (0 * W) ((B + 1 - 0) * W) ((c * W : Nat) : Int) f (32, at')) (scrollB W 0 c f bs) w' ∧ Below B0 w w' := by
  have HS := hide st
  have HB := hide hb
  clear st hb
  have hmin : min (nn : Int) ((B : Int) + 1) = (c : Int) := by omega
  have hpos : (0 : Int) < (nn : Int) := by omega
  have hpos2 : ¬ (nn : Int) < 0 := by omega
  have hcl : c ≤ B + 1 - 0 := by omega
  subst hn
  clear hc
  go_enter Tryz.func202, Tryz.ntmps202
  go_wp2_with fail
  refine (l1Min_calls _ _ w).mono ?_
  rintro e w' ⟨rfl, hw⟩
  rw [hw]
  clear hw w'
  rw [hmin]
  clear hmin
  go_wp2
  go_loopw [3] (fun i wr => ∃ j k : Nat, j + k = c ∧ i = .int .i64 j ∧ Hid (GSt B0 pb bx N cx r (W : Int) (scrollF (0 * W) ((B + 1 - 0) * W) ((k * W : Nat) : Int) f (32, at')) (scrollB W 0 k f bs) wr) ∧ Hid (Below B0 w wr)) (fun i _ => (intOf i).toNat)
  case atStart => exact ⟨c, 0, by omega, rfl, hide ((by rw [scrollB_zero (by rw [HB.out]; exact Nat.mul_le_mul_right W h5)]; exact HS.out.congr (fun i _ => by rw [Nat.zero_mul]; exact (scrollF_same _ _ _ _ i).symm))), hide (Below.refl _ _)⟩
  case round =>
    obtain ⟨j, k, hjk, rfl, hst, hbl⟩ := hrel
    by_cases hj : 0 < j
    · have hjI : (0 : Int) < (j : Int) := by omega
      have ej : (j : Int) - 1 = ((j - 1 : Nat) : Int) := by omega
      have EJ := hide ej
      have hkL : k * W + W ≤ (B + 1 - 0) * W := by have := Nat.mul_le_mul_right W (show k + 1 ≤ B + 1 - 0 by omega); rw [Nat.add_mul, Nat.one_mul] at this; exact this
      have ek : (k + 1) * W = k * W + W := by rw [Nat.add_mul, Nat.one_mul]
      have EKK := hide ek
      clear ej ek
      go_wp2_with fail
      obtain ⟨H, hH5, hHl⟩ := scrollB_length (T := 0) (k := k) (f := f) HB.out h5
      have HHL := hide hHl
      clear hHl
      refine (l3Scroll_top B0 pb bx N cx B W H r at' _ _ wr hst.out hcx hN h2 h12 hTB hB5 hBN HHL.out hH5).mono ?_
      rintro e w3 ⟨⟨u3, rfl⟩, st3, hb3⟩
      rw [scrollB_succ (fun i hi => scroll_first hkL i hi)] at st3
      have H3 := hide (st3.congr (g := scrollF (0 * W) ((B + 1 - 0) * W) (((k + 1) * W : Nat) : Int) f (32, at')) (fun i _ => by rw [scrollF_up, EKK.out]))
      have B3 := hide (hbl.out.trans hb3)
      clear st3 hb3 hst hbl
      go_wp2
      go_roundw
      case rel => exact ⟨j - 1, k + 1, by omega, by first | rfl | go_num | (rw [EJ.out]), H3, B3⟩
      case measure => simp [intOf]; omega
    · obtain rfl : j = 0 := by omega
      obtain rfl : k = c := by omega
      go_wp2
      go_end0
      exact ⟨⟨_, rfl⟩, hst.out, hbl.out⟩
theorem l3Many_calls (B0 pb bx N cx T B W Hb : Nat) (r at' n : Int) (f : Nat → Int × Int) (bs : List (Int × Int)) (w : World) (st : GSt B0 pb bx N cx r (W : Int) f bs w) (hcx : N ≤ cx) (hN : N ≤ 72) (h2 : 2 ≤ W) (h12 : W ≤ 12) (hTB : T ≤ B) (hB5 : B ≤ 5) (hBN : (B + 1) * W ≤ N) (hb : bs.length = Hb * W) (h5 : Hb ≤ 5) (hn : -9 ≤ n ∧ n ≤ 9) :
    Calls Tryz.prog 202 #[.pointer (some ⟨pb, 0, none⟩), .int .i64 T, .int .i64 B, .int .i64 n, .int .i64 at'] w fun e w' => (∃ u, e = .returned u) ∧ GSt B0 pb bx N cx r (W : Int) (scrollF (T * W) ((B + 1 - T) * W) (n * (W : Int)) f (32, at')) (scrollB W T (max 0 (min n ((B : Int) + 1))).toNat f bs) w' ∧ Below B0 w w' := by
  have hbm : bs.length ≤ 5 * W := by rw [hb]; exact Nat.mul_le_mul_right W h5
  rcases Int.lt_trichotomy n 0 with h | h | h
  · refine (l3Many_down B0 pb bx N cx T B W Hb (min n.natAbs (B + 1 - T)) r at' n f bs w st hcx hN h2 h12 hTB hB5 hBN hb h5 n.natAbs (by omega) (by omega) (by omega) rfl).mono ?_
    rintro e w' ⟨he, h1, h3⟩
    rw [show (max 0 (min n ((B : Int) + 1))).toNat = 0 by omega, scrollB_zero hbm]
    refine ⟨he, h1.congr (fun i _ => scrollF_far ?_ i), h3⟩
    rcases Nat.le_total n.natAbs (B + 1 - T) with g | g
    · right; right
      rw [Nat.min_eq_left g, Int.natCast_mul, ← Int.neg_mul]
      congr 1
      omega
    · right; left
      rw [Nat.min_eq_right g]
      have a := Int.mul_le_mul_of_nonneg_right (show n ≤ -((B + 1 - T : Nat) : Int) by omega) (show (0 : Int) ≤ (W : Int) by omega)
      rw [Int.neg_mul, ← Int.natCast_mul] at a
      exact ⟨by omega, a⟩
  · refine (l3Many_zero B0 pb bx N cx T B W Hb 0 r at' n f bs w st hcx hN h2 h12 hTB hB5 hBN hb h5 h).mono ?_
    rintro e w' ⟨he, h1, h3⟩
    rw [show (max 0 (min n ((B : Int) + 1))).toNat = 0 by omega, scrollB_zero hbm, h, Int.zero_mul]
    exact ⟨he, h1, h3⟩
  · have far : ((((B + 1 - T) * W : Nat) : Int) ≤ ((min n.natAbs (B + 1 - T) * W : Nat) : Int) ∧ (((B + 1 - T) * W : Nat) : Int) ≤ n * (W : Int)) ∨ (((min n.natAbs (B + 1 - T) * W : Nat) : Int) ≤ -(((B + 1 - T) * W : Nat) : Int) ∧ n * (W : Int) ≤ -(((B + 1 - T) * W : Nat) : Int)) ∨ ((min n.natAbs (B + 1 - T) * W : Nat) : Int) = n * (W : Int) := by
      rcases Nat.le_total n.natAbs (B + 1 - T) with g | g
      · right; right
        rw [Nat.min_eq_left g, Int.natCast_mul]
        congr 1
        omega
      · left
        rw [Nat.min_eq_right g]
        have a := Int.mul_le_mul_of_nonneg_right (show ((B + 1 - T : Nat) : Int) ≤ n by omega) (show (0 : Int) ≤ (W : Int) by omega)
        rw [← Int.natCast_mul] at a
        exact ⟨Int.le_refl _, a⟩
    by_cases hT : T = 0
    · subst hT
      refine (l3Many_top B0 pb bx N cx B W Hb (min n.natAbs (B + 1 - 0)) r at' n f bs w st hcx hN h2 h12 hTB hB5 hBN hb h5 n.natAbs (by omega) (by omega) (by omega) rfl).mono ?_
      rintro e w' ⟨he, h1, h3⟩
      rw [show (max 0 (min n ((B : Int) + 1))).toNat = min n.natAbs (B + 1 - 0) by omega]
      exact ⟨he, h1.congr (fun i _ => scrollF_far far i), h3⟩
    · refine (l3Many_low B0 pb bx N cx T B W Hb (min n.natAbs (B + 1 - T)) r at' n f bs w st hcx hN h2 h12 hTB hB5 hBN hb h5 n.natAbs (by omega) (by omega) (by omega) rfl hT).mono ?_
      rintro e w' ⟨he, h1, h3⟩
      rw [scrollB_low hT]
      exact ⟨he, h1.congr (fun i _ => scrollF_far far i), h3⟩
end Go.Proofs.YtdekegjplegkeaaGreat

/- Where one may go on a screen that is pointed at: rowsToGo, goToRow, goToColumn of the program, l5Go of the model. -/
namespace Go.Proofs.YtdekegjplegkeaaGreat
set_option maxRecDepth 20000
open Go.ChangeShapes Go.WideShapes Go.ChangeAt Go.RowKit
set_option linter.unusedVariables false
set_option linter.unusedSimpArgs false
set_option maxRecDepth 20000

def rowLo (s : Scr) : Int := if s.org = true then s.top else 0
def rowHi (s : Scr) : Int := if s.org = true then s.bot else s.r - 1
def goRow (s : Scr) (y : Int) : Scr := { s with y := max (rowLo s) (min y (rowHi s)), wrap := false }
def goCol (s : Scr) (x : Int) : Scr := { s with x := max 0 (min x (s.wd - 1)), wrap := false }
theorem min_ite (a b : Int) : (if b < a then b else a) = min a b := by omega
theorem max_ite (a b : Int) : (if a < b then b else a) = max a b := by omega
theorem Turn.drewN {O : Nat → Prop} {b p q : Nat} {w w' : World} (h : Turn O b p q w w') (n : Nat) : Turn O b p q w (w'.drewN n) := ⟨h.os, h.tape, h.output, h.size, h.block, h.self⟩
set_option maxHeartbeats 400000 in
theorem lastRow_calls (s : Scr) (v1 v2 v3 v4 : Value) (b ob : Nat) (w : World) (s1 : 1 ≤ s.r) (s2 : s.r ≤ 6) (hB : Seg w b ob (scrA s v1 v2 v3 v4)) :
    Calls Tryz.prog 217 #[.pointer (some ⟨b, ob, none⟩)] w fun e w' => e = .returned (.int .i64 (s.r - 1)) ∧ w' = w := by
  have g0 := hB.at0 (scrA_0 s v1 v2 v3 v4)
  have hw : IntKind.i64.wrap (s.r - 1) = s.r - 1 := wrap_small (by omega) (by omega)
  clear hB
  go_enter Tryz.func217, Tryz.ntmps217
  go_wp2
  go_ret
  exact ⟨rfl, rfl⟩
set_option maxHeartbeats 400000 in
theorem lastColumn_calls (s : Scr) (v1 v2 v3 v4 : Value) (b ob : Nat) (w : World) (s3 : 2 ≤ s.wd) (s4 : s.wd ≤ 12) (hB : Seg w b ob (scrA s v1 v2 v3 v4)) :
    Calls Tryz.prog 171 #[.pointer (some ⟨b, ob, none⟩)] w fun e w' => e = .returned (.int .i64 (s.wd - 1)) ∧ w' = w := by
  have g0 := hB.at 1 (scrA_1 s v1 v2 v3 v4)
  have hw : IntKind.i64.wrap (s.wd - 1) = s.wd - 1 := wrap_small (by omega) (by omega)
  clear hB
  go_enter Tryz.func171, Tryz.ntmps171
  go_wp2
  go_ret
  exact ⟨rfl, rfl⟩
set_option maxHeartbeats 1000000 in
theorem rowsToGo_calls (s : Scr) (v1 v2 v3 v4 : Value) (b ob : Nat) (w : World) (s1 : 1 ≤ s.r) (s2 : s.r ≤ 6) (hB : Seg w b ob (scrA s v1 v2 v3 v4)) :
    Calls Tryz.prog 200 #[.pointer (some ⟨b, ob, none⟩)] w fun e w' => e = .returned (.tuple #[.int .i64 (rowLo s), .int .i64 (rowHi s)]) ∧ ∃ n, w' = w.drewN n := by
  have g8 := hB.at 8 (scrA_8 s v1 v2 v3 v4)
  have g9 := hB.at 9 (scrA_9 s v1 v2 v3 v4)
  have g10 := hB.at 10 (scrA_10 s v1 v2 v3 v4)
  unfold rowLo rowHi
  cases ho : s.org
  · rw [ho] at g10
    go_enter Tryz.func200, Tryz.ntmps200
    go_wp2_with (go_at_call 217; refine (lastRow_calls s v1 v2 v3 v4 b ob _ s1 s2 hB).mono ?_; rintro e w' ⟨rfl, hw⟩; rw [hw]; clear hw w')
    go_ret2
    exact ⟨rfl, 0, rfl⟩
  · rw [ho] at g10
    clear hB
    go_enter Tryz.func200, Tryz.ntmps200
    go_wp2_with fail
    go_quiet (fail)
    go_wp2
    go_ret2
    exact ⟨rfl, _, rfl⟩
set_option maxHeartbeats 1000000 in
theorem goToColumn_calls (s : Scr) (v1 v2 v3 v4 : Value) (b ob : Nat) (O : Nat → Prop) (x : Int) (w : World) (s3 : 2 ≤ s.wd) (s4 : s.wd ≤ 12) (hB : Seg w b ob (scrA s v1 v2 v3 v4)) :
    Calls Tryz.prog 138 #[.pointer (some ⟨b, ob, none⟩), .int .i64 x] w fun e w' => (∃ u, e = .returned u) ∧ Seg w' b ob (scrA (goCol s x) v1 v2 v3 v4) ∧ Turn O b ob (ob + 20) w w' := by
  obtain ⟨m, hm⟩ : ∃ m, min x (s.wd - 1) = m := ⟨_, rfl⟩
  obtain ⟨k, hk⟩ : ∃ k, max 0 m = k := ⟨_, rfl⟩
  have e1 : goCol s x = { s with x := k, wrap := false } := by unfold goCol; rw [hm, hk]
  rw [e1]
  have i1 : (if s.wd - 1 < x then s.wd - 1 else x) = m := by rw [min_ite, hm]
  have i2 : (if 0 < m then m else 0) = k := by rw [max_ite, hk]
  have hT := Turn.refl O b ob (ob + 20) w
  clear e1 hm hk
  go_enter Tryz.func138, Tryz.ntmps138
  go_wp2_with (first | (go_at_call 171; refine (lastColumn_calls s v1 v2 v3 v4 b ob _ s3 s4 hB).mono ?_; rintro e w' ⟨rfl, hw⟩; rw [hw]; clear hw w') | (refine wpList_store_seg rfl O 2 _ _ rfl b ob 5 (scrA s v1 v2 v3 v4) (.int .i64 k) hB rfl rfl rfl (by kernel_rfl) rfl ?_; (try simp only [Act.put, List.setIfInBounds_toArray, List.set_cons_zero, List.set_cons_succ]); intro w1 hB' tt; replace hT := hT.trans tt; clear hB tt; have hB : Seg w1 b ob (scrA { s with x := k } v1 v2 v3 v4) := hB'; clear hB') | (refine wpList_store_seg rfl O 4 _ _ rfl b ob 6 (scrA { s with x := k } v1 v2 v3 v4) (.bool false) hB rfl rfl rfl (by kernel_rfl) rfl ?_; (try simp only [Act.put, List.setIfInBounds_toArray, List.set_cons_zero, List.set_cons_succ]); intro w2 hB' tt; replace hT := hT.trans tt; clear hB tt; have hB : Seg w2 b ob (scrA { s with x := k, wrap := false } v1 v2 v3 v4) := hB'; clear hB'))
  go_end0
  exact ⟨⟨_, rfl⟩, hB, hT⟩
set_option maxHeartbeats 1000000 in
theorem goToRow_calls (s : Scr) (v1 v2 v3 v4 : Value) (b ob : Nat) (O : Nat → Prop) (y : Int) (w : World) (s1 : 1 ≤ s.r) (s2 : s.r ≤ 6) (hB : Seg w b ob (scrA s v1 v2 v3 v4)) :
    Calls Tryz.prog 137 #[.pointer (some ⟨b, ob, none⟩), .int .i64 y] w fun e w' => (∃ u, e = .returned u) ∧ Seg w' b ob (scrA (goRow s y) v1 v2 v3 v4) ∧ Turn O b ob (ob + 20) w w' := by
  obtain ⟨m, hm⟩ : ∃ m, min y (rowHi s) = m := ⟨_, rfl⟩
  obtain ⟨k, hk⟩ : ∃ k, max (rowLo s) m = k := ⟨_, rfl⟩
  have e1 : goRow s y = { s with y := k, wrap := false } := by unfold goRow; rw [hm, hk]
  rw [e1]
  have i1 : (if rowHi s < y then rowHi s else y) = m := by rw [min_ite, hm]
  have i2 : (if rowLo s < m then m else rowLo s) = k := by rw [max_ite, hk]
  have hT := Turn.refl O b ob (ob + 20) w
  clear e1 hm hk
  go_enter Tryz.func137, Tryz.ntmps137
  go_wp2_with (first | (go_at_call 200; refine (rowsToGo_calls s v1 v2 v3 v4 b ob _ s1 s2 hB).mono ?_; rintro e w' ⟨rfl, n, hw⟩; rw [hw]; clear hw w'; replace hB := hB.drewN n; replace hT := hT.drewN n) | (refine wpList_store_seg rfl O 2 _ _ rfl b ob 4 (scrA s v1 v2 v3 v4) (.int .i64 k) hB rfl rfl rfl (by kernel_rfl) rfl ?_; (try simp only [Act.put, List.setIfInBounds_toArray, List.set_cons_zero, List.set_cons_succ]); intro w1 hB' tt; replace hT := hT.trans tt; clear hB tt; have hB : Seg w1 b ob (scrA { s with y := k } v1 v2 v3 v4) := hB'; clear hB') | (refine wpList_store_seg rfl O 4 _ _ rfl b ob 6 (scrA { s with y := k } v1 v2 v3 v4) (.bool false) hB rfl rfl rfl (by kernel_rfl) rfl ?_; (try simp only [Act.put, List.setIfInBounds_toArray, List.set_cons_zero, List.set_cons_succ]); intro w2 hB' tt; replace hT := hT.trans tt; clear hB tt; have hB : Seg w2 b ob (scrA { s with y := k, wrap := false } v1 v2 v3 v4) := hB'; clear hB'))
  go_end0
  exact ⟨⟨_, rfl⟩, hB, hT⟩
end Go.Proofs.YtdekegjplegkeaaGreat

/- A range over an iterator that tells its rounds in order, and whose body may break off: the k-th round is met at the k-th values alone. The rows of a sheet so. -/
namespace Go.Proofs.YtdekegjplegkeaaGreat
set_option maxRecDepth 20000
open Go.ChangeShapes Go.WideShapes Go.ChangeAt Go.RowKit Go.Shelf
attribute [local go_sem] Oper.semAt_some
set_option linter.unusedVariables false
set_option linter.unusedSimpArgs false
set_option maxRecDepth 100000

/-- Behind a round's body: nothing of the loop's own blocks was turned; it went on, or it broke off by 'exit x'. -/
def Behind (B x : Nat) (I Ix : World → Prop) (W : World) (e : Exit) (_ : Act) (W' : World) : Prop :=
  (∀ j, B ≤ j → j < W.heap.size → W'.heap[j]? = W.heap[j]?) ∧ W.heap.size ≤ W'.heap.size ∧ ((e = .normal ∧ I W') ∨ (e = .exit x ∧ Ix W'))

theorem range_count {F : Fence} {n : Nat} {P : Program} {g : Operand} {ps : Array Tmp} {assign body : Code} {Q : Exit → Act → World → Prop} {a : Act} {w : World} (hro : F.round = none) (h1 : 1 ≤ n) {gf : Nat} {lb : Array Value}
    (hg : a.eval g = .func (.func gf) #[] lb) (hFg : F.fn gf) (eg : ∀ args w, (callFunc gf args).run P w = .ok (.enter gf args) w) (enc : Nat → Array Value) (hps : ∀ k, (enc k).size = ps.size) (H x : Nat) (I : Nat → World → Prop) (Ix : World → Prop)
    (hIb : ∀ k W W', I k W → Below W.heap.size W W' → I k W') (hIp : ∀ k W l o, I k W → w.heap.size ≤ l → I k (W.putObj l o)) (hXp : ∀ W l o, Ix W → w.heap.size ≤ l → Ix (W.putObj l o))
    (hiter : ∀ (l : Nat) (J : Nat → World → Prop) (Jx : World → Prop) (W : World), (∀ k W1, J k W1 → I k W1) → (∀ k W1 W2, J k W1 → Below W1.heap.size W1 W2 → J k W2) →
      (∀ k W1, k < H → J k W1 → YieldAt F (n - 1 - 1) P l (enc k) W1 fun e W' => (e = .returned (.bool true) ∧ J (k + 1) W') ∨ (e = .returned (.bool false) ∧ Jx W')) → J 0 W →
      CallsIn F (n - 1) P gf (#[.func (.yield l) #[] #[]] ++ lb) W fun e W' => (∃ v, e = .returned v) ∧ (J H W' ∨ Jx W'))
    (h0 : I 0 w) (a1 : Nat → Act)
    (hassign : ∀ (l k : Nat) (W : World) (K : Act → World → Prop), K (a1 k) W → assign.wpIn (F.inRound l) (n - 1 - 1) P (Exit.then K (fun _ _ _ => False)) { tmps := (ps.zip (enc k)).foldl (fun t (p, v) => t.setIfInBounds p v) a.tmps, defers := [] } W)
    (hbody : ∀ (l k : Nat) (W : World), k < H → I k W → body.wpIn (F.inRound l) (n - 1 - 1) P (Behind w.heap.size x (I (k + 1)) Ix W) (a1 k) W)
    (hdone : ∀ (D : Nat) (W : World), w.heap.size ≤ D → I H W → W.heap[D]? = some (.deferred (some [])) → Q .normal { a with defers := { target := .collected D, args := #[] } :: a.defers } W)
    (hstop : ∀ (D : Nat) (W : World), w.heap.size ≤ D → Ix W → W.heap[D]? = some (.deferred (some [])) → (Code.exit x).wpIn F n P Q { a with defers := { target := .collected D, args := #[] } :: a.defers } W) :
    (Code.rangeFunc g ps assign body).wpIn F n P Q a w := by
  refine wpIn_rangeFunc fun fn hfn => ?_
  rw [hro]
  obtain ⟨R, hR⟩ : ∃ R : LoopState → Option Code → Loop, R = fun s p => { state := s, pending := p, fn, tmps := a.tmps, params := ps, assign, body, defers := w.heap.size } := ⟨_, rfl⟩
  obtain ⟨V, hV⟩ : ∃ V, V = (w.alloc (.deferred (some []))).alloc (.loop (R .ready none)) := ⟨_, rfl⟩
  have vl : V.heap[w.heap.size + 1]? = some (.loop (R .ready none)) := by
    rw [hV]
    have h := World.alloc_heap_new (w.alloc (.deferred (some []))) (.loop (R .ready none))
    rwa [World.size_alloc] at h
  have vd : V.heap[w.heap.size]? = some (.deferred (some [])) := by
    rw [hV]
    exact (Below.heap_alloc _ _ _ (by simp)).trans (World.alloc_heap_new w _)
  have v0 : I 0 V := hIb 0 w V h0 (by rw [hV]; exact ((Below.refl _ _).alloc (Nat.le_refl _) _).alloc (by simp) _)
  have hlt : ∀ {W : World} {j : Nat} {o : Obj}, W.heap[j]? = some o → j < W.heap.size := fun h => (Array.getElem?_eq_some_iff.1 h).1
  refine ⟨w.heap.size + 1, [{ target := .collected w.heap.size, args := #[] }], V, { target := .fn (.func gf) lb, args := #[.func (.yield (w.heap.size + 1)) #[] #[]] }, V, gf, #[.func (.yield (w.heap.size + 1)) #[] #[]] ++ lb, V,
    by rw [hV, hR]; exact run_enterLoop_outer _ _ _ _ _, by simp only [resolve, hg]; simp [go_sem], fun f' hf => by simp [Target.leads] at hf; subst hf; exact hFg, by simp [invoke, go_sem, eg], fun _ => h1, ?_⟩
  refine (hiter (w.heap.size + 1) (fun k W => I k W ∧ W.heap[w.heap.size + 1]? = some (.loop (R .ready none)) ∧ W.heap[w.heap.size]? = some (.deferred (some [])))
    (fun W => Ix W ∧ W.heap[w.heap.size + 1]? = some (.loop (R .done (some (.exit x)))) ∧ W.heap[w.heap.size]? = some (.deferred (some []))) V (fun _ _ h => h.1)
    (fun k W1 W2 h hb => ⟨hIb k W1 W2 h.1 hb, (hb.block _ (hlt h.2.1)).trans h.2.1, (hb.block _ (hlt h.2.2)).trans h.2.2⟩) ?_ ⟨v0, vl, vd⟩).mono ?_
  · rintro k W hk ⟨hi, hl, hd⟩
    have hy := run_yield (P := P) (args := enc k) hl (by rw [hR]; exact hps k)
    rw [hR] at hy
    refine ⟨fn, _, assign, body, hy, roundIn_of_wpIn hfn (hassign _ k W _ ⟨_, run_beginRound hl (by rw [hR]), ?_⟩)⟩
    have sz : (W.putObj (w.heap.size + 1) (.loop { R .ready none with state := .busy })).heap.size = W.heap.size := by simp [World.putObj]
    refine wpIn_mono (hbody _ k _ hk (hIp k W _ _ hi (by omega))) ?_
    rintro e a3 W3 ⟨kp, ks, hx⟩
    have l3 : W3.heap[w.heap.size + 1]? = some (.loop { R .ready none with state := .busy }) := (kp _ (by omega) (by rw [sz]; exact hlt hl)).trans (World.putObj_heap_same (hlt hl))
    have d3 : W3.heap[w.heap.size]? = some (.deferred (some [])) := (kp _ (by omega) (by rw [sz]; exact hlt hd)).trans ((World.putObj_heap_other (by omega)).trans hd)
    have put : ∀ o : Obj, (W3.putObj (w.heap.size + 1) o).heap[w.heap.size + 1]? = some o ∧ (W3.putObj (w.heap.size + 1) o).heap[w.heap.size]? = some (.deferred (some [])) := fun o => ⟨World.putObj_heap_same (hlt l3), (World.putObj_heap_other (by omega)).trans d3⟩
    rcases hx with ⟨rfl, h⟩ | ⟨rfl, h⟩
    · have hr := run_endRound (P := P) none l3
      rw [hR] at hr
      exact ⟨_, _, hr, .inl ⟨rfl, hIp _ _ _ _ h (by omega), by rw [hR]; exact (put _).1, (put _).2⟩⟩
    · have hr := run_endRound (P := P) (some (.exit x)) l3
      rw [hR] at hr
      exact ⟨_, _, hr, .inr ⟨rfl, hXp _ _ _ h (by omega), by rw [hR]; exact (put _).1, (put _).2⟩⟩
  · rintro e W2 ⟨⟨v, rfl⟩, ⟨hi, hl, hd⟩ | ⟨hi, hl, hd⟩⟩
    · refine ⟨none, _, by have h := run_endLoop (P := P) hl (by rw [hR]; simp); rw [hR] at h; exact h, hdone _ _ (Nat.le_refl _) (hIp _ _ _ _ hi (by omega)) ((World.putObj_heap_other (by omega)).trans hd)⟩
    · refine ⟨some (.exit x), _, by have h := run_endLoop (P := P) hl (by rw [hR]; simp); rw [hR] at h; exact h, hstop _ _ (Nat.le_refl _) (hXp _ _ _ hi (by omega)) ((World.putObj_heap_other (by omega)).trans hd)⟩

/-- The k-th of the rows of m cells. -/
def rowAt (b off m cap : Nat) (k : Nat) : Array Value := #[.int .i64 (k : Int), .slice (some ⟨b, off + k * m * 2, none⟩) m (cap - k * m)]

set_option maxHeartbeats 2000000 in
theorem rows1_at (n : Nat) (l Bs b off m H N cap : Nat) (wd : Int) (a : Option Addr) (hN : N = H * m) (hwd : wd = (m : Int)) (hm : 1 ≤ m) (hm2 : m ≤ 1000) (hH : H ≤ 1000) (hc : N ≤ cap) (ha : 0 < N → a = some ⟨b, off, none⟩) (hN1 : N ≤ 1048576) (J : Nat → World → Prop) (Jx : World → Prop) (W : World)
    (hJb : ∀ k W1 W2, J k W1 → Below W1.heap.size W1 W2 → J k W2) (hJc : ∀ k W1, J k W1 → W1.cell? ⟨Bs, 0, none⟩ = some (.int .i64 wd) ∧ W1.cell? ⟨Bs, 1, none⟩ = some (.slice a N cap))
    (hY : ∀ k W1, k < H → J k W1 → YieldAt Fence.wide (n - 1) Tryz.prog l (rowAt b off m cap k) W1 fun e W' => (e = .returned (.bool true) ∧ J (k + 1) W') ∨ (e = .returned (.bool false) ∧ Jx W')) (h0 : J 0 W) :
    CallsIn Fence.wide n Tryz.prog 237 #[.func (.yield l) #[] #[], .pointer (some ⟨Bs, 0, none⟩)] W fun e W' => (∃ v, e = .returned v) ∧ (J H W' ∨ Jx W') := by
  have hq : (N : Int) / wd = (H : Int) := by rw [hN, hwd, Int.natCast_mul]; exact Int.mul_ediv_cancel _ (by omega)
  obtain ⟨c0, c1⟩ := hJc 0 W h0
  have HQ := hide hq
  have HN := hide hN
  have HWD := hide hwd
  have w1' : 1 ≤ wd := by omega
  have w2' : wd ≤ 1000 := by omega
  have HA := hide ha
  have HC := hide hJc
  have HYY := hide hY
  have HJB := hide hJb
  clear hq hN hwd ha hJc hY hJb
  refine callsIn_of_wp Tryz.func237 rfl trivial ?_ rfl
  simp only [Tryz.ntmps237, List.size_toArray, List.length_cons, List.length_nil, Nat.reduceAdd, Nat.reduceSub, Array.replicate_succ, Array.replicate_zero, List.push_toArray, List.append_toArray, List.nil_append, List.cons_append]
  gi_wp2
  refine ⟨trivial, fun h => by simp [Fence.wide] at h, (callsIn_wide.2 (height_calls wd w1' w2' a N cap hN1 _)).mono ?_⟩
  rintro e W2 ⟨rfl, hb2⟩
  rw [HQ.out]
  have h2 := hide (HJB.out 0 W W2 h0 hb2)
  clear hb2 c0 c1 h0
  gi_wp2
  gi_loopw [6] (fun i wr => ∃ k : Nat, k ≤ H ∧ i = .int .i64 k ∧ Hid (J k wr)) (fun i _ => H - (intOf i).toNat)
  case atStart => exact ⟨0, Nat.zero_le _, rfl, h2⟩
  case round =>
    obtain ⟨k, hk, rfl, hJs⟩ := hrel
    obtain ⟨d0, d1⟩ := HC.out k wr hJs.out
    clear h2
    by_cases hlt : k < H
    · have hltI : (k : Int) < (H : Int) := by omega
      have hkm : k * m + m ≤ N := by
        have h := Nat.mul_le_mul_right m (show k + 1 ≤ H by omega)
        rw [Nat.add_mul, ← HN.out] at h
        omega
      have hNp : 0 < N := by omega
      have hkw : (k : Int) * wd = ((k * m : Nat) : Int) := by rw [HWD.out, Int.natCast_mul]
      have HKW := hide hkw
      clear hkw
      gi_wp2
      refine ⟨trivial, fun h => by simp [Fence.wide] at h, (callsIn_wide.2 (row_calls wd k b off N cap (k * m) m (.slice a N cap) ⟨hc, a, rfl, HA.out⟩ HKW.out HWD.out (by omega) (by omega) hkm hN1 wr)).mono ?_⟩
      rintro e W3 ⟨v, rfl, ⟨hcv, av, rfl, hav⟩, hb3⟩
      obtain rfl := hav (by omega)
      have hJ3 := hide (HJB.out k wr W3 hJs.out hb3)
      clear hb3 hJs d0 d1
      obtain ⟨fn, tmps, assign, body, hy, hR⟩ := HYY.out k W3 hlt hJ3.out
      simp only [rowAt] at hy
      gi_wp2
      refine ⟨fun h => by simp [Fence.wide] at h, hR.mono ?_⟩
      rintro e W4 (⟨rfl, hJ4⟩ | ⟨rfl, hx4⟩)
      · have hJ4' := hide hJ4
        clear hJ4
        gi_wp2
        go_roundw
        case rel => exact ⟨k + 1, by omega, by go_num, hJ4'⟩
        case measure => simp [intOf]; omega
      · gi_wp2
        refine bodyPost_ret (results_none rfl _ _ _) rfl ?_
        exact ⟨⟨_, rfl⟩, .inr hx4⟩
    · obtain rfl : k = H := by omega
      have hge : ¬ ((k : Int) < (k : Int)) := by omega
      gi_wp2
      go_end0
      first
        | exact ⟨⟨_, rfl⟩, .inl hJs.out⟩
        | exact ⟨⟨_, rfl⟩, hJs.out⟩

end Go.Proofs.YtdekegjplegkeaaGreat

/- impl's sheets of another size: newSheet for any number of rows, resized. -/
namespace Go.Proofs.YtdekegjplegkeaaGreat
set_option maxRecDepth 20000
open Go.ChangeShapes Go.WideShapes Go.ChangeAt Go.RowKit Go.Shelf
attribute [local go_sem] Oper.semAt_some
set_option linter.unusedVariables false
set_option linter.unusedSimpArgs false
set_option maxRecDepth 100000

set_option maxHeartbeats 1000000 in
theorem newSheet_any (rows wd c g : Int) (n : Nat) (hn : rows * wd = (n : Int)) (hn1 : n ≤ 1048576) (w : World) :
    Calls Tryz.prog 224 #[.int .i64 rows, .int .i64 wd, .agg #[.int .i64 c, .int .i64 g]] w fun e w' => ∃ b, e = .returned (.agg #[.int .i64 wd, .slice (some ⟨b, 0, none⟩) n n]) ∧ w.heap.size ≤ b ∧ b < w'.heap.size ∧ Row w' b 0 n (fun _ => (c, g)) ∧ Below w.heap.size w w' := by
  obtain ⟨i0, hi, hz0, hz1, hz2⟩ := info_parts info_cell
  have hk : IntKind.i64.wrap (rows * wd) = (n : Int) := by rw [hn]; exact wrap_small (by omega) (by omega)
  have HN := hide hn
  clear hn
  go_enter Tryz.func224, Tryz.ntmps224
  go_wp2_with (at_make; refine wpList_make_full _ rfl (.tmp 11) (.tmp 11) 33 rfl (w.heap.size + 2) 193 i0 (.agg #[.int .i64 0, .int .i64 0]) 2 Tryz.underlying33 hi hz0 hz1 .i64 .i64 _ _ n rfl rfl rfl rfl ?c1 ?c2 ?c3 ?_)
  case c1 => rw [hz2]; omega
  case c2 => unfold maxLen; omega
  case c3 => simp
  intro w1 hown hgrow
  have hz := made_zeros n
  simp only [Value.cells] at hz
  rw [hz] at hown
  obtain ⟨x1, x2⟩ := hown.lt (w.heap.size + 2) rfl
  have hrow : Row w1 (w.heap.size + 2) 0 n (fun i => (List.replicate n (0, 0)).getD i (0, 0)) := by
    by_cases h0 : 0 < n
    · obtain ⟨b, cap, e1, _, _, _, _, hrow⟩ := own_row hown h0
      injection e1 with e1 e2 e3
      injection e1 with e1
      injection e1 with e1
      subst e1
      exact hrow
    · exact fun i hi => absurd hi (by omega)
  have hb1 : Below (w.heap.size + 2) ((w.alloc (.cells #[.int .i64 c, .int .i64 g] 193)).alloc (.cells #[.int .i64 0, .slice none 0 0] 217)) w1 := (Below.refl _ _).grown hgrow (by simp) (fun k hk => by cases hk)
  have C0 : w1.cell? ⟨w.heap.size, 0, none⟩ = some (.int .i64 c) := cellk hb1 (by omega) (by simp [go_sem])
  have C1 : w1.cell? ⟨w.heap.size, 1, none⟩ = some (.int .i64 g) := cellk hb1 (by omega) (by simp [go_sem])
  have R0 : w1.cell? ⟨w.heap.size + 1, 0, none⟩ = some (.int .i64 0) := cellk hb1 (by omega) (by simp [go_sem])
  have R1 : w1.cell? ⟨w.heap.size + 1, 1, none⟩ = some (.slice none 0 0) := cellk hb1 (by omega) (by simp [go_sem])
  have Z0 : w1.frozen? ⟨w.heap.size + 1, 0, none⟩ = false := by rw [hb1.frozen (p := ⟨w.heap.size + 1, 0, none⟩) (by simp)]; simp [go_sem]
  have Z1 : w1.frozen? ⟨w.heap.size + 1, 1, none⟩ = false := by rw [hb1.frozen (p := ⟨w.heap.size + 1, 1, none⟩) (by simp)]; simp [go_sem]
  have b1 : Below w.heap.size w w1 := (show Below w.heap.size w ((w.alloc (.cells #[.int .i64 c, .int .i64 g] 193)).alloc (.cells #[.int .i64 0, .slice none 0 0] 217)) from (by repeat' (first | with_reducible exact Below.refl _ _ | with_reducible assumption | with_reducible refine Below.drew ?_ | with_reducible refine Below.alloc ?_ ?_ _ | with_reducible refine Below.setCell ?_ ?_ _ | (simp; done) | (simp; omega) | omega))).trans (hb1.mono (by omega))
  have HR := hide hrow
  clear hown hgrow hb1 hz hrow
  have l1 : w.heap.size < w1.heap.size := by omega
  have hb2 : Below w1.heap.size w1 (w1.alloc (.cells #[.int .i64 wd, .slice (some ⟨w.heap.size + 2, 0, none⟩) n n] 217)) := (by repeat' (first | with_reducible exact Below.refl _ _ | with_reducible assumption | with_reducible refine Below.drew ?_ | with_reducible refine Below.alloc ?_ ?_ _ | with_reducible refine Below.setCell ?_ ?_ _ | (simp; done) | (simp; omega) | omega))
  have D0 := cellb hb2 C0
  have D1 := cellb hb2 C1
  go_wp2_with fail
  refine (fill_calls (w.heap.size + 2) 0 n n _ _ c g _ ⟨Nat.le_refl _, _, rfl, fun _ => rfl⟩ (HR.out.below hb2 x2) (by simp; omega) hn1).mono ?_
  rintro e w2 ⟨⟨u, rfl⟩, hr2, ht2⟩
  have S0 : w2.cell? ⟨w1.heap.size, 0, none⟩ = some (.int .i64 wd) := ht2.cellAt (by simp) (by omega)
  have S1 : w2.cell? ⟨w1.heap.size, 1, none⟩ = some (.slice (some ⟨w.heap.size + 2, 0, none⟩) n n) := ht2.cellAt (by simp) (by omega)
  replace R0 := ht2.cellAt (cellb hb2 R0) (by omega)
  replace R1 := ht2.cellAt (cellb hb2 R1) (by omega)
  replace Z0 := ht2.frozenAt (by simp; omega) ((hb2.frozen (p := ⟨w.heap.size + 1, 0, none⟩) (by simp; omega)).trans Z0)
  replace Z1 := ht2.frozenAt (by simp; omega) ((hb2.frozen (p := ⟨w.heap.size + 1, 1, none⟩) (by simp; omega)).trans Z1)
  have b2 : Below w.heap.size w w2 := b1.trans ((hb2.mono b1.size).trans (ht2.below (by omega) (by simp; omega)))
  have hs2 : w1.heap.size + 1 ≤ w2.heap.size := by have := ht2.size; simp at this; omega
  have H2 := hide hr2
  clear hr2 ht2 C0 C1 D0 D1
  obtain ⟨s0, s1⟩ := res2 (w := w2) (r := w.heap.size + 1) (.int .i64 wd) (.slice (some ⟨w.heap.size + 2, 0, none⟩) n n) R0 R1
  have t3 : Touch (w.heap.size + 1) 0 2 w2 ((w2.setCell ⟨w.heap.size + 1, 0, none⟩ (.int .i64 wd)).setCell ⟨w.heap.size + 1, 1, none⟩ (.slice (some ⟨w.heap.size + 2, 0, none⟩) n n)) := ((Touch.refl _ _ _ _).setCell (by omega) (by omega) _).setCell (by omega) (by omega) _
  have T3 := hide t3
  clear t3
  go_wp2
  refine bodyPost_ret (v := .agg #[.int .i64 wd, .slice (some ⟨w.heap.size + 2, 0, none⟩) n n]) (by simp only [results, Tryz.results224]; simp [go_sem, s0, s1]) rfl ⟨_, rfl, by omega, by have := T3.out.size; omega, H2.out.touch T3.out (by omega), b2.trans (T3.out.below (by omega) (by omega))⟩
/-- The cells of K rows of m cells in rows of m' cells: what is in both, blanks elsewhere. -/
def fitF (m m' K : Nat) (f : Nat → Int × Int) (bl : Int × Int) (i : Nat) : Int × Int := if i < K * m' ∧ i % m' < m then f (i / m' * m + i % m') else bl
theorem fitF_zero (m m' : Nat) (f : Nat → Int × Int) (bl : Int × Int) (i : Nat) : bl = fitF m m' 0 f bl i := by
  unfold fitF
  rw [if_neg (by omega)]
theorem fitF_step {m m' k : Nat} {f : Nat → Int × Int} {bl : Int × Int} (h : 0 < m') (i : Nat) : (if k * m' ≤ i ∧ i < k * m' + min m m' then f (k * m + (i - k * m')) else fitF m m' k f bl i) = fitF m m' (k + 1) f bl i := by
  unfold fitF
  have h1 : (k + 1) * m' = k * m' + m' := by rw [Nat.add_mul, Nat.one_mul]
  rw [h1]
  by_cases e : k * m' ≤ i ∧ i < k * m' + m'
  · have hd : i / m' = k := Nat.div_eq_of_lt_le e.1 (by rw [h1]; exact e.2)
    have hm := Nat.div_add_mod i m'
    rw [hd, Nat.mul_comm] at hm
    rw [hd]
    by_cases e2 : i < k * m' + min m m'
    · rw [if_pos ⟨e.1, e2⟩, if_pos (by omega), show k * m + (i - k * m') = k * m + i % m' by omega]
    · rw [if_neg (by omega), if_neg (by omega), if_neg (by omega)]
  · rw [if_neg (by omega)]
    by_cases e2 : i < k * m' ∧ i % m' < m
    · rw [if_pos e2, if_pos (by omega)]
    · rw [if_neg e2, if_neg (by omega)]
theorem Touch.putObj {b p q l : Nat} {o : Obj} {a w : World} (h : Touch b p q a w) (hl : a.heap.size ≤ l) (hb : b < a.heap.size) : Touch b p q a (w.putObj l o) := by
  have hne : ∀ k, k < a.heap.size → (w.putObj l o).heap[k]? = w.heap[k]? := fun k hk => World.putObj_heap_other (by omega)
  refine ⟨h.os, h.tape, h.output, by simp [World.putObj]; exact h.size, fun k hk hkb => (hne k hk).trans (h.block k hk hkb), fun o ho => ?_, fun o => ?_⟩
  · exact (World.cell?_of_block (w := w) (a := ⟨b, o, none⟩) (hne b hb)).trans (h.cell o ho)
  · exact (World.frozen?_of_block (w := w) (a := ⟨b, o, none⟩) (hne b hb)).trans (h.frozen o)

theorem wpListIn_copy2 {F : Fence} {nF : Nat} {P : Program} {w : World} {ops : Array Oper} {rest : List Oper} {o : Oper} {a : Act} {Q : Exit → Act → World → Prop} (hgd : o.guard = none) (d s : Operand) (dT sT : TypeId)
    (ho : o.op = .call { callee := .builtin .copy, args := #[d, s], argTypes := #[dT, sT] }) (elem : TypeId) (hu : P.underlying dT = some (.slice elem)) (hsz : (P.info? elem).map (·.size) = some 2)
    (dp sp : Option Addr) (dLen dCap sLen sCap m : Nat) (hd : a.eval d = .slice dp dLen dCap) (hs : a.eval s = .slice sp sLen sCap) (hm : m = Nat.min sLen dLen)
    (b off : Nat) (f : Nat → Int × Int) (hrow : Row w b off dLen f) (hdp : 0 < m → dp = some ⟨b, off, none⟩)
    (b' off' : Nat) (g : Nat → Int × Int) (hg : RowR w b' off' m g) (hsp : 0 < m → sp = some ⟨b', off', none⟩)
    (h : ∀ w', Row w' b off dLen (fun i => if i < m then g i else f i) → Touch b off (off + m * 2) w w' → wpListIn F nF P ops Q rest (a.put o.dst (goInt m)) w') :
    wpListIn F nF P ops Q (o :: rest) a w := by
  refine wpListIn_plain hgd fun K hK => ?_
  obtain ⟨w', hrun, h1, h2⟩ := run_copy2 (P := P) w dT sT o.type elem hu hsz dp sp dLen dCap sLen sCap m hm b off f hrow hdp b' off' g hg hsp
  unfold Oper.wpIn
  refine ⟨by simp [Oper.about, ho, resolve, Target.leads, Sem.run_pure], ?_⟩
  rw [Oper.semAt_plain F _ _ (by rw [ho]; intro c hc; cases hc)]
  simp [execOp, ho, resolve, invoke, builtin, hd, hs, hrun, Result.andThen]
  exact hK _ _ (h w' h1 h2)
/-- Between two rounds of resized: k rows are copied. -/
structure RzI (wL : World) (bo N' m W' R' : Nat) (c g : Int) (f : Nat → Int × Int) (k : Nat) (W : World) : Prop where
  touch : Touch bo 0 (N' * 2) wL W
  row : Row W bo 0 N' (fitF m W' k f (c, g))
  le : k ≤ R'
theorem RzI.below {wL W V : World} {bo N' m W' R' k : Nat} {c g : Int} {f : Nat → Int × Int} (h : RzI wL bo N' m W' R' c g f k W) (hb : bo < wL.heap.size) (hv : Below W.heap.size W V) : RzI wL bo N' m W' R' c g f k V :=
  have hs : bo < W.heap.size := Nat.lt_of_lt_of_le hb h.touch.size
  ⟨h.touch.trans (Touch.of_below hv (Nat.le_refl _) hs), h.row.below hv hs, h.le⟩
theorem RzI.putObj {wL W : World} {bo N' m W' R' k l : Nat} {o : Obj} {c g : Int} {f : Nat → Int × Int} (h : RzI wL bo N' m W' R' c g f k W) (hb : bo < wL.heap.size) (hl : wL.heap.size ≤ l) : RzI wL bo N' m W' R' c g f k (W.putObj l o) :=
  ⟨h.touch.putObj hl hb, h.row.block (World.putObj_heap_other (by omega)), h.le⟩

set_option maxHeartbeats 4000000 in
theorem resized_calls (wd rows width c g : Int) (b off H m N cap R' W' N' : Nat) (a : Option Addr) (f : Nat → Int × Int) (w : World) (hr : RowR w b off N f) (hN : N = H * m) (hwd : wd = (m : Int)) (hrw : rows = (R' : Int)) (hww : width = (W' : Int)) (hN' : N' = R' * W') (hm : 1 ≤ m) (hm2 : m ≤ 1000) (hH : H ≤ 1000) (hW1 : 1 ≤ W') (hW2 : W' ≤ 1000) (hR : R' ≤ 1000)
    (hc : N ≤ cap) (ha : 0 < N → a = some ⟨b, off, none⟩) (hN1 : N ≤ 100000) (hN2 : N' ≤ 100000) :
    Calls Tryz.prog 197 #[.agg #[.int .i64 wd, .slice a N cap], .int .i64 rows, .int .i64 width, .agg #[.int .i64 c, .int .i64 g]] w fun e w' => ∃ bo, e = .returned (.agg #[.int .i64 width, .slice (some ⟨bo, 0, none⟩) N' N']) ∧ w.heap.size ≤ bo ∧ bo < w'.heap.size ∧ Row w' bo 0 N' (fitF m W' (min R' H) f (c, g)) ∧ Below w.heap.size w w' := by
  have hmul : rows * width = (N' : Int) := by rw [hrw, hww, hN', Int.natCast_mul]
  have HR := hide hr
  have HN := hide hN
  have HW := hide hwd
  have HRW := hide hrw
  have HWW := hide hww
  have HN' := hide hN'
  have HA := hide ha
  have HMU := hide hmul
  clear hr hN hwd hrw hww hN' ha hmul
  refine (callsIn_wide (n := 5)).1 ?_
  refine callsIn_of_wp_marks Tryz.func197 rfl trivial ?_ rfl
  simp only [Tryz.ntmps197, List.size_toArray, List.length_cons, List.length_nil, Nat.reduceAdd, Nat.reduceSub, Array.replicate_succ, Array.replicate_zero, List.push_toArray, List.append_toArray, List.nil_append, List.cons_append]
  gi_wp2
  refine ⟨trivial, (callsIn_wide.2 (newSheet_any rows width c g N' HMU.out (by omega) _)).mono ?_⟩
  rintro e w1 ⟨bo, rfl, o1, o2, hro, hb1⟩
  have hbW0 : Below w.heap.size w ((((w.alloc (.cells #[.int .i64 wd, .slice a N cap] 217)).alloc (.cells #[.int .i64 rows] 2)).alloc (.cells #[.int .i64 c, .int .i64 g] 193)).alloc (.cells #[.int .i64 0, .slice none 0 0] 217)) := (by repeat' (first | with_reducible exact Below.refl _ _ | with_reducible assumption | with_reducible refine Below.drew ?_ | with_reducible refine Below.alloc ?_ ?_ _ | with_reducible refine Below.setCell ?_ ?_ _ | (simp; done) | (simp; omega) | omega))
  have sW0 : ((((w.alloc (.cells #[.int .i64 wd, .slice a N cap] 217)).alloc (.cells #[.int .i64 rows] 2)).alloc (.cells #[.int .i64 c, .int .i64 g] 193)).alloc (.cells #[.int .i64 0, .slice none 0 0] 217)).heap.size = w.heap.size + 4 := by simp
  have S0 : w1.cell? ⟨w.heap.size, 0, none⟩ = some (.int .i64 wd) := cellb hb1 (by simp [go_sem])
  have S1 : w1.cell? ⟨w.heap.size, 1, none⟩ = some (.slice a N cap) := cellb hb1 (by simp [go_sem])
  have Q0 : w1.cell? ⟨w.heap.size + 1, 0, none⟩ = some (.int .i64 rows) := cellb hb1 (by simp [go_sem])
  have R0 : w1.cell? ⟨w.heap.size + 3, 0, none⟩ = some (.int .i64 0) := cellb hb1 (by simp [go_sem])
  have R1 : w1.cell? ⟨w.heap.size + 3, 1, none⟩ = some (.slice none 0 0) := cellb hb1 (by simp [go_sem])
  have Z0 : w1.frozen? ⟨w.heap.size + 3, 0, none⟩ = false := by rw [hb1.frozen (p := ⟨w.heap.size + 3, 0, none⟩) (by simp)]; simp [go_sem]
  have Z1 : w1.frozen? ⟨w.heap.size + 3, 1, none⟩ = false := by rw [hb1.frozen (p := ⟨w.heap.size + 3, 1, none⟩) (by simp)]; simp [go_sem]
  have b1 : Below w.heap.size w w1 := hbW0.trans (hb1.mono (by omega))
  have hs1 : w.heap.size + 4 ≤ w1.heap.size := by have := hb1.size; omega
  have o1' : w.heap.size + 4 ≤ bo := by omega
  have HRO := hide hro
  clear hb1 hbW0 hro o1 sW0
  have hbA : Below w1.heap.size w1 (w1.alloc (.cells #[.int .i64 width, .slice (some ⟨bo, 0, none⟩) N' N'] 217)) := (by repeat' (first | with_reducible exact Below.refl _ _ | with_reducible assumption | with_reducible refine Below.drew ?_ | with_reducible refine Below.alloc ?_ ?_ _ | with_reducible refine Below.setCell ?_ ?_ _ | (simp; done) | (simp; omega) | omega))
  have S0a := cellb hbA S0
  have S1a := cellb hbA S1
  gi_wp2
  clear S0a S1a hbA
  refine ⟨trivial, (callsIn_wide.2 (rows_calls wd a N cap _)).mono ?_⟩
  rintro e w' ⟨rfl, rfl⟩
  have hbL : Below w1.heap.size w1 ((w1.alloc (.cells #[.int .i64 width, .slice (some ⟨bo, 0, none⟩) N' N'] 217)).alloc (.cells #[.int .i64 wd, .slice a N cap] 217)) := (by repeat' (first | with_reducible exact Below.refl _ _ | with_reducible assumption | with_reducible refine Below.drew ?_ | with_reducible refine Below.alloc ?_ ?_ _ | with_reducible refine Below.setCell ?_ ?_ _ | (simp; done) | (simp; omega) | omega))
  have q0 : ((w1.alloc (.cells #[.int .i64 width, .slice (some ⟨bo, 0, none⟩) N' N'] 217)).alloc (.cells #[.int .i64 wd, .slice a N cap] 217)).cell? ⟨w1.heap.size + 1, 0, none⟩ = some (.int .i64 wd) := by simp [go_sem]
  have q1 : ((w1.alloc (.cells #[.int .i64 width, .slice (some ⟨bo, 0, none⟩) N' N'] 217)).alloc (.cells #[.int .i64 wd, .slice a N cap] 217)).cell? ⟨w1.heap.size + 1, 1, none⟩ = some (.slice a N cap) := by simp [go_sem]
  have u0 : ((w1.alloc (.cells #[.int .i64 width, .slice (some ⟨bo, 0, none⟩) N' N'] 217)).alloc (.cells #[.int .i64 wd, .slice a N cap] 217)).cell? ⟨w1.heap.size, 0, none⟩ = some (.int .i64 width) := by simp [go_sem]
  have u1 : ((w1.alloc (.cells #[.int .i64 width, .slice (some ⟨bo, 0, none⟩) N' N'] 217)).alloc (.cells #[.int .i64 wd, .slice a N cap] 217)).cell? ⟨w1.heap.size, 1, none⟩ = some (.slice (some ⟨bo, 0, none⟩) N' N') := by simp [go_sem]
  have hsL : ((w1.alloc (.cells #[.int .i64 width, .slice (some ⟨bo, 0, none⟩) N' N'] 217)).alloc (.cells #[.int .i64 wd, .slice a N cap] 217)).heap.size = w1.heap.size + 2 := by simp
  have esz : (w1.alloc (.cells #[.int .i64 width, .slice (some ⟨bo, 0, none⟩) N' N'] 217)).heap.size = w1.heap.size + 1 := by simp
  rw [esz]
  clear esz
  generalize ((w1.alloc (.cells #[.int .i64 width, .slice (some ⟨bo, 0, none⟩) N' N'] 217)).alloc (.cells #[.int .i64 wd, .slice a N cap] 217)) = wL at *
  replace Q0 := cellb hbL Q0
  replace R0 := cellb hbL R0
  replace R1 := cellb hbL R1
  replace Z0 : wL.frozen? ⟨w.heap.size + 3, 0, none⟩ = false := by rw [hbL.frozen (p := ⟨w.heap.size + 3, 0, none⟩) (by simp; omega)]; exact Z0
  replace Z1 : wL.frozen? ⟨w.heap.size + 3, 1, none⟩ = false := by rw [hbL.frozen (p := ⟨w.heap.size + 3, 1, none⟩) (by simp; omega)]; exact Z1
  have b2 := b1.trans (hbL.mono b1.size)
  replace HRO := hide (HRO.out.below hbL o2)
  clear b1 hbL S0 S1
  gi_wp2
  have hblt : 0 < N → b < w.heap.size := fun h => HR.out.lt h
  have HRL := hide (fun (h : 0 < N) => HR.out.below b2 (hblt h))
  have boL : bo < wL.heap.size := by omega
  refine range_count rfl (by omega) (gf := 237) (lb := #[.pointer (some ⟨w1.heap.size + 1, 0, none⟩)]) rfl trivial (enters_of Tryz.func237 (by kernel_rfl) rfl) (rowAt b off m cap) (fun _ => rfl) H 0
    (fun k W => RzI wL bo N' m W' R' c g f k W) (fun W => RzI wL bo N' m W' R' c g f R' W ∧ R' ≤ H) (fun k W W' h hb => h.below boL hb) (fun k W l o h hl => h.putObj boL hl) (fun W l o h hl => ⟨h.1.putObj boL hl, h.2⟩)
    (fun l J Jx W hJI hJb hY h0 => rows1_at _ l (w1.heap.size + 1) b off m H N cap wd a HN.out HW.out hm hm2 hH hc HA.out (by omega) J Jx W hJb (fun k W1 hj => ⟨(hJI k W1 hj).touch.cellAt q0 (by omega), (hJI k W1 hj).touch.cellAt q1 (by omega)⟩) hY h0)
    ⟨Touch.refl _ _ _ _, HRO.out.congr (fun i _ => fitF_zero m W' f (c, g) i), Nat.zero_le _⟩
    (fun k => { tmps := #[.agg #[.int .i64 wd, .slice a N cap], .int .i64 rows, .int .i64 width, .agg #[.int .i64 c, .int .i64 g], .pointer (some ⟨w.heap.size, 0, none⟩), .pointer (some ⟨w.heap.size + 1, 0, none⟩), undef, .pointer (some ⟨w.heap.size + 1 + 1, 0, none⟩), .pointer (some ⟨w.heap.size + 1 + 1 + 1, 0, none⟩), .pointer (some ⟨w1.heap.size, 0, none⟩), .int .i64 (k : Int), .slice (some ⟨b, off + k * m * 2, none⟩) m (cap - k * m), .int .i64 rows, .int .i64 width, .agg #[.int .i64 c, .int .i64 g], .agg #[.int .i64 width, .slice (some ⟨bo, 0, none⟩) N' N'], .agg #[.int .i64 wd, .slice a N cap], .func (.func 237) #[] #[.pointer (some ⟨w1.heap.size + 1, 0, none⟩)], .int .i64 (k : Int), .slice (some ⟨b, off + k * m * 2, none⟩) m (cap - k * m), undef, undef, undef, undef, undef, undef, undef, undef, undef], defers := [] }) ?assign ?body ?done ?stop
  case assign =>
    intro l k W K hK
    simp only [rowAt]
    gi_wp2
    exact hK
  case body =>
    rintro l k W hk hI
    have ht := hI.touch
    have q2 := ht.cellAt Q0 (by omega)
    by_cases hkR : k = R'
    · subst hkR
      have hEq : ((k : Int) == rows) = true := by rw [HRW.out]; simp
      have HI := hide hI
      clear hI ht
      gi_wp2
      exact ⟨fun j _ _ => rfl, Nat.le_refl _, .inr ⟨rfl, HI.out, by omega⟩⟩
    · have hkl : k < R' := by have := hI.le; omega
      have hEq : ((k : Int) == rows) = false := by rw [HRW.out, beq_eq_false_iff_ne]; omega
      have v0 := ht.cellAt u0 (by omega)
      have v1 := ht.cellAt u1 (by omega)
      have hKW : k * W' + W' ≤ N' := by
        have h := Nat.mul_le_mul_right W' (show k + 1 ≤ R' by omega)
        rw [Nat.add_mul, Nat.one_mul, ← HN'.out] at h
        exact h
      have hKm : k * m + m ≤ N := by
        have h := Nat.mul_le_mul_right m (show k + 1 ≤ H by omega)
        rw [Nat.add_mul, Nat.one_mul, ← HN.out] at h
        exact h
      have HT := hide ht
      have HRW2 := hide hI.row
      have hWs : wL.heap.size ≤ W.heap.size := ht.size
      clear hI ht
      gi_wp2
      refine ⟨trivial, CallsIn.inRound l ((callsIn_wide.2 (row_calls width (k : Int) bo 0 N' N' (k * W') W' _ ⟨Nat.le_refl _, _, rfl, fun _ => rfl⟩ (by rw [HWW.out, Int.natCast_mul]) HWW.out (by omega) (by omega) hKW (by omega) W)).mono ?_)⟩
      rintro e W3 ⟨v, rfl, ⟨hcv, av, rfl, hav⟩, hb3⟩
      obtain rfl := hav (by omega)
      rw [Nat.zero_add]
      have hs3 : W.heap.size ≤ W3.heap.size := hb3.size
      have R3 := hide (HRW2.out.below hb3 (by omega))
      have T3 := hide (HT.out.trans (Touch.of_below hb3 (Nat.le_refl _) (by omega)))
      have B3 := hide hb3
      clear hb3 HT HRW2
      obtain ⟨W4, hrun, hr4, ht4⟩ := run_copy2 (P := Tryz.prog) W3 33 33 3 193 Tryz.underlying33 cell_size2 (some ⟨bo, k * W' * 2, none⟩) (some ⟨b, off + k * m * 2, none⟩) W' (N' - k * W') m (cap - k * m) (min m W') rfl bo (k * W' * 2) (fun i => fitF m W' k f (c, g) (k * W' + i)) (by have h := R3.out.sub (k * W') W' hKW; rw [Nat.zero_add] at h; exact h) (fun _ => rfl) b (off + k * m * 2) (fun i => f (k * m + i)) (((HRL.out (by omega)).touch T3.out (by have := hblt (by omega); omega)).sub (k * m) (min m W') (by omega)) (fun _ => rfl)
      have R4 := hide hr4
      have T4 := hide ht4
      clear hr4 ht4
      gi_wp2
      have h4 := T4.out
      have h5 : Touch bo 0 (N' * 2) W3 W4 := h4.mono (Nat.zero_le _) (by omega)
      refine ⟨fun j h1 h2 => ?_, Nat.le_trans hs3 h4.size, .inl ⟨rfl, ⟨T3.out.trans h5, (R3.out.join (k := k * W') (m := W') (by rw [Nat.zero_add, Nat.zero_add, Nat.add_mul]; exact h4.mono (Nat.le_refl _) (by omega)) (by rw [Nat.zero_add]; exact R4.out) hKW).congr (fun i hi => ?_), by omega⟩⟩⟩
      · exact (h4.block j (by omega) (by omega)).trans (B3.out.block j h2)
      · rw [← fitF_step (by omega)]
        by_cases e : k * W' ≤ i ∧ i < k * W' + W'
        · rw [if_pos e]
          by_cases e2 : i - k * W' < min m W'
          · rw [if_pos e2, if_pos (by omega)]
          · rw [if_neg e2, if_neg (by omega), show k * W' + (i - k * W') = i by omega]
        · rw [if_neg e, if_neg (by omega)]
  case done =>
    rintro D W hD hI hK
    have hle := hI.le
    have ht := hI.touch
    have HRR := hide hI.row
    have HKK := hide hK
    have V0 := ht.cellAt u0 (by omega)
    have V1 := ht.cellAt u1 (by omega)
    replace R0 := ht.cellAt R0 (by omega)
    replace R1 := ht.cellAt R1 (by omega)
    replace Z0 := ht.frozenAt (by omega) Z0
    replace Z1 := ht.frozenAt (by omega) Z1
    have hWs : wL.heap.size ≤ W.heap.size := ht.size
    have bW := hide (b2.trans (ht.below (B := w.heap.size) (by omega) (by omega)))
    obtain ⟨s0, s1⟩ := res2 (w := W) (r := w.heap.size + 3) (.int .i64 width) (.slice (some ⟨bo, 0, none⟩) N' N') R0 R1
    have hKN : D < W.heap.size := (Array.getElem?_eq_some_iff.1 hK).1
    have hK2 := ((KeepsOthers.setCell W ⟨w.heap.size + 3, 0, none⟩ (.int .i64 width)).trans (KeepsOthers.setCell _ ⟨w.heap.size + 3, 1, none⟩ (.slice (some ⟨bo, 0, none⟩) N' N'))).same D _ HKK.out rfl
    have t3 : Touch (w.heap.size + 3) 0 2 W ((W.setCell ⟨w.heap.size + 3, 0, none⟩ (.int .i64 width)).setCell ⟨w.heap.size + 3, 1, none⟩ (.slice (some ⟨bo, 0, none⟩) N' N')) := ((Touch.refl _ _ _ _).setCell (by omega) (by omega) _).setCell (by omega) (by omega) _
    have T3 := hide t3
    have KK2 := hide hK2
    clear ht hI hK t3 hK2 u0 u1 q0 q1
    gi_wp2
    rw [show w.heap.size + 1 + 1 + 1 = w.heap.size + 3 from rfl]
    have hK2 := KK2.out
    have t3 := T3.out
    generalize ((W.setCell ⟨w.heap.size + 3, 0, none⟩ (.int .i64 width)).setCell ⟨w.heap.size + 3, 1, none⟩ (.slice (some ⟨bo, 0, none⟩) N' N')) = W3 at *
    refine ⟨by simp, .inl ⟨_, _, rfl, run_takeDeferred hK2, ?_⟩⟩
    have hrow : ∀ r, some D = some r → ∃ o : Obj, W3.heap[r]? = some o ∧ o.isCells = false := by
      rintro r e
      injection e with e
      subst e
      exact ⟨_, hK2, rfl⟩
    have t0 := cell_kept s0 (grownBy_putObj' W3 D (.deferred none)) hrow
    have t1 := cell_kept s1 (grownBy_putObj' W3 D (.deferred none)) hrow
    have hsz : W.heap.size ≤ (W3.putObj D (.deferred none)).heap.size := by simp [World.putObj]; exact t3.size
    rw [show min R' H = H by omega]
    refine ⟨_, ?_, bo, rfl, by omega, by omega, ?_, ?_⟩
    · simp [results, Tryz.results197, go_sem, t0, t1]
    · exact (HRR.out.touch t3 (by omega)).block (World.putObj_heap_other (by omega))
    · refine (bW.out.trans (t3.below (by omega) (by omega))).trans ?_
      have hgp := grownBy_putObj' W3 D (.deferred none)
      exact ⟨hgp.os, hgp.tape, hgp.output, hgp.size, fun j hj => World.putObj_heap_other (by omega)⟩
  case stop =>
    rintro D W hD ⟨hI, hRH⟩ hK
    have ht := hI.touch
    have HRR := hide hI.row
    have HKK := hide hK
    have V0 := ht.cellAt u0 (by omega)
    have V1 := ht.cellAt u1 (by omega)
    replace R0 := ht.cellAt R0 (by omega)
    replace R1 := ht.cellAt R1 (by omega)
    replace Z0 := ht.frozenAt (by omega) Z0
    replace Z1 := ht.frozenAt (by omega) Z1
    have hWs : wL.heap.size ≤ W.heap.size := ht.size
    have bW := hide (b2.trans (ht.below (B := w.heap.size) (by omega) (by omega)))
    obtain ⟨s0, s1⟩ := res2 (w := W) (r := w.heap.size + 3) (.int .i64 width) (.slice (some ⟨bo, 0, none⟩) N' N') R0 R1
    have hKN : D < W.heap.size := (Array.getElem?_eq_some_iff.1 hK).1
    have hK2 := ((KeepsOthers.setCell W ⟨w.heap.size + 3, 0, none⟩ (.int .i64 width)).trans (KeepsOthers.setCell _ ⟨w.heap.size + 3, 1, none⟩ (.slice (some ⟨bo, 0, none⟩) N' N'))).same D _ HKK.out rfl
    have t3 : Touch (w.heap.size + 3) 0 2 W ((W.setCell ⟨w.heap.size + 3, 0, none⟩ (.int .i64 width)).setCell ⟨w.heap.size + 3, 1, none⟩ (.slice (some ⟨bo, 0, none⟩) N' N')) := ((Touch.refl _ _ _ _).setCell (by omega) (by omega) _).setCell (by omega) (by omega) _
    have T3 := hide t3
    have KK2 := hide hK2
    clear ht hI hK t3 hK2 u0 u1 q0 q1
    gi_wp2
    rw [show w.heap.size + 1 + 1 + 1 = w.heap.size + 3 from rfl]
    have hK2 := KK2.out
    have t3 := T3.out
    generalize ((W.setCell ⟨w.heap.size + 3, 0, none⟩ (.int .i64 width)).setCell ⟨w.heap.size + 3, 1, none⟩ (.slice (some ⟨bo, 0, none⟩) N' N')) = W3 at *
    refine ⟨by simp, .inl ⟨_, _, rfl, run_takeDeferred hK2, ?_⟩⟩
    have hrow : ∀ r, some D = some r → ∃ o : Obj, W3.heap[r]? = some o ∧ o.isCells = false := by
      rintro r e
      injection e with e
      subst e
      exact ⟨_, hK2, rfl⟩
    have t0 := cell_kept s0 (grownBy_putObj' W3 D (.deferred none)) hrow
    have t1 := cell_kept s1 (grownBy_putObj' W3 D (.deferred none)) hrow
    have hsz : W.heap.size ≤ (W3.putObj D (.deferred none)).heap.size := by simp [World.putObj]; exact t3.size
    rw [show min R' H = R' by omega]
    refine ⟨_, ?_, bo, rfl, by omega, by omega, ?_, ?_⟩
    · simp [results, Tryz.results197, go_sem, t0, t1]
    · exact (HRR.out.touch t3 (by omega)).block (World.putObj_heap_other (by omega))
    · refine (bW.out.trans (t3.below (by omega) (by omega))).trans ?_
      have hgp := grownBy_putObj' W3 D (.deferred none)
      exact ⟨hgp.os, hgp.tape, hgp.output, hgp.size, fun j hj => World.putObj_heap_other (by omega)⟩
end Go.Proofs.YtdekegjplegkeaaGreat

/- What ResizeGrid answers, of the program. -/
namespace Go.Proofs.YtdekegjplegkeaaGreat
set_option maxRecDepth 20000
open Go.ChangeShapes Go.WideShapes Go.ChangeAt Go.RowKit
set_option linter.unusedVariables false
set_option linter.unusedSimpArgs false
set_option maxRecDepth 20000

def resizeRes (r wd : Int) (cs bs : List (Int × Int)) (rows width : Int) : GRes := gres r wd cs bs (sizeB rows width) ⟨0, rows, width, mkL (rows.toNat * width.toNat) (fitF wd.toNat width.toNat (min rows.toNat r.toNat) (fun i => cs.getD i (0, 0)) (32, 0)), mkL (bs.length / wd.toNat * width.toNat) (fitF wd.toNat width.toNat (bs.length / wd.toNat) (fun i => bs.getD i (0, 0)) (32, 0))⟩
theorem resizeRes_def (r wd : Int) (cs bs : List (Int × Int)) (rows width : Int) : resizeRes r wd cs bs rows width = gres r wd cs bs (sizeB rows width) ⟨0, rows, width, mkL (rows.toNat * width.toNat) (fitF wd.toNat width.toNat (min rows.toNat r.toNat) (fun i => cs.getD i (0, 0)) (32, 0)), mkL (bs.length / wd.toNat * width.toNat) (fitF wd.toNat width.toNat (bs.length / wd.toNat) (fun i => bs.getD i (0, 0)) (32, 0))⟩ := rfl
/-- A resize of a grid without a fault, in naturals. -/
theorem resize_nats {r wd rows width : Int} {cs bs : List (Int × Int)} (h : GFine r wd cs bs) (hs : sizeB rows width = true) : ∃ R W R' W' Hb N' M' : Nat, r = (R : Int) ∧ wd = (W : Int) ∧ rows = (R' : Int) ∧ width = (W' : Int) ∧ 1 ≤ R ∧ R ≤ 6 ∧ 2 ≤ W ∧ W ≤ 12 ∧ 1 ≤ R' ∧ R' ≤ 6 ∧ 2 ≤ W' ∧ W' ≤ 12 ∧ Hb ≤ 5 ∧ N' ≤ 72 ∧ M' ≤ 60 ∧ 0 < N' ∧ cs.length = R * W ∧ bs.length = Hb * W ∧ bs.length / W = Hb ∧ N' = R' * W' ∧ M' = Hb * W' := by
  obtain ⟨R, W, rfl, rfl, n1, n2, n3, n4, n5, n6, n7, n8, n9, n10⟩ := h.nats
  obtain ⟨s1, s2, s3, s4, s5, s6⟩ := size_mul hs
  obtain ⟨R', rfl⟩ : ∃ X : Nat, rows = X := ⟨rows.toNat, by omega⟩
  obtain ⟨W', rfl⟩ : ∃ X : Nat, width = X := ⟨width.toNat, by omega⟩
  have hd : bs.length = bs.length / W * W := (Nat.div_mul_cancel (Nat.dvd_of_mod_eq_zero n7)).symm
  have hh : bs.length / W ≤ 5 := Nat.div_le_of_le_mul (by rw [Nat.mul_comm]; exact n6)
  have a1 : R' * W' ≤ 6 * W' := Nat.mul_le_mul_right W' (by omega)
  have a2 : 1 * W' ≤ R' * W' := Nat.mul_le_mul_right W' (by omega)
  have a3 : bs.length / W * W' ≤ 5 * W' := Nat.mul_le_mul_right W' hh
  exact ⟨R, W, R', W', bs.length / W, R' * W', bs.length / W * W', rfl, rfl, rfl, rfl, n1, n2, n3, n4, by omega, by omega, by omega, by omega, hh, by omega, by omega, by omega, n5, hd, rfl, rfl, rfl⟩
theorem resizeRes_len (r wd : Int) (cs bs : List (Int × Int)) (rows width : Int) : (resizeRes r wd cs bs rows width).cs.length ≤ 72 ∧ (resizeRes r wd cs bs rows width).bs.length ≤ 60 := by
  by_cases hs : sizeB rows width = true
  · refine gres_len (fun h => ?_)
    obtain ⟨R, W, R', W', Hb, N', M', rfl, rfl, rfl, rfl, _, _, _, _, _, _, _, _, _, n1, n2, _, _, _, n3, n4, n5⟩ := resize_nats h hs
    simp only [mkL_length, Int.toNat_natCast, n3, ← n4, ← n5]
    exact ⟨n1, n2⟩
  · rw [resizeRes_def, Bool.eq_false_iff.2 hs]
    by_cases hG : gridCode r wd cs bs = 0
    · rw [gres_bad hG rfl]; exact ⟨by simp [gbad], by simp [gbad]⟩
    · rw [gres_fault hG]; exact ⟨by simp [gbad], by simp [gbad]⟩
theorem own_rowr {w : World} {base n : Nat} {e : TypeId} {a : Option Addr} {cap : Nat} {xs : List (Int × Int)} (h : w.ownsRow base e 2 (.slice a n cap) n (pvs xs)) : ∃ b, RowR w b 0 n (fun i => xs.getD i (0, 0)) ∧ (0 < n → a = some ⟨b, 0, none⟩) ∧ (0 < n → b < w.heap.size) := by
  by_cases h0 : 0 < n
  · obtain ⟨b, c, e1, _, _, _, h2, hr⟩ := own_row h h0
    injection e1 with e1
    exact ⟨b, hr.read, fun _ => e1, fun _ => h2⟩
  · exact ⟨0, fun i hi => absurd hi (by omega), fun h => absurd h h0, fun h => absurd h h0⟩
/-- What a result holds, whose lists lie in two blocks. -/
theorem gown_two {w w' : World} {base bx by' n m cx cy : Nat} {F G : Nat → Int × Int} (hr : Row w bx 0 n F) (hg : Row w by' 0 m G) (h1 : base ≤ bx) (h2 : bx < by') (h3 : by' < w.heap.size) (hs : w.heap.size ≤ w'.heap.size) (hk : ∀ k, k < w.heap.size → w'.heap[k]? = w.heap[k]? ∨ k < base) :
    GOwn base w'.heap.size w' (.slice (some ⟨bx, 0, none⟩) n cx) (.slice (some ⟨by', 0, none⟩) m cy) (mkL n F) (mkL m G) := by
  have p1 : PairsAt bx (bx + 1) w (.slice (some ⟨bx, 0, none⟩) n cx) (mkL n F) := PairsAt.of_row hr (Nat.le_refl _) (Nat.lt_succ_self _)
  have p2 : PairsAt by' (by' + 1) w (.slice (some ⟨by', 0, none⟩) m cy) (mkL m G) := PairsAt.of_row hg (Nat.le_refl _) (Nat.lt_succ_self _)
  refine ((GOwn.of (lo := base) (hi := w.heap.size) p1 p2 h1 (by omega) (by omega) (by omega) (.inl (by omega))).of_blocks (fun i h1 h2 => ?_)).mono (Nat.le_refl _) hs
  rcases hk i h2 with h | h
  · exact h
  · omega

theorem rowr_below {w w' : World} {b off n : Nat} {f : Nat → Int × Int} (h : RowR w b off n f) (hb : Below w.heap.size w w') (hl : 0 < n → b < w.heap.size) : RowR w' b off n f := by
  by_cases h0 : 0 < n
  · exact h.below hb (hl h0)
  · exact fun i hi => absurd hi (by omega)

set_option maxHeartbeats 2000000 in
theorem implResizeGrid_calls (r wd : Int) (cs bs : List (Int × Int)) (rows width : Int) (v1 v2 : Value) (w : World) (hn1 : cs.length ≤ 1048576) (hn2 : bs.length ≤ 1048576) (h1 : PRead w v1 cs) (h2 : PRead w v2 bs) :
    Calls Tryz.prog 136 #[.agg #[.int .i64 r, .int .i64 wd, v1, v2], .int .i64 rows, .int .i64 width] w fun e w' => ∃ v5 v6, e = .returned (.agg #[.int .i64 (resizeRes r wd cs bs rows width).code, .int .i64 (resizeRes r wd cs bs rows width).rows, .int .i64 (resizeRes r wd cs bs rows width).wd, v5, v6]) ∧ GOwn w.heap.size w'.heap.size w' v5 v6 (resizeRes r wd cs bs rows width).cs (resizeRes r wd cs bs rows width).bs ∧ Below w.heap.size w w' := by
  have h1' := h1
  obtain ⟨a1, c1, rfl, hx1⟩ := h1'
  clear hx1
  have h2' := h2
  obtain ⟨a2, c2, rfl, hx2⟩ := h2'
  clear hx2
  have hb0 : Below w.heap.size w ((w.alloc (.cells #[.int .i64 r, .int .i64 wd, .slice a1 cs.length c1, .slice a2 bs.length c2] 35)).alloc (.cells #[.int .i64 0, .int .i64 0, .int .i64 0, .slice none 0 0, .slice none 0 0] 185)) := (by repeat' (first | with_reducible exact Below.refl _ _ | with_reducible assumption | with_reducible refine Below.drew ?_ | with_reducible refine Below.alloc ?_ ?_ _ | with_reducible refine Below.setCell ?_ ?_ _ | (simp; done) | (simp; omega) | omega))
  have HF := implGridFault_calls r wd cs bs _ _ ((w.alloc (.cells #[.int .i64 r, .int .i64 wd, .slice a1 cs.length c1, .slice a2 bs.length c2] 35)).alloc (.cells #[.int .i64 0, .int .i64 0, .int .i64 0, .slice none 0 0, .slice none 0 0] 185)) hn1 hn2 (h1.below hb0) (h2.below hb0)
  by_cases hG : gridCode r wd cs bs = 0
  · cases k0 : sizeB rows width with
    | false =>
      rw [resizeRes_def, gres_bad hG (by exact k0)]
      rw [hG] at HF
      simp only [gbad]
      go_enter Tryz.func136, Tryz.ntmps136
      go_wp2_with fail
      refine HF.mono ?_
      rintro e w1 ⟨rfl, hb1⟩
      have A0 : w1.cell? ⟨w.heap.size, 0, none⟩ = some (.int .i64 r) := cellb hb1 (by simp [go_sem])
      have A1 : w1.cell? ⟨w.heap.size, 1, none⟩ = some (.int .i64 wd) := cellb hb1 (by simp [go_sem])
      have A2 : w1.cell? ⟨w.heap.size, 2, none⟩ = some (.slice a1 cs.length c1) := cellb hb1 (by simp [go_sem])
      have A3 : w1.cell? ⟨w.heap.size, 3, none⟩ = some (.slice a2 bs.length c2) := cellb hb1 (by simp [go_sem])
      have R0 : w1.cell? ⟨w.heap.size + 1, 0, none⟩ = some (.int .i64 0) := cellb hb1 (by simp [go_sem])
      have Z0 : w1.frozen? ⟨w.heap.size + 1, 0, none⟩ = false := by rw [hb1.frozen (p := ⟨w.heap.size + 1, 0, none⟩) (by simp)]; simp [go_sem]
      have R1 : w1.cell? ⟨w.heap.size + 1, 1, none⟩ = some (.int .i64 0) := cellb hb1 (by simp [go_sem])
      have Z1 : w1.frozen? ⟨w.heap.size + 1, 1, none⟩ = false := by rw [hb1.frozen (p := ⟨w.heap.size + 1, 1, none⟩) (by simp)]; simp [go_sem]
      have R2 : w1.cell? ⟨w.heap.size + 1, 2, none⟩ = some (.int .i64 0) := cellb hb1 (by simp [go_sem])
      have Z2 : w1.frozen? ⟨w.heap.size + 1, 2, none⟩ = false := by rw [hb1.frozen (p := ⟨w.heap.size + 1, 2, none⟩) (by simp)]; simp [go_sem]
      have R3 : w1.cell? ⟨w.heap.size + 1, 3, none⟩ = some (.slice none 0 0) := cellb hb1 (by simp [go_sem])
      have Z3 : w1.frozen? ⟨w.heap.size + 1, 3, none⟩ = false := by rw [hb1.frozen (p := ⟨w.heap.size + 1, 3, none⟩) (by simp)]; simp [go_sem]
      have R4 : w1.cell? ⟨w.heap.size + 1, 4, none⟩ = some (.slice none 0 0) := cellb hb1 (by simp [go_sem])
      have Z4 : w1.frozen? ⟨w.heap.size + 1, 4, none⟩ = false := by rw [hb1.frozen (p := ⟨w.heap.size + 1, 4, none⟩) (by simp)]; simp [go_sem]
      have hs1 : w.heap.size + 2 ≤ w1.heap.size := by have := hb1.size; simp at this; omega
      have b1 : Below w.heap.size w w1 := hb0.trans (hb1.mono (by simp; omega))
      clear hb1 hb0 HF
      go_wp2_with (first
        | (go_at_call 164; refine (isSize_calls _ _ _).mono ?_; rintro e w' ⟨rfl, hw⟩; rw [hw, k0]; clear hw w'))
      have hr := res5 (w := w1) (r := w.heap.size + 1) (.int .i64 3) (.int .i64 0) (.int .i64 0) (.slice none 0 0) (.slice none 0 0) R0 R1 R2 R3 R4
      go_wp2
      refine bodyPost_ret (v := .agg #[.int .i64 3, .int .i64 0, .int .i64 0, .slice none 0 0, .slice none 0 0]) (by simp only [results, Tryz.results136]; simp [go_sem, hr.1, hr.2.1, hr.2.2.1, hr.2.2.2.1, hr.2.2.2.2]) rfl ⟨_, _, rfl, ?_, b1.trans (show Below w.heap.size w1 _ from (by repeat' (first | with_reducible exact Below.refl _ _ | with_reducible assumption | with_reducible refine Below.drew ?_ | with_reducible refine Below.alloc ?_ ?_ _ | with_reducible refine Below.setCell ?_ ?_ _ | (simp; done) | (simp; omega) | omega)))⟩
      exact GOwn.nil _ _ _ (by have := b1.size; simp [World.setCell]; omega)
    | true =>
      rw [resizeRes_def, gres_ok hG k0]
      rw [hG] at HF
      have hfine := gfine_of_code hG
      obtain ⟨n1, n2, hq, n8, n9, n10⟩ := hfine.short
      obtain ⟨R, W, R', W', Hb, N', M', eR, eW, rfl, rfl, p1, p2, p3, p4, p5, p6, p7, p8, p9, p10, p11, p12, e1, e2, e3, e4, e5⟩ := resize_nats hfine k0
      clear hfine hG
      have eW' : wd.toNat = W := by omega
      have eR' : r.toNat = R := by omega
      simp only [eW', eR', Int.toNat_natCast, e3, ← e4, ← e5]
      have EW := hide eW
      have E1 := hide e1
      have E2 := hide e2
      have E4 := hide e4
      have E5 := hide e5
      have eq1 : ((N' : Nat) : Int) / (W' : Int) = (R' : Int) := by rw [e4]; exact rows_back (by omega)
      have EQ1 := hide eq1
      have eq2 : (bs.length : Int) / wd = (Hb : Int) := by rw [e2, eW]; exact rows_back (by omega)
      have EQ2 := hide eq2
      clear eW eW' eR eR' e1 e2 e3 e4 e5 eq1 eq2
      go_enter Tryz.func136, Tryz.ntmps136
      go_wp2_with fail
      refine HF.mono ?_
      rintro e w1 ⟨rfl, hb1⟩
      have A0 : w1.cell? ⟨w.heap.size, 0, none⟩ = some (.int .i64 r) := cellb hb1 (by simp [go_sem])
      have A1 : w1.cell? ⟨w.heap.size, 1, none⟩ = some (.int .i64 wd) := cellb hb1 (by simp [go_sem])
      have A2 : w1.cell? ⟨w.heap.size, 2, none⟩ = some (.slice a1 cs.length c1) := cellb hb1 (by simp [go_sem])
      have A3 : w1.cell? ⟨w.heap.size, 3, none⟩ = some (.slice a2 bs.length c2) := cellb hb1 (by simp [go_sem])
      have R0 : w1.cell? ⟨w.heap.size + 1, 0, none⟩ = some (.int .i64 0) := cellb hb1 (by simp [go_sem])
      have Z0 : w1.frozen? ⟨w.heap.size + 1, 0, none⟩ = false := by rw [hb1.frozen (p := ⟨w.heap.size + 1, 0, none⟩) (by simp)]; simp [go_sem]
      have R1 : w1.cell? ⟨w.heap.size + 1, 1, none⟩ = some (.int .i64 0) := cellb hb1 (by simp [go_sem])
      have Z1 : w1.frozen? ⟨w.heap.size + 1, 1, none⟩ = false := by rw [hb1.frozen (p := ⟨w.heap.size + 1, 1, none⟩) (by simp)]; simp [go_sem]
      have R2 : w1.cell? ⟨w.heap.size + 1, 2, none⟩ = some (.int .i64 0) := cellb hb1 (by simp [go_sem])
      have Z2 : w1.frozen? ⟨w.heap.size + 1, 2, none⟩ = false := by rw [hb1.frozen (p := ⟨w.heap.size + 1, 2, none⟩) (by simp)]; simp [go_sem]
      have R3 : w1.cell? ⟨w.heap.size + 1, 3, none⟩ = some (.slice none 0 0) := cellb hb1 (by simp [go_sem])
      have Z3 : w1.frozen? ⟨w.heap.size + 1, 3, none⟩ = false := by rw [hb1.frozen (p := ⟨w.heap.size + 1, 3, none⟩) (by simp)]; simp [go_sem]
      have R4 : w1.cell? ⟨w.heap.size + 1, 4, none⟩ = some (.slice none 0 0) := cellb hb1 (by simp [go_sem])
      have Z4 : w1.frozen? ⟨w.heap.size + 1, 4, none⟩ = false := by rw [hb1.frozen (p := ⟨w.heap.size + 1, 4, none⟩) (by simp)]; simp [go_sem]
      have hs1 : w.heap.size + 2 ≤ w1.heap.size := by have := hb1.size; simp at this; omega
      have b1 : Below w.heap.size w w1 := hb0.trans (hb1.mono (by simp; omega))
      clear hb1 hb0 HF
      go_wp2_with (first
        | (go_at_call 164; refine (isSize_calls _ _ _).mono ?_; rintro e w' ⟨rfl, hw⟩; rw [hw, k0]; clear hw w'))
      refine (sheetsOf_calls r wd cs bs _ _ w1 hn1 hn2 (h1.below b1) (h2.below b1)).mono ?_
      rintro e w2 ⟨x, y, m, rfl, m1, m2, ox, xm, oy, hb2⟩
      replace A0 := cellb hb2 A0
      replace A1 := cellb hb2 A1
      replace A2 := cellb hb2 A2
      replace A3 := cellb hb2 A3
      replace R0 := cellb hb2 R0
      replace R1 := cellb hb2 R1
      replace R2 := cellb hb2 R2
      replace R3 := cellb hb2 R3
      replace R4 := cellb hb2 R4
      replace Z0 : w2.frozen? ⟨w.heap.size + 1, 0, none⟩ = false := by rw [hb2.frozen (p := ⟨w.heap.size + 1, 0, none⟩) (by simp; omega)]; exact Z0
      replace Z1 : w2.frozen? ⟨w.heap.size + 1, 1, none⟩ = false := by rw [hb2.frozen (p := ⟨w.heap.size + 1, 1, none⟩) (by simp; omega)]; exact Z1
      replace Z2 : w2.frozen? ⟨w.heap.size + 1, 2, none⟩ = false := by rw [hb2.frozen (p := ⟨w.heap.size + 1, 2, none⟩) (by simp; omega)]; exact Z2
      replace Z3 : w2.frozen? ⟨w.heap.size + 1, 3, none⟩ = false := by rw [hb2.frozen (p := ⟨w.heap.size + 1, 3, none⟩) (by simp; omega)]; exact Z3
      replace Z4 : w2.frozen? ⟨w.heap.size + 1, 4, none⟩ = false := by rw [hb2.frozen (p := ⟨w.heap.size + 1, 4, none⟩) (by simp; omega)]; exact Z4
      have b2 := b1.trans (hb2.mono b1.size)
      have hs2 : w1.heap.size ≤ w2.heap.size := hb2.size
      obtain ⟨bx, cx, rfl, hcx, _, x1, x2, hrow⟩ := own_row ox n8
      obtain ⟨ay, cy, rfl, hyc⟩ := own_room2 oy
      have HX := hide hrow
      have HY := hide oy
      clear hrow oy ox xm hb2
      go_wp2_with fail
      have hb3 : Below w2.heap.size w2 ((w2.alloc (.cells #[.int .i64 wd, .slice (some ⟨bx, 0, none⟩) cs.length cx] 217)).alloc (.cells #[.int .i64 wd, .slice ay bs.length cy] 217)) := (by repeat' (first | with_reducible exact Below.refl _ _ | with_reducible assumption | with_reducible refine Below.drew ?_ | with_reducible refine Below.alloc ?_ ?_ _ | with_reducible refine Below.setCell ?_ ?_ _ | (simp; done) | (simp; omega) | omega))
      have S0 : ((w2.alloc (.cells #[.int .i64 wd, .slice (some ⟨bx, 0, none⟩) cs.length cx] 217)).alloc (.cells #[.int .i64 wd, .slice ay bs.length cy] 217)).cell? ⟨w2.heap.size, 0, none⟩ = some (.int .i64 wd) := by simp [go_sem]
      have S1 : ((w2.alloc (.cells #[.int .i64 wd, .slice (some ⟨bx, 0, none⟩) cs.length cx] 217)).alloc (.cells #[.int .i64 wd, .slice ay bs.length cy] 217)).cell? ⟨w2.heap.size, 1, none⟩ = some (.slice (some ⟨bx, 0, none⟩) cs.length cx) := by simp [go_sem]
      have U0 : ((w2.alloc (.cells #[.int .i64 wd, .slice (some ⟨bx, 0, none⟩) cs.length cx] 217)).alloc (.cells #[.int .i64 wd, .slice ay bs.length cy] 217)).cell? ⟨w2.heap.size + 1, 0, none⟩ = some (.int .i64 wd) := by simp [go_sem]
      have U1 : ((w2.alloc (.cells #[.int .i64 wd, .slice (some ⟨bx, 0, none⟩) cs.length cx] 217)).alloc (.cells #[.int .i64 wd, .slice ay bs.length cy] 217)).cell? ⟨w2.heap.size + 1, 1, none⟩ = some (.slice ay bs.length cy) := by simp [go_sem]
      have hs3 : ((w2.alloc (.cells #[.int .i64 wd, .slice (some ⟨bx, 0, none⟩) cs.length cx] 217)).alloc (.cells #[.int .i64 wd, .slice ay bs.length cy] 217)).heap.size = w2.heap.size + 2 := by simp
      generalize ((w2.alloc (.cells #[.int .i64 wd, .slice (some ⟨bx, 0, none⟩) cs.length cx] 217)).alloc (.cells #[.int .i64 wd, .slice ay bs.length cy] 217)) = w3 at *
      replace A0 := cellb hb3 A0
      replace A1 := cellb hb3 A1
      replace A2 := cellb hb3 A2
      replace A3 := cellb hb3 A3
      replace R0 := cellb hb3 R0
      replace R1 := cellb hb3 R1
      replace R2 := cellb hb3 R2
      replace R3 := cellb hb3 R3
      replace R4 := cellb hb3 R4
      replace Z0 : w3.frozen? ⟨w.heap.size + 1, 0, none⟩ = false := by rw [hb3.frozen (p := ⟨w.heap.size + 1, 0, none⟩) (by simp; omega)]; exact Z0
      replace Z1 : w3.frozen? ⟨w.heap.size + 1, 1, none⟩ = false := by rw [hb3.frozen (p := ⟨w.heap.size + 1, 1, none⟩) (by simp; omega)]; exact Z1
      replace Z2 : w3.frozen? ⟨w.heap.size + 1, 2, none⟩ = false := by rw [hb3.frozen (p := ⟨w.heap.size + 1, 2, none⟩) (by simp; omega)]; exact Z2
      replace Z3 : w3.frozen? ⟨w.heap.size + 1, 3, none⟩ = false := by rw [hb3.frozen (p := ⟨w.heap.size + 1, 3, none⟩) (by simp; omega)]; exact Z3
      replace Z4 : w3.frozen? ⟨w.heap.size + 1, 4, none⟩ = false := by rw [hb3.frozen (p := ⟨w.heap.size + 1, 4, none⟩) (by simp; omega)]; exact Z4
      have b3 := b2.trans (hb3.mono b2.size)
      replace HX := hide (HX.out.below hb3 x2)
      replace HY := hide (own_below HY.out hb3)
      clear hb3 b2
      obtain ⟨by', hyr, hya, hyl⟩ := own_rowr HY.out
      have HYR := hide hyr
      have HYA := hide hya
      have HYL := hide hyl
      clear hyr hya hyl HY
      refine wp_region_held_drew (S := (fun w' => w'.cell? ⟨w2.heap.size, 0, none⟩ = some (.int .i64 wd) ∧ w'.cell? ⟨w2.heap.size, 1, none⟩ = some (.slice (some ⟨bx, 0, none⟩) cs.length cx) ∧ w'.cell? ⟨w2.heap.size + 1, 0, none⟩ = some (.int .i64 wd) ∧ w'.cell? ⟨w2.heap.size + 1, 1, none⟩ = some (.slice ay bs.length cy))) (by kernel_rfl) ?_ (fun hHeld => ?_)
      · (try dsimp only); exact ⟨S0, S1, U0, U1⟩
      refine wpAnyH_take (i := 0) (oi := ⟨_, _, _, _, _, _⟩) (v := ?_) rfl (by kernel_rfl) (by kernel_rfl) (by kernel_rfl) (fun _ _ _ h => h) (Or.inl ⟨by rfl, ?_⟩) hHeld ?_
      rotate_left
      · (intro w hSw; (try dsimp only at hSw); go_simp; try (with_reducible rfl))
      try simp only [Act.put, List.setIfInBounds_toArray, List.set_cons_zero, List.set_cons_succ]
      refine wpAnyH_take (i := 1) (oi := ⟨_, _, _, _, _, _⟩) (v := ?_) rfl (by kernel_rfl) (by kernel_rfl) (by kernel_rfl) (fun _ _ _ h => h) (Or.inl ⟨by rfl, ?_⟩) hHeld ?_
      rotate_left
      · (intro w hSw; (try dsimp only at hSw); go_simp; try (with_reducible rfl))
      try simp only [Act.put, List.setIfInBounds_toArray, List.set_cons_zero, List.set_cons_succ]
      refine wpAnyH_take (i := 2) (oi := ⟨_, _, _, _, _, _⟩) (v := ?_) rfl (by kernel_rfl) (by kernel_rfl) (by kernel_rfl) (fun _ _ _ h => h) (Or.inl ⟨by rfl, ?_⟩) hHeld ?_
      rotate_left
      · (intro w hSw; (try dsimp only at hSw); go_simp; try (with_reducible rfl))
      try simp only [Act.put, List.setIfInBounds_toArray, List.set_cons_zero, List.set_cons_succ]
      refine wpAnyH_take (i := 5) (oi := ⟨_, _, _, _, _, _⟩) (v := ?_) rfl (by kernel_rfl) (by kernel_rfl) (by kernel_rfl) (fun _ _ _ h => h) (Or.inl ⟨by rfl, ?_⟩) hHeld ?_
      rotate_left
      · (intro w hSw; (try dsimp only at hSw); go_simp; try (with_reducible rfl))
      try simp only [Act.put, List.setIfInBounds_toArray, List.set_cons_zero, List.set_cons_succ]
      refine wpAnyH_take (i := 6) (oi := ⟨_, _, _, _, _, _⟩) (v := ?_) rfl (by kernel_rfl) (by kernel_rfl) (by kernel_rfl) (fun _ _ _ h => h) (Or.inl ⟨by rfl, ?_⟩) hHeld ?_
      rotate_left
      · (intro w hSw; (try dsimp only at hSw); go_simp; try (with_reducible rfl))
      try simp only [Act.put, List.setIfInBounds_toArray, List.set_cons_zero, List.set_cons_succ]
      refine wpAnyH_take (i := 8) (oi := ⟨_, _, _, _, _, _⟩) (v := ?_) rfl (by kernel_rfl) (by kernel_rfl) (by kernel_rfl) (fun _ _ _ h => h) (Or.inl ⟨by rfl, ?_⟩) hHeld ?_
      rotate_left
      · (intro w hSw; (try dsimp only at hSw); go_simp; try (with_reducible rfl))
      try simp only [Act.put, List.setIfInBounds_toArray, List.set_cons_zero, List.set_cons_succ]
      refine wpAnyH_ready (rs := [3]) (by kernel_rfl) (by simp) ?_
      refine AllReadyH.cons (o := ⟨_, _, _, _, _, _⟩) rfl (fun K hK => ?_) AllReadyH.nil
      go_simp
      go_at_call 198
      refine (blankOf_calls 0 _).mono ?_
      rintro e w4 ⟨rfl, hb4⟩
      replace hb4 : Below w3.heap.size w3 w4 := (below_drewN (Below.refl _ _) 1).trans hb4
      have hs4 : w3.heap.size ≤ w4.heap.size := hb4.size
      replace A0 := cellb hb4 A0
      replace A1 := cellb hb4 A1
      replace A2 := cellb hb4 A2
      replace A3 := cellb hb4 A3
      replace R0 := cellb hb4 R0
      replace R1 := cellb hb4 R1
      replace R2 := cellb hb4 R2
      replace R3 := cellb hb4 R3
      replace R4 := cellb hb4 R4
      replace S0 := cellb hb4 S0
      replace S1 := cellb hb4 S1
      replace U0 := cellb hb4 U0
      replace U1 := cellb hb4 U1
      replace Z0 : w4.frozen? ⟨w.heap.size + 1, 0, none⟩ = false := by rw [hb4.frozen (p := ⟨w.heap.size + 1, 0, none⟩) (by simp; omega)]; exact Z0
      replace Z1 : w4.frozen? ⟨w.heap.size + 1, 1, none⟩ = false := by rw [hb4.frozen (p := ⟨w.heap.size + 1, 1, none⟩) (by simp; omega)]; exact Z1
      replace Z2 : w4.frozen? ⟨w.heap.size + 1, 2, none⟩ = false := by rw [hb4.frozen (p := ⟨w.heap.size + 1, 2, none⟩) (by simp; omega)]; exact Z2
      replace Z3 : w4.frozen? ⟨w.heap.size + 1, 3, none⟩ = false := by rw [hb4.frozen (p := ⟨w.heap.size + 1, 3, none⟩) (by simp; omega)]; exact Z3
      replace Z4 : w4.frozen? ⟨w.heap.size + 1, 4, none⟩ = false := by rw [hb4.frozen (p := ⟨w.heap.size + 1, 4, none⟩) (by simp; omega)]; exact Z4
      have b4 := b3.trans (hb4.mono b3.size)
      replace HX := hide (HX.out.below hb4 (by omega))
      replace HYR := hide (rowr_below HYR.out hb4 HYL.out)
      replace HYL := hide (fun h => Nat.lt_of_lt_of_le (HYL.out h) hs4)
      clear b3 hb4
      try go_wp2_with fail
      refine hK.out _ _ ?_ ?_
      · (try dsimp only); exact ⟨S0, S1, U0, U1⟩
      clear hHeld hK K
      intro hHeld
      try simp only [Act.put, List.setIfInBounds_toArray, List.set_cons_zero, List.set_cons_succ]
      refine wpAnyH_ready (rs := [4]) (by kernel_rfl) (by simp) ?_
      refine AllReadyH.cons (o := ⟨_, _, _, _, _, _⟩) rfl (fun K hK => ?_) AllReadyH.nil
      go_simp
      go_at_call 197
      refine (resized_calls wd (R' : Int) (W' : Int) 32 0 bx 0 R W cs.length cx R' W' N' _ _ w4 HX.out.read E1.out EW.out rfl rfl E4.out (by omega) (by omega) (by omega) (by omega) (by omega) (by omega) hcx (fun _ => rfl) (by omega) (by omega)).mono ?_
      rintro e w5 ⟨bo, rfl, o1, o2, hro, hb5⟩
      have hs5 : w4.heap.size ≤ w5.heap.size := hb5.size
      have HRO := hide hro
      clear hro
      replace A0 := cellb hb5 A0
      replace A1 := cellb hb5 A1
      replace A2 := cellb hb5 A2
      replace A3 := cellb hb5 A3
      replace R0 := cellb hb5 R0
      replace R1 := cellb hb5 R1
      replace R2 := cellb hb5 R2
      replace R3 := cellb hb5 R3
      replace R4 := cellb hb5 R4
      replace S0 := cellb hb5 S0
      replace S1 := cellb hb5 S1
      replace U0 := cellb hb5 U0
      replace U1 := cellb hb5 U1
      replace Z0 : w5.frozen? ⟨w.heap.size + 1, 0, none⟩ = false := by rw [hb5.frozen (p := ⟨w.heap.size + 1, 0, none⟩) (by simp; omega)]; exact Z0
      replace Z1 : w5.frozen? ⟨w.heap.size + 1, 1, none⟩ = false := by rw [hb5.frozen (p := ⟨w.heap.size + 1, 1, none⟩) (by simp; omega)]; exact Z1
      replace Z2 : w5.frozen? ⟨w.heap.size + 1, 2, none⟩ = false := by rw [hb5.frozen (p := ⟨w.heap.size + 1, 2, none⟩) (by simp; omega)]; exact Z2
      replace Z3 : w5.frozen? ⟨w.heap.size + 1, 3, none⟩ = false := by rw [hb5.frozen (p := ⟨w.heap.size + 1, 3, none⟩) (by simp; omega)]; exact Z3
      replace Z4 : w5.frozen? ⟨w.heap.size + 1, 4, none⟩ = false := by rw [hb5.frozen (p := ⟨w.heap.size + 1, 4, none⟩) (by simp; omega)]; exact Z4
      have b5 := b4.trans (hb5.mono b4.size)
      replace HYR := hide (rowr_below HYR.out hb5 HYL.out)
      replace HYL := hide (fun h => Nat.lt_of_lt_of_le (HYL.out h) hs5)
      clear HX
      clear b4 hb5
      try go_wp2_with fail
      refine hK.out _ _ ?_ ?_
      · (try dsimp only); exact ⟨S0, S1, U0, U1⟩
      clear hHeld hK K
      intro hHeld
      try simp only [Act.put, List.setIfInBounds_toArray, List.set_cons_zero, List.set_cons_succ]
      refine wpAnyH_ready (rs := [7]) (by kernel_rfl) (by simp) ?_
      refine AllReadyH.cons (o := ⟨_, _, _, _, _, _⟩) rfl (fun K hK => ?_) AllReadyH.nil
      go_simp
      go_at_call 199
      refine (height_calls wd n1 n2 ay bs.length cy hn2 _).mono ?_
      rintro e w6 ⟨rfl, hb6⟩
      rw [EQ2.out]
      have hs6 : w5.heap.size ≤ w6.heap.size := hb6.size
      replace A0 := cellb hb6 A0
      replace A1 := cellb hb6 A1
      replace A2 := cellb hb6 A2
      replace A3 := cellb hb6 A3
      replace R0 := cellb hb6 R0
      replace R1 := cellb hb6 R1
      replace R2 := cellb hb6 R2
      replace R3 := cellb hb6 R3
      replace R4 := cellb hb6 R4
      replace S0 := cellb hb6 S0
      replace S1 := cellb hb6 S1
      replace U0 := cellb hb6 U0
      replace U1 := cellb hb6 U1
      replace Z0 : w6.frozen? ⟨w.heap.size + 1, 0, none⟩ = false := by rw [hb6.frozen (p := ⟨w.heap.size + 1, 0, none⟩) (by simp; omega)]; exact Z0
      replace Z1 : w6.frozen? ⟨w.heap.size + 1, 1, none⟩ = false := by rw [hb6.frozen (p := ⟨w.heap.size + 1, 1, none⟩) (by simp; omega)]; exact Z1
      replace Z2 : w6.frozen? ⟨w.heap.size + 1, 2, none⟩ = false := by rw [hb6.frozen (p := ⟨w.heap.size + 1, 2, none⟩) (by simp; omega)]; exact Z2
      replace Z3 : w6.frozen? ⟨w.heap.size + 1, 3, none⟩ = false := by rw [hb6.frozen (p := ⟨w.heap.size + 1, 3, none⟩) (by simp; omega)]; exact Z3
      replace Z4 : w6.frozen? ⟨w.heap.size + 1, 4, none⟩ = false := by rw [hb6.frozen (p := ⟨w.heap.size + 1, 4, none⟩) (by simp; omega)]; exact Z4
      have b6 := b5.trans (hb6.mono b5.size)
      replace HRO := hide (HRO.out.below hb6 (by omega))
      replace HYR := hide (rowr_below HYR.out hb6 HYL.out)
      replace HYL := hide (fun h => Nat.lt_of_lt_of_le (HYL.out h) hs6)
      clear b5 hb6
      try go_wp2_with fail
      refine hK.out _ _ ?_ ?_
      · (try dsimp only); exact ⟨S0, S1, U0, U1⟩
      clear hHeld hK K
      intro hHeld
      try simp only [Act.put, List.setIfInBounds_toArray, List.set_cons_zero, List.set_cons_succ]
      refine wpAnyH_ready (rs := [9]) (by kernel_rfl) (by simp) ?_
      refine AllReadyH.cons (o := ⟨_, _, _, _, _, _⟩) rfl (fun K hK => ?_) AllReadyH.nil
      go_simp
      go_at_call 198
      refine (blankOf_calls 0 _).mono ?_
      rintro e w7 ⟨rfl, hb7⟩
      have hs7 : w6.heap.size ≤ w7.heap.size := hb7.size
      replace A0 := cellb hb7 A0
      replace A1 := cellb hb7 A1
      replace A2 := cellb hb7 A2
      replace A3 := cellb hb7 A3
      replace R0 := cellb hb7 R0
      replace R1 := cellb hb7 R1
      replace R2 := cellb hb7 R2
      replace R3 := cellb hb7 R3
      replace R4 := cellb hb7 R4
      replace S0 := cellb hb7 S0
      replace S1 := cellb hb7 S1
      replace U0 := cellb hb7 U0
      replace U1 := cellb hb7 U1
      replace Z0 : w7.frozen? ⟨w.heap.size + 1, 0, none⟩ = false := by rw [hb7.frozen (p := ⟨w.heap.size + 1, 0, none⟩) (by simp; omega)]; exact Z0
      replace Z1 : w7.frozen? ⟨w.heap.size + 1, 1, none⟩ = false := by rw [hb7.frozen (p := ⟨w.heap.size + 1, 1, none⟩) (by simp; omega)]; exact Z1
      replace Z2 : w7.frozen? ⟨w.heap.size + 1, 2, none⟩ = false := by rw [hb7.frozen (p := ⟨w.heap.size + 1, 2, none⟩) (by simp; omega)]; exact Z2
      replace Z3 : w7.frozen? ⟨w.heap.size + 1, 3, none⟩ = false := by rw [hb7.frozen (p := ⟨w.heap.size + 1, 3, none⟩) (by simp; omega)]; exact Z3
      replace Z4 : w7.frozen? ⟨w.heap.size + 1, 4, none⟩ = false := by rw [hb7.frozen (p := ⟨w.heap.size + 1, 4, none⟩) (by simp; omega)]; exact Z4
      have b7 := b6.trans (hb7.mono b6.size)
      replace HRO := hide (HRO.out.below hb7 (by omega))
      replace HYR := hide (rowr_below HYR.out hb7 HYL.out)
      replace HYL := hide (fun h => Nat.lt_of_lt_of_le (HYL.out h) hs7)
      clear b6 hb7
      try go_wp2_with fail
      refine hK.out _ _ ?_ ?_
      · (try dsimp only); exact ⟨S0, S1, U0, U1⟩
      clear hHeld hK K
      intro hHeld
      try simp only [Act.put, List.setIfInBounds_toArray, List.set_cons_zero, List.set_cons_succ]
      refine wpAnyH_ready (rs := [10]) (by kernel_rfl) (by simp) ?_
      refine AllReadyH.cons (o := ⟨_, _, _, _, _, _⟩) rfl (fun K hK => ?_) AllReadyH.nil
      go_simp
      go_at_call 197
      refine (resized_calls wd (Hb : Int) (W' : Int) 32 0 by' 0 Hb W bs.length cy Hb W' M' _ _ w7 HYR.out E2.out EW.out rfl rfl E5.out (by omega) (by omega) (by omega) (by omega) (by omega) (by omega) hyc HYA.out (by omega) (by omega)).mono ?_
      rintro e w8 ⟨bp, rfl, o3, o4, hrp, hb8⟩
      have hs8 : w7.heap.size ≤ w8.heap.size := hb8.size
      rw [Nat.min_self] at hrp
      have HRP := hide hrp
      clear hrp
      replace A0 := cellb hb8 A0
      replace A1 := cellb hb8 A1
      replace A2 := cellb hb8 A2
      replace A3 := cellb hb8 A3
      replace R0 := cellb hb8 R0
      replace R1 := cellb hb8 R1
      replace R2 := cellb hb8 R2
      replace R3 := cellb hb8 R3
      replace R4 := cellb hb8 R4
      replace S0 := cellb hb8 S0
      replace S1 := cellb hb8 S1
      replace U0 := cellb hb8 U0
      replace U1 := cellb hb8 U1
      replace Z0 : w8.frozen? ⟨w.heap.size + 1, 0, none⟩ = false := by rw [hb8.frozen (p := ⟨w.heap.size + 1, 0, none⟩) (by simp; omega)]; exact Z0
      replace Z1 : w8.frozen? ⟨w.heap.size + 1, 1, none⟩ = false := by rw [hb8.frozen (p := ⟨w.heap.size + 1, 1, none⟩) (by simp; omega)]; exact Z1
      replace Z2 : w8.frozen? ⟨w.heap.size + 1, 2, none⟩ = false := by rw [hb8.frozen (p := ⟨w.heap.size + 1, 2, none⟩) (by simp; omega)]; exact Z2
      replace Z3 : w8.frozen? ⟨w.heap.size + 1, 3, none⟩ = false := by rw [hb8.frozen (p := ⟨w.heap.size + 1, 3, none⟩) (by simp; omega)]; exact Z3
      replace Z4 : w8.frozen? ⟨w.heap.size + 1, 4, none⟩ = false := by rw [hb8.frozen (p := ⟨w.heap.size + 1, 4, none⟩) (by simp; omega)]; exact Z4
      have b8 := b7.trans (hb8.mono b7.size)
      replace HRO := hide (HRO.out.below hb8 (by omega))
      clear HYR HYL HYA
      clear b7 hb8
      try go_wp2_with fail
      refine hK.out _ _ ?_ ?_
      · (try dsimp only); exact ⟨S0, S1, U0, U1⟩
      clear hHeld hK K
      intro hHeld
      try simp only [Act.put, List.setIfInBounds_toArray, List.set_cons_zero, List.set_cons_succ]
      refine wpAnyH_ready (rs := [11]) (by kernel_rfl) (by simp) ?_
      refine AllReadyH.cons (o := ⟨_, _, _, _, _, _⟩) rfl (fun K hK => ?_) AllReadyH.nil
      go_simp
      go_at_call 196
      refine (gridOf_calls (W' : Int) (W' : Int) (by omega) (by omega) (some ⟨bo, 0, none⟩) (some ⟨bp, 0, none⟩) N' M' N' M' (by omega) w8).mono ?_
      rintro e w9 ⟨rfl, hb9⟩
      rw [EQ1.out]
      have hs9 : w8.heap.size ≤ w9.heap.size := hb9.size
      replace A0 := cellb hb9 A0
      replace A1 := cellb hb9 A1
      replace A2 := cellb hb9 A2
      replace A3 := cellb hb9 A3
      replace R0 := cellb hb9 R0
      replace R1 := cellb hb9 R1
      replace R2 := cellb hb9 R2
      replace R3 := cellb hb9 R3
      replace R4 := cellb hb9 R4
      replace S0 := cellb hb9 S0
      replace S1 := cellb hb9 S1
      replace U0 := cellb hb9 U0
      replace U1 := cellb hb9 U1
      replace Z0 : w9.frozen? ⟨w.heap.size + 1, 0, none⟩ = false := by rw [hb9.frozen (p := ⟨w.heap.size + 1, 0, none⟩) (by simp; omega)]; exact Z0
      replace Z1 : w9.frozen? ⟨w.heap.size + 1, 1, none⟩ = false := by rw [hb9.frozen (p := ⟨w.heap.size + 1, 1, none⟩) (by simp; omega)]; exact Z1
      replace Z2 : w9.frozen? ⟨w.heap.size + 1, 2, none⟩ = false := by rw [hb9.frozen (p := ⟨w.heap.size + 1, 2, none⟩) (by simp; omega)]; exact Z2
      replace Z3 : w9.frozen? ⟨w.heap.size + 1, 3, none⟩ = false := by rw [hb9.frozen (p := ⟨w.heap.size + 1, 3, none⟩) (by simp; omega)]; exact Z3
      replace Z4 : w9.frozen? ⟨w.heap.size + 1, 4, none⟩ = false := by rw [hb9.frozen (p := ⟨w.heap.size + 1, 4, none⟩) (by simp; omega)]; exact Z4
      have b9 := b8.trans (hb9.mono b8.size)
      replace HRO := hide (HRO.out.below hb9 (by omega))
      replace HRP := hide (HRP.out.below hb9 (by omega))
      clear b8 hb9
      try go_wp2_with fail
      refine hK.out _ _ ?_ ?_
      · (try dsimp only); exact ⟨S0, S1, U0, U1⟩
      clear hHeld hK K
      intro hHeld
      try simp only [Act.put, List.setIfInBounds_toArray, List.set_cons_zero, List.set_cons_succ]
      refine wpAnyH_ready (rs := [12]) (by kernel_rfl) (by simp) ?_
      refine AllReadyH.cons (o := ⟨_, _, _, _, _, _⟩) rfl (fun K hK => ?_) AllReadyH.nil
      go_simp
      have ht : Touch (w.heap.size + 1) 0 5 w9 (((((w9.setCell ⟨w.heap.size + 1, 0, none⟩ (.int .i64 0)).setCell ⟨w.heap.size + 1, 1, none⟩ (.int .i64 (R' : Int))).setCell ⟨w.heap.size + 1, 2, none⟩ (.int .i64 (W' : Int))).setCell ⟨w.heap.size + 1, 3, none⟩ (.slice (some ⟨bo, 0, none⟩) N' N')).setCell ⟨w.heap.size + 1, 4, none⟩ (.slice (some ⟨bp, 0, none⟩) M' M')) := ((((((Touch.refl _ _ _ _).setCell (by omega) (by omega) _).setCell (by omega) (by omega) _).setCell (by omega) (by omega) _).setCell (by omega) (by omega) _).setCell (by omega) (by omega) _)
      have hr := res5 (w := w9) (r := w.heap.size + 1) (.int .i64 0) (.int .i64 (R' : Int)) (.int .i64 (W' : Int)) (.slice (some ⟨bo, 0, none⟩) N' N') (.slice (some ⟨bp, 0, none⟩) M' M') R0 R1 R2 R3 R4
      generalize (((((w9.setCell ⟨w.heap.size + 1, 0, none⟩ (.int .i64 0)).setCell ⟨w.heap.size + 1, 1, none⟩ (.int .i64 (R' : Int))).setCell ⟨w.heap.size + 1, 2, none⟩ (.int .i64 (W' : Int))).setCell ⟨w.heap.size + 1, 3, none⟩ (.slice (some ⟨bo, 0, none⟩) N' N')).setCell ⟨w.heap.size + 1, 4, none⟩ (.slice (some ⟨bp, 0, none⟩) M' M')) = wx at *
      have bx' : Below w.heap.size w wx := b9.trans (ht.below (by omega) (by omega))
      have HT := hide ht
      replace S0 := ht.cellAt S0 (by omega)
      replace S1 := ht.cellAt S1 (by omega)
      replace U0 := ht.cellAt U0 (by omega)
      replace U1 := ht.cellAt U1 (by omega)
      clear ht b9
      refine hK.out _ _ ?_ ?_
      · (try dsimp only); exact ⟨S0, S1, U0, U1⟩
      clear hHeld hK K
      intro hHeld
      try simp only [Act.put, List.setIfInBounds_toArray, List.set_cons_zero, List.set_cons_succ]
      refine wpAnyH_done (by kernel_rfl) ?_ _
      clear hHeld
      go_wp2
      refine bodyPost_ret (v := .agg #[.int .i64 0, .int .i64 (R' : Int), .int .i64 (W' : Int), .slice (some ⟨bo, 0, none⟩) N' N', .slice (some ⟨bp, 0, none⟩) M' M']) (by simp only [results, Tryz.results136]; simp [go_sem, hr.1, hr.2.1, hr.2.2.1, hr.2.2.2.1, hr.2.2.2.2]) rfl ⟨_, _, rfl, ?_, bx'⟩
      exact (gown_two (w := w9) (base := w1.heap.size) HRO.out HRP.out (by omega) (by omega) (by omega) HT.out.size (fun k hk => by
        by_cases h : k < w1.heap.size
        · exact .inr h
        · exact .inl (HT.out.block k hk (by omega)))).mono (by omega) (Nat.le_refl _)
  · rw [resizeRes_def, gres_fault hG]
    generalize gridCode r wd cs bs = code at *
    have hcb : (code != 0) = true := by simpa using hG
    simp only [gbad]
    go_enter Tryz.func136, Tryz.ntmps136
    go_wp2_with fail
    refine HF.mono ?_
    rintro e w1 ⟨rfl, hb1⟩
    have A0 : w1.cell? ⟨w.heap.size, 0, none⟩ = some (.int .i64 r) := cellb hb1 (by simp [go_sem])
    have A1 : w1.cell? ⟨w.heap.size, 1, none⟩ = some (.int .i64 wd) := cellb hb1 (by simp [go_sem])
    have A2 : w1.cell? ⟨w.heap.size, 2, none⟩ = some (.slice a1 cs.length c1) := cellb hb1 (by simp [go_sem])
    have A3 : w1.cell? ⟨w.heap.size, 3, none⟩ = some (.slice a2 bs.length c2) := cellb hb1 (by simp [go_sem])
    have R0 : w1.cell? ⟨w.heap.size + 1, 0, none⟩ = some (.int .i64 0) := cellb hb1 (by simp [go_sem])
    have Z0 : w1.frozen? ⟨w.heap.size + 1, 0, none⟩ = false := by rw [hb1.frozen (p := ⟨w.heap.size + 1, 0, none⟩) (by simp)]; simp [go_sem]
    have R1 : w1.cell? ⟨w.heap.size + 1, 1, none⟩ = some (.int .i64 0) := cellb hb1 (by simp [go_sem])
    have Z1 : w1.frozen? ⟨w.heap.size + 1, 1, none⟩ = false := by rw [hb1.frozen (p := ⟨w.heap.size + 1, 1, none⟩) (by simp)]; simp [go_sem]
    have R2 : w1.cell? ⟨w.heap.size + 1, 2, none⟩ = some (.int .i64 0) := cellb hb1 (by simp [go_sem])
    have Z2 : w1.frozen? ⟨w.heap.size + 1, 2, none⟩ = false := by rw [hb1.frozen (p := ⟨w.heap.size + 1, 2, none⟩) (by simp)]; simp [go_sem]
    have R3 : w1.cell? ⟨w.heap.size + 1, 3, none⟩ = some (.slice none 0 0) := cellb hb1 (by simp [go_sem])
    have Z3 : w1.frozen? ⟨w.heap.size + 1, 3, none⟩ = false := by rw [hb1.frozen (p := ⟨w.heap.size + 1, 3, none⟩) (by simp)]; simp [go_sem]
    have R4 : w1.cell? ⟨w.heap.size + 1, 4, none⟩ = some (.slice none 0 0) := cellb hb1 (by simp [go_sem])
    have Z4 : w1.frozen? ⟨w.heap.size + 1, 4, none⟩ = false := by rw [hb1.frozen (p := ⟨w.heap.size + 1, 4, none⟩) (by simp)]; simp [go_sem]
    have hs1 : w.heap.size + 2 ≤ w1.heap.size := by have := hb1.size; simp at this; omega
    have b1 : Below w.heap.size w w1 := hb0.trans (hb1.mono (by simp; omega))
    clear hb1 hb0 HF
    have hr := res5 (w := w1) (r := w.heap.size + 1) (.int .i64 code) (.int .i64 0) (.int .i64 0) (.slice none 0 0) (.slice none 0 0) R0 R1 R2 R3 R4
    go_wp2
    refine bodyPost_ret (v := .agg #[.int .i64 code, .int .i64 0, .int .i64 0, .slice none 0 0, .slice none 0 0]) (by simp only [results, Tryz.results136]; simp [go_sem, hr.1, hr.2.1, hr.2.2.1, hr.2.2.2.1, hr.2.2.2.2]) rfl ⟨_, _, rfl, ?_, b1.trans (show Below w.heap.size w1 _ from (by repeat' (first | with_reducible exact Below.refl _ _ | with_reducible assumption | with_reducible refine Below.drew ?_ | with_reducible refine Below.alloc ?_ ?_ _ | with_reducible refine Below.setCell ?_ ?_ _ | (simp; done) | (simp; omega) | omega)))⟩
    exact GOwn.nil _ _ _ (by have := b1.size; simp [World.setCell]; omega)

end Go.Proofs.YtdekegjplegkeaaGreat

/- What impl.ResizeScreen answers. -/
namespace Go.Proofs.YtdekegjplegkeaaGreat
set_option maxRecDepth 20000
open Go.ChangeShapes Go.WideShapes Go.ChangeAt Go.RowKit
set_option linter.unusedVariables false
set_option linter.unusedSimpArgs false
set_option maxRecDepth 20000

def rzGrid (s : Scr) (rows width : Int) : GRes := resizeRes s.r s.wd s.cs s.bs rows width
def rzStart (s : Scr) (rows width : Int) : Scr := { s with r := rows, wd := width, cs := (rzGrid s rows width).cs, bs := (rzGrid s rows width).bs, top := 0, bot := rows - 1 }
def rzScr (s : Scr) (rows width : Int) : Scr := { goCol (goRow (rzStart s rows width) s.y) s.x with tabs := tabsW s.tabs width.toNat }
def rzRes (s : Scr) (rows width : Int) : SRes := if scrCode s = 0 then (if sizeB rows width = true then ⟨0, rzScr s rows width⟩ else sbad 3) else sbad (scrCode s)
theorem rz_grid_code {s : Scr} (h : scrCode s = 0) : gridCode s.r s.wd s.cs s.bs = 0 := by
  by_cases hg : gridCode s.r s.wd s.cs s.bs = 0
  · exact hg
  · rw [scr_grid hg] at h; exact absurd h hg
def grdZ (s : Scr) (v1 v2 : Value) : Array Value := #[.int .i64 s.r, .int .i64 s.wd, v1, v2]
theorem scrA_grdZ (s : Scr) (v1 v2 v3 v4 : Value) : ((scrA s v1 v2 v3 v4).toList.drop 0).take (grdZ s v1 v2).size = (grdZ s v1 v2).toList := rfl
set_option maxHeartbeats 8000000 in
theorem implResizeScreen_calls (s : Scr) (v1 v2 v3 v4 : Value) (rows width : Int) (w : World) (hn1 : s.cs.length ≤ 1048576) (hn2 : s.bs.length ≤ 1048576) (hn3 : s.tabs.length ≤ 1048576) (hn4 : s.sets.length ≤ 1048576) (h : SRead w s v1 v2 v3 v4) :
    Calls Tryz.prog 79 #[.agg (scrA s v1 v2 v3 v4), .int .i64 rows, .int .i64 width] w fun e w' => ∃ u1 u2 u3 u4, e = .returned (.agg (resA (rzRes s rows width).code (rzRes s rows width).s u1 u2 u3 u4)) ∧ SOwn w.heap.size w'.heap.size w' u1 u2 u3 u4 (rzRes s rows width).s ∧ Below w.heap.size w w' := by
  have bel0 : Below w.heap.size w ((w.alloc (.cells (scrA s v1 v2 v3 v4) 37)).alloc (.cells #[.int .i64 0, .int .i64 0, .int .i64 0, .slice none 0 0, .slice none 0 0, .int .i64 0, .int .i64 0, .bool false, .int .i64 0, .int .i64 0, .int .i64 0, .bool false, .bool false, .bool false, .slice none 0 0, .int .i64 0, .int .i64 0, .int .i64 0, .slice none 0 0, .int .i64 0, .int .i64 0] 39)) := (by repeat' (first | with_reducible exact Below.refl _ _ | with_reducible assumption | with_reducible refine Below.drew ?_ | with_reducible refine Below.alloc ?_ ?_ _ | with_reducible refine Below.setCell ?_ ?_ _ | (simp; done) | (simp; omega) | omega))
  have hA := (Blk.new w (scrA s v1 v2 v3 v4) 37).alloc (.cells #[.int .i64 0, .int .i64 0, .int .i64 0, .slice none 0 0, .slice none 0 0, .int .i64 0, .int .i64 0, .bool false, .int .i64 0, .int .i64 0, .int .i64 0, .bool false, .bool false, .bool false, .slice none 0 0, .int .i64 0, .int .i64 0, .int .i64 0, .slice none 0 0, .int .i64 0, .int .i64 0] 39)
  have hR : Blk ((w.alloc (.cells (scrA s v1 v2 v3 v4) 37)).alloc (.cells #[.int .i64 0, .int .i64 0, .int .i64 0, .slice none 0 0, .slice none 0 0, .int .i64 0, .int .i64 0, .bool false, .int .i64 0, .int .i64 0, .int .i64 0, .bool false, .bool false, .bool false, .slice none 0 0, .int .i64 0, .int .i64 0, .int .i64 0, .slice none 0 0, .int .i64 0, .int .i64 0] 39)) (w.heap.size + 1) (resA 0 scr0 (.slice none 0 0) (.slice none 0 0) (.slice none 0 0) (.slice none 0 0)) := Blk.new_at (by simp) _ _
  unfold rzRes
  by_cases hc : scrCode s = 0
  · rw [if_pos hc]
    cases hz : sizeB rows width with
    | false =>
      rw [if_neg (by simp)]
      have e' : resizeRes s.r s.wd s.cs s.bs rows width = gbad 3 := by rw [resizeRes_def, gres_bad (rz_grid_code hc) hz]
      go_enter Tryz.func79, Tryz.ntmps79
      go_wp2_with (first | fail | (refine wpList_load_at rfl 37 _ rfl (w.heap.size) 0 rfl _ (scrA s v1 v2 v3 v4) hA rfl _ Tryz.underlying37 rfl (by kernel_rfl) ?_; (try simp only [Act.put, List.setIfInBounds_toArray, List.set_cons_zero, List.set_cons_succ])))
      go_at_call 58
      refine (implScreenFault_calls s _ _ _ _ _ hn1 hn2 hn3 hn4 (h.below bel0)).mono ?_
      rintro e w1 ⟨rfl, hb⟩
      replace hA := hA.belowb hb
      replace hR := hR.belowb hb
      have bel1 := bel0.trans (hb.mono bel0.size)
      have z1 : w.heap.size + 2 ≤ w1.heap.size := by have := hb.size; simp at this; omega
      clear hb bel0
      rw [hc]
      go_wp2_with (first | fail | (refine wpList_load_at rfl 35 _ rfl (w.heap.size) 0 rfl _ (grdZ s v1 v2) hA (scrA_grdZ s v1 v2 v3 v4) _ Tryz.underlying35 rfl (by kernel_rfl) ?_; (try simp only [Act.put, List.setIfInBounds_toArray, List.set_cons_zero, List.set_cons_succ])))
      go_at_call 136
      refine (implResizeGrid_calls s.r s.wd s.cs s.bs rows width _ _ _ hn1 hn2 (h.g1.below bel1) (h.g2.below bel1)).mono ?_
      rw [e']
      rintro e w2 ⟨gx, gy, rfl, hg, hb⟩
      obtain ⟨a1, c1, a2, c2, rfl, rfl⟩ := hg.forms
      replace hA := hA.belowb hb
      replace hR := hR.belowb hb
      have bel2 := bel1.trans (hb.mono bel1.size)
      have z2 : w.heap.size + 2 ≤ w2.heap.size := by have := hb.size; omega
      clear hb bel1 hg
      dsimp only [gbad]
      go_wp2_with (first | (refine wpList_store_blk rfl _ _ _ rfl w2.heap.size 0 #[.int .i64 0, .int .i64 0, .int .i64 0, .slice none 0 0, .slice none 0 0] #[.int .i64 3, .int .i64 0, .int .i64 0, .slice a1 0 c1, .slice a2 0 c2] (.agg #[.int .i64 3, .int .i64 0, .int .i64 0, .slice a1 0 c1, .slice a2 0 c2]) rfl rfl (Blk.new w2 _ _) rfl (by kernel_rfl) rfl rfl ?_; (try simp only [Act.put, List.setIfInBounds_toArray, List.set_cons_zero, List.set_cons_succ]); intro w3 hG hu2; have cG := hG.cells; replace hA := (hA.alloc (.cells #[.int .i64 0, .int .i64 0, .int .i64 0, .slice none 0 0, .slice none 0 0] 185)).upd hu2 (by omega); replace hR := (hR.alloc (.cells #[.int .i64 0, .int .i64 0, .int .i64 0, .slice none 0 0, .slice none 0 0] 185)).upd hu2 (by omega); have bel3 := (bel2.trans ((Below.refl _ w2).alloc (by omega) (.cells #[.int .i64 0, .int .i64 0, .int .i64 0, .slice none 0 0, .slice none 0 0] 185))).trans (hu2.below (by omega)); have z3 : w3.heap.size = w2.heap.size + 1 := (by have := hu2.size; simpa using this); clear hu2 bel2) | (refine wpList_build_at rfl 39 _ rfl (resA 3 scr0 (.slice none 0 0) (.slice none 0 0) (.slice none 0 0) (.slice none 0 0)) (by first | rfl | kernel_rfl) ?_; (try simp only [Act.put, List.setIfInBounds_toArray, List.set_cons_zero, List.set_cons_succ])) | (refine wpList_store_blk rfl _ _ _ rfl (w.heap.size + 1) 0 (resA 0 scr0 (.slice none 0 0) (.slice none 0 0) (.slice none 0 0) (.slice none 0 0)) (resA 3 scr0 (.slice none 0 0) (.slice none 0 0) (.slice none 0 0) (.slice none 0 0)) (.agg (resA 3 scr0 (.slice none 0 0) (.slice none 0 0) (.slice none 0 0) (.slice none 0 0))) rfl rfl hR rfl (by kernel_rfl) rfl rfl ?_; (try simp only [Act.put, List.setIfInBounds_toArray, List.set_cons_zero, List.set_cons_succ]); clear hR; intro w9 hR hu))
      exact bodyPost_ret (results_blk hR _ _ rfl rfl Tryz.underlying39 rfl (by kernel_rfl)) rfl ⟨_, _, _, _, rfl, sown_zero _ _ (by have := hu.size; omega) _, bel3.trans (hu.below (by omega))⟩
    | true =>
      rw [if_pos rfl]
      obtain ⟨s1, s2, s3, s4, s5, s6⟩ := size_mul hz
      have hwr : IntKind.i64.wrap (rows - 1) = rows - 1 := wrap_small (by omega) (by omega)
      obtain ⟨G, hG'⟩ : ∃ G, rzGrid s rows width = G := ⟨_, rfl⟩
      have e' : resizeRes s.r s.wd s.cs s.bs rows width = ⟨0, rows, width, G.cs, G.bs⟩ := by rw [← hG']; unfold rzGrid; rw [resizeRes_def, gres_ok (rz_grid_code hc) hz]
      obtain ⟨kw, rfl⟩ : ∃ kw : Nat, width = (kw : Int) := ⟨width.toNat, by omega⟩
      have hst : rzStart s rows (kw : Int) = { s with r := rows, wd := (kw : Int), cs := G.cs, bs := G.bs, top := 0, bot := rows - 1 } := by unfold rzStart; rw [hG']
      have hfin : rzScr s rows (kw : Int) = { goCol (goRow { s with r := rows, wd := (kw : Int), cs := G.cs, bs := G.bs, top := 0, bot := rows - 1 } s.y) s.x with tabs := tabsW s.tabs kw } := by unfold rzScr; rw [hst]; simp
      rw [hfin]
      clear hst hfin hG' s5 s6
      go_enter Tryz.func79, Tryz.ntmps79
      go_wp2_with (first | fail | (refine wpList_load_at rfl 37 _ rfl (w.heap.size) 0 rfl _ (scrA s v1 v2 v3 v4) hA rfl _ Tryz.underlying37 rfl (by kernel_rfl) ?_; (try simp only [Act.put, List.setIfInBounds_toArray, List.set_cons_zero, List.set_cons_succ])))
      go_at_call 58
      refine (implScreenFault_calls s _ _ _ _ _ hn1 hn2 hn3 hn4 (h.below bel0)).mono ?_
      rintro e w1 ⟨rfl, hb⟩
      replace hA := hA.belowb hb
      replace hR := hR.belowb hb
      have bel1 := bel0.trans (hb.mono bel0.size)
      have z1 : w.heap.size + 2 ≤ w1.heap.size := by have := hb.size; simp at this; omega
      clear hb bel0
      rw [hc]
      go_wp2_with (first | fail | (refine wpList_load_at rfl 35 _ rfl (w.heap.size) 0 rfl _ (grdZ s v1 v2) hA (scrA_grdZ s v1 v2 v3 v4) _ Tryz.underlying35 rfl (by kernel_rfl) ?_; (try simp only [Act.put, List.setIfInBounds_toArray, List.set_cons_zero, List.set_cons_succ])))
      go_at_call 136
      refine (implResizeGrid_calls s.r s.wd s.cs s.bs rows (kw : Int) _ _ _ hn1 hn2 (h.g1.below bel1) (h.g2.below bel1)).mono ?_
      rw [e']
      rintro e w2 ⟨gx, gy, rfl, hg, hb⟩
      obtain ⟨a1, c1, a2, c2, rfl, rfl⟩ := hg.forms
      replace hA := hA.belowb hb
      replace hR := hR.belowb hb
      have bel2 := bel1.trans (hb.mono bel1.size)
      have z2 : w1.heap.size ≤ w2.heap.size := hb.size
      clear hb bel1 hc e'
      dsimp only at hg ⊢
      have cA := hA.cells
      go_wp2_with (first | fail | (refine wpList_store_blk rfl _ _ _ rfl w2.heap.size 0 #[.int .i64 0, .int .i64 0, .int .i64 0, .slice none 0 0, .slice none 0 0] #[.int .i64 0, .int .i64 rows, .int .i64 (kw : Int), .slice a1 G.cs.length c1, .slice a2 G.bs.length c2] (.agg #[.int .i64 0, .int .i64 rows, .int .i64 (kw : Int), .slice a1 G.cs.length c1, .slice a2 G.bs.length c2]) rfl rfl (Blk.new w2 _ _) rfl (by kernel_rfl) rfl rfl ?_; (try simp only [Act.put, List.setIfInBounds_toArray, List.set_cons_zero, List.set_cons_succ]); intro w3 hG hu2; have cG := hG.cells; replace hA := (hA.alloc (.cells #[.int .i64 0, .int .i64 0, .int .i64 0, .slice none 0 0, .slice none 0 0] 185)).upd hu2 (by omega); replace hR := (hR.alloc (.cells #[.int .i64 0, .int .i64 0, .int .i64 0, .slice none 0 0, .slice none 0 0] 185)).upd hu2 (by omega); have bel3 := (bel2.trans ((Below.refl _ w2).alloc (by omega) (.cells #[.int .i64 0, .int .i64 0, .int .i64 0, .slice none 0 0, .slice none 0 0] 185))).trans (hu2.below (by omega)); have z3 : w3.heap.size = w2.heap.size + 1 := (by have := hu2.size; simpa using this); replace hg := hg.of_blocks (w' := w3) (fun q q1 q2 => (hu2.block q (by omega)).trans (Below.heap_alloc _ _ _ (by omega))); clear hu2 bel2) | (refine wpList_load_at rfl 37 _ rfl (w.heap.size) 0 rfl _ (scrA s v1 v2 v3 v4) hA rfl _ Tryz.underlying37 rfl (by kernel_rfl) ?_; (try simp only [Act.put, List.setIfInBounds_toArray, List.set_cons_zero, List.set_cons_succ])))
      go_at_call 59
      refine (ownScreen_calls s v1 v2 v3 v4 _ hn1 hn2 hn3 hn4 (h.below bel3)).mono ?_
      rintro e w4 ⟨rfl, u1, u2, u3, u4, hO, hs, hb⟩
      have z4 : w3.heap.size + 1 ≤ w4.heap.size := by have := hO.lt; omega
      replace hA := hA.below hb (by omega)
      replace hR := hR.below hb (by omega)
      replace hg := hg.below hb (by omega)
      replace hG := hG.below hb (by omega)
      have bel4 := bel3.trans (hb.mono (by omega))
      clear hb bel3 cA cG
      have hB := hO.seg
      obtain ⟨l1, h1, l2, h2, l3, h3, a1', a2', a3', a4', a5', a6', a7', a8', a9', _, _, hS⟩ := hs.ex
      have hS' := hS
      obtain ⟨b4, d4, rfl, _⟩ := hS'
      obtain ⟨O, hO0⟩ : ∃ O : Nat → Prop, ∀ k, ¬ O k := ⟨fun _ => False, fun _ h => h⟩
      clear hs hO
      obtain ⟨p, hp⟩ : ∃ p, w3.heap.size = p := ⟨_, rfl⟩
      rw [hp] at hB a1' a3' a5' z4 ⊢
      have cA := hA.cells
      have cG := hG.cells
      have f1 := scrA_4 s v1 v2 v3 v4
      have f2 := scrA_5 s v1 v2 v3 v4
      have f3 := scrA_13 s v1 v2 v3 v4
      go_wp2_with (first | fail | (refine wpList_load_at rfl 35 _ rfl (w2.heap.size) 1 rfl _ #[.int .i64 rows, .int .i64 (kw : Int), .slice a1 G.cs.length c1, .slice a2 G.bs.length c2] hG rfl _ Tryz.underlying35 rfl (by kernel_rfl) ?_; (try simp only [Act.put, List.setIfInBounds_toArray, List.set_cons_zero, List.set_cons_succ])) | (refine wpList_store_seg rfl O 35 _ _ rfl p 0 0 (scrA s u1 u2 u3 (.slice b4 s.sets.length d4)) (.agg #[.int .i64 rows, .int .i64 (kw : Int), .slice a1 G.cs.length c1, .slice a2 G.bs.length c2]) hB rfl rfl rfl (by kernel_rfl) rfl ?_; (try simp only [Act.put, List.setIfInBounds_toArray, List.set_cons_zero, List.set_cons_succ]); intro w5 hB' tt; clear hB; have hB : Seg w5 p 0 (scrA { s with r := rows, wd := (kw : Int), cs := G.cs, bs := G.bs } (.slice a1 G.cs.length c1) (.slice a2 G.bs.length c2) u3 (.slice b4 s.sets.length d4)) := hB'; clear hB'; replace hA := hA.of_block (tt.block _ (by omega) (by omega) (hO0 _)); replace hR := hR.of_block (tt.block _ (by omega) (by omega) (hO0 _)); replace hg := hg.of_blocks (w' := w5) (fun q q1 q2 => tt.block q (by omega) (by omega) (hO0 _)); replace hG := hG.of_block (tt.block _ (by omega) (by omega) (hO0 _)); replace hS := hS.of_blocks (w' := w5) (fun q q1 q2 => tt.block q (by omega) (by omega) (hO0 _)); have bel5 := bel4.trans (tt.below (fun k _ => hO0 k) (by omega) (by omega)); have z5 : w4.heap.size ≤ w5.heap.size := tt.size; clear bel4 cA cG; have cA := hA.cells; have cG := hG.cells; clear tt) | (refine wpList_store_seg rfl O 2 _ _ rfl p 0 8 (scrA { s with r := rows, wd := (kw : Int), cs := G.cs, bs := G.bs } (.slice a1 G.cs.length c1) (.slice a2 G.bs.length c2) u3 (.slice b4 s.sets.length d4)) (.int .i64 0) hB rfl rfl rfl (by kernel_rfl) rfl ?_; (try simp only [Act.put, List.setIfInBounds_toArray, List.set_cons_zero, List.set_cons_succ]); intro w6 hB' tt; clear hB; have hB : Seg w6 p 0 (scrA { s with r := rows, wd := (kw : Int), cs := G.cs, bs := G.bs, top := 0 } (.slice a1 G.cs.length c1) (.slice a2 G.bs.length c2) u3 (.slice b4 s.sets.length d4)) := hB'; clear hB'; replace hA := hA.of_block (tt.block _ (by omega) (by omega) (hO0 _)); replace hR := hR.of_block (tt.block _ (by omega) (by omega) (hO0 _)); replace hg := hg.of_blocks (w' := w6) (fun q q1 q2 => tt.block q (by omega) (by omega) (hO0 _)); replace hG := hG.of_block (tt.block _ (by omega) (by omega) (hO0 _)); replace hS := hS.of_blocks (w' := w6) (fun q q1 q2 => tt.block q (by omega) (by omega) (hO0 _)); have bel6 := bel5.trans (tt.below (fun k _ => hO0 k) (by omega) (by omega)); have z6 : w5.heap.size ≤ w6.heap.size := tt.size; clear bel5 cA cG; have cA := hA.cells; have cG := hG.cells; clear tt) | (refine wpList_store_seg rfl O 2 _ _ rfl p 0 9 (scrA { s with r := rows, wd := (kw : Int), cs := G.cs, bs := G.bs, top := 0 } (.slice a1 G.cs.length c1) (.slice a2 G.bs.length c2) u3 (.slice b4 s.sets.length d4)) (.int .i64 (rows - 1)) hB rfl rfl rfl (by kernel_rfl) rfl ?_; (try simp only [Act.put, List.setIfInBounds_toArray, List.set_cons_zero, List.set_cons_succ]); intro w7 hB' tt; clear hB; have hB : Seg w7 p 0 (scrA { s with r := rows, wd := (kw : Int), cs := G.cs, bs := G.bs, top := 0, bot := rows - 1 } (.slice a1 G.cs.length c1) (.slice a2 G.bs.length c2) u3 (.slice b4 s.sets.length d4)) := hB'; clear hB'; replace hA := hA.of_block (tt.block _ (by omega) (by omega) (hO0 _)); replace hR := hR.of_block (tt.block _ (by omega) (by omega) (hO0 _)); replace hg := hg.of_blocks (w' := w7) (fun q q1 q2 => tt.block q (by omega) (by omega) (hO0 _)); replace hG := hG.of_block (tt.block _ (by omega) (by omega) (hO0 _)); replace hS := hS.of_blocks (w' := w7) (fun q q1 q2 => tt.block q (by omega) (by omega) (hO0 _)); have bel7 := bel6.trans (tt.below (fun k _ => hO0 k) (by omega) (by omega)); have z7 : w6.heap.size ≤ w7.heap.size := tt.size; clear bel6 cA cG; have cA := hA.cells; have cG := hG.cells; clear tt))
      go_at_call 137
      refine (goToRow_calls { s with r := rows, wd := (kw : Int), cs := G.cs, bs := G.bs, top := 0, bot := rows - 1 } _ _ _ _ p 0 O s.y _ s1 s2 hB).mono ?_
      rintro e w8 ⟨⟨_, rfl⟩, hB', tt⟩
      replace hA := hA.of_block (tt.block _ (by omega) (by omega) (hO0 _))
      replace hR := hR.of_block (tt.block _ (by omega) (by omega) (hO0 _))
      replace hg := hg.of_blocks (w' := w8) (fun q q1 q2 => tt.block q (by omega) (by omega) (hO0 _))
      replace hG := hG.of_block (tt.block _ (by omega) (by omega) (hO0 _))
      replace hS := hS.of_blocks (w' := w8) (fun q q1 q2 => tt.block q (by omega) (by omega) (hO0 _))
      have bel8 := bel7.trans (tt.below (fun k _ => hO0 k) (by omega) (by omega))
      have z8 : w7.heap.size ≤ w8.heap.size := tt.size
      clear hB tt bel7 cA cG
      have hB := hB'
      clear hB'
      have cA := hA.cells
      have cG := hG.cells
      go_wp2_with fail
      go_at_call 138
      refine (goToColumn_calls (goRow { s with r := rows, wd := (kw : Int), cs := G.cs, bs := G.bs, top := 0, bot := rows - 1 } s.y) _ _ _ _ p 0 O s.x _ s3 s4 hB).mono ?_
      rintro e w9 ⟨⟨_, rfl⟩, hB', tt⟩
      replace hA := hA.of_block (tt.block _ (by omega) (by omega) (hO0 _))
      replace hR := hR.of_block (tt.block _ (by omega) (by omega) (hO0 _))
      replace hg := hg.of_blocks (w' := w9) (fun q q1 q2 => tt.block q (by omega) (by omega) (hO0 _))
      replace hG := hG.of_block (tt.block _ (by omega) (by omega) (hO0 _))
      replace hS := hS.of_blocks (w' := w9) (fun q q1 q2 => tt.block q (by omega) (by omega) (hO0 _))
      have bel9 := bel8.trans (tt.below (fun k _ => hO0 k) (by omega) (by omega))
      have z9 : w8.heap.size ≤ w9.heap.size := tt.size
      clear hB tt bel8 cA cG
      have hB := hB'
      clear hB'
      have cA := hA.cells
      have cG := hG.cells
      go_wp2_with fail
      go_at_call 139
      refine (tabsOf_form s.tabs kw (by omega) (by omega) _ _ (h.g3.below bel9)).mono ?_
      rintro e w10 ⟨at', ct, rfl, hT, hb⟩
      have z10 : w9.heap.size ≤ w10.heap.size := hb.size
      replace hR := hR.belowb hb
      replace hB := hB.belowb hb
      replace hg := hg.below hb (by omega)
      replace hS := hS.below hb (by omega)
      have bel10 := bel9.trans (hb.mono (by omega))
      clear hb bel9 hA hG cA cG
      go_wp2_with (first | (refine wpList_store_seg rfl O 25 _ _ rfl p 0 13 (scrA (goCol (goRow { s with r := rows, wd := (kw : Int), cs := G.cs, bs := G.bs, top := 0, bot := rows - 1 } s.y) s.x) (.slice a1 G.cs.length c1) (.slice a2 G.bs.length c2) u3 (.slice b4 s.sets.length d4)) (.slice at' kw ct) hB rfl rfl rfl (by kernel_rfl) rfl ?_; (try simp only [Act.put, List.setIfInBounds_toArray, List.set_cons_zero, List.set_cons_succ]); intro w11 hB' tt; clear hB; have hB : Seg w11 p 0 (scrA { goCol (goRow { s with r := rows, wd := (kw : Int), cs := G.cs, bs := G.bs, top := 0, bot := rows - 1 } s.y) s.x with tabs := tabsW s.tabs kw } (.slice a1 G.cs.length c1) (.slice a2 G.bs.length c2) (.slice at' kw ct) (.slice b4 s.sets.length d4)) := hB'; clear hB'; replace hR := hR.of_block (tt.block _ (by omega) (by omega) (hO0 _)); replace hg := hg.of_blocks (w' := w11) (fun q q1 q2 => tt.block q (by omega) (by omega) (hO0 _)); replace hS := hS.of_blocks (w' := w11) (fun q q1 q2 => tt.block q (by omega) (by omega) (hO0 _)); replace hT := BoolsAt.of_blocks (w' := w11) hT (fun q q1 q2 => tt.block q (by omega) (by omega) (hO0 _)); have bel11 := bel10.trans (tt.below (fun k _ => hO0 k) (by omega) (by omega)); have z11 : w10.heap.size ≤ w11.heap.size := tt.size; clear tt bel10) | (refine wpList_load_seg rfl 37 _ rfl p 0 0 (scrA { goCol (goRow { s with r := rows, wd := (kw : Int), cs := G.cs, bs := G.bs, top := 0, bot := rows - 1 } s.y) s.x with tabs := tabsW s.tabs kw } (.slice a1 G.cs.length c1) (.slice a2 G.bs.length c2) (.slice at' kw ct) (.slice b4 s.sets.length d4)) (scrA { goCol (goRow { s with r := rows, wd := (kw : Int), cs := G.cs, bs := G.bs, top := 0, bot := rows - 1 } s.y) s.x with tabs := tabsW s.tabs kw } (.slice a1 G.cs.length c1) (.slice a2 G.bs.length c2) (.slice at' kw ct) (.slice b4 s.sets.length d4)) hB rfl rfl _ Tryz.underlying37 rfl (by kernel_rfl) ?_; (try simp only [Act.put, List.setIfInBounds_toArray, List.set_cons_zero, List.set_cons_succ])) | (refine wpList_build_at rfl 39 _ rfl (resA 0 { goCol (goRow { s with r := rows, wd := (kw : Int), cs := G.cs, bs := G.bs, top := 0, bot := rows - 1 } s.y) s.x with tabs := tabsW s.tabs kw } (.slice a1 G.cs.length c1) (.slice a2 G.bs.length c2) (.slice at' kw ct) (.slice b4 s.sets.length d4)) (by first | rfl | kernel_rfl) ?_; (try simp only [Act.put, List.setIfInBounds_toArray, List.set_cons_zero, List.set_cons_succ])) | (refine wpList_store_blk rfl _ _ _ rfl (w.heap.size + 1) 0 (resA 0 scr0 (.slice none 0 0) (.slice none 0 0) (.slice none 0 0) (.slice none 0 0)) (resA 0 { goCol (goRow { s with r := rows, wd := (kw : Int), cs := G.cs, bs := G.bs, top := 0, bot := rows - 1 } s.y) s.x with tabs := tabsW s.tabs kw } (.slice a1 G.cs.length c1) (.slice a2 G.bs.length c2) (.slice at' kw ct) (.slice b4 s.sets.length d4)) (.agg (resA 0 { goCol (goRow { s with r := rows, wd := (kw : Int), cs := G.cs, bs := G.bs, top := 0, bot := rows - 1 } s.y) s.x with tabs := tabsW s.tabs kw } (.slice a1 G.cs.length c1) (.slice a2 G.bs.length c2) (.slice at' kw ct) (.slice b4 s.sets.length d4))) rfl rfl hR rfl (by kernel_rfl) rfl rfl ?_; (try simp only [Act.put, List.setIfInBounds_toArray, List.set_cons_zero, List.set_cons_succ]); clear hR; intro w12 hR hu))
      exact bodyPost_ret (results_blk hR _ _ rfl rfl Tryz.underlying39 rfl (by kernel_rfl)) rfl ⟨_, _, _, _, rfl, ⟨w1.heap.size, w2.heap.size, w9.heap.size, w10.heap.size, l3, h3, by omega, by have := hu.size; omega, by omega, by have := hu.size; omega, by omega, by have := hu.size; omega, by omega, by omega, by omega, hg.of_blocks (fun q q1 q2 => hu.block q (by omega)), BoolsAt.of_blocks hT (fun q q1 q2 => hu.block q (by omega)), hS.of_blocks (fun q q1 q2 => hu.block q (by omega))⟩, bel11.trans (hu.below (by omega))⟩
  · rw [if_neg hc]
    obtain ⟨code, hcd⟩ : ∃ c, scrCode s = c := ⟨_, rfl⟩
    rw [hcd]
    have hne : (code != 0) = true := by rw [← hcd]; simpa using hc
    have HC := hide hcd
    clear hc hcd
    go_enter Tryz.func79, Tryz.ntmps79
    go_wp2_with (first | fail | (refine wpList_load_at rfl 37 _ rfl (w.heap.size) 0 rfl _ (scrA s v1 v2 v3 v4) hA rfl _ Tryz.underlying37 rfl (by kernel_rfl) ?_; (try simp only [Act.put, List.setIfInBounds_toArray, List.set_cons_zero, List.set_cons_succ])))
    go_at_call 58
    refine (implScreenFault_calls s _ _ _ _ _ hn1 hn2 hn3 hn4 (h.below bel0)).mono ?_
    rintro e w1 ⟨rfl, hb⟩
    replace hA := hA.belowb hb
    replace hR := hR.belowb hb
    have bel1 := bel0.trans (hb.mono bel0.size)
    have z1 : w.heap.size + 2 ≤ w1.heap.size := by have := hb.size; simp at this; omega
    clear hb bel0
    rw [HC.out]
    go_wp2_with (first | (refine wpList_build_at rfl 39 _ rfl (resA code scr0 (.slice none 0 0) (.slice none 0 0) (.slice none 0 0) (.slice none 0 0)) (by first | rfl | kernel_rfl) ?_; (try simp only [Act.put, List.setIfInBounds_toArray, List.set_cons_zero, List.set_cons_succ])) | (refine wpList_store_blk rfl _ _ _ rfl (w.heap.size + 1) 0 (resA 0 scr0 (.slice none 0 0) (.slice none 0 0) (.slice none 0 0) (.slice none 0 0)) (resA code scr0 (.slice none 0 0) (.slice none 0 0) (.slice none 0 0) (.slice none 0 0)) (.agg (resA code scr0 (.slice none 0 0) (.slice none 0 0) (.slice none 0 0) (.slice none 0 0))) rfl rfl hR rfl (by kernel_rfl) rfl rfl ?_; (try simp only [Act.put, List.setIfInBounds_toArray, List.set_cons_zero, List.set_cons_succ]); clear hR; intro w9 hR hu))
    exact bodyPost_ret (results_blk hR _ _ rfl rfl Tryz.underlying39 rfl (by kernel_rfl)) rfl ⟨_, _, _, _, rfl, sown_zero _ _ (by have := hu.size; omega) _, bel1.trans (hu.below (by omega))⟩
end Go.Proofs.YtdekegjplegkeaaGreat

/- l5Copy of the model: a copy of a screen that shares nothing. -/
namespace Go.Proofs.YtdekegjplegkeaaGreat
set_option maxRecDepth 20000
open Go.ChangeShapes Go.WideShapes Go.ChangeAt Go.RowKit
set_option linter.unusedVariables false
set_option linter.unusedSimpArgs false
set_option maxRecDepth 20000

theorem scrA_grdC (s : Scr) (v1 v2 v3 v4 : Value) : ((scrA s v1 v2 v3 v4).toList.drop 0).take (#[.int .i64 s.r, .int .i64 s.wd, v1, v2] : Array Value).size = (#[.int .i64 s.r, .int .i64 s.wd, v1, v2] : Array Value).toList := rfl
/-- A row of one's own stays where another block turns. -/
theorem own_upd {w w' : World} {base size n g : Nat} {e : TypeId} {v : Value} {xs : List Value} (h : w.ownsRow base e size v n xs) (hu : Upd g w w') (hg : ∀ k, v.ownBlock = some k → k ≠ g) : w'.ownsRow base e size v n xs := by
  obtain ⟨h1, h2⟩ := h
  refine ⟨h1, ?_⟩
  rcases h2 with h2 | ⟨q, cap, cur, rfl, hb, hq, hr⟩
  · exact .inl h2
  · exact .inr ⟨q, cap, cur, rfl, hb, (hu.block q (hg q (by simp [Value.ownBlock]))).trans hq, hr⟩
set_option maxHeartbeats 4000000 in
theorem l5Copy_calls (s : Scr) (v1 v2 v3 v4 : Value) (w : World) (hn1 : s.cs.length ≤ 1048576) (hn2 : s.bs.length ≤ 1048576) (hn3 : s.tabs.length ≤ 1048576) (hn4 : s.sets.length ≤ 1048576) (h : SRead w s v1 v2 v3 v4) :
    Calls Tryz.prog 46 #[.agg (scrA s v1 v2 v3 v4)] w fun e w' => ∃ u1 u2 u3 u4, e = .returned (.agg (scrA s u1 u2 u3 u4)) ∧ (∃ p1 p2 p3 p4, w.heap.size ≤ p1 ∧ p1 ≤ p2 ∧ p2 ≤ p3 ∧ p3 ≤ p4 ∧ p4 ≤ w'.heap.size ∧ w'.ownsRow p1 193 2 u1 s.cs.length (pvs s.cs) ∧ (∀ k, u1.ownBlock = some k → k < p2) ∧ w'.ownsRow p2 193 2 u2 s.bs.length (pvs s.bs) ∧ (∀ k, u2.ownBlock = some k → k < p3) ∧ BoolsAt p3 p4 w' u3 s.tabs ∧ IntsAt .i64 p4 w'.heap.size w' u4 s.sets) ∧ Below w.heap.size w w' := by
  obtain ⟨ii, hi, hi0, hi1, hi2⟩ := info_parts info_intO
  obtain ⟨ib, hb', hb0, hb1, hb2⟩ := info_parts info_boolO
  have h' := h
  obtain ⟨a1, c1, a2, c2, a3, c3, a4, c4, rfl, rfl, rfl, rfl⟩ := h'.forms
  clear h'
  have bel : Below w.heap.size w ((w.alloc (.cells (scrA s (.slice a1 s.cs.length c1) (.slice a2 s.bs.length c2) (.slice a3 s.tabs.length c3) (.slice a4 s.sets.length c4)) 37)).alloc (.cells #[.int .i64 0, .int .i64 0, .slice none 0 0, .slice none 0 0, .int .i64 0, .int .i64 0, .bool false, .int .i64 0, .int .i64 0, .int .i64 0, .bool false, .bool false, .bool false, .slice none 0 0, .int .i64 0, .int .i64 0, .int .i64 0, .slice none 0 0, .int .i64 0, .int .i64 0] 37)) := (by repeat' (first | with_reducible exact Below.refl _ _ | with_reducible assumption | with_reducible refine Below.drew ?_ | with_reducible refine Below.alloc ?_ ?_ _ | with_reducible refine Below.setCell ?_ ?_ _ | (simp; done) | (simp; omega) | omega))
  have s0 : ((w.alloc (.cells (scrA s (.slice a1 s.cs.length c1) (.slice a2 s.bs.length c2) (.slice a3 s.tabs.length c3) (.slice a4 s.sets.length c4)) 37)).alloc (.cells #[.int .i64 0, .int .i64 0, .slice none 0 0, .slice none 0 0, .int .i64 0, .int .i64 0, .bool false, .int .i64 0, .int .i64 0, .int .i64 0, .bool false, .bool false, .bool false, .slice none 0 0, .int .i64 0, .int .i64 0, .int .i64 0, .slice none 0 0, .int .i64 0, .int .i64 0] 37)).heap.size = w.heap.size + 2 := by simp
  have hA := (Blk.new w (scrA s (.slice a1 s.cs.length c1) (.slice a2 s.bs.length c2) (.slice a3 s.tabs.length c3) (.slice a4 s.sets.length c4)) 37).alloc (.cells #[.int .i64 0, .int .i64 0, .slice none 0 0, .slice none 0 0, .int .i64 0, .int .i64 0, .bool false, .int .i64 0, .int .i64 0, .int .i64 0, .bool false, .bool false, .bool false, .slice none 0 0, .int .i64 0, .int .i64 0, .int .i64 0, .slice none 0 0, .int .i64 0, .int .i64 0] 37)
  have hO : Blk ((w.alloc (.cells (scrA s (.slice a1 s.cs.length c1) (.slice a2 s.bs.length c2) (.slice a3 s.tabs.length c3) (.slice a4 s.sets.length c4)) 37)).alloc (.cells #[.int .i64 0, .int .i64 0, .slice none 0 0, .slice none 0 0, .int .i64 0, .int .i64 0, .bool false, .int .i64 0, .int .i64 0, .int .i64 0, .bool false, .bool false, .bool false, .slice none 0 0, .int .i64 0, .int .i64 0, .int .i64 0, .slice none 0 0, .int .i64 0, .int .i64 0] 37)) (w.heap.size + 1) (scrA scr0 (.slice none 0 0) (.slice none 0 0) (.slice none 0 0) (.slice none 0 0)) := Blk.new_at (by simp) _ _
  go_enter Tryz.func46, Tryz.ntmps46
  go_wp2_with (first | fail | (refine wpList_load_at rfl 35 _ rfl (w.heap.size) 0 rfl _ #[.int .i64 s.r, .int .i64 s.wd, .slice a1 s.cs.length c1, .slice a2 s.bs.length c2] hA (scrA_grdC s _ _ _ _) _ Tryz.underlying35 rfl (by kernel_rfl) ?_; (try simp only [Act.put, List.setIfInBounds_toArray, List.set_cons_zero, List.set_cons_succ])))
  go_at_call 88
  refine (l3Copy_calls s.r s.wd s.cs s.bs _ _ _ hn1 hn2 (h.g1.below bel) (h.g2.below bel)).mono ?_
  rintro e w1 ⟨x, y, m, rfl, hm1, hm2, hox, hxl, hoy, hb⟩
  rw [s0] at hm1 hox
  obtain ⟨b1, d1, rfl, _⟩ := own_room2 hox
  obtain ⟨b2, d2, rfl, _⟩ := own_room2 hoy
  replace hA := hA.belowb hb
  replace hO := hO.belowb hb
  have s1 : w.heap.size + 2 ≤ w1.heap.size := by have := hb.size; rw [s0] at this; exact this
  have hyl : ∀ k, (Value.slice b2 s.bs.length d2).ownBlock = some k → k < w1.heap.size := fun k hk => (hoy.lt k hk).2
  have HXL := hide hxl
  have HYL := hide hyl
  replace bel := bel.trans (hb.mono bel.size)
  clear hb hxl hyl s0
  have cA := hA.cells
  have e0_2 := scrA_2 s (.slice a1 s.cs.length c1) (.slice a2 s.bs.length c2) (.slice a3 s.tabs.length c3) (.slice a4 s.sets.length c4)
  have e0_3 := scrA_3 s (.slice a1 s.cs.length c1) (.slice a2 s.bs.length c2) (.slice a3 s.tabs.length c3) (.slice a4 s.sets.length c4)
  have e0_13 := scrA_13 s (.slice a1 s.cs.length c1) (.slice a2 s.bs.length c2) (.slice a3 s.tabs.length c3) (.slice a4 s.sets.length c4)
  have e0_17 := scrA_17 s (.slice a1 s.cs.length c1) (.slice a2 s.bs.length c2) (.slice a3 s.tabs.length c3) (.slice a4 s.sets.length c4)
  go_wp2_with (first | fail | (refine wpList_store_blk rfl _ _ _ rfl (w.heap.size) 0 (scrA s (.slice a1 s.cs.length c1) (.slice a2 s.bs.length c2) (.slice a3 s.tabs.length c3) (.slice a4 s.sets.length c4)) (scrA s (.slice b1 s.cs.length d1) (.slice b2 s.bs.length d2) (.slice a3 s.tabs.length c3) (.slice a4 s.sets.length c4)) (.agg #[.int .i64 s.r, .int .i64 s.wd, .slice b1 s.cs.length d1, .slice b2 s.bs.length d2]) rfl rfl hA rfl (by kernel_rfl) rfl rfl ?_; (try simp only [Act.put, List.setIfInBounds_toArray, List.set_cons_zero, List.set_cons_succ]); clear hA cA; intro w2 hA hu; replace hO := hO.upd hu (by omega); replace hox := own_upd hox hu (fun k hk => by have := (hox.lt k hk).1; omega); replace hoy := own_upd hoy hu (fun k hk => by have := (hoy.lt k hk).1; omega); replace bel := bel.trans (hu.below (by omega)); have z2 := Nat.le_of_eq hu.size; have zz2 := Nat.le_of_eq hu.size.symm; clear hu; have cA := hA.cells; have cB := (hA.alloc (.cells #[] 4)).cells; have e1_2 := scrA_2 s (.slice b1 s.cs.length d1) (.slice b2 s.bs.length d2) (.slice a3 s.tabs.length c3) (.slice a4 s.sets.length c4); have e1_3 := scrA_3 s (.slice b1 s.cs.length d1) (.slice b2 s.bs.length d2) (.slice a3 s.tabs.length c3) (.slice a4 s.sets.length c4); have e1_13 := scrA_13 s (.slice b1 s.cs.length d1) (.slice b2 s.bs.length d2) (.slice a3 s.tabs.length c3) (.slice a4 s.sets.length c4); have e1_17 := scrA_17 s (.slice b1 s.cs.length d1) (.slice b2 s.bs.length d2) (.slice a3 s.tabs.length c3) (.slice a4 s.sets.length c4)) | (at_builtin; refine wpList_copy_bools _ rfl (.tmp 7) (.tmp 9) 25 rfl w2.heap.size 4 ib (.bool false) 1 Tryz.underlying25 hb' hb0 hb1 hb2 rfl (.slice (some ⟨w2.heap.size, 0, none⟩) 0 0) rfl (by have h := World.ownsRow_lit (base := w2.heap.size) (e := 4) (size := 1) w2 #[] 0 (by simp) (by simp) rfl; simpa [boolsV, intsV] using h) _ _ rfl ((h.below bel).g3.below ((Below.refl _ _).alloc (Nat.le_refl _) _)) (by omega) (by omega) (by simp) ?_; intro v' w3 ow hT hb; clear ow; have P' := hT; obtain ⟨b3, d3, rfl, _⟩ := P'; replace hb := ((Below.refl w2.heap.size w2).alloc (Nat.le_refl _) (.cells #[] 4)).trans hb; replace hA := hA.belowb hb; replace hO := hO.belowb hb; replace hox := own_below hox hb; replace hoy := own_below hoy hb; have z3 : w2.heap.size ≤ w3.heap.size := hb.size; replace bel := bel.trans (hb.mono (by omega)); clear hb; have cA := hA.cells) | (refine wpList_store_blk rfl _ _ _ rfl (w.heap.size) 13 (scrA s (.slice b1 s.cs.length d1) (.slice b2 s.bs.length d2) (.slice a3 s.tabs.length c3) (.slice a4 s.sets.length c4)) (scrA s (.slice b1 s.cs.length d1) (.slice b2 s.bs.length d2) (.slice b3 s.tabs.length d3) (.slice a4 s.sets.length c4)) (.slice b3 s.tabs.length d3) rfl rfl hA rfl (by kernel_rfl) rfl rfl ?_; (try simp only [Act.put, List.setIfInBounds_toArray, List.set_cons_zero, List.set_cons_succ]); clear hA cA; intro w4 hA hu; replace hO := hO.upd hu (by omega); replace hox := own_upd hox hu (fun k hk => by have := (hox.lt k hk).1; omega); replace hoy := own_upd hoy hu (fun k hk => by have := (hoy.lt k hk).1; omega); replace hT := hT.of_blocks (w' := w4) (fun q q1 q2 => hu.block q (by omega)); replace bel := bel.trans (hu.below (by omega)); have z4 := Nat.le_of_eq hu.size; have zz4 := Nat.le_of_eq hu.size.symm; clear hu; have cA := hA.cells; have cC := (hA.alloc (.cells #[] 2)).cells; have e2_2 := scrA_2 s (.slice b1 s.cs.length d1) (.slice b2 s.bs.length d2) (.slice b3 s.tabs.length d3) (.slice a4 s.sets.length c4); have e2_3 := scrA_3 s (.slice b1 s.cs.length d1) (.slice b2 s.bs.length d2) (.slice b3 s.tabs.length d3) (.slice a4 s.sets.length c4); have e2_13 := scrA_13 s (.slice b1 s.cs.length d1) (.slice b2 s.bs.length d2) (.slice b3 s.tabs.length d3) (.slice a4 s.sets.length c4); have e2_17 := scrA_17 s (.slice b1 s.cs.length d1) (.slice b2 s.bs.length d2) (.slice b3 s.tabs.length d3) (.slice a4 s.sets.length c4)) | (at_builtin; refine wpList_copy_ints _ rfl (.tmp 12) (.tmp 14) 26 rfl w4.heap.size 2 ii (.int .i64 0) 8 Tryz.underlying26 hi hi0 hi1 hi2 rfl (.slice (some ⟨w4.heap.size, 0, none⟩) 0 0) rfl (by have h := World.ownsRow_lit (base := w4.heap.size) (e := 2) (size := 1) w4 #[] 0 (by simp) (by simp) rfl; simpa [boolsV, intsV] using h) _ _ rfl ((h.below bel).g4.below ((Below.refl _ _).alloc (Nat.le_refl _) _)) (by omega) (by omega) (by simp) ?_; intro v' w5 ow hI hb; clear ow; have P' := hI; obtain ⟨b4, d4, rfl, _⟩ := P'; replace hb := ((Below.refl w4.heap.size w4).alloc (Nat.le_refl _) (.cells #[] 2)).trans hb; replace hA := hA.belowb hb; replace hO := hO.belowb hb; replace hox := own_below hox hb; replace hoy := own_below hoy hb; have z5 : w4.heap.size ≤ w5.heap.size := hb.size; replace bel := bel.trans (hb.mono (by omega)); replace hT := hT.below hb (by omega); clear hb; have cA := hA.cells) | (refine wpList_store_blk rfl _ _ _ rfl (w.heap.size) 17 (scrA s (.slice b1 s.cs.length d1) (.slice b2 s.bs.length d2) (.slice b3 s.tabs.length d3) (.slice a4 s.sets.length c4)) (scrA s (.slice b1 s.cs.length d1) (.slice b2 s.bs.length d2) (.slice b3 s.tabs.length d3) (.slice b4 s.sets.length d4)) (.slice b4 s.sets.length d4) rfl rfl hA rfl (by kernel_rfl) rfl rfl ?_; (try simp only [Act.put, List.setIfInBounds_toArray, List.set_cons_zero, List.set_cons_succ]); clear hA cA; intro w6 hA hu; replace hO := hO.upd hu (by omega); replace hox := own_upd hox hu (fun k hk => by have := (hox.lt k hk).1; omega); replace hoy := own_upd hoy hu (fun k hk => by have := (hoy.lt k hk).1; omega); replace hT := hT.of_blocks (w' := w6) (fun q q1 q2 => hu.block q (by omega)); replace hI := hI.of_blocks (w' := w6) (fun q q1 q2 => hu.block q (by omega)); replace bel := bel.trans (hu.below (by omega)); have z6 := Nat.le_of_eq hu.size; have zz6 := Nat.le_of_eq hu.size.symm; clear hu; have cA := hA.cells; have e3_2 := scrA_2 s (.slice b1 s.cs.length d1) (.slice b2 s.bs.length d2) (.slice b3 s.tabs.length d3) (.slice b4 s.sets.length d4); have e3_3 := scrA_3 s (.slice b1 s.cs.length d1) (.slice b2 s.bs.length d2) (.slice b3 s.tabs.length d3) (.slice b4 s.sets.length d4); have e3_13 := scrA_13 s (.slice b1 s.cs.length d1) (.slice b2 s.bs.length d2) (.slice b3 s.tabs.length d3) (.slice b4 s.sets.length d4); have e3_17 := scrA_17 s (.slice b1 s.cs.length d1) (.slice b2 s.bs.length d2) (.slice b3 s.tabs.length d3) (.slice b4 s.sets.length d4)) | (refine wpList_load_at rfl 37 _ rfl (w.heap.size) 0 rfl _ (scrA s (.slice b1 s.cs.length d1) (.slice b2 s.bs.length d2) (.slice b3 s.tabs.length d3) (.slice b4 s.sets.length d4)) hA rfl _ Tryz.underlying37 rfl (by kernel_rfl) ?_; (try simp only [Act.put, List.setIfInBounds_toArray, List.set_cons_zero, List.set_cons_succ])) | (refine wpList_store_blk rfl _ _ _ rfl (w.heap.size + 1) 0 (scrA scr0 (.slice none 0 0) (.slice none 0 0) (.slice none 0 0) (.slice none 0 0)) (scrA s (.slice b1 s.cs.length d1) (.slice b2 s.bs.length d2) (.slice b3 s.tabs.length d3) (.slice b4 s.sets.length d4)) (.agg (scrA s (.slice b1 s.cs.length d1) (.slice b2 s.bs.length d2) (.slice b3 s.tabs.length d3) (.slice b4 s.sets.length d4))) rfl rfl hO rfl (by kernel_rfl) rfl rfl ?_; (try simp only [Act.put, List.setIfInBounds_toArray, List.set_cons_zero, List.set_cons_succ]); clear hO; intro w7 hO hu; have HX3 := hide (fun k (hk : (Value.slice b1 s.cs.length d1).ownBlock = some k) => (by have := (hox.lt k hk).1; omega : k ≠ w.heap.size + 1)); have HY3 := hide (fun k (hk : (Value.slice b2 s.bs.length d2).ownBlock = some k) => (by have := (hoy.lt k hk).1; omega : k ≠ w.heap.size + 1))))
  exact bodyPost_ret (results_blk hO _ _ rfl rfl Tryz.underlying37 rfl (by kernel_rfl)) rfl ⟨_, _, _, _, rfl, ⟨w.heap.size + 2, m, w1.heap.size, w3.heap.size, by omega, by omega, by omega, by omega, by have := hu.size; omega, own_upd hox hu HX3.out, HXL.out, own_upd hoy hu HY3.out, HYL.out, (BoolsAt.of_blocks hT (fun q q1 q2 => hu.block q (by omega))).mono (by omega) (by omega), (hI.of_blocks (fun q q1 q2 => hu.block q (by omega))).mono (by omega) (by have := hu.size; omega)⟩, bel.trans (hu.below (by omega))⟩
end Go.Proofs.YtdekegjplegkeaaGreat

/- Where one may go on a screen, for the model: l5Go. -/
namespace Go.Proofs.YtdekegjplegkeaaGreat
set_option maxRecDepth 20000
open Go.ChangeShapes Go.WideShapes Go.ChangeAt Go.RowKit
set_option linter.unusedVariables false
set_option linter.unusedSimpArgs false
set_option maxRecDepth 20000

theorem l1Max_calls (a b : Int) (w : World) : Calls Tryz.prog 156 #[.int .i64 a, .int .i64 b] w fun e w' => e = .returned (.int .i64 (max a b)) ∧ w' = w := by
  by_cases h : b < a
  · go_enter Tryz.func156, Tryz.ntmps156
    go_wp2
    go_ret
    exact ⟨by rw [show max a b = a by omega]; rfl, rfl⟩
  · go_enter Tryz.func156, Tryz.ntmps156
    go_wp2
    go_ret
    exact ⟨by rw [show max a b = b by omega]; rfl, rfl⟩
def goTo (s : Scr) (y x : Int) : Scr := goCol (goRow s y) x
set_option maxHeartbeats 2000000 in
theorem l5Go_calls (s : Scr) (v1 v2 v3 v4 : Value) (b ob : Nat) (O : Nat → Prop) (y x : Int) (w : World) (s1 : 1 ≤ s.r) (s2 : s.r ≤ 6) (s3 : 2 ≤ s.wd) (s4 : s.wd ≤ 12) (hB : Seg w b ob (scrA s v1 v2 v3 v4)) :
    Calls Tryz.prog 135 #[.pointer (some ⟨b, ob, none⟩), .int .i64 y, .int .i64 x] w fun e w' => (∃ u, e = .returned u) ∧ Seg w' b ob (scrA (goTo s y x) v1 v2 v3 v4) ∧ Turn O b ob (ob + 20) w w' := by
  obtain ⟨m, hm⟩ : ∃ m, min (rowHi s) y = m := ⟨_, rfl⟩
  obtain ⟨k, hk⟩ : ∃ k, max (rowLo s) m = k := ⟨_, rfl⟩
  obtain ⟨p, hp⟩ : ∃ p, min (s.wd - 1) x = p := ⟨_, rfl⟩
  obtain ⟨q, hq⟩ : ∃ q, max 0 p = q := ⟨_, rfl⟩
  have e1 : goTo s y x = { s with y := k, x := q, wrap := false } := by
    unfold goTo goCol goRow
    rw [Int.min_comm y, hm, hk]
    show ({ s with y := k, wrap := false, x := max 0 (min x (s.wd - 1)) } : Scr) = _
    rw [Int.min_comm x, hp, hq]
  rw [e1]
  have hr : IntKind.i64.wrap (s.r - 1) = s.r - 1 := wrap_small (by omega) (by omega)
  have hc : IntKind.i64.wrap (s.wd - 1) = s.wd - 1 := wrap_small (by omega) (by omega)
  have hT := Turn.refl O b ob (ob + 20) w
  clear e1
  unfold rowHi at hm
  unfold rowLo at hk
  have g0 := hB.at0 (scrA_0 s v1 v2 v3 v4)
  have g1 := hB.at 1 (scrA_1 s v1 v2 v3 v4)
  have g8 := hB.at 8 (scrA_8 s v1 v2 v3 v4)
  have g9 := hB.at 9 (scrA_9 s v1 v2 v3 v4)
  have g10 := hB.at 10 (scrA_10 s v1 v2 v3 v4)
  rcases (show s.org = false ∨ s.org = true by cases s.org <;> simp) with ho | ho
  · rw [ho] at hm hk g10
    simp only [Bool.false_eq_true, if_false] at hm hk
    have HM := hide hm
    have HK := hide hk
    have HP := hide hp
    have HQ := hide hq
    clear hm hk hp hq
    go_enter Tryz.func135, Tryz.ntmps135
    go_wp2_with (first | (go_at_call 133; refine (l1Min_calls _ _ _).mono ?_; rintro e w' ⟨rfl, hw⟩; rw [hw]; clear hw w'; first | rw [HM.out] | rw [HK.out] | rw [HP.out] | rw [HQ.out]) | (go_at_call 156; refine (l1Max_calls _ _ _).mono ?_; rintro e w' ⟨rfl, hw⟩; rw [hw]; clear hw w'; first | rw [HM.out] | rw [HK.out] | rw [HP.out] | rw [HQ.out]) | (refine wpList_store_seg rfl O 2 _ _ rfl b ob 4 (scrA s v1 v2 v3 v4) (.int .i64 k) hB rfl rfl rfl (by kernel_rfl) rfl ?_; (try simp only [Act.put, List.setIfInBounds_toArray, List.set_cons_zero, List.set_cons_succ]); clear g0 g1 g8 g9 g10; intro w1 hB' tt; replace hT := hT.trans tt; clear hB tt; have hB : Seg w1 b ob (scrA { s with y := k } v1 v2 v3 v4) := hB'; clear hB'; have g1 := hB.at 1 (scrA_1 { s with y := k } v1 v2 v3 v4)) | (refine wpList_store_seg rfl O 2 _ _ rfl b ob 5 (scrA { s with y := k } v1 v2 v3 v4) (.int .i64 q) hB rfl rfl rfl (by kernel_rfl) rfl ?_; (try simp only [Act.put, List.setIfInBounds_toArray, List.set_cons_zero, List.set_cons_succ]); clear g1; intro w2 hB' tt; replace hT := hT.trans tt; clear hB tt; have hB : Seg w2 b ob (scrA { s with y := k, x := q } v1 v2 v3 v4) := hB'; clear hB') | (refine wpList_store_seg rfl O 4 _ _ rfl b ob 6 (scrA { s with y := k, x := q } v1 v2 v3 v4) (.bool false) hB rfl rfl rfl (by kernel_rfl) rfl ?_; (try simp only [Act.put, List.setIfInBounds_toArray, List.set_cons_zero, List.set_cons_succ]); intro w3 hB' tt; replace hT := hT.trans tt; clear hB tt; have hB : Seg w3 b ob (scrA { s with y := k, x := q, wrap := false } v1 v2 v3 v4) := hB'; clear hB'))
    go_end0
    exact ⟨⟨_, rfl⟩, hB, hT⟩
  · rw [ho] at hm hk g10
    simp only [if_true] at hm hk
    have HM := hide hm
    have HK := hide hk
    have HP := hide hp
    have HQ := hide hq
    clear hm hk hp hq
    go_enter Tryz.func135, Tryz.ntmps135
    go_wp2_with (first | (go_at_call 133; refine (l1Min_calls _ _ _).mono ?_; rintro e w' ⟨rfl, hw⟩; rw [hw]; clear hw w'; first | rw [HM.out] | rw [HK.out] | rw [HP.out] | rw [HQ.out]) | (go_at_call 156; refine (l1Max_calls _ _ _).mono ?_; rintro e w' ⟨rfl, hw⟩; rw [hw]; clear hw w'; first | rw [HM.out] | rw [HK.out] | rw [HP.out] | rw [HQ.out]) | (refine wpList_store_seg rfl O 2 _ _ rfl b ob 4 (scrA s v1 v2 v3 v4) (.int .i64 k) hB rfl rfl rfl (by kernel_rfl) rfl ?_; (try simp only [Act.put, List.setIfInBounds_toArray, List.set_cons_zero, List.set_cons_succ]); clear g0 g1 g8 g9 g10; intro w1 hB' tt; replace hT := hT.trans tt; clear hB tt; have hB : Seg w1 b ob (scrA { s with y := k } v1 v2 v3 v4) := hB'; clear hB'; have g1 := hB.at 1 (scrA_1 { s with y := k } v1 v2 v3 v4)) | (refine wpList_store_seg rfl O 2 _ _ rfl b ob 5 (scrA { s with y := k } v1 v2 v3 v4) (.int .i64 q) hB rfl rfl rfl (by kernel_rfl) rfl ?_; (try simp only [Act.put, List.setIfInBounds_toArray, List.set_cons_zero, List.set_cons_succ]); clear g1; intro w2 hB' tt; replace hT := hT.trans tt; clear hB tt; have hB : Seg w2 b ob (scrA { s with y := k, x := q } v1 v2 v3 v4) := hB'; clear hB') | (refine wpList_store_seg rfl O 4 _ _ rfl b ob 6 (scrA { s with y := k, x := q } v1 v2 v3 v4) (.bool false) hB rfl rfl rfl (by kernel_rfl) rfl ?_; (try simp only [Act.put, List.setIfInBounds_toArray, List.set_cons_zero, List.set_cons_succ]); intro w3 hB' tt; replace hT := hT.trans tt; clear hB tt; have hB : Seg w3 b ob (scrA { s with y := k, x := q, wrap := false } v1 v2 v3 v4) := hB'; clear hB'))
    go_end0
    exact ⟨⟨_, rfl⟩, hB, hT⟩
end Go.Proofs.YtdekegjplegkeaaGreat

/- A slice that has room for what it holds. -/
namespace Go.Proofs.YtdekegjplegkeaaGreat
set_option maxRecDepth 20000
def Capped (v : Value) : Prop := ∀ a n c, v = .slice a n c → n ≤ c
theorem Capped.of {a : Option Addr} {n c : Nat} (h : n ≤ c) : Capped (.slice a n c) := fun _ _ _ e => by cases e; exact h
end Go.Proofs.YtdekegjplegkeaaGreat

/- What ResizeGrid answers, of the model: l3Fit, l3Resize. -/
namespace Go.Proofs.YtdekegjplegkeaaGreat
set_option maxRecDepth 20000
open Go.ChangeShapes Go.WideShapes Go.ChangeAt Go.RowKit
set_option linter.unusedVariables false
set_option linter.unusedSimpArgs false
set_option maxRecDepth 20000

theorem fitF_step2 {m m' k : Nat} {f : Nat → Int × Int} {bl : Int × Int} (h : 0 < m') (i : Nat) : (if k * m' ≤ i ∧ i < k * m' + m' then (if i - k * m' < min m m' then f (k * m + (i - k * m')) else bl) else fitF m m' k f bl i) = fitF m m' (k + 1) f bl i := by
  rw [← fitF_step h]
  by_cases e : k * m' ≤ i ∧ i < k * m' + m'
  · rw [if_pos e]
    by_cases e2 : i - k * m' < min m m'
    · rw [if_pos e2, if_pos (by omega)]
    · rw [if_neg e2, if_neg (by omega)]
      unfold fitF
      rw [if_neg (by omega)]
  · rw [if_neg e, if_neg (by omega)]
theorem fitF_more {m m' K k : Nat} {f : Nat → Int × Int} {bl : Int × Int} (h : 0 < m') (hk : k < K) : mkL (k * m') (fitF m m' K f bl) ++ mkL m' (fun x => if x < min m m' then f (k * m + x) else bl) = mkL ((k + 1) * m') (fitF m m' K f bl) := by
  rw [Nat.add_mul, Nat.one_mul, mkL_add]
  congr 1
  refine mkL_congr (fun x hx => ?_)
  unfold fitF
  have h2 : (k + 1) * m' ≤ K * m' := Nat.mul_le_mul_right m' (by omega)
  rw [Nat.add_mul, Nat.one_mul] at h2
  have hd : (k * m' + x) / m' = k := Nat.div_eq_of_lt_le (by omega) (by rw [Nat.add_mul, Nat.one_mul]; omega)
  have hm := Nat.div_add_mod (k * m' + x) m'
  rw [hd, Nat.mul_comm] at hm
  have hx2 : (k * m' + x) % m' = x := by omega
  rw [hd, hx2]
  by_cases e : x < m
  · rw [if_pos (by omega), if_pos ⟨by omega, e⟩]
  · rw [if_neg (by omega), if_neg (by omega)]
set_option maxHeartbeats 2000000 in
theorem l3RowOf_off (pb bx off n cx k m u : Nat) (y wd : Int) (f : Nat → Int × Int) (w : World) (c1 : w.cell? ⟨pb, 1, none⟩ = some (.int .i64 wd)) (c2 : w.cell? ⟨pb, 2, none⟩ = some (.slice (some ⟨bx, off, none⟩) n cx)) (hr : RowR w bx off n f) (hc : n ≤ cx)
    (hk : y * wd = (k : Int)) (hm : wd = (m : Int)) (hu : u = k + m) (hun : u ≤ n) (hn : n ≤ 1048576) (hm0 : 0 < m) (y0 : 0 ≤ y) (y1 : y ≤ 1000) :
    Calls Tryz.prog 194 #[.pointer (some ⟨pb, 0, none⟩), .int .i64 y] w fun e w' => ∃ v, e = .returned v ∧ w'.ownsRow w.heap.size 193 2 v m (pvs (mkL m (fun i => f (k + i)))) ∧ Below w.heap.size w w' := by
  obtain ⟨i0, hi, hz0, hz1, hz2⟩ := info_parts info_cell
  have e1 : IntKind.i64.wrap (y * wd) = (k : Int) := by rw [hk]; exact wrap_small (by omega) (by omega)
  have e2 : IntKind.i64.wrap ((y + 1) * wd) = (u : Int) := by rw [Int.add_mul, hk, hm]; rw [show (k : Int) + 1 * (m : Int) = (u : Int) by omega]; exact wrap_small (by omega) (by omega)
  have e3 : IntKind.i64.wrap (y + 1) = y + 1 := wrap_small (by omega) (by omega)
  have e4 : u ≤ cx := by omega
  have e5 : (k : Int) ≤ (u : Int) := by omega
  have e6 : (u : Int) ≤ (cx : Int) := by omega
  have e7 : ¬ cx = k := by omega
  have e8 : ¬ k = cx := by omega
  have e9 : k ≤ u := by omega
  have HK := hide hk
  have HM := hide hm
  have HU := hide hu
  clear hk hm
  have hpr : PRead (w.drew.alloc (.cells #[] 193)) (.slice (some ⟨bx, off + k * 2, none⟩) (u - k) (cx - k)) (mkL (u - k) (fun i => f (k + i))) := by
    have h := (hr.sub k (u - k) (by omega)).below (B := w.heap.size) (w' := w.drew.alloc (.cells #[] 193)) (by repeat' (first | with_reducible exact Below.refl _ _ | with_reducible assumption | with_reducible refine Below.drew ?_ | with_reducible refine Below.alloc ?_ ?_ _ | with_reducible refine Below.setCell ?_ ?_ _ | (simp; done) | (simp; omega) | omega)) (hr.lt (by omega))
    exact pread_of_row h
  clear hu hr
  go_enter Tryz.func194, Tryz.ntmps194
  go_wp2_with fail
  have hlit : (w.drew.alloc (.cells #[] 193)).ownsRow w.heap.size 193 2 (.slice (some ⟨w.heap.size, 0, none⟩) 0 0) 0 (pvs []) := World.ownsRow_lit (base := w.heap.size) (e := 193) (size := 2) w.drew #[] 0 (Nat.le_refl _) (by simp) rfl
  have hba : Below w.heap.size w (w.alloc (.cells #[] 193)) := (by repeat' (first | with_reducible exact Below.refl _ _ | with_reducible assumption | with_reducible refine Below.drew ?_ | with_reducible refine Below.alloc ?_ ?_ _ | with_reducible refine Below.setCell ?_ ?_ _ | (simp; done) | (simp; omega) | omega))
  have K1 := cellb hba c1
  have K2 := cellb hba c2
  refine wp_region_held_drew (S := (fun w' => w'.cell? ⟨pb, 1, none⟩ = some (.int .i64 wd) ∧ w'.cell? ⟨pb, 2, none⟩ = some (.slice (some ⟨bx, off, none⟩) n cx))) (by kernel_rfl) ?_ (fun hHeld => ?_)
  · (try dsimp only); exact ⟨c1, c2⟩
  refine wpAnyH_take (i := 1) (oi := ⟨_, _, _, _, _, _⟩) (v := ?_) rfl (by kernel_rfl) (by kernel_rfl) (by kernel_rfl) (fun _ _ _ h => h) (Or.inl ⟨by rfl, ?_⟩) hHeld ?_
  rotate_left
  · (intro w hSw; (try dsimp only at hSw); go_simp; try (with_reducible rfl))
  try simp only [Act.put, List.setIfInBounds_toArray, List.set_cons_zero, List.set_cons_succ]
  refine wpAnyH_take (i := 2) (oi := ⟨_, _, _, _, _, _⟩) (v := ?_) rfl (by kernel_rfl) (by kernel_rfl) (by kernel_rfl) (fun _ _ _ h => h) (Or.inl ⟨by rfl, ?_⟩) hHeld ?_
  rotate_left
  · (intro w hSw; (try dsimp only at hSw); go_simp; try (with_reducible rfl))
  try simp only [Act.put, List.setIfInBounds_toArray, List.set_cons_zero, List.set_cons_succ]
  refine wpAnyH_take (i := 3) (oi := ⟨_, _, _, _, _, _⟩) (v := ?_) rfl (by kernel_rfl) (by kernel_rfl) (by kernel_rfl) (fun _ _ _ h => h) (Or.inl ⟨by rfl, ?_⟩) hHeld ?_
  rotate_left
  · (intro w hSw; (try dsimp only at hSw); go_simp; try (with_reducible rfl))
  try simp only [Act.put, List.setIfInBounds_toArray, List.set_cons_zero, List.set_cons_succ]
  refine wpAnyH_take (i := 4) (oi := ⟨_, _, _, _, _, _⟩) (v := ?_) rfl (by kernel_rfl) (by kernel_rfl) (by kernel_rfl) (fun _ _ _ h => h) (Or.inl ⟨by rfl, ?_⟩) hHeld ?_
  rotate_left
  · (intro w hSw; (try dsimp only at hSw); go_simp; try (with_reducible rfl))
  try simp only [Act.put, List.setIfInBounds_toArray, List.set_cons_zero, List.set_cons_succ]
  refine wpAnyH_take (i := 5) (oi := ⟨_, _, _, _, _, _⟩) (v := ?_) rfl (by kernel_rfl) (by kernel_rfl) (by kernel_rfl) (fun _ _ _ h => h) (Or.inl ⟨by rfl, ?_⟩) hHeld ?_
  rotate_left
  · (intro w hSw; (try dsimp only at hSw); go_simp; try (with_reducible rfl))
  try simp only [Act.put, List.setIfInBounds_toArray, List.set_cons_zero, List.set_cons_succ]
  refine wpAnyH_take (i := 6) (oi := ⟨_, _, _, _, _, _⟩) (v := ?_) rfl (by kernel_rfl) (by kernel_rfl) (by kernel_rfl) (fun _ _ _ h => h) (Or.inl ⟨by rfl, ?_⟩) hHeld ?_
  rotate_left
  · (intro w hSw; (try dsimp only at hSw); go_simp; try (with_reducible rfl))
  try simp only [Act.put, List.setIfInBounds_toArray, List.set_cons_zero, List.set_cons_succ]
  refine wpAnyH_take (i := 7) (oi := ⟨_, _, _, _, _, _⟩) (v := ?_) rfl (by kernel_rfl) (by kernel_rfl) (by kernel_rfl) (fun _ _ _ h => h) (Or.inl ⟨by rfl, ?_⟩) hHeld ?_
  rotate_left
  · (intro w hSw; (try dsimp only at hSw); go_simp; try (with_reducible rfl))
  try simp only [Act.put, List.setIfInBounds_toArray, List.set_cons_zero, List.set_cons_succ]
  refine wpAnyH_take (i := 8) (oi := ⟨_, _, _, _, _, _⟩) (v := ?_) rfl (by kernel_rfl) (by kernel_rfl) (by kernel_rfl) (fun _ _ _ h => h) (Or.inl ⟨by rfl, ?_⟩) hHeld ?_
  rotate_left
  · (intro w hSw; (try dsimp only at hSw); go_simp; try (with_reducible rfl))
  try simp only [Act.put, List.setIfInBounds_toArray, List.set_cons_zero, List.set_cons_succ]
  refine wpAnyH_take (i := 9) (oi := ⟨_, _, _, _, _, _⟩) (v := ?_) rfl (by kernel_rfl) (by kernel_rfl) (by kernel_rfl) (fun _ _ _ h => h) (Or.inl ⟨by rfl, ?_⟩) hHeld ?_
  rotate_left
  · (intro w hSw; (try dsimp only at hSw); go_simp; try (with_reducible rfl))
  try simp only [Act.put, List.setIfInBounds_toArray, List.set_cons_zero, List.set_cons_succ]
  refine wpAnyH_take (i := 10) (oi := ⟨_, _, _, _, _, _⟩) (v := ?_) rfl (by kernel_rfl) (by kernel_rfl) (by kernel_rfl) (fun _ _ _ h => h) (Or.inl ⟨by rfl, ?_⟩) hHeld ?_
  rotate_left
  · (intro w hSw; (try dsimp only at hSw); go_simp; try (with_reducible rfl))
  try simp only [Act.put, List.setIfInBounds_toArray, List.set_cons_zero, List.set_cons_succ]
  refine wpAnyH_take (i := 11) (oi := ⟨_, _, _, _, _, _⟩) (v := ?_) rfl (by kernel_rfl) (by kernel_rfl) (by kernel_rfl) (fun _ _ _ h => h) (Or.inl ⟨by rfl, ?_⟩) hHeld ?_
  rotate_left
  · (intro w hSw; (try dsimp only at hSw); go_simp; try (with_reducible rfl))
  try simp only [Act.put, List.setIfInBounds_toArray, List.set_cons_zero, List.set_cons_succ]
  refine wpAnyH_take (i := 12) (oi := ⟨_, _, _, _, _, _⟩) (v := ?_) rfl (by kernel_rfl) (by kernel_rfl) (by kernel_rfl) (fun _ _ _ h => h) (Or.inl ⟨by rfl, ?_⟩) hHeld ?_
  rotate_left
  · (intro w hSw; (try dsimp only at hSw); go_simp; try (with_reducible rfl))
  try simp only [Act.put, List.setIfInBounds_toArray, List.set_cons_zero, List.set_cons_succ]
  refine wpAnyH_take (i := 13) (oi := ⟨_, _, _, _, _, _⟩) (v := ?_) rfl (by kernel_rfl) (by kernel_rfl) (by kernel_rfl) (fun _ _ _ h => h) (Or.inl ⟨by rfl, ?_⟩) hHeld ?_
  rotate_left
  · (intro w hSw; (try dsimp only at hSw); go_simp; try (with_reducible rfl))
  try simp only [Act.put, List.setIfInBounds_toArray, List.set_cons_zero, List.set_cons_succ]
  refine wpAnyH_take (i := 14) (oi := ⟨_, _, _, _, _, _⟩) (v := ?_) rfl (by kernel_rfl) (by kernel_rfl) (by kernel_rfl) (fun _ _ _ h => h) (Or.inl ⟨by rfl, ?_⟩) hHeld ?_
  rotate_left
  · (intro w hSw; (try dsimp only at hSw); go_simp; try (with_reducible rfl))
  try simp only [Act.put, List.setIfInBounds_toArray, List.set_cons_zero, List.set_cons_succ]
  refine wpAnyH_take (i := 15) (oi := ⟨_, _, _, _, _, _⟩) (v := ?_) rfl (by kernel_rfl) (by kernel_rfl) (by kernel_rfl) (fun _ _ _ h => h) (Or.inl ⟨by rfl, ?_⟩) hHeld ?_
  rotate_left
  · (intro w hSw; (try dsimp only at hSw); go_simp; try (with_reducible rfl))
  try simp only [Act.put, List.setIfInBounds_toArray, List.set_cons_zero, List.set_cons_succ]
  refine wpAnyH_take (i := 16) (oi := ⟨_, _, _, _, _, _⟩) (v := ?_) rfl (by kernel_rfl) (by kernel_rfl) (by kernel_rfl) (fun _ _ _ h => h) (Or.inl ⟨by rfl, ?_⟩) hHeld ?_
  rotate_left
  · (intro w hSw; (try dsimp only at hSw); go_simp; try (with_reducible rfl))
  try simp only [Act.put, List.setIfInBounds_toArray, List.set_cons_zero, List.set_cons_succ]
  refine wpAnyH_take (i := 17) (oi := ⟨_, _, _, _, _, _⟩) (v := ?_) rfl (by kernel_rfl) (by kernel_rfl) (by kernel_rfl) (fun _ _ _ h => h) (Or.inl ⟨by rfl, ?_⟩) hHeld ?_
  rotate_left
  · (intro w hSw; (try dsimp only at hSw); go_simp; try (with_reducible rfl))
  try simp only [Act.put, List.setIfInBounds_toArray, List.set_cons_zero, List.set_cons_succ]
  refine wpAnyH_take (i := 18) (oi := ⟨_, _, _, _, _, _⟩) (v := ?_) rfl (by kernel_rfl) (by kernel_rfl) (by kernel_rfl) (fun _ _ _ h => h) (Or.inl ⟨by rfl, ?_⟩) hHeld ?_
  rotate_left
  · (intro w hSw; (try dsimp only at hSw); go_simp; try (with_reducible rfl))
  try simp only [Act.put, List.setIfInBounds_toArray, List.set_cons_zero, List.set_cons_succ]
  refine wpAnyH_ready (rs := [0]) (by kernel_rfl) (by simp) ?_
  refine (AllReadyH.cons (o := ⟨_, _, _, _, _, _⟩) rfl (fun K hK => ?_) AllReadyH.nil)
  go_simp
  refine hK.out _ _ ?_ ?_
  · (try dsimp only); exact ⟨K1, K2⟩
  clear hHeld hK K
  intro hHeld
  try simp only [Act.put, List.setIfInBounds_toArray, List.set_cons_zero, List.set_cons_succ]
  refine wpAnyH_ready (rs := [19]) (by kernel_rfl) (by simp) ?_
  refine (AllReadyH.cons (o := ⟨_, _, _, _, _, _⟩) rfl (fun K hK => ?_) AllReadyH.nil)
  refine step_append_pread rfl (.tmp 5) (.tmp 23) 33 rfl w.heap.size 193 i0 (.agg #[.int .i64 0, .int .i64 0]) 16 Tryz.underlying33 hi hz0 hz1 hz2 rfl _ 0 [] rfl hlit (some ⟨bx, off + k * 2, none⟩) (mkL (u - k) (fun i => f (k + i))) (u - k) (cx - k) rfl (by rw [mkL_length]) hpr (by unfold maxLen; omega) (by omega) (by show w.heap.size ≤ (w.drew.alloc _).heap.size; simp) ?_
  intro v w1 hown1 hgr1
  have hb1 : Below w.heap.size w w1 := (((below_drewN (Below.refl _ _) 1).alloc (Nat.le_refl _) _) : Below w.heap.size w (w.drew.alloc (.cells #[] 193))).grown hgr1 (by show w.heap.size ≤ (w.drew.alloc _).heap.size; simp) (fun q hq => (hlit.lt q hq).1)
  replace K1 := cellb hb1 c1
  replace K2 := cellb hb1 c2
  try simp only [List.nil_append, Nat.zero_add] at hown1
  obtain ⟨av, cv, rfl, hvc⟩ := own_room2 hown1
  have HO := hide hown1
  clear hown1 hgr1
  refine hK.out _ _ ?_ ?_
  · (try dsimp only); exact ⟨K1, K2⟩
  clear hHeld hK K
  intro hHeld
  try simp only [Act.put, List.setIfInBounds_toArray, List.set_cons_zero, List.set_cons_succ]
  refine wpAnyH_take (i := 20) (oi := ⟨_, _, _, _, _, _⟩) (v := ?_) rfl (by kernel_rfl) (by kernel_rfl) (by kernel_rfl) (fun _ _ _ h => h) (Or.inl ⟨by rfl, ?_⟩) hHeld ?_
  rotate_left
  · (intro w hSw; (try dsimp only at hSw); go_simp; try (with_reducible rfl))
  try simp only [Act.put, List.setIfInBounds_toArray, List.set_cons_zero, List.set_cons_succ]
  refine wpAnyH_done (by kernel_rfl) ?_ _
  go_wp2
  go_ret
  have hm' : u - k = m := by have := HU.out; omega
  refine ⟨.slice av (u - k) cv, rfl, ?_, hb1⟩
  have h := HO.out
  rw [hm'] at h ⊢
  exact h
set_option maxHeartbeats 2000000 in
theorem l3Fit_calls (b off m cap W' : Nat) (g : Nat → Int × Int) (w : World) (hg : RowR w b off m g) (h2 : 2 ≤ W') (h12 : W' ≤ 12) (hm : 0 < m) :
    Calls Tryz.prog 193 #[.slice (some ⟨b, off, none⟩) m cap, .int .i64 (W' : Int)] w fun e w' => ∃ bn cn, e = .returned (.slice (some ⟨bn, 0, none⟩) W' cn) ∧ W' ≤ cn ∧ w.heap.size ≤ bn ∧ bn < w'.heap.size ∧ Row w' bn 0 W' (fun x => if x < min m W' then g x else (32, 0)) ∧ Below w.heap.size w w' := by
  have hbl := hg.lt hm
  have HG := hide hg
  clear hg
  go_enter Tryz.func193, Tryz.ntmps193
  go_wp2_with fail
  refine (l3Blanks_calls W' 0 (by omega) w).mono ?_
  rintro e w1 ⟨v, rfl, ov, hb1⟩
  obtain ⟨bn, cn, rfl, hcn, _, u1, u2, hrv⟩ := own_row ov (by omega)
  have hs1 : w.heap.size ≤ w1.heap.size := hb1.size
  obtain ⟨w2, hrun, hr2, ht2⟩ := run_copy2 (P := Tryz.prog) w1 33 33 3 193 Tryz.underlying33 cell_size2 (some ⟨bn, 0, none⟩) (some ⟨b, off, none⟩) W' cn m cap (min m W') rfl bn 0 (fun _ => (32, 0)) (hrv.congr (fun i hi => rep_get _ _ _ hi)) (fun _ => rfl) b off g (fun i hi => (HG.out.below hb1 hbl) i (by omega)) (fun _ => rfl)
  have R2 := hide hr2
  have T2 := hide ht2
  have B1 := hide hb1
  clear hr2 ht2 hb1 hrv ov
  go_wp2
  go_ret
  exact ⟨bn, cn, rfl, hcn, u1, by have := T2.out.size; omega, R2.out, B1.out.trans (T2.out.below u1 hs1)⟩
theorem Touch.later {b p q : Nat} {a w w' : World} (h : Touch b p q a w) (hb : Below a.heap.size w w') (hl : b < a.heap.size) : Touch b p q a w' :=
  ⟨hb.os.trans h.os, hb.tape.trans h.tape, hb.output.trans h.output, Nat.le_trans h.size hb.size, fun k hk hn => (hb.block k hk).trans (h.block k hk hn), fun o ho => (hb.cell (p := ⟨b, o, none⟩) hl).trans (h.cell o ho), fun o => (hb.frozen (p := ⟨b, o, none⟩) hl).trans (h.frozen o)⟩

set_option maxHeartbeats 1000000 in
theorem l3Resize_calls (R W R' W' Hb N' M' : Nat) (r wd : Int) (cs bs : List (Int × Int)) (v1 v2 : Value) (w : World) (h1 : PRead w v1 cs) (h2 : PRead w v2 bs) (k1 : Capped v1) (k2 : Capped v2) (eR : r = (R : Int)) (eW : wd = (W : Int)) (p1 : 1 ≤ R) (p2 : R ≤ 6) (p3 : 2 ≤ W) (p4 : W ≤ 12) (p5 : 1 ≤ R') (p6 : R' ≤ 6) (p7 : 2 ≤ W') (p8 : W' ≤ 12) (p9 : Hb ≤ 5) (p10 : N' ≤ 72) (p11 : M' ≤ 60) (p12 : 0 < N')
    (n9 : cs.length ≤ 72) (n10 : bs.length ≤ 60) (e1 : cs.length = R * W) (e2 : bs.length = Hb * W) (e4 : N' = R' * W') (e5 : M' = Hb * W') :
    Calls Tryz.prog 132 #[.agg #[.int .i64 r, .int .i64 wd, v1, v2], .int .i64 (R' : Int), .int .i64 (W' : Int)] w fun e w' => ∃ v5 v6, e = .returned (.agg #[.int .i64 (R' : Int), .int .i64 (W' : Int), v5, v6]) ∧ GOwn w.heap.size w'.heap.size w' v5 v6 (mkL N' (fitF W W' (min R' R) (fun i => cs.getD i (0, 0)) (32, 0))) (mkL M' (fitF W W' Hb (fun i => bs.getD i (0, 0)) (32, 0))) ∧ Below w.heap.size w w' := by
  obtain ⟨i0, hi, hz0, hz1, hz2⟩ := info_parts info_cell
  have h1' := h1
  obtain ⟨a1, c1, rfl, hx1⟩ := h1'
  have h2' := h2
  obtain ⟨a2, c2, rfl, hx2⟩ := h2'
  have hcl : 0 < cs.length := by rw [e1]; exact Nat.mul_pos (by omega) (by omega)
  obtain ⟨bx, off, rfl, hx⟩ : ∃ bx off, a1 = some ⟨bx, off, none⟩ ∧ RowR w bx off cs.length (fun i => cs.getD i (0, 0)) := by
    rcases hx1 with hx1 | ⟨bx, off, hx1, hx⟩
    · rw [hx1] at hcl; simp at hcl
    · exact ⟨bx, off, hx1, hx⟩
  obtain ⟨by', off2, hy, hya⟩ : ∃ by' off2, RowR w by' off2 bs.length (fun i => bs.getD i (0, 0)) ∧ (0 < bs.length → a2 = some ⟨by', off2, none⟩) := by
    rcases hx2 with hx2 | ⟨by', off2, hx2, hx⟩
    · exact ⟨0, 0, fun i hi => by rw [hx2] at hi; simp at hi, fun h => by rw [hx2] at h; simp at h⟩
    · exact ⟨by', off2, hx, fun _ => hx2⟩
  have hbx := hx.lt hcl
  have hc1 : cs.length ≤ c1 := k1 _ _ _ rfl
  have hc2 : bs.length ≤ c2 := k2 _ _ _ rfl
  clear k1 k2
  have hyl : 0 < bs.length → by' < w.heap.size := fun h => hy.lt h
  have HX := hide hx
  have HY := hide hy
  have HYA := hide hya
  have HYL := hide hyl
  have E1 := hide e1
  have E2 := hide e2
  have E4 := hide e4
  have E5 := hide e5
  have hmul : (R' : Int) * (W' : Int) = (N' : Int) := by rw [e4, Int.natCast_mul]
  have HMU := hide hmul
  have hmn : min (R' : Int) (R : Int) = ((min R' R : Nat) : Int) := by omega
  have HMN := hide hmn
  subst eR
  subst eW
  clear hx hx1 hx2 hy hya hyl e1 e2 e4 e5 hmul hmn h1 h2
  have hb0 : Below w.heap.size w ((w.alloc (.cells #[.int .i64 (R : Int), .int .i64 (W : Int), .slice (some ⟨bx, off, none⟩) cs.length c1, .slice a2 bs.length c2] 35)).alloc (.cells #[.int .i64 0, .int .i64 0, .slice none 0 0, .slice none 0 0] 35)) := (by repeat' (first | with_reducible exact Below.refl _ _ | with_reducible assumption | with_reducible refine Below.drew ?_ | with_reducible refine Below.alloc ?_ ?_ _ | with_reducible refine Below.setCell ?_ ?_ _ | (simp; done) | (simp; omega) | omega))
  go_enter Tryz.func132, Tryz.ntmps132
  go_wp2_with fail
  refine (l3New_calls (R' : Int) (W' : Int) N' HMU.out p12 (by omega) _).mono ?_
  rintro e w1 ⟨bo, co, rfl, hco, o1, o2, hro, hb1⟩
  have A0 : w1.cell? ⟨w.heap.size, 0, none⟩ = some (.int .i64 (R : Int)) := cellb hb1 (by simp [go_sem])
  have A1 : w1.cell? ⟨w.heap.size, 1, none⟩ = some (.int .i64 (W : Int)) := cellb hb1 (by simp [go_sem])
  have A2 : w1.cell? ⟨w.heap.size, 2, none⟩ = some (.slice (some ⟨bx, off, none⟩) cs.length c1) := cellb hb1 (by simp [go_sem])
  have A3 : w1.cell? ⟨w.heap.size, 3, none⟩ = some (.slice a2 bs.length c2) := cellb hb1 (by simp [go_sem])
  have R0 : w1.cell? ⟨w.heap.size + 1, 0, none⟩ = some (.int .i64 0) := cellb hb1 (by simp [go_sem])
  have Z0 : w1.frozen? ⟨w.heap.size + 1, 0, none⟩ = false := by rw [hb1.frozen (p := ⟨w.heap.size + 1, 0, none⟩) (by simp)]; simp [go_sem]
  have R1 : w1.cell? ⟨w.heap.size + 1, 1, none⟩ = some (.int .i64 0) := cellb hb1 (by simp [go_sem])
  have Z1 : w1.frozen? ⟨w.heap.size + 1, 1, none⟩ = false := by rw [hb1.frozen (p := ⟨w.heap.size + 1, 1, none⟩) (by simp)]; simp [go_sem]
  have R2 : w1.cell? ⟨w.heap.size + 1, 2, none⟩ = some (.slice none 0 0) := cellb hb1 (by simp [go_sem])
  have Z2 : w1.frozen? ⟨w.heap.size + 1, 2, none⟩ = false := by rw [hb1.frozen (p := ⟨w.heap.size + 1, 2, none⟩) (by simp)]; simp [go_sem]
  have R3 : w1.cell? ⟨w.heap.size + 1, 3, none⟩ = some (.slice none 0 0) := cellb hb1 (by simp [go_sem])
  have Z3 : w1.frozen? ⟨w.heap.size + 1, 3, none⟩ = false := by rw [hb1.frozen (p := ⟨w.heap.size + 1, 3, none⟩) (by simp)]; simp [go_sem]
  have hs1 : w.heap.size + 2 ≤ w1.heap.size := by have := hb1.size; simp at this; omega
  have o1' : w.heap.size + 2 ≤ bo := by simpa using o1
  have b1 : Below w.heap.size w w1 := hb0.trans (hb1.mono (by simp; omega))
  have HRO := hide hro
  clear hb1 hb0 hro o1
  have hb3 : Below w1.heap.size w1 (w1.alloc (.cells #[.int .i64 (R' : Int), .int .i64 (W' : Int), .slice (some ⟨bo, 0, none⟩) N' co, .slice none 0 0] 35)) := (by repeat' (first | with_reducible exact Below.refl _ _ | with_reducible assumption | with_reducible refine Below.drew ?_ | with_reducible refine Below.alloc ?_ ?_ _ | with_reducible refine Below.setCell ?_ ?_ _ | (simp; done) | (simp; omega) | omega))
  have O0 : (w1.alloc (.cells #[.int .i64 (R' : Int), .int .i64 (W' : Int), .slice (some ⟨bo, 0, none⟩) N' co, .slice none 0 0] 35)).cell? ⟨w1.heap.size, 0, none⟩ = some (.int .i64 (R' : Int)) := by simp [go_sem]
  have O1 : (w1.alloc (.cells #[.int .i64 (R' : Int), .int .i64 (W' : Int), .slice (some ⟨bo, 0, none⟩) N' co, .slice none 0 0] 35)).cell? ⟨w1.heap.size, 1, none⟩ = some (.int .i64 (W' : Int)) := by simp [go_sem]
  have O2 : (w1.alloc (.cells #[.int .i64 (R' : Int), .int .i64 (W' : Int), .slice (some ⟨bo, 0, none⟩) N' co, .slice none 0 0] 35)).cell? ⟨w1.heap.size, 2, none⟩ = some (.slice (some ⟨bo, 0, none⟩) N' co) := by simp [go_sem]
  have O3 : (w1.alloc (.cells #[.int .i64 (R' : Int), .int .i64 (W' : Int), .slice (some ⟨bo, 0, none⟩) N' co, .slice none 0 0] 35)).cell? ⟨w1.heap.size, 3, none⟩ = some (.slice none 0 0) := by simp [go_sem]
  have ZO : (w1.alloc (.cells #[.int .i64 (R' : Int), .int .i64 (W' : Int), .slice (some ⟨bo, 0, none⟩) N' co, .slice none 0 0] 35)).frozen? ⟨w1.heap.size, 3, none⟩ = false := by simp [go_sem]
  have hs3 : (w1.alloc (.cells #[.int .i64 (R' : Int), .int .i64 (W' : Int), .slice (some ⟨bo, 0, none⟩) N' co, .slice none 0 0] 35)).heap.size = w1.heap.size + 1 := by simp
  go_wp2
  generalize (w1.alloc (.cells #[.int .i64 (R' : Int), .int .i64 (W' : Int), .slice (some ⟨bo, 0, none⟩) N' co, .slice none 0 0] 35)) = w3 at *
  replace A0 := cellb hb3 A0
  replace A1 := cellb hb3 A1
  replace A2 := cellb hb3 A2
  replace A3 := cellb hb3 A3
  replace R0 := cellb hb3 R0
  replace R1 := cellb hb3 R1
  replace R2 := cellb hb3 R2
  replace R3 := cellb hb3 R3
  replace Z0 : w3.frozen? ⟨w.heap.size + 1, 0, none⟩ = false := by rw [hb3.frozen (p := ⟨w.heap.size + 1, 0, none⟩) (by simp; omega)]; exact Z0
  replace Z1 : w3.frozen? ⟨w.heap.size + 1, 1, none⟩ = false := by rw [hb3.frozen (p := ⟨w.heap.size + 1, 1, none⟩) (by simp; omega)]; exact Z1
  replace Z2 : w3.frozen? ⟨w.heap.size + 1, 2, none⟩ = false := by rw [hb3.frozen (p := ⟨w.heap.size + 1, 2, none⟩) (by simp; omega)]; exact Z2
  replace Z3 : w3.frozen? ⟨w.heap.size + 1, 3, none⟩ = false := by rw [hb3.frozen (p := ⟨w.heap.size + 1, 3, none⟩) (by simp; omega)]; exact Z3
  have b3 := b1.trans (hb3.mono b1.size)
  replace HRO := hide (HRO.out.below hb3 o2)
  clear hb3 b1
  have obn : w1.heap.size ≠ bo := by omega
  go_loopw [8] (fun i wr => ∃ k : Nat, k ≤ min R' R ∧ i = .int .i64 k ∧ Hid (Touch bo 0 (N' * 2) w3 wr) ∧ Hid (Row wr bo 0 N' (fitF W W' k (fun i => cs.getD i (0, 0)) (32, 0)))) (fun i _ => R' - (intOf i).toNat)
  case atStart => exact ⟨0, Nat.zero_le _, rfl, hide (Touch.refl _ _ _ _), hide (HRO.out.congr (fun i _ => fitF_zero W W' _ (32, 0) i))⟩
  case round =>
    obtain ⟨k, hk, rfl, ht, hrow⟩ := hrel
    have B0 := ht.out.cellAt A0 (by omega)
    have B1 := ht.out.cellAt A1 (by omega)
    have B2 := ht.out.cellAt A2 (by omega)
    have P1 := ht.out.cellAt O1 (by omega)
    have P2 := ht.out.cellAt O2 (by omega)
    have hsr : w3.heap.size ≤ wr.heap.size := ht.out.size
    go_wp2_with fail
    refine (l1Min_calls _ _ wr).mono ?_
    rintro e w' ⟨rfl, hw⟩
    rw [hw, HMN.out]
    clear hw w'
    by_cases hlt : k < min R' R
    · have hltI : (k : Int) < ((min R' R : Nat) : Int) := by omega
      have hKW : k * W' + W' ≤ N' := by
        have h := Nat.mul_le_mul_right W' (show k + 1 ≤ R' by omega)
        rw [Nat.add_mul, Nat.one_mul, ← E4.out] at h
        exact h
      have hKm : k * W + W ≤ cs.length := by
        have h := Nat.mul_le_mul_right W (show k + 1 ≤ R by omega)
        rw [Nat.add_mul, Nat.one_mul, ← E1.out] at h
        exact h
      have XR := hide ((HX.out.below b3 (by omega)).touch ht.out (.inl (by omega)))
      go_wp2_with fail
      refine (l3RowOf_off w.heap.size bx off cs.length c1 (k * W) W (k * W + W) (k : Int) (W : Int) _ wr B1 B2 XR.out hc1 (by rw [Int.natCast_mul]) rfl rfl hKm (by omega) (by omega) (by omega) (by omega)).mono ?_
      rintro e w4 ⟨v, rfl, ov, hb4⟩
      obtain ⟨br, cr, rfl, hcr, _, u1, u2, hrv⟩ := own_row ov (by omega)
      have rv := hide (hrv.congr (fun i hi => mkL_get _ _ _ hi))
      have hs4 : wr.heap.size ≤ w4.heap.size := hb4.size
      have T4 := hide (ht.out.trans (Touch.of_below hb4 (Nat.le_refl _) (by omega)))
      have R4 := hide (hrow.out.below hb4 (by omega))
      clear hrv ov hb4 ht hrow XR B0 B1 B2 P1 P2
      go_wp2_with fail
      refine (l3Fit_calls br 0 W cr W' _ w4 rv.out.read p7 p8 (by omega)).mono ?_
      rintro e w5 ⟨bn, cn, rfl, hcn, v1, v2, hrn, hb5⟩
      have hs5 : w4.heap.size ≤ w5.heap.size := hb5.size
      have T5 := hide (T4.out.trans (Touch.of_below hb5 (Nat.le_refl _) (by omega)))
      have R5 := hide (R4.out.below hb5 (by omega))
      have RN := hide hrn
      clear hrn hb5 T4 R4 rv
      have P1 := T5.out.cellAt O1 (by omega)
      have P2 := T5.out.cellAt O2 (by omega)
      go_wp2_with fail
      refine (l3Row_calls w1.heap.size bo N' co (k * W') W' (k * W' + W') bn W' cn W' (k : Int) (W' : Int) _ _ w5 P1 P2 R5.out hco obn RN.out.read (by rw [Int.natCast_mul]) rfl rfl hKW (by omega) (by omega) (by omega) (by omega) (by omega)).mono ?_
      rintro e w6 ⟨⟨u6, rfl⟩, hr6, ht6⟩
      have R6 := hide (hr6.congr (fun i _ => fitF_step2 (show 0 < W' by omega) i))
      have T6 := hide (T5.out.trans ht6)
      clear hr6 ht6 T5 R5 RN P1 P2
      go_wp2
      go_roundw
      case rel => exact ⟨k + 1, by omega, by go_num, T6, R6⟩
      case measure => simp [intOf]; omega
    · obtain rfl : k = min R' R := by omega
      have hge : ¬ (((min R' R : Nat) : Int) < ((min R' R : Nat) : Int)) := by omega
      obtain ⟨wo, hwo⟩ : ∃ wo, wo = wr := ⟨_, rfl⟩
      subst hwo
      replace A0 := ht.out.cellAt A0 (by omega)
      replace A1 := ht.out.cellAt A1 (by omega)
      replace A2 := ht.out.cellAt A2 (by omega)
      replace A3 := ht.out.cellAt A3 (by omega)
      replace R0 := ht.out.cellAt R0 (by omega)
      replace R1 := ht.out.cellAt R1 (by omega)
      replace R2 := ht.out.cellAt R2 (by omega)
      replace R3 := ht.out.cellAt R3 (by omega)
      replace O0 := ht.out.cellAt O0 (by omega)
      replace O1 := ht.out.cellAt O1 (by omega)
      replace O2 := ht.out.cellAt O2 (by omega)
      replace O3 := ht.out.cellAt O3 (by omega)
      replace Z0 := ht.out.frozenAt (by omega) Z0
      replace Z1 := ht.out.frozenAt (by omega) Z1
      replace Z2 := ht.out.frozenAt (by omega) Z2
      replace Z3 := ht.out.frozenAt (by omega) Z3
      replace ZO := ht.out.frozenAt (by omega) ZO
      have br' : Below w.heap.size w wo := b3.trans (ht.out.below (by omega) (by omega))
      clear B0 B1 B2 P1 P2 ht HRO b3
      go_wp2
      go_loopw [9] (fun i wr => ∃ (k : Nat) (v : Value), k ≤ Hb ∧ i = .int .i64 ((k * W : Nat) : Int) ∧ Hid (Touch w1.heap.size 3 4 wo wr) ∧ wr.cell? ⟨w1.heap.size, 3, none⟩ = some v ∧ Hid (wr.ownsRow wo.heap.size 193 2 v (k * W') (pvs (mkL (k * W') (fitF W W' Hb (fun i => bs.getD i (0, 0)) (32, 0)))))) (fun i _ => bs.length - (intOf i).toNat)
      case atStart => exact ⟨0, .slice none 0 0, Nat.zero_le _, by rw [Nat.zero_mul]; rfl, hide (Touch.refl _ _ _ _), O3, hide (by rw [Nat.zero_mul]; exact World.ownsRow_nil _ _ _ _)⟩
      case round =>
        obtain ⟨k, v, hk, rfl, ht, C3, hown⟩ := hrel
        have B1 := ht.out.cellAt A1 (by omega)
        have B3 := ht.out.cellAt A3 (by omega)
        have hsq : wo.heap.size ≤ wr.heap.size := ht.out.size
        by_cases hlt : k < Hb
        · obtain ⟨av, cv, rfl, hcv⟩ := own_room2 hown.out
          have hKm : k * W + W ≤ bs.length := by
            have h := Nat.mul_le_mul_right W (show k + 1 ≤ Hb by omega)
            rw [Nat.add_mul, Nat.one_mul, ← E2.out] at h
            exact h
          have hKW : k * W' + W' ≤ M' := by
            have h := Nat.mul_le_mul_right W' (show k + 1 ≤ Hb by omega)
            rw [Nat.add_mul, Nat.one_mul, ← E5.out] at h
            exact h
          obtain rfl := HYA.out (by omega)
          have hyb := HYL.out (by omega)
          obtain ⟨q, hq⟩ : ∃ q, q = k * W := ⟨_, rfl⟩
          have hqs : (k + 1) * W = q + W := by rw [hq, Nat.add_mul, Nat.one_mul]
          rw [← hq] at hKm ⊢
          have hqI : (q : Int) < (bs.length : Int) := by omega
          obtain ⟨u, hu⟩ : ∃ u, u = q + W := ⟨_, rfl⟩
          have z1 : IntKind.i64.wrap ((q : Int) + (W : Int)) = (u : Int) := by rw [wrap_small (by omega) (by omega)]; omega
          have z2 : (q : Int) ≤ (u : Int) := by omega
          have z3 : (u : Int) ≤ (c2 : Int) := by omega
          have z4 : ¬ c2 = q := by omega
          have z5 : ¬ q = c2 := by omega
          have z6 : u - q = W := by omega
          have z7 : q ≤ u := by omega
          have z8 : u ≤ c2 := by omega
          have HU := hide hu
          clear hu
          have HQ := hide hq
          have HQS := hide hqs
          clear hq hqs
          have YR := hide (((HY.out.below br' hyb).touch ht.out (.inl (by omega))).sub q W hKm)
          have ZB := ht.out.frozenAt (by omega) ZO
          go_wp2_with fail
          refine till_region [14] (S := (fun w' => w'.cell? ⟨w1.heap.size, 3, none⟩ = some (.slice av (k * W') cv) ∧ w'.cell? ⟨w.heap.size, 3, none⟩ = some (.slice (some ⟨by', off2, none⟩) bs.length c2) ∧ w'.cell? ⟨w.heap.size, 1, none⟩ = some (.int .i64 (W : Int)))) (by kernel_rfl) ?_ (fun hHeld => ?_)
          · (try dsimp only); exact ⟨C3, B3, B1⟩
          refine till_take (i := 0) (oi := ⟨_, _, _, _, _, _⟩) (v := ?_) rfl (by kernel_rfl) (by kernel_rfl) (by kernel_rfl) (by kernel_rfl) (fun _ _ _ h => h) (Or.inl ⟨by rfl, ?_⟩) hHeld ?_
          rotate_left
          · (intro w hSw; (try dsimp only at hSw); go_simp; try (with_reducible rfl))
          try simp only [Act.put, List.setIfInBounds_toArray, List.set_cons_zero, List.set_cons_succ]
          refine till_take (i := 1) (oi := ⟨_, _, _, _, _, _⟩) (v := ?_) rfl (by kernel_rfl) (by kernel_rfl) (by kernel_rfl) (by kernel_rfl) (fun _ _ _ h => h) (Or.inl ⟨by rfl, ?_⟩) hHeld ?_
          rotate_left
          · (intro w hSw; (try dsimp only at hSw); go_simp; try (with_reducible rfl))
          try simp only [Act.put, List.setIfInBounds_toArray, List.set_cons_zero, List.set_cons_succ]
          refine till_take (i := 2) (oi := ⟨_, _, _, _, _, _⟩) (v := ?_) rfl (by kernel_rfl) (by kernel_rfl) (by kernel_rfl) (by kernel_rfl) (fun _ _ _ h => h) (Or.inl ⟨by rfl, ?_⟩) hHeld ?_
          rotate_left
          · (intro w hSw; (try dsimp only at hSw); go_simp; try (with_reducible rfl))
          try simp only [Act.put, List.setIfInBounds_toArray, List.set_cons_zero, List.set_cons_succ]
          refine till_take (i := 3) (oi := ⟨_, _, _, _, _, _⟩) (v := ?_) rfl (by kernel_rfl) (by kernel_rfl) (by kernel_rfl) (by kernel_rfl) (fun _ _ _ h => h) (Or.inl ⟨by rfl, ?_⟩) hHeld ?_
          rotate_left
          · (intro w hSw; (try dsimp only at hSw); go_simp; try (with_reducible rfl))
          try simp only [Act.put, List.setIfInBounds_toArray, List.set_cons_zero, List.set_cons_succ]
          refine till_take (i := 4) (oi := ⟨_, _, _, _, _, _⟩) (v := ?_) rfl (by kernel_rfl) (by kernel_rfl) (by kernel_rfl) (by kernel_rfl) (fun _ _ _ h => h) (Or.inl ⟨by rfl, ?_⟩) hHeld ?_
          rotate_left
          · (intro w hSw; (try dsimp only at hSw); go_simp; try (with_reducible rfl))
          try simp only [Act.put, List.setIfInBounds_toArray, List.set_cons_zero, List.set_cons_succ]
          refine till_take (i := 5) (oi := ⟨_, _, _, _, _, _⟩) (v := ?_) rfl (by kernel_rfl) (by kernel_rfl) (by kernel_rfl) (by kernel_rfl) (fun _ _ _ h => h) (Or.inl ⟨by rfl, ?_⟩) hHeld ?_
          rotate_left
          · (intro w hSw; (try dsimp only at hSw); go_simp; try (with_reducible rfl))
          try simp only [Act.put, List.setIfInBounds_toArray, List.set_cons_zero, List.set_cons_succ]
          refine till_take (i := 6) (oi := ⟨_, _, _, _, _, _⟩) (v := ?_) rfl (by kernel_rfl) (by kernel_rfl) (by kernel_rfl) (by kernel_rfl) (fun _ _ _ h => h) (Or.inl ⟨by rfl, ?_⟩) hHeld ?_
          rotate_left
          · (intro w hSw; (try dsimp only at hSw); go_simp; try (with_reducible rfl))
          try simp only [Act.put, List.setIfInBounds_toArray, List.set_cons_zero, List.set_cons_succ]
          refine till_take (i := 7) (oi := ⟨_, _, _, _, _, _⟩) (v := ?_) rfl (by kernel_rfl) (by kernel_rfl) (by kernel_rfl) (by kernel_rfl) (fun _ _ _ h => h) (Or.inl ⟨by rfl, ?_⟩) hHeld ?_
          rotate_left
          · (intro w hSw; (try dsimp only at hSw); go_simp; try (with_reducible rfl))
          try simp only [Act.put, List.setIfInBounds_toArray, List.set_cons_zero, List.set_cons_succ]
          refine till_take (i := 8) (oi := ⟨_, _, _, _, _, _⟩) (v := ?_) rfl (by kernel_rfl) (by kernel_rfl) (by kernel_rfl) (by kernel_rfl) (fun _ _ _ h => h) (Or.inl ⟨by rfl, ?_⟩) hHeld ?_
          rotate_left
          · (intro w hSw; (try dsimp only at hSw); go_simp; try (with_reducible rfl))
          try simp only [Act.put, List.setIfInBounds_toArray, List.set_cons_zero, List.set_cons_succ]
          refine till_take (i := 9) (oi := ⟨_, _, _, _, _, _⟩) (v := ?_) rfl (by kernel_rfl) (by kernel_rfl) (by kernel_rfl) (by kernel_rfl) (fun _ _ _ h => h) (Or.inl ⟨by rfl, ?_⟩) hHeld ?_
          rotate_left
          · (intro w hSw; (try dsimp only at hSw); go_simp; try (with_reducible rfl))
          try simp only [Act.put, List.setIfInBounds_toArray, List.set_cons_zero, List.set_cons_succ]
          refine till_take (i := 10) (oi := ⟨_, _, _, _, _, _⟩) (v := ?_) rfl (by kernel_rfl) (by kernel_rfl) (by kernel_rfl) (by kernel_rfl) (fun _ _ _ h => h) (Or.inl ⟨by rfl, ?_⟩) hHeld ?_
          rotate_left
          · (intro w hSw; (try dsimp only at hSw); go_simp; try (with_reducible rfl))
          try simp only [Act.put, List.setIfInBounds_toArray, List.set_cons_zero, List.set_cons_succ]
          refine till_ready (rs := [11]) (by kernel_rfl) (by simp) ?_
          refine (EachTill.cons (o := ⟨_, _, _, _, _, _⟩) rfl (fun K hK => ?_) EachTill.nil)
          go_simp
          go_at_call 193
          (try rw [z6])
          refine (l3Fit_calls by' (off2 + q * 2) W _ W' (fun i => bs.getD (q + i) (0, 0)) wr.drew (show RowR wr.drew _ _ _ _ from YR.out) p7 p8 (by omega)).mono ?_
          rintro e w5 ⟨bn, cn, rfl, hcn, v1, v2, hrn, hb5⟩
          replace hb5 : Below wr.heap.size wr w5 := (below_drewN (Below.refl _ _) 1).trans hb5
          replace v1 : wr.heap.size ≤ bn := v1
          have hs5 : wr.heap.size ≤ w5.heap.size := hb5.size
          have K3 := cellb hb5 C3
          have K4 := cellb hb5 B3
          have K5 := cellb hb5 B1
          have K6 : w5.frozen? ⟨w1.heap.size, 3, none⟩ = false := by rw [hb5.frozen (p := ⟨w1.heap.size, 3, none⟩) (by simp; omega)]; exact ZB
          have T5 := hide (ht.out.later (hb5.mono hsq) (by omega))
          have O5 := hide (own_below hown.out hb5)
          have RN := hide hrn
          clear hrn hb5 ht hown YR
          try go_wp2_with fail
          refine hK.out _ _ ?_ ?_
          · (try dsimp only); exact ⟨K3, K4, K5⟩
          clear hHeld hK K
          intro hHeld
          try simp only [Act.put, List.setIfInBounds_toArray, List.set_cons_zero, List.set_cons_succ]
          refine till_ready (rs := [12]) (by kernel_rfl) (by simp) ?_
          refine (EachTill.cons (o := ⟨_, _, _, _, _, _⟩) rfl (fun K hK => ?_) EachTill.nil)
          refine step_append_pread rfl (.tmp 37) (.tmp 47) 33 rfl wo.heap.size 193 i0 (.agg #[.int .i64 0, .int .i64 0]) 16 Tryz.underlying33 hi hz0 hz1 hz2 rfl _ (k * W') _ rfl O5.out (some ⟨bn, 0, none⟩) (mkL W' (fun x => if x < min W W' then bs.getD (q + x) (0, 0) else (32, 0))) W' cn rfl (by rw [mkL_length]) (pread_of_row RN.out.read) (by unfold maxLen; omega) (by omega) (by omega) ?_
          intro v6 w6 o6 g6
          have hb6 : Below wo.heap.size w5 w6 := (Below.refl _ _).grown g6 (by omega) (fun j hj => (O5.out.lt j hj).1)
          have hs6 : w5.heap.size ≤ w6.heap.size := hb6.size
          replace K3 := cellk hb6 (by omega) K3
          replace K4 := cellk hb6 (by omega) K4
          replace K5 := cellk hb6 (by omega) K5
          replace K6 : w6.frozen? ⟨w1.heap.size, 3, none⟩ = false := by rw [hb6.frozen (p := ⟨w1.heap.size, 3, none⟩) (by simp; omega)]; exact K6
          have T6 := hide (T5.out.later hb6 (by omega))
          have O6 := hide o6
          obtain ⟨a6, c6, rfl, hc6⟩ := own_room2 o6
          clear o6 g6 hb6 T5 O5 RN
          refine hK.out _ _ ?_ ?_
          · (try dsimp only); exact ⟨K3, K4, K5⟩
          clear hHeld hK K
          intro hHeld
          try simp only [Act.put, List.setIfInBounds_toArray, List.set_cons_zero, List.set_cons_succ]
          refine till_take (i := 13) (oi := ⟨_, _, _, _, _, _⟩) (v := ?_) rfl (by kernel_rfl) (by kernel_rfl) (by kernel_rfl) (by kernel_rfl) (fun _ _ _ h => h) (Or.inl ⟨by rfl, ?_⟩) hHeld ?_
          rotate_left
          · (intro w hSw; (try dsimp only at hSw); go_simp; try (with_reducible rfl))
          try simp only [Act.put, List.setIfInBounds_toArray, List.set_cons_zero, List.set_cons_succ]
          refine till_ready (rs := [14]) (by kernel_rfl) (by simp) ?_
          refine (EachTill.last (o := ⟨_, _, _, _, _, _⟩) rfl rfl (fun K hK => ?_) EachTill.nil)
          go_simp
          have T9 := hide (T6.out.setCell (o := 3) (by omega) (by omega) (.slice a6 (k * W' + W') c6))
          have C9 := World.cell?_setCell_same w6 ⟨w1.heap.size, 3, none⟩ (.slice a6 (k * W' + W') c6) K3
          have O9 : Hid ((w6.setCell ⟨w1.heap.size, 3, none⟩ (.slice a6 (k * W' + W') c6)).ownsRow wo.heap.size 193 2 (.slice a6 (k * W' + W') c6) ((k + 1) * W') (pvs (mkL ((k + 1) * W') (fitF W W' Hb (fun i => bs.getD i (0, 0)) (32, 0))))) := hide (by
            have h := own_setCell (b := w1.heap.size) (o := 3) (u := .slice a6 (k * W' + W') c6) O6.out (fun e => by have := (O6.out.lt _ e.symm).1; omega)
            rw [HQ.out, fitF_more (by omega) hlt] at h
            rw [show (k + 1) * W' = k * W' + W' by rw [Nat.add_mul, Nat.one_mul]] at h ⊢
            exact h)
          generalize (w6.setCell ⟨w1.heap.size, 3, none⟩ (.slice a6 (k * W' + W') c6)) = w9 at *
          have B9 := T9.out.cellAt A1 (by omega)
          clear T6 O6 K3 K4 K5 K6
          refine hK.out _ _ ?_ ?_
          · (try dsimp only); skip
          clear hHeld hK K
          intro hHeld
          try simp only [Act.put, List.setIfInBounds_toArray, List.set_cons_zero, List.set_cons_succ]
          refine till_done (by kernel_rfl) ?_ _
          clear hHeld
          have hend : (u : Int) = (((k + 1) * W : Nat) : Int) := by rw [HQS.out, HU.out]
          have HEND := hide hend
          clear hend
          go_wp2
          go_roundw
          case rel => exact ⟨k + 1, _, by omega, by first | (rw [HEND.out]; done) | (rw [HEND.out]) | (rw [← HEND.out]; go_num), T9, C9, O9⟩
          case measure => simp [intOf]; omega
        · obtain rfl : k = Hb := by omega
          have hle : bs.length = k * W := E2.out
          obtain ⟨q, hq⟩ : ∃ q, q = k * W := ⟨_, rfl⟩
          rw [← hq]
          have hge : ¬ ((q : Int) < (bs.length : Int)) := by omega
          clear hle hq
          obtain ⟨av, cv, rfl, hcv⟩ := own_room2 hown.out
          replace R0 := ht.out.cellAt R0 (by omega)
          replace R1 := ht.out.cellAt R1 (by omega)
          replace R2 := ht.out.cellAt R2 (by omega)
          replace R3 := ht.out.cellAt R3 (by omega)
          replace O0 := ht.out.cellAt O0 (by omega)
          replace O1 := ht.out.cellAt O1 (by omega)
          replace O2 := ht.out.cellAt O2 (by omega)
          replace Z0 := ht.out.frozenAt (by omega) Z0
          replace Z1 := ht.out.frozenAt (by omega) Z1
          replace Z2 := ht.out.frozenAt (by omega) Z2
          replace Z3 := ht.out.frozenAt (by omega) Z3
          have bq : Below w.heap.size w wr := br'.trans (ht.out.below (by omega) (by omega))
          have RQ := hide (hrow.out.touch ht.out (by omega))
          have TQ := hide ht.out
          clear ht O3 B1
          have hr := res4 (w := wr) (r := w.heap.size + 1) (.int .i64 (R' : Int)) (.int .i64 (W' : Int)) (.slice (some ⟨bo, 0, none⟩) N' co) (.slice av (k * W') cv) R0 R1 R2 R3
          go_wp2
          refine bodyPost_ret (v := .agg #[.int .i64 (R' : Int), .int .i64 (W' : Int), .slice (some ⟨bo, 0, none⟩) N' co, .slice av (k * W') cv]) (by simp only [results, Tryz.results132]; simp [go_sem, hr.1, hr.2.1, hr.2.2.1, hr.2.2.2]) rfl ⟨_, _, rfl, ?_, bq.trans (show Below w.heap.size wr _ from (by repeat' (first | with_reducible exact Below.refl _ _ | with_reducible assumption | with_reducible refine Below.drew ?_ | with_reducible refine Below.alloc ?_ ?_ _ | with_reducible refine Below.setCell ?_ ?_ _ | (simp; done) | (simp; omega) | omega)))⟩
          rw [E5.out]
          refine (gown_of (w := wr) (base := w.heap.size + 2) (m := wo.heap.size) RQ.out (by omega) (by omega) (by rw [mkL_length]; exact hown.out) (by omega) (by omega) (by simp [World.setCell]) (fun j _ => ?_) (by omega)).mono (by omega) (Nat.le_refl _)
          by_cases hj : j < w.heap.size + 2
          · exact .inr hj
          · left
            simp only [World.setCell, Array.getElem?_modify]
            repeat rw [if_neg (by omega)]
end Go.Proofs.YtdekegjplegkeaaGreat

/- What the model's ResizeScreen answers. -/
namespace Go.Proofs.YtdekegjplegkeaaGreat
set_option maxRecDepth 20000
open Go.ChangeShapes Go.WideShapes Go.ChangeAt Go.RowKit
set_option linter.unusedVariables false
set_option linter.unusedSimpArgs false
set_option maxRecDepth 20000

theorem scr_tabs {s : Scr} (h : scrCode s = 0) : (s.tabs.length : Int) = s.wd := by
  unfold scrCode at h
  by_cases hg : gridCode s.r s.wd s.cs s.bs = 0
  · rw [if_pos hg] at h
    cases hr : rangeB s with
    | false => rw [hr] at h; simp at h
    | true =>
      cases hf : sformB s with
      | false => rw [hr, hf] at h; simp at h
      | true =>
        unfold sformB tabsB at hf
        simp only [Bool.and_eq_true, decide_eq_true_eq] at hf
        exact hf.2.1
  · rw [if_neg hg] at h; exact absurd h hg
theorem step_append_bools {P : Program} {ops : Array Oper} {o : Oper} {a : Act} {w : World} {K : Act → World → Prop} {Q : Exit → Act → World → Prop} {E : Prop}
    (hg : o.guard = none) (s x : Operand) (t : TypeId) (hop : o.op = Op.call { callee := Callee.builtin Builtin.append, args := #[s, x], argTypes := #[t, t] })
    (base : Nat) (e : TypeId) (i : TypeInfo) (z : Value) (bytes : Nat) (h1 : P.underlying t = some (.slice e)) (h2 : P.info? e = some i) (h3 : i.zero = some z) (h4 : i.size = 1) (h5 : i.bytes = bytes) (h6 : z.cells.size = 1)
    (v : Value) (n : Nat) (xs : List Bool) (hs : a.eval s = v) (hown : w.ownsRow base e 1 v n (boolsV xs))
    (ax : Option Addr) (ys : List Bool) (m c : Nat) (hx : a.eval x = .slice ax m c) (hm : m = ys.length) (hr : BRead w (.slice ax m c) ys)
    (b1 : n + m ≤ maxLen) (b2 : (n + m) * bytes ≤ 140737488355328) (hbase : base ≤ w.heap.size)
    (hK : ∀ v' w', w'.ownsRow base e 1 v' (n + m) (boolsV (xs ++ ys)) → w.grownBy w' v.ownBlock → K (a.put o.dst v') w') :
    if Region.wanted o (yielded ops a.tmps) = true then Oper.wp P o a w K Q else E := by
  have hw : Region.wanted o (yielded ops a.tmps) = true := by simp [Region.wanted, hg]
  rw [if_pos hw]
  obtain ⟨v', w', hrun, r1, r2⟩ := run_append_bools w base t o.type e i z bytes h1 h2 h3 h4 h5 h6 v n xs hown ax ys m c hm hr b1 b2 hbase
  unfold Oper.wp
  simp [execOp, hop, resolve, invoke, builtin, hs, hx, hrun, Result.andThen]
  exact hK v' w' r1 r2
theorem bread_pre {w : World} {a : Option Addr} {n c k : Nat} {xs : List Bool} (h : BRead w (.slice a n c) xs) (hk : k ≤ xs.length) : BRead w (.slice a k c) (xs.take k) := by
  obtain ⟨a', c', hv, h⟩ := h
  injection hv with e1 e2 e3
  subst e1 e3
  refine ⟨_, _, by rw [List.length_take, Nat.min_eq_left hk], ?_⟩
  rcases h with h | ⟨b, off, ha, hc⟩
  · left; rw [h]; simp
  · right
    refine ⟨b, off, ha, fun i hi => ?_⟩
    rw [List.length_take] at hi
    rw [hc i (by omega)]
    simp [List.getD_eq_getElem?_getD, List.getElem?_take, show i < k by omega]
theorem tabs_join {tb : List Bool} {m n k : Nat} (hk : min n m = k) (hm : tb.length = m) : tb.take k ++ tabsL (n - k) (fun i => stopB (k + i)) = tabsW tb n := by
  apply List.ext_getElem?
  intro i
  unfold tabsW
  by_cases h1 : i < k
  · rw [List.getElem?_append_left (by rw [List.length_take]; omega), List.getElem?_take, if_pos h1]
    have h2 : i < n := by omega
    simp [tabsL, h2, List.getD_eq_getElem?_getD, show i < tb.length by omega]
  · rw [List.getElem?_append_right (by rw [List.length_take]; omega), List.length_take, show min k tb.length = k by omega]
    by_cases h2 : i < n
    · simp [tabsL, h2, show i - k < n - k by omega, show k + (i - k) = i by omega, show ¬ i < tb.length by omega]
    · simp [tabsL, h2, show ¬ i - k < n - k by omega]
set_option maxHeartbeats 8000000 in
theorem specResizeScreen_calls (s : Scr) (v1 v2 v3 v4 : Value) (rows width : Int) (w : World) (hn1 : s.cs.length ≤ 1048576) (hn2 : s.bs.length ≤ 1048576) (hn3 : s.tabs.length ≤ 1048576) (hn4 : s.sets.length ≤ 1048576) (k1 : Capped v1) (k2 : Capped v2) (k3 : Capped v3) (h : SRead w s v1 v2 v3 v4) :
    Calls Tryz.prog 78 #[.agg (scrA s v1 v2 v3 v4), .int .i64 rows, .int .i64 width] w fun e w' => ∃ u1 u2 u3 u4, e = .returned (.agg (resA (rzRes s rows width).code (rzRes s rows width).s u1 u2 u3 u4)) ∧ SOwn w.heap.size w'.heap.size w' u1 u2 u3 u4 (rzRes s rows width).s ∧ Below w.heap.size w w' := by
  have bel0 : Below w.heap.size w ((w.alloc (.cells (scrA s v1 v2 v3 v4) 37)).alloc (.cells #[.int .i64 0, .int .i64 0, .int .i64 0, .slice none 0 0, .slice none 0 0, .int .i64 0, .int .i64 0, .bool false, .int .i64 0, .int .i64 0, .int .i64 0, .bool false, .bool false, .bool false, .slice none 0 0, .int .i64 0, .int .i64 0, .int .i64 0, .slice none 0 0, .int .i64 0, .int .i64 0] 39)) := (by repeat' (first | with_reducible exact Below.refl _ _ | with_reducible assumption | with_reducible refine Below.drew ?_ | with_reducible refine Below.alloc ?_ ?_ _ | with_reducible refine Below.setCell ?_ ?_ _ | (simp; done) | (simp; omega) | omega))
  have hA := (Blk.new w (scrA s v1 v2 v3 v4) 37).alloc (.cells #[.int .i64 0, .int .i64 0, .int .i64 0, .slice none 0 0, .slice none 0 0, .int .i64 0, .int .i64 0, .bool false, .int .i64 0, .int .i64 0, .int .i64 0, .bool false, .bool false, .bool false, .slice none 0 0, .int .i64 0, .int .i64 0, .int .i64 0, .slice none 0 0, .int .i64 0, .int .i64 0] 39)
  have hR : Blk ((w.alloc (.cells (scrA s v1 v2 v3 v4) 37)).alloc (.cells #[.int .i64 0, .int .i64 0, .int .i64 0, .slice none 0 0, .slice none 0 0, .int .i64 0, .int .i64 0, .bool false, .int .i64 0, .int .i64 0, .int .i64 0, .bool false, .bool false, .bool false, .slice none 0 0, .int .i64 0, .int .i64 0, .int .i64 0, .slice none 0 0, .int .i64 0, .int .i64 0] 39)) (w.heap.size + 1) (resA 0 scr0 (.slice none 0 0) (.slice none 0 0) (.slice none 0 0) (.slice none 0 0)) := Blk.new_at (by simp) _ _
  unfold rzRes
  by_cases hc : scrCode s = 0
  · rw [if_pos hc]
    cases hz : sizeB rows width with
    | false =>
      rw [if_neg (by simp)]
      go_enter Tryz.func78, Tryz.ntmps78
      go_wp2_with fail
      go_at_call 43
      refine (l5Fault_o s _ _ _ _ w.heap.size 0 _ hn1 hn2 hn3 hn4 hA.seg (h.below bel0)).mono ?_
      rintro e w1 ⟨rfl, hb⟩
      replace hA := hA.belowb hb
      replace hR := hR.belowb hb
      have bel1 := bel0.trans (hb.mono bel0.size)
      have z1 : w.heap.size + 2 ≤ w1.heap.size := by have := hb.size; simp at this; omega
      clear hb bel0
      rw [hc]
      go_wp2_with (first | fail | (go_at_call 131; refine (l3Size_calls _ _ _).mono ?_; rintro e w' ⟨rfl, hw⟩; rw [hw, hz]; clear hw w'))
      go_at_call 44
      refine (l5Bad_calls 3 _).mono ?_
      rintro e w2 ⟨rfl, hb⟩
      replace hR := hR.belowb hb
      have z2 : w1.heap.size ≤ w2.heap.size := hb.size
      have bel2 := bel1.trans (hb.mono bel1.size)
      clear hb bel1
      go_wp2_with (first | (refine wpList_store_blk rfl _ _ _ rfl (w.heap.size + 1) 0 (resA 0 scr0 (.slice none 0 0) (.slice none 0 0) (.slice none 0 0) (.slice none 0 0)) (resA 3 scr0 (.slice none 0 0) (.slice none 0 0) (.slice none 0 0) (.slice none 0 0)) (.agg (resA 3 scr0 (.slice none 0 0) (.slice none 0 0) (.slice none 0 0) (.slice none 0 0))) rfl rfl hR rfl (by kernel_rfl) rfl rfl ?_; (try simp only [Act.put, List.setIfInBounds_toArray, List.set_cons_zero, List.set_cons_succ]); clear hR; intro w9 hR hu))
      exact bodyPost_ret (results_blk hR _ _ rfl rfl Tryz.underlying39 rfl (by kernel_rfl)) rfl ⟨_, _, _, _, rfl, sown_zero _ _ (by have := hu.size; omega) _, bel2.trans (hu.below (by omega))⟩
    | true =>
      rw [if_pos rfl]
      have hG := rz_grid_code hc
      have hfine := gfine_of_code hG
      obtain ⟨n1, n2, hq, n8, n9, n10⟩ := hfine.short
      obtain ⟨R, W, R', W', Hb, N', M', eR, eW, rfl, rfl, p1, p2, p3, p4, p5, p6, p7, p8, p9, p10, p11, p12, e1, e2, e3, e4, e5⟩ := resize_nats hfine hz
      have eW' : s.wd.toNat = W := by omega
      have eR' : s.r.toNat = R := by omega
      have htl : s.tabs.length = W := by
        have := scr_tabs hc
        omega
      obtain ⟨G, hG'⟩ : ∃ G, rzGrid s (R' : Int) (W' : Int) = G := ⟨_, rfl⟩
      have e' : rzGrid s (R' : Int) (W' : Int) = ⟨0, (R' : Int), (W' : Int), mkL N' (fitF W W' (min R' R) (fun i => s.cs.getD i (0, 0)) (32, 0)), mkL M' (fitF W W' Hb (fun i => s.bs.getD i (0, 0)) (32, 0))⟩ := by
        unfold rzGrid
        rw [resizeRes_def, gres_ok hG hz]
        simp only [eW', eR', Int.toNat_natCast, e3, ← e4, ← e5]
      rw [hG'] at e'
      have HGL : mkL N' (fitF W W' (min R' R) (fun i => s.cs.getD i (0, 0)) (32, 0)) = G.cs := by rw [e']
      have HBL : mkL M' (fitF W W' Hb (fun i => s.bs.getD i (0, 0)) (32, 0)) = G.bs := by rw [e']
      have hfin : rzScr s (R' : Int) (W' : Int) = goTo { s with r := (R' : Int), wd := (W' : Int), cs := G.cs, bs := G.bs, top := 0, bot := (R' : Int) - 1, tabs := tabsW s.tabs W' } s.y s.x := by
        unfold rzScr rzStart
        rw [hG']
        rfl
      rw [hfin]
      have HRZ := fun (w1 : World) (b1 : Below w.heap.size w w1) => l3Resize_calls R W R' W' Hb N' M' s.r s.wd s.cs s.bs _ _ w1 (h.g1.below b1) (h.g2.below b1) k1 k2 eR eW p1 p2 p3 p4 p5 p6 p7 p8 p9 p10 p11 p12 n9 n10 e1 e2 e4 e5
      rw [HGL, HBL] at HRZ
      have hwr : IntKind.i64.wrap ((R' : Int) - 1) = (R' : Int) - 1 := wrap_small (by omega) (by omega)
      obtain ⟨k, hk⟩ : ∃ k, min W' W = k := ⟨_, rfl⟩
      have hm : min (W' : Int) s.wd = (k : Int) := by omega
      have hkw : k ≤ W' := by omega
      have hkl : k ≤ s.tabs.length := by omega
      have htk : (s.tabs.take k).length = k := by rw [List.length_take]; omega
      have hjoin := tabs_join (tb := s.tabs) (n := W') hk htl
      obtain ⟨b3, o3, c3, rfl⟩ : ∃ b3 o3 c3, v3 = .slice (some ⟨b3, o3, none⟩) s.tabs.length c3 := by
        obtain ⟨a3, c3, rfl, h3⟩ := h.g3
        rcases h3 with h3 | ⟨b3, o3, rfl, _⟩
        · rw [h3] at htl; simp at htl; omega
        · exact ⟨_, _, _, rfl⟩
      have hk3 : s.tabs.length ≤ c3 := k3 _ _ _ rfl
      have hkc : (k : Int) ≤ (c3 : Int) := by omega
      have hkc' : k ≤ c3 := by omega
      have hk0 : (0 : Int) ≤ (k : Int) := by omega
      have HM := hide hm
      have HT := hide htl
      have HK := hide hk
      have HL := hide htk
      have HJ := hide hjoin
      have HW := hide eW
      clear hfine eW' eR' htl e' HGL HBL hfin hG hG' e1 e2 e3 e4 e5 n1 n2 hq n8 n9 n10 eR hk hm htk hjoin k1 k2 k3 eW
      go_enter Tryz.func78, Tryz.ntmps78
      go_wp2_with fail
      go_at_call 43
      refine (l5Fault_o s _ _ _ _ w.heap.size 0 _ hn1 hn2 hn3 hn4 hA.seg (h.below bel0)).mono ?_
      rintro e w1 ⟨rfl, hb⟩
      replace hA := hA.belowb hb
      replace hR := hR.belowb hb
      have bel1 := bel0.trans (hb.mono bel0.size)
      have z1 : w.heap.size + 2 ≤ w1.heap.size := by have := hb.size; simp at this; omega
      clear hb bel0
      rw [hc]
      go_wp2_with (first | fail | (go_at_call 131; refine (l3Size_calls _ _ _).mono ?_; rintro e w' ⟨rfl, hw⟩; rw [hw, hz]; clear hw w') | (refine wpList_load_at rfl 37 _ rfl (w.heap.size) 0 rfl _ (scrA s v1 v2 (.slice (some ⟨b3, o3, none⟩) s.tabs.length c3) v4) hA rfl _ Tryz.underlying37 rfl (by kernel_rfl) ?_; (try simp only [Act.put, List.setIfInBounds_toArray, List.set_cons_zero, List.set_cons_succ])))
      go_at_call 46
      refine (l5Copy_calls s _ _ _ _ _ hn1 hn2 hn3 hn4 (h.below bel1)).mono ?_
      rintro e w2 ⟨u1, u2, u3, u4, rfl, ⟨g1, g2, g3, g4, q1, q2, q3, q4, q5, oc1, -, oc2, -, oT, oS⟩, hb⟩
      obtain ⟨b1, d1, rfl, _⟩ := own_room2 oc1
      obtain ⟨b2, d2, rfl, _⟩ := own_room2 oc2
      obtain ⟨b5, d5, rfl, _⟩ := id oT
      obtain ⟨b4, d4, rfl, _⟩ := id oS
      replace hA := hA.belowb hb
      replace hR := hR.belowb hb
      have bel2 := bel1.trans (hb.mono bel1.size)
      have z2 : w1.heap.size ≤ w2.heap.size := hb.size
      clear hb bel1 hc oc1 oc2 oT
      have f1 := scrA_4 s v1 v2 (.slice (some ⟨b3, o3, none⟩) s.tabs.length c3) v4
      have f2 := scrA_5 s v1 v2 (.slice (some ⟨b3, o3, none⟩) s.tabs.length c3) v4
      go_wp2_with (first | fail | (refine wpList_store_blk rfl _ _ _ rfl (w2.heap.size) 0 (scrA scr0 (.slice none 0 0) (.slice none 0 0) (.slice none 0 0) (.slice none 0 0)) (scrA s (.slice b1 s.cs.length d1) (.slice b2 s.bs.length d2) (.slice b5 s.tabs.length d5) (.slice b4 s.sets.length d4)) (.agg (scrA s (.slice b1 s.cs.length d1) (.slice b2 s.bs.length d2) (.slice b5 s.tabs.length d5) (.slice b4 s.sets.length d4))) rfl rfl (Blk.new w2 _ _) rfl (by kernel_rfl) rfl rfl ?_; (try simp only [Act.put, List.setIfInBounds_toArray, List.set_cons_zero, List.set_cons_succ]); intro w3 hB hu; replace hA := (hA.alloc (.cells #[.int .i64 0, .int .i64 0, .slice none 0 0, .slice none 0 0, .int .i64 0, .int .i64 0, .bool false, .int .i64 0, .int .i64 0, .int .i64 0, .bool false, .bool false, .bool false, .slice none 0 0, .int .i64 0, .int .i64 0, .int .i64 0, .slice none 0 0, .int .i64 0, .int .i64 0] 37)).upd hu (by omega); replace hR := (hR.alloc (.cells #[.int .i64 0, .int .i64 0, .slice none 0 0, .slice none 0 0, .int .i64 0, .int .i64 0, .bool false, .int .i64 0, .int .i64 0, .int .i64 0, .bool false, .bool false, .bool false, .slice none 0 0, .int .i64 0, .int .i64 0, .int .i64 0, .slice none 0 0, .int .i64 0, .int .i64 0] 37)).upd hu (by omega); have hS := oS.of_blocks (w' := w3) (fun q q1 q2 => (hu.block q (by omega)).trans (Below.heap_alloc _ _ _ (by omega))); have bel3 := (bel2.trans ((Below.refl _ w2).alloc (by omega) (.cells #[.int .i64 0, .int .i64 0, .slice none 0 0, .slice none 0 0, .int .i64 0, .int .i64 0, .bool false, .int .i64 0, .int .i64 0, .int .i64 0, .bool false, .bool false, .bool false, .slice none 0 0, .int .i64 0, .int .i64 0, .int .i64 0, .slice none 0 0, .int .i64 0, .int .i64 0] 37))).trans (hu.below (by omega)); have z3 : w3.heap.size = w2.heap.size + 1 := (by have := hu.size; simp at this; omega); have z3' : w2.heap.size + 1 ≤ w3.heap.size := (by omega); clear hu bel2 oS) | (refine wpList_load_at rfl 35 _ rfl (w.heap.size) 0 rfl _ (grdZ s v1 v2) hA (scrA_grdZ s v1 v2 _ v4) _ Tryz.underlying35 rfl (by kernel_rfl) ?_; (try simp only [Act.put, List.setIfInBounds_toArray, List.set_cons_zero, List.set_cons_succ])))
      go_at_call 132
      refine (HRZ w3 bel3).mono ?_
      clear HRZ
      rintro e w4 ⟨x5, x6, rfl, hg, hb⟩
      obtain ⟨a1, c1, a2, c2, rfl, rfl⟩ := hg.forms
      replace hA := hA.belowb hb
      replace hR := hR.belowb hb
      replace hB := hB.belowb hb
      replace hS := hS.below hb (by omega)
      have bel4 := bel3.trans (hb.mono (by omega))
      have z4 : w3.heap.size ≤ w4.heap.size := hb.size
      clear hb bel3
      go_wp2_with (first | fail | (refine wpList_store_blk rfl _ _ _ rfl (w2.heap.size) 0 (scrA s (.slice b1 s.cs.length d1) (.slice b2 s.bs.length d2) (.slice b5 s.tabs.length d5) (.slice b4 s.sets.length d4)) (scrA { s with r := (R' : Int), wd := (W' : Int), cs := G.cs, bs := G.bs } (.slice a1 G.cs.length c1) (.slice a2 G.bs.length c2) (.slice b5 s.tabs.length d5) (.slice b4 s.sets.length d4)) (.agg #[.int .i64 (R' : Int), .int .i64 (W' : Int), .slice a1 G.cs.length c1, .slice a2 G.bs.length c2]) rfl rfl hB rfl (by kernel_rfl) rfl rfl ?_; (try simp only [Act.put, List.setIfInBounds_toArray, List.set_cons_zero, List.set_cons_succ]); clear hB; intro w5 hB hu; replace hA := hA.upd hu (by omega); replace hR := hR.upd hu (by omega); replace hg := hg.of_blocks (w' := w5) (fun q q1 q2 => hu.block q (by omega)); replace hS := hS.of_blocks (w' := w5) (fun q q1 q2 => hu.block q (by omega)); have bel5 := bel4.trans (hu.below (by omega)); have z5 : w4.heap.size ≤ w5.heap.size := Nat.le_of_eq hu.size.symm; clear hu bel4) | (refine wpList_store_blk rfl _ _ _ rfl (w2.heap.size) 8 (scrA { s with r := (R' : Int), wd := (W' : Int), cs := G.cs, bs := G.bs } (.slice a1 G.cs.length c1) (.slice a2 G.bs.length c2) (.slice b5 s.tabs.length d5) (.slice b4 s.sets.length d4)) (scrA { s with r := (R' : Int), wd := (W' : Int), cs := G.cs, bs := G.bs, top := 0 } (.slice a1 G.cs.length c1) (.slice a2 G.bs.length c2) (.slice b5 s.tabs.length d5) (.slice b4 s.sets.length d4)) (.int .i64 0) rfl rfl hB rfl (by kernel_rfl) rfl rfl ?_; (try simp only [Act.put, List.setIfInBounds_toArray, List.set_cons_zero, List.set_cons_succ]); clear hB; intro w6 hB hu; replace hA := hA.upd hu (by omega); replace hR := hR.upd hu (by omega); replace hg := hg.of_blocks (w' := w6) (fun q q1 q2 => hu.block q (by omega)); replace hS := hS.of_blocks (w' := w6) (fun q q1 q2 => hu.block q (by omega)); have bel6 := bel5.trans (hu.below (by omega)); have z6 : w5.heap.size ≤ w6.heap.size := Nat.le_of_eq hu.size.symm; clear hu bel5) | (refine wpList_store_blk rfl _ _ _ rfl (w2.heap.size) 9 (scrA { s with r := (R' : Int), wd := (W' : Int), cs := G.cs, bs := G.bs, top := 0 } (.slice a1 G.cs.length c1) (.slice a2 G.bs.length c2) (.slice b5 s.tabs.length d5) (.slice b4 s.sets.length d4)) (scrA { s with r := (R' : Int), wd := (W' : Int), cs := G.cs, bs := G.bs, top := 0, bot := (R' : Int) - 1 } (.slice a1 G.cs.length c1) (.slice a2 G.bs.length c2) (.slice b5 s.tabs.length d5) (.slice b4 s.sets.length d4)) (.int .i64 ((R' : Int) - 1)) rfl rfl hB rfl (by kernel_rfl) rfl rfl ?_; (try simp only [Act.put, List.setIfInBounds_toArray, List.set_cons_zero, List.set_cons_succ]); clear hB; intro w7 hB hu; replace hA := hA.upd hu (by omega); replace hR := hR.upd hu (by omega); replace hg := hg.of_blocks (w' := w7) (fun q q1 q2 => hu.block q (by omega)); replace hS := hS.of_blocks (w' := w7) (fun q q1 q2 => hu.block q (by omega)); have bel7 := bel6.trans (hu.below (by omega)); have z7 : w6.heap.size ≤ w7.heap.size := Nat.le_of_eq hu.size.symm; clear hu bel6))
      have hT3 : BRead w7 (.slice (some ⟨b3, o3, none⟩) s.tabs.length c3) s.tabs := h.g3.below bel7
      have hmk : ∀ w', Below w7.heap.size w7 w' → (Below w7.heap.size w7 w' ∧ w'.cell? ⟨w.heap.size, 13, none⟩ = some (.slice (some ⟨b3, o3, none⟩) s.tabs.length c3) ∧ w'.cell? ⟨w.heap.size, 1, none⟩ = some (.int .i64 s.wd)) := fun w' hb => ⟨hb, (hA.belowb hb).at 13 (scrA_13 ..), (hA.belowb hb).at 1 (scrA_1 ..)⟩
      obtain ⟨ib, hb', hb0, hb1, hb2⟩ := info_parts info_boolO
      clear h
      refine till_region [19] (S := (fun w' => Below w7.heap.size w7 w' ∧ w'.cell? ⟨w.heap.size, 13, none⟩ = some (.slice (some ⟨b3, o3, none⟩) s.tabs.length c3) ∧ w'.cell? ⟨w.heap.size, 1, none⟩ = some (.int .i64 s.wd))) (by kernel_rfl) ?_ (fun hHeld => ?_)
      · (try dsimp only); exact hmk _ (Below.drew (Below.refl _ w7))
      refine till_take (i := 1) (oi := ⟨_, _, _, _, _, _⟩) (v := ?_) rfl (by kernel_rfl) (by kernel_rfl) (by kernel_rfl) (by kernel_rfl) (fun _ _ _ h => h) (Or.inl ⟨by rfl, ?_⟩) hHeld ?_
      rotate_left
      · (intro w hSw; (try dsimp only at hSw); go_simp; try (with_reducible rfl))
      try simp only [Act.put, List.setIfInBounds_toArray, List.set_cons_zero, List.set_cons_succ]
      refine till_take (i := 2) (oi := ⟨_, _, _, _, _, _⟩) (v := ?_) rfl (by kernel_rfl) (by kernel_rfl) (by kernel_rfl) (by kernel_rfl) (fun _ _ _ h => h) (Or.inl ⟨by rfl, ?_⟩) hHeld ?_
      rotate_left
      · (intro w hSw; (try dsimp only at hSw); go_simp; try (with_reducible rfl))
      try simp only [Act.put, List.setIfInBounds_toArray, List.set_cons_zero, List.set_cons_succ]
      refine till_take (i := 3) (oi := ⟨_, _, _, _, _, _⟩) (v := ?_) rfl (by kernel_rfl) (by kernel_rfl) (by kernel_rfl) (by kernel_rfl) (fun _ _ _ h => h) (Or.inl ⟨by rfl, ?_⟩) hHeld ?_
      rotate_left
      · (intro w hSw; (try dsimp only at hSw); go_simp; try (with_reducible rfl))
      try simp only [Act.put, List.setIfInBounds_toArray, List.set_cons_zero, List.set_cons_succ]
      refine till_take (i := 4) (oi := ⟨_, _, _, _, _, _⟩) (v := ?_) rfl (by kernel_rfl) (by kernel_rfl) (by kernel_rfl) (by kernel_rfl) (fun _ _ _ h => h) (Or.inl ⟨by rfl, ?_⟩) hHeld ?_
      rotate_left
      · (intro w hSw; (try dsimp only at hSw); go_simp; try (with_reducible rfl))
      try simp only [Act.put, List.setIfInBounds_toArray, List.set_cons_zero, List.set_cons_succ]
      refine till_take (i := 5) (oi := ⟨_, _, _, _, _, _⟩) (v := ?_) rfl (by kernel_rfl) (by kernel_rfl) (by kernel_rfl) (by kernel_rfl) (fun _ _ _ h => h) (Or.inl ⟨by rfl, ?_⟩) hHeld ?_
      rotate_left
      · (intro w hSw; (try dsimp only at hSw); go_simp; try (with_reducible rfl))
      try simp only [Act.put, List.setIfInBounds_toArray, List.set_cons_zero, List.set_cons_succ]
      refine till_take (i := 6) (oi := ⟨_, _, _, _, _, _⟩) (v := ?_) rfl (by kernel_rfl) (by kernel_rfl) (by kernel_rfl) (by kernel_rfl) (fun _ _ _ h => h) (Or.inl ⟨by rfl, ?_⟩) hHeld ?_
      rotate_left
      · (intro w hSw; (try dsimp only at hSw); go_simp; try (with_reducible rfl))
      try simp only [Act.put, List.setIfInBounds_toArray, List.set_cons_zero, List.set_cons_succ]
      refine till_take (i := 10) (oi := ⟨_, _, _, _, _, _⟩) (v := ?_) rfl (by kernel_rfl) (by kernel_rfl) (by kernel_rfl) (by kernel_rfl) (fun _ _ _ h => h) (Or.inl ⟨by rfl, ?_⟩) hHeld ?_
      rotate_left
      · (intro w hSw; (try dsimp only at hSw); go_simp; try (with_reducible rfl))
      try simp only [Act.put, List.setIfInBounds_toArray, List.set_cons_zero, List.set_cons_succ]
      refine till_take (i := 11) (oi := ⟨_, _, _, _, _, _⟩) (v := ?_) rfl (by kernel_rfl) (by kernel_rfl) (by kernel_rfl) (by kernel_rfl) (fun _ _ _ h => h) (Or.inl ⟨by rfl, ?_⟩) hHeld ?_
      rotate_left
      · (intro w hSw; (try dsimp only at hSw); go_simp; try (with_reducible rfl))
      try simp only [Act.put, List.setIfInBounds_toArray, List.set_cons_zero, List.set_cons_succ]
      refine till_take (i := 12) (oi := ⟨_, _, _, _, _, _⟩) (v := ?_) rfl (by kernel_rfl) (by kernel_rfl) (by kernel_rfl) (by kernel_rfl) (fun _ _ _ h => h) (Or.inl ⟨by rfl, ?_⟩) hHeld ?_
      rotate_left
      · (intro w hSw; (try dsimp only at hSw); go_simp; try (with_reducible rfl))
      try simp only [Act.put, List.setIfInBounds_toArray, List.set_cons_zero, List.set_cons_succ]
      refine till_take (i := 13) (oi := ⟨_, _, _, _, _, _⟩) (v := ?_) rfl (by kernel_rfl) (by kernel_rfl) (by kernel_rfl) (by kernel_rfl) (fun _ _ _ h => h) (Or.inl ⟨by rfl, ?_⟩) hHeld ?_
      rotate_left
      · (intro w hSw; (try dsimp only at hSw); go_simp; try (with_reducible rfl))
      try simp only [Act.put, List.setIfInBounds_toArray, List.set_cons_zero, List.set_cons_succ]
      refine till_take (i := 15) (oi := ⟨_, _, _, _, _, _⟩) (v := ?_) rfl (by kernel_rfl) (by kernel_rfl) (by kernel_rfl) (by kernel_rfl) (fun _ _ _ h => h) (Or.inl ⟨by rfl, ?_⟩) hHeld ?_
      rotate_left
      · (intro w hSw; (try dsimp only at hSw); go_simp; try (with_reducible rfl))
      try simp only [Act.put, List.setIfInBounds_toArray, List.set_cons_zero, List.set_cons_succ]
      refine till_ready (rs := [0, 7]) (by kernel_rfl) (by simp) ?_
      refine (EachTill.cons (o := ⟨_, _, _, _, _, _⟩) rfl (fun K hK => ?_) (EachTill.cons (o := ⟨_, _, _, _, _, _⟩) rfl (fun K hK => ?_) EachTill.nil))
      · skip
        go_simp
        refine hK.out _ _ ?_ ?_
        · (try dsimp only); exact hmk _ (hHeld.1.alloc hHeld.1.size _)
        clear hHeld hK K
        intro hHeld
        try simp only [Act.put, List.setIfInBounds_toArray, List.set_cons_zero, List.set_cons_succ]
        refine till_ready (rs := [7]) (by kernel_rfl) (by simp) ?_
        refine (EachTill.cons (o := ⟨_, _, _, _, _, _⟩) rfl (fun K hK => ?_) EachTill.nil)
        go_simp
        go_at_call 133
        refine (l1Min_calls _ _ _).mono ?_
        rintro e w' ⟨rfl, hw⟩
        rw [hw, HM.out]
        clear hw w'
        refine hK.out _ _ ?_ ?_
        · (try dsimp only); exact hHeld
        clear hHeld hK K
        intro hHeld
        try simp only [Act.put, List.setIfInBounds_toArray, List.set_cons_zero, List.set_cons_succ]
        refine till_take (i := 8) (oi := ⟨_, _, _, _, _, _⟩) (v := ?_) rfl (by kernel_rfl) (by kernel_rfl) (by kernel_rfl) (by kernel_rfl) (fun _ _ _ h => h) (Or.inl ⟨by rfl, ?_⟩) hHeld ?_
        rotate_left
        · (intro w hSw; (try dsimp only at hSw); go_simp; try (with_reducible rfl))
        try simp only [Act.put, List.setIfInBounds_toArray, List.set_cons_zero, List.set_cons_succ]
        refine till_ready (rs := [9]) (by kernel_rfl) (by simp) ?_
        refine (EachTill.cons (o := ⟨_, _, _, _, _, _⟩) rfl (fun K hK => ?_) EachTill.nil)
        have hV := hHeld.1
        have own0 : (w7.drew.alloc (.cells #[] 4)).ownsRow w7.heap.size 4 1 (.slice (some ⟨w7.heap.size, 0, none⟩) 0 0) 0 (boolsV []) := World.ownsRow_lit (base := w7.heap.size) (e := 4) (size := 1) w7.drew #[] 0 (Nat.le_refl _) (by simp) rfl
        refine step_append_bools rfl (.tmp 31) (.tmp 39) 25 rfl w7.heap.size 4 ib (.bool false) 1 Tryz.underlying25 hb' hb0 hb1 hb2 rfl _ 0 [] rfl own0 (some ⟨b3, o3, none⟩) (s.tabs.take k) k c3 rfl HL.out.symm (bread_pre (hT3.below hV) hkl) (by unfold maxLen; omega) (by omega) hV.size ?_
        intro vo w8 own1 gr
        replace hV : Below w7.heap.size w7 w8 := hV.grown gr hV.size (fun q hq => by have := (own0.lt q hq).1; omega)
        clear gr own0
        refine hK.out _ _ ?_ ?_
        · (try dsimp only); exact hmk _ hV
        clear hHeld hK K
        intro hHeld
        try simp only [Act.put, List.setIfInBounds_toArray, List.set_cons_zero, List.set_cons_succ]
        refine till_ready (rs := [14]) (by kernel_rfl) (by simp) ?_
        refine (EachTill.cons (o := ⟨_, _, _, _, _, _⟩) rfl (fun K hK => ?_) EachTill.nil)
        go_simp
        go_at_call 133
        refine (l1Min_calls _ _ _).mono ?_
        rintro e w' ⟨rfl, hw⟩
        rw [hw, HM.out]
        clear hw w'
        refine hK.out _ _ ?_ ?_
        · (try dsimp only); exact hmk _ hV
        clear hHeld hK K
        intro hHeld
        try simp only [Act.put, List.setIfInBounds_toArray, List.set_cons_zero, List.set_cons_succ]
        refine till_ready (rs := [16]) (by kernel_rfl) (by simp) ?_
        refine (EachTill.cons (o := ⟨_, _, _, _, _, _⟩) rfl (fun K hK => ?_) EachTill.nil)
        go_simp
        go_at_call 134
        refine (l5Tabs_calls k W' hkw (by omega) _).mono ?_
        rintro e w9 ⟨ut, rfl, own2, hb9⟩
        replace own1 := own_below own1 hb9
        replace hV := hV.trans (hb9.mono hV.size)
        have z9 : w8.heap.size ≤ w9.heap.size := hb9.size
        clear hb9
        obtain ⟨at2, ct2, rfl⟩ := own_formT own2
        refine hK.out _ _ ?_ ?_
        · (try dsimp only); exact hmk _ hV
        clear hHeld hK K
        intro hHeld
        try simp only [Act.put, List.setIfInBounds_toArray, List.set_cons_zero, List.set_cons_succ]
        refine till_ready (rs := [17]) (by kernel_rfl) (by simp) ?_
        refine (EachTill.cons (o := ⟨_, _, _, _, _, _⟩) rfl (fun K hK => ?_) EachTill.nil)
        have hr2 : BRead w9 (.slice at2 (W' - k) ct2) (tabsL (W' - k) (fun i => stopB (k + i))) := (own_bools own2 (Nat.le_refl _)).read
        refine step_append_bools rfl (.tmp 40) (.tmp 47) 25 rfl w7.heap.size 4 ib (.bool false) 1 Tryz.underlying25 hb' hb0 hb1 hb2 rfl _ (0 + k) ([] ++ s.tabs.take k) rfl own1 at2 _ (W' - k) ct2 rfl (tabsL_length _ _).symm hr2 (by unfold maxLen; omega) (by omega) hV.size ?_
        intro vp w10 own3 gr
        replace hV : Below w7.heap.size w7 w10 := hV.grown gr hV.size (fun q hq => by have := (own1.lt q hq).1; omega)
        rw [List.nil_append, HJ.out] at own3
        rw [show 0 + k + (W' - k) = W' by omega] at own3
        obtain ⟨at', ct, rfl⟩ := own_formT own3
        have hT : BoolsAt w7.heap.size w10.heap.size w10 (.slice at' W' ct) (tabsW s.tabs W') := own_bools own3 (Nat.le_refl _)
        have z10 : w7.heap.size ≤ w10.heap.size := hV.size
        clear gr own1 own2 own3 hr2
        refine hK.out _ _ ?_ ?_
        · (try dsimp only); exact hmk _ hV
        clear hHeld hK K
        intro hHeld
        try simp only [Act.put, List.setIfInBounds_toArray, List.set_cons_zero, List.set_cons_succ]
        refine till_take (i := 18) (oi := ⟨_, _, _, _, _, _⟩) (v := ?_) rfl (by kernel_rfl) (by kernel_rfl) (by kernel_rfl) (by kernel_rfl) (fun _ _ _ h => h) (Or.inl ⟨by rfl, ?_⟩) hHeld ?_
        rotate_left
        · (intro w hSw; (try dsimp only at hSw); go_simp; try (with_reducible rfl))
        try simp only [Act.put, List.setIfInBounds_toArray, List.set_cons_zero, List.set_cons_succ]
        refine till_ready (rs := [19]) (by kernel_rfl) (by simp) ?_
        refine (EachTill.last (o := ⟨_, _, _, _, _, _⟩) rfl rfl (fun K hK => ?_) EachTill.nil)
        have hB9 := hB.belowb hHeld.1
        have hW9 := hHeld
        refine wp_store_any _ _ _ rfl w2.heap.size 13 (scrA { s with r := (R' : Int), wd := (W' : Int), cs := G.cs, bs := G.bs, top := 0, bot := (R' : Int) - 1 } (.slice a1 G.cs.length c1) (.slice a2 G.bs.length c2) (.slice b5 s.tabs.length d5) (.slice b4 s.sets.length d4)) (scrA { s with r := (R' : Int), wd := (W' : Int), cs := G.cs, bs := G.bs, top := 0, bot := (R' : Int) - 1, tabs := tabsW s.tabs W' } (.slice a1 G.cs.length c1) (.slice a2 G.bs.length c2) (.slice at' W' ct) (.slice b4 s.sets.length d4)) (.slice at' W' ct) rfl rfl hB9 rfl (by kernel_rfl) rfl rfl ?_
        intro w11 hB' hu
        refine hK.out _ _ ?_ ?_
        · first | trivial | (dsimp only)
        clear hHeld hK K
        intro hHeld
        try simp only [Act.put, List.setIfInBounds_toArray, List.set_cons_zero, List.set_cons_succ]
        refine till_done (by kernel_rfl) ?_ _
        clear hHeld
        have hg11 := hg.of_blocks (w' := w11) (fun q q1 q2 => (hu.block q (by omega)).trans (hW9.1.block q (by omega)))
        have hS11 := hS.of_blocks (w' := w11) (fun q q1 q2 => (hu.block q (by omega)).trans (hW9.1.block q (by omega)))
        have hT11 := BoolsAt.of_blocks (w' := w11) hT (fun q q1 q2 => hu.block q (by omega))
        have hA11 := (hA.belowb hW9.1).upd hu (by omega)
        have hR11 := (hR.belowb hW9.1).upd hu (by omega)
        have bel11 := (bel7.trans (hW9.1.mono (by omega))).trans (hu.below (by omega))
        have z11 : w7.heap.size ≤ w11.heap.size := by have := hu.size; have := hW9.1.size; omega
        have z12 : w10.heap.size ≤ w11.heap.size := Nat.le_of_eq hu.size.symm
        clear hu hW9 hg hS hT hA hR bel7 hmk hT3
        have cA := hA11.cells
        go_wp2_with fail
        go_at_call 135
        obtain ⟨O, hO0⟩ : ∃ O : Nat → Prop, ∀ k, ¬ O k := ⟨fun _ => False, fun _ h => h⟩
        refine (l5Go_calls { s with r := (R' : Int), wd := (W' : Int), cs := G.cs, bs := G.bs, top := 0, bot := (R' : Int) - 1, tabs := tabsW s.tabs W' } _ _ _ _ w2.heap.size 0 O s.y s.x _ (by show (1 : Int) ≤ (R' : Int); omega) (by show (R' : Int) ≤ 6; omega) (by show (2 : Int) ≤ (W' : Int); omega) (by show (W' : Int) ≤ 12; omega) hB'.seg).mono ?_
        rintro e w12 ⟨⟨_, rfl⟩, hC, tt⟩
        replace hR11 := hR11.of_block (tt.block _ (by omega) (by omega) (hO0 _))
        replace hg11 := hg11.of_blocks (w' := w12) (fun q q1 q2 => tt.block q (by omega) (by omega) (hO0 _))
        replace hS11 := hS11.of_blocks (w' := w12) (fun q q1 q2 => tt.block q (by omega) (by omega) (hO0 _))
        replace hT11 := BoolsAt.of_blocks (w' := w12) hT11 (fun q q1 q2 => tt.block q (by omega) (by omega) (hO0 _))
        have bel12 := bel11.trans (tt.below (fun k _ => hO0 k) (by omega) (by omega))
        have z13 : w11.heap.size ≤ w12.heap.size := tt.size
        clear tt bel11 hA11 cA
        go_wp2_with (first | (refine wpList_load_seg rfl 37  _ rfl w2.heap.size 0 0 (scrA (goTo { s with r := (R' : Int), wd := (W' : Int), cs := G.cs, bs := G.bs, top := 0, bot := (R' : Int) - 1, tabs := tabsW s.tabs W' } s.y s.x) (.slice a1 G.cs.length c1) (.slice a2 G.bs.length c2) (.slice at' W' ct) (.slice b4 s.sets.length d4)) (scrA (goTo { s with r := (R' : Int), wd := (W' : Int), cs := G.cs, bs := G.bs, top := 0, bot := (R' : Int) - 1, tabs := tabsW s.tabs W' } s.y s.x) (.slice a1 G.cs.length c1) (.slice a2 G.bs.length c2) (.slice at' W' ct) (.slice b4 s.sets.length d4)) hC rfl rfl _ Tryz.underlying37 rfl (by kernel_rfl) ?_; (try simp only [Act.put, List.setIfInBounds_toArray, List.set_cons_zero, List.set_cons_succ])) | (refine wpList_build_at rfl 39 _ rfl (resA 0 (goTo { s with r := (R' : Int), wd := (W' : Int), cs := G.cs, bs := G.bs, top := 0, bot := (R' : Int) - 1, tabs := tabsW s.tabs W' } s.y s.x) (.slice a1 G.cs.length c1) (.slice a2 G.bs.length c2) (.slice at' W' ct) (.slice b4 s.sets.length d4)) (by first | rfl | kernel_rfl) ?_; (try simp only [Act.put, List.setIfInBounds_toArray, List.set_cons_zero, List.set_cons_succ])) | (refine wpList_store_blk rfl _ _ _ rfl (w.heap.size + 1) 0 (resA 0 scr0 (.slice none 0 0) (.slice none 0 0) (.slice none 0 0) (.slice none 0 0)) (resA 0 (goTo { s with r := (R' : Int), wd := (W' : Int), cs := G.cs, bs := G.bs, top := 0, bot := (R' : Int) - 1, tabs := tabsW s.tabs W' } s.y s.x) (.slice a1 G.cs.length c1) (.slice a2 G.bs.length c2) (.slice at' W' ct) (.slice b4 s.sets.length d4)) (.agg (resA 0 (goTo { s with r := (R' : Int), wd := (W' : Int), cs := G.cs, bs := G.bs, top := 0, bot := (R' : Int) - 1, tabs := tabsW s.tabs W' } s.y s.x) (.slice a1 G.cs.length c1) (.slice a2 G.bs.length c2) (.slice at' W' ct) (.slice b4 s.sets.length d4))) rfl rfl hR11 rfl (by kernel_rfl) rfl rfl ?_; (try simp only [Act.put, List.setIfInBounds_toArray, List.set_cons_zero, List.set_cons_succ]); intro w13 hR13 hu))
        exact bodyPost_ret (results_blk hR13 _ _ rfl rfl Tryz.underlying39 rfl (by kernel_rfl)) rfl ⟨_, _, _, _, rfl, ⟨w3.heap.size, w4.heap.size, w7.heap.size, w10.heap.size, g4, w2.heap.size, by omega, by have := hu.size; omega, by omega, by have := hu.size; omega, by omega, by have := hu.size; omega, by omega, by omega, by omega, hg11.of_blocks (fun q q1 q2 => hu.block q (by omega)), BoolsAt.of_blocks hT11 (fun q q1 q2 => hu.block q (by omega)), hS11.of_blocks (fun q q1 q2 => hu.block q (by omega))⟩, bel12.trans (hu.below (by omega))⟩
      · skip
        go_simp
        go_at_call 133
        refine (l1Min_calls _ _ _).mono ?_
        rintro e w' ⟨rfl, hw⟩
        rw [hw, HM.out]
        clear hw w'
        refine hK.out _ _ ?_ ?_
        · (try dsimp only); exact hHeld
        clear hHeld hK K
        intro hHeld
        try simp only [Act.put, List.setIfInBounds_toArray, List.set_cons_zero, List.set_cons_succ]
        refine till_take (i := 8) (oi := ⟨_, _, _, _, _, _⟩) (v := ?_) rfl (by kernel_rfl) (by kernel_rfl) (by kernel_rfl) (by kernel_rfl) (fun _ _ _ h => h) (Or.inl ⟨by rfl, ?_⟩) hHeld ?_
        rotate_left
        · (intro w hSw; (try dsimp only at hSw); go_simp; try (with_reducible rfl))
        try simp only [Act.put, List.setIfInBounds_toArray, List.set_cons_zero, List.set_cons_succ]
        refine till_ready (rs := [0]) (by kernel_rfl) (by simp) ?_
        refine (EachTill.cons (o := ⟨_, _, _, _, _, _⟩) rfl (fun K hK => ?_) EachTill.nil)
        go_simp
        refine hK.out _ _ ?_ ?_
        · (try dsimp only); exact hmk _ (hHeld.1.alloc hHeld.1.size _)
        clear hHeld hK K
        intro hHeld
        try simp only [Act.put, List.setIfInBounds_toArray, List.set_cons_zero, List.set_cons_succ]
        refine till_ready (rs := [9]) (by kernel_rfl) (by simp) ?_
        refine (EachTill.cons (o := ⟨_, _, _, _, _, _⟩) rfl (fun K hK => ?_) EachTill.nil)
        have hV := hHeld.1
        have own0 : (w7.drew.alloc (.cells #[] 4)).ownsRow w7.heap.size 4 1 (.slice (some ⟨w7.heap.size, 0, none⟩) 0 0) 0 (boolsV []) := World.ownsRow_lit (base := w7.heap.size) (e := 4) (size := 1) w7.drew #[] 0 (Nat.le_refl _) (by simp) rfl
        refine step_append_bools rfl (.tmp 31) (.tmp 39) 25 rfl w7.heap.size 4 ib (.bool false) 1 Tryz.underlying25 hb' hb0 hb1 hb2 rfl _ 0 [] rfl own0 (some ⟨b3, o3, none⟩) (s.tabs.take k) k c3 rfl HL.out.symm (bread_pre (hT3.below hV) hkl) (by unfold maxLen; omega) (by omega) hV.size ?_
        intro vo w8 own1 gr
        replace hV : Below w7.heap.size w7 w8 := hV.grown gr hV.size (fun q hq => by have := (own0.lt q hq).1; omega)
        clear gr own0
        refine hK.out _ _ ?_ ?_
        · (try dsimp only); exact hmk _ hV
        clear hHeld hK K
        intro hHeld
        try simp only [Act.put, List.setIfInBounds_toArray, List.set_cons_zero, List.set_cons_succ]
        refine till_ready (rs := [14]) (by kernel_rfl) (by simp) ?_
        refine (EachTill.cons (o := ⟨_, _, _, _, _, _⟩) rfl (fun K hK => ?_) EachTill.nil)
        go_simp
        go_at_call 133
        refine (l1Min_calls _ _ _).mono ?_
        rintro e w' ⟨rfl, hw⟩
        rw [hw, HM.out]
        clear hw w'
        refine hK.out _ _ ?_ ?_
        · (try dsimp only); exact hmk _ hV
        clear hHeld hK K
        intro hHeld
        try simp only [Act.put, List.setIfInBounds_toArray, List.set_cons_zero, List.set_cons_succ]
        refine till_ready (rs := [16]) (by kernel_rfl) (by simp) ?_
        refine (EachTill.cons (o := ⟨_, _, _, _, _, _⟩) rfl (fun K hK => ?_) EachTill.nil)
        go_simp
        go_at_call 134
        refine (l5Tabs_calls k W' hkw (by omega) _).mono ?_
        rintro e w9 ⟨ut, rfl, own2, hb9⟩
        replace own1 := own_below own1 hb9
        replace hV := hV.trans (hb9.mono hV.size)
        have z9 : w8.heap.size ≤ w9.heap.size := hb9.size
        clear hb9
        obtain ⟨at2, ct2, rfl⟩ := own_formT own2
        refine hK.out _ _ ?_ ?_
        · (try dsimp only); exact hmk _ hV
        clear hHeld hK K
        intro hHeld
        try simp only [Act.put, List.setIfInBounds_toArray, List.set_cons_zero, List.set_cons_succ]
        refine till_ready (rs := [17]) (by kernel_rfl) (by simp) ?_
        refine (EachTill.cons (o := ⟨_, _, _, _, _, _⟩) rfl (fun K hK => ?_) EachTill.nil)
        have hr2 : BRead w9 (.slice at2 (W' - k) ct2) (tabsL (W' - k) (fun i => stopB (k + i))) := (own_bools own2 (Nat.le_refl _)).read
        refine step_append_bools rfl (.tmp 40) (.tmp 47) 25 rfl w7.heap.size 4 ib (.bool false) 1 Tryz.underlying25 hb' hb0 hb1 hb2 rfl _ (0 + k) ([] ++ s.tabs.take k) rfl own1 at2 _ (W' - k) ct2 rfl (tabsL_length _ _).symm hr2 (by unfold maxLen; omega) (by omega) hV.size ?_
        intro vp w10 own3 gr
        replace hV : Below w7.heap.size w7 w10 := hV.grown gr hV.size (fun q hq => by have := (own1.lt q hq).1; omega)
        rw [List.nil_append, HJ.out] at own3
        rw [show 0 + k + (W' - k) = W' by omega] at own3
        obtain ⟨at', ct, rfl⟩ := own_formT own3
        have hT : BoolsAt w7.heap.size w10.heap.size w10 (.slice at' W' ct) (tabsW s.tabs W') := own_bools own3 (Nat.le_refl _)
        have z10 : w7.heap.size ≤ w10.heap.size := hV.size
        clear gr own1 own2 own3 hr2
        refine hK.out _ _ ?_ ?_
        · (try dsimp only); exact hmk _ hV
        clear hHeld hK K
        intro hHeld
        try simp only [Act.put, List.setIfInBounds_toArray, List.set_cons_zero, List.set_cons_succ]
        refine till_take (i := 18) (oi := ⟨_, _, _, _, _, _⟩) (v := ?_) rfl (by kernel_rfl) (by kernel_rfl) (by kernel_rfl) (by kernel_rfl) (fun _ _ _ h => h) (Or.inl ⟨by rfl, ?_⟩) hHeld ?_
        rotate_left
        · (intro w hSw; (try dsimp only at hSw); go_simp; try (with_reducible rfl))
        try simp only [Act.put, List.setIfInBounds_toArray, List.set_cons_zero, List.set_cons_succ]
        refine till_ready (rs := [19]) (by kernel_rfl) (by simp) ?_
        refine (EachTill.last (o := ⟨_, _, _, _, _, _⟩) rfl rfl (fun K hK => ?_) EachTill.nil)
        have hB9 := hB.belowb hHeld.1
        have hW9 := hHeld
        refine wp_store_any _ _ _ rfl w2.heap.size 13 (scrA { s with r := (R' : Int), wd := (W' : Int), cs := G.cs, bs := G.bs, top := 0, bot := (R' : Int) - 1 } (.slice a1 G.cs.length c1) (.slice a2 G.bs.length c2) (.slice b5 s.tabs.length d5) (.slice b4 s.sets.length d4)) (scrA { s with r := (R' : Int), wd := (W' : Int), cs := G.cs, bs := G.bs, top := 0, bot := (R' : Int) - 1, tabs := tabsW s.tabs W' } (.slice a1 G.cs.length c1) (.slice a2 G.bs.length c2) (.slice at' W' ct) (.slice b4 s.sets.length d4)) (.slice at' W' ct) rfl rfl hB9 rfl (by kernel_rfl) rfl rfl ?_
        intro w11 hB' hu
        refine hK.out _ _ ?_ ?_
        · first | trivial | (dsimp only)
        clear hHeld hK K
        intro hHeld
        try simp only [Act.put, List.setIfInBounds_toArray, List.set_cons_zero, List.set_cons_succ]
        refine till_done (by kernel_rfl) ?_ _
        clear hHeld
        have hg11 := hg.of_blocks (w' := w11) (fun q q1 q2 => (hu.block q (by omega)).trans (hW9.1.block q (by omega)))
        have hS11 := hS.of_blocks (w' := w11) (fun q q1 q2 => (hu.block q (by omega)).trans (hW9.1.block q (by omega)))
        have hT11 := BoolsAt.of_blocks (w' := w11) hT (fun q q1 q2 => hu.block q (by omega))
        have hA11 := (hA.belowb hW9.1).upd hu (by omega)
        have hR11 := (hR.belowb hW9.1).upd hu (by omega)
        have bel11 := (bel7.trans (hW9.1.mono (by omega))).trans (hu.below (by omega))
        have z11 : w7.heap.size ≤ w11.heap.size := by have := hu.size; have := hW9.1.size; omega
        have z12 : w10.heap.size ≤ w11.heap.size := Nat.le_of_eq hu.size.symm
        clear hu hW9 hg hS hT hA hR bel7 hmk hT3
        have cA := hA11.cells
        go_wp2_with fail
        go_at_call 135
        obtain ⟨O, hO0⟩ : ∃ O : Nat → Prop, ∀ k, ¬ O k := ⟨fun _ => False, fun _ h => h⟩
        refine (l5Go_calls { s with r := (R' : Int), wd := (W' : Int), cs := G.cs, bs := G.bs, top := 0, bot := (R' : Int) - 1, tabs := tabsW s.tabs W' } _ _ _ _ w2.heap.size 0 O s.y s.x _ (by show (1 : Int) ≤ (R' : Int); omega) (by show (R' : Int) ≤ 6; omega) (by show (2 : Int) ≤ (W' : Int); omega) (by show (W' : Int) ≤ 12; omega) hB'.seg).mono ?_
        rintro e w12 ⟨⟨_, rfl⟩, hC, tt⟩
        replace hR11 := hR11.of_block (tt.block _ (by omega) (by omega) (hO0 _))
        replace hg11 := hg11.of_blocks (w' := w12) (fun q q1 q2 => tt.block q (by omega) (by omega) (hO0 _))
        replace hS11 := hS11.of_blocks (w' := w12) (fun q q1 q2 => tt.block q (by omega) (by omega) (hO0 _))
        replace hT11 := BoolsAt.of_blocks (w' := w12) hT11 (fun q q1 q2 => tt.block q (by omega) (by omega) (hO0 _))
        have bel12 := bel11.trans (tt.below (fun k _ => hO0 k) (by omega) (by omega))
        have z13 : w11.heap.size ≤ w12.heap.size := tt.size
        clear tt bel11 hA11 cA
        go_wp2_with (first | (refine wpList_load_seg rfl 37  _ rfl w2.heap.size 0 0 (scrA (goTo { s with r := (R' : Int), wd := (W' : Int), cs := G.cs, bs := G.bs, top := 0, bot := (R' : Int) - 1, tabs := tabsW s.tabs W' } s.y s.x) (.slice a1 G.cs.length c1) (.slice a2 G.bs.length c2) (.slice at' W' ct) (.slice b4 s.sets.length d4)) (scrA (goTo { s with r := (R' : Int), wd := (W' : Int), cs := G.cs, bs := G.bs, top := 0, bot := (R' : Int) - 1, tabs := tabsW s.tabs W' } s.y s.x) (.slice a1 G.cs.length c1) (.slice a2 G.bs.length c2) (.slice at' W' ct) (.slice b4 s.sets.length d4)) hC rfl rfl _ Tryz.underlying37 rfl (by kernel_rfl) ?_; (try simp only [Act.put, List.setIfInBounds_toArray, List.set_cons_zero, List.set_cons_succ])) | (refine wpList_build_at rfl 39 _ rfl (resA 0 (goTo { s with r := (R' : Int), wd := (W' : Int), cs := G.cs, bs := G.bs, top := 0, bot := (R' : Int) - 1, tabs := tabsW s.tabs W' } s.y s.x) (.slice a1 G.cs.length c1) (.slice a2 G.bs.length c2) (.slice at' W' ct) (.slice b4 s.sets.length d4)) (by first | rfl | kernel_rfl) ?_; (try simp only [Act.put, List.setIfInBounds_toArray, List.set_cons_zero, List.set_cons_succ])) | (refine wpList_store_blk rfl _ _ _ rfl (w.heap.size + 1) 0 (resA 0 scr0 (.slice none 0 0) (.slice none 0 0) (.slice none 0 0) (.slice none 0 0)) (resA 0 (goTo { s with r := (R' : Int), wd := (W' : Int), cs := G.cs, bs := G.bs, top := 0, bot := (R' : Int) - 1, tabs := tabsW s.tabs W' } s.y s.x) (.slice a1 G.cs.length c1) (.slice a2 G.bs.length c2) (.slice at' W' ct) (.slice b4 s.sets.length d4)) (.agg (resA 0 (goTo { s with r := (R' : Int), wd := (W' : Int), cs := G.cs, bs := G.bs, top := 0, bot := (R' : Int) - 1, tabs := tabsW s.tabs W' } s.y s.x) (.slice a1 G.cs.length c1) (.slice a2 G.bs.length c2) (.slice at' W' ct) (.slice b4 s.sets.length d4))) rfl rfl hR11 rfl (by kernel_rfl) rfl rfl ?_; (try simp only [Act.put, List.setIfInBounds_toArray, List.set_cons_zero, List.set_cons_succ]); intro w13 hR13 hu))
        exact bodyPost_ret (results_blk hR13 _ _ rfl rfl Tryz.underlying39 rfl (by kernel_rfl)) rfl ⟨_, _, _, _, rfl, ⟨w3.heap.size, w4.heap.size, w7.heap.size, w10.heap.size, g4, w2.heap.size, by omega, by have := hu.size; omega, by omega, by have := hu.size; omega, by omega, by have := hu.size; omega, by omega, by omega, by omega, hg11.of_blocks (fun q q1 q2 => hu.block q (by omega)), BoolsAt.of_blocks hT11 (fun q q1 q2 => hu.block q (by omega)), hS11.of_blocks (fun q q1 q2 => hu.block q (by omega))⟩, bel12.trans (hu.below (by omega))⟩
  · rw [if_neg hc]
    obtain ⟨code, hcd⟩ : ∃ c, scrCode s = c := ⟨_, rfl⟩
    rw [hcd]
    have hne : (code != 0) = true := by rw [← hcd]; simpa using hc
    have HC := hide hcd
    clear hc hcd
    go_enter Tryz.func78, Tryz.ntmps78
    go_wp2_with fail
    go_at_call 43
    refine (l5Fault_o s _ _ _ _ w.heap.size 0 _ hn1 hn2 hn3 hn4 hA.seg (h.below bel0)).mono ?_
    rintro e w1 ⟨rfl, hb⟩
    replace hA := hA.belowb hb
    replace hR := hR.belowb hb
    have bel1 := bel0.trans (hb.mono bel0.size)
    have z1 : w.heap.size + 2 ≤ w1.heap.size := by have := hb.size; simp at this; omega
    clear hb bel0
    rw [HC.out]
    go_wp2_with fail
    go_at_call 44
    refine (l5Bad_calls code _).mono ?_
    rintro e w2 ⟨rfl, hb⟩
    replace hR := hR.belowb hb
    have z2 : w1.heap.size ≤ w2.heap.size := hb.size
    have bel2 := bel1.trans (hb.mono bel1.size)
    clear hb bel1
    go_wp2_with (first | (refine wpList_store_blk rfl _ _ _ rfl (w.heap.size + 1) 0 (resA 0 scr0 (.slice none 0 0) (.slice none 0 0) (.slice none 0 0) (.slice none 0 0)) (resA code scr0 (.slice none 0 0) (.slice none 0 0) (.slice none 0 0) (.slice none 0 0)) (.agg (resA code scr0 (.slice none 0 0) (.slice none 0 0) (.slice none 0 0) (.slice none 0 0))) rfl rfl hR rfl (by kernel_rfl) rfl rfl ?_; (try simp only [Act.put, List.setIfInBounds_toArray, List.set_cons_zero, List.set_cons_succ]); clear hR; intro w9 hR hu))
    exact bodyPost_ret (results_blk hR _ _ rfl rfl Tryz.underlying39 rfl (by kernel_rfl)) rfl ⟨_, _, _, _, rfl, sown_zero _ _ (by have := hu.size; omega) _, bel2.trans (hu.below (by omega))⟩
end Go.Proofs.YtdekegjplegkeaaGreat

/- How long the lists of ResizeScreen's answer are. -/
namespace Go.Proofs.YtdekegjplegkeaaGreat
set_option maxRecDepth 20000
open Go.ChangeShapes Go.WideShapes Go.ChangeAt Go.RowKit
set_option linter.unusedVariables false
set_option linter.unusedSimpArgs false
set_option maxRecDepth 20000

theorem rzRes_len (s : Scr) (rows width : Int) (h4 : s.sets.length ≤ 1048576) : (rzRes s rows width).s.cs.length ≤ 1048576 ∧ (rzRes s rows width).s.bs.length ≤ 1048576 ∧ (rzRes s rows width).s.tabs.length ≤ 1048576 ∧ (rzRes s rows width).s.sets.length ≤ 1048576 := by
  unfold rzRes
  split
  · rename_i hc
    split
    · rename_i hz
      have hG := rz_grid_code hc
      obtain ⟨R, W, R', W', Hb, N', M', eR, eW, rfl, rfl, p1, p2, p3, p4, p5, p6, p7, p8, p9, p10, p11, p12, e1, e2, e3, e4, e5⟩ := resize_nats (gfine_of_code hG) hz
      have eW' : s.wd.toNat = W := by omega
      have eR' : s.r.toNat = R := by omega
      have e' : rzGrid s (R' : Int) (W' : Int) = ⟨0, (R' : Int), (W' : Int), mkL N' (fitF W W' (min R' R) (fun i => s.cs.getD i (0, 0)) (32, 0)), mkL M' (fitF W W' Hb (fun i => s.bs.getD i (0, 0)) (32, 0))⟩ := by
        unfold rzGrid
        rw [resizeRes_def, gres_ok hG hz]
        simp only [eW', eR', Int.toNat_natCast, e3, ← e4, ← e5]
      refine ⟨?_, ?_, ?_, h4⟩
      · show (rzGrid s (R' : Int) (W' : Int)).cs.length ≤ _
        rw [e', mkL_length]; omega
      · show (rzGrid s (R' : Int) (W' : Int)).bs.length ≤ _
        rw [e', mkL_length]; omega
      · show (tabsW s.tabs (W' : Int).toNat).length ≤ _
        rw [tabsW_length, Int.toNat_natCast]; omega
    · simp [sbad, scr0]
  · simp [sbad, scr0]
end Go.Proofs.YtdekegjplegkeaaGreat

/- impl.withParam walked: a character among the numbers of a parser. -/
namespace Go.Proofs.YtdekegjplegkeaaGreat
set_option maxRecDepth 20000
open Go.ChangeShapes Go.WideShapes Go.ChangeAt Go.RowKit
set_option linter.unusedVariables false
set_option linter.unusedSimpArgs false

theorem info_ints : (Tryz.prog.info? 2).map (fun i => (i.zero, i.size, i.bytes)) = some (some (.int .i64 0), 1, 8) := by kernel_rfl

set_option maxHeartbeats 400000 in
theorem withParam_none (md st : Int) (pv : Bool) (ns : List Int) (c : Int) (base : Nat) (v : Value) (w : World) (hl : 0 < ns.length) (hl6 : ns.length ≤ 6) (hx : ∀ x ∈ ns, 0 ≤ x ∧ x ≤ 999) (hbase : base ≤ w.heap.size) (hown : w.ownsRow base 2 1 v ns.length (intsV ns)) (hc1 : ¬ (48 ≤ c ∧ c ≤ 57)) (hc2 : c = 59 → ¬ ns.length < 6) (hc3 : ¬ c = 63) :
    Calls Tryz.prog 188 #[.agg #[.int .i64 md, .int .i64 st, .bool pv, v], .int .i64 c] w fun e w' => ∃ v', e = .returned (.agg #[.int .i64 md, .int .i64 st, .bool (paramP ⟨md, st, pv, ns⟩ c).pv, v']) ∧ w'.ownsRow base 2 1 v' (paramP ⟨md, st, pv, ns⟩ c).ns.length (intsV (paramP ⟨md, st, pv, ns⟩ c).ns) ∧ GrowTo w w' v v' := by
  have hp : paramP ⟨md, st, pv, ns⟩ c = ⟨md, st, pv, ns⟩ := by unfold paramP; rw [if_neg hc1]; by_cases h : c = 59 <;> simp [h, hc2, hc3]
  rw [hp]
  clear hp
  dsimp only
  obtain ⟨g, cap, rfl, hgb, hgs, hgc, hgf⟩ := own_spot hown hl
  have HC := hide hgc
  clear hgc
  have hd : decide ((48 : Int) ≤ c ∧ c ≤ 57) = false := by simp; omega
  have q3 : (c == 63) = false := by simpa using hc3
  by_cases h59 : c = 59
  · have q2 : ¬ ((ns.length : Int) < 6) := by have := hc2 h59; omega
    subst h59
    clear hc1 hc2 hc3 q3
    go_enter Tryz.func188, Tryz.ntmps188
    go_wp2_with fail
    refine (isFromTo_calls 59 48 57 _).mono ?_
    rintro e w' ⟨rfl, hw⟩
    rw [hw, hd]
    clear hw w'
    go_wp2
    refine bodyPost_ret (v := .agg #[.int .i64 md, .int .i64 st, .bool pv, .slice (some ⟨g, 0, none⟩) ns.length cap]) (by simp only [results, Tryz.results188]; simp [go_sem]) rfl ⟨_, rfl, ?_, ?_⟩
    · exact (by repeat' (first | with_reducible exact hown | with_reducible refine own_alloc ?_ _ | with_reducible refine own_drewN ?_ | with_reducible refine own_drew ?_ | with_reducible refine own_setCell ?_ ?_ | (simp [Value.ownBlock]; done) | (simp [Value.ownBlock]; omega) | omega))
    · exact (by repeat' (first | with_reducible exact GrowTo.refl _ _ | with_reducible refine GrowTo.more ?_ _ | with_reducible refine GrowTo.drewN ?_ _ | with_reducible refine GrowTo.drew ?_ | with_reducible refine GrowTo.setCell ?_ ?_ _ | (simp; done) | (simp; omega) | omega))
  · have q2 : (c == 59) = false := by simpa using h59
    clear hc1 hc2 hc3 h59
    go_enter Tryz.func188, Tryz.ntmps188
    go_wp2_with fail
    refine (isFromTo_calls c 48 57 _).mono ?_
    rintro e w' ⟨rfl, hw⟩
    rw [hw, hd]
    clear hw w'
    go_wp2
    refine bodyPost_ret (v := .agg #[.int .i64 md, .int .i64 st, .bool pv, .slice (some ⟨g, 0, none⟩) ns.length cap]) (by simp only [results, Tryz.results188]; simp [go_sem]) rfl ⟨_, rfl, ?_, ?_⟩
    · exact (by repeat' (first | with_reducible exact hown | with_reducible refine own_alloc ?_ _ | with_reducible refine own_drewN ?_ | with_reducible refine own_drew ?_ | with_reducible refine own_setCell ?_ ?_ | (simp [Value.ownBlock]; done) | (simp [Value.ownBlock]; omega) | omega))
    · exact (by repeat' (first | with_reducible exact GrowTo.refl _ _ | with_reducible refine GrowTo.more ?_ _ | with_reducible refine GrowTo.drewN ?_ _ | with_reducible refine GrowTo.drew ?_ | with_reducible refine GrowTo.setCell ?_ ?_ _ | (simp; done) | (simp; omega) | omega))

set_option maxHeartbeats 400000 in
theorem withParam_priv (md st : Int) (pv : Bool) (ns : List Int) (c : Int) (base : Nat) (v : Value) (w : World) (hl : 0 < ns.length) (hl6 : ns.length ≤ 6) (hx : ∀ x ∈ ns, 0 ≤ x ∧ x ≤ 999) (hbase : base ≤ w.heap.size) (hown : w.ownsRow base 2 1 v ns.length (intsV ns)) (hc : c = 63) :
    Calls Tryz.prog 188 #[.agg #[.int .i64 md, .int .i64 st, .bool pv, v], .int .i64 c] w fun e w' => ∃ v', e = .returned (.agg #[.int .i64 md, .int .i64 st, .bool (paramP ⟨md, st, pv, ns⟩ c).pv, v']) ∧ w'.ownsRow base 2 1 v' (paramP ⟨md, st, pv, ns⟩ c).ns.length (intsV (paramP ⟨md, st, pv, ns⟩ c).ns) ∧ GrowTo w w' v v' := by
  have hp : paramP ⟨md, st, pv, ns⟩ c = ⟨md, st, true, ns⟩ := by unfold paramP; subst hc; rfl
  rw [hp]
  clear hp
  dsimp only
  obtain ⟨g, cap, rfl, hgb, hgs, hgc, hgf⟩ := own_spot hown hl
  have HC := hide hgc
  clear hgc
  have hd : decide ((48 : Int) ≤ 63 ∧ (63 : Int) ≤ 57) = false := rfl
  subst hc
  go_enter Tryz.func188, Tryz.ntmps188
  go_wp2_with fail
  refine (isFromTo_calls 63 48 57 _).mono ?_
  rintro e w' ⟨rfl, hw⟩
  rw [hw, hd]
  clear hw w'
  go_wp2
  refine bodyPost_ret (v := .agg #[.int .i64 md, .int .i64 st, .bool true, .slice (some ⟨g, 0, none⟩) ns.length cap]) (by simp only [results, Tryz.results188]; simp [go_sem]) rfl ⟨_, rfl, ?_, ?_⟩
  · exact (by repeat' (first | with_reducible exact hown | with_reducible refine own_alloc ?_ _ | with_reducible refine own_drewN ?_ | with_reducible refine own_drew ?_ | with_reducible refine own_setCell ?_ ?_ | (simp [Value.ownBlock]; done) | (simp [Value.ownBlock]; omega) | omega))
  · exact (by repeat' (first | with_reducible exact GrowTo.refl _ _ | with_reducible refine GrowTo.more ?_ _ | with_reducible refine GrowTo.drewN ?_ _ | with_reducible refine GrowTo.drew ?_ | with_reducible refine GrowTo.setCell ?_ ?_ _ | (simp; done) | (simp; omega) | omega))

set_option maxHeartbeats 400000 in
theorem withParam_more (md st : Int) (pv : Bool) (ns : List Int) (c : Int) (base : Nat) (v : Value) (w : World) (hl : 0 < ns.length) (hl6 : ns.length ≤ 6) (hx : ∀ x ∈ ns, 0 ≤ x ∧ x ≤ 999) (hbase : base ≤ w.heap.size) (hown : w.ownsRow base 2 1 v ns.length (intsV ns)) (hc : c = 59) (hl5 : ns.length < 6) :
    Calls Tryz.prog 188 #[.agg #[.int .i64 md, .int .i64 st, .bool pv, v], .int .i64 c] w fun e w' => ∃ v', e = .returned (.agg #[.int .i64 md, .int .i64 st, .bool (paramP ⟨md, st, pv, ns⟩ c).pv, v']) ∧ w'.ownsRow base 2 1 v' (paramP ⟨md, st, pv, ns⟩ c).ns.length (intsV (paramP ⟨md, st, pv, ns⟩ c).ns) ∧ GrowTo w w' v v' := by
  have hp : paramP ⟨md, st, pv, ns⟩ c = ⟨md, st, pv, ns ++ [0]⟩ := by unfold paramP; subst hc; rw [if_neg (by omega), if_pos rfl, if_pos hl5]
  rw [hp]
  clear hp
  dsimp only
  obtain ⟨g, cap, rfl, hgb, hgs, hgc, hgf⟩ := own_spot hown hl
  have HC := hide hgc
  clear hgc
  have hd : decide ((48 : Int) ≤ 59 ∧ (59 : Int) ≤ 57) = false := rfl
  have q2 : ((ns.length : Int) < 6) := by omega
  obtain ⟨i0, hi, hz0, hz1, hz2⟩ := info_parts info_ints
  subst hc
  go_enter Tryz.func188, Tryz.ntmps188
  go_wp2_with fail
  refine (isFromTo_calls 59 48 57 _).mono ?_
  rintro e w' ⟨rfl, hw⟩
  rw [hw, hd]
  clear hw w'
  go_wp2_with (at_builtin; refine wpList_append_grow _ rfl (.tmp 37) (.tmp 38) 26 rfl base 2 i0 (.int .i64 0) 1 8 Tryz.underlying26 hi hz0 hz1 hz2 rfl (by decide) (.slice (some ⟨g, 0, none⟩) ns.length cap) ns.length (intsV ns) rfl (((hown.alloc _).alloc _).alloc _) ⟨w.heap.size + 2, 0, none⟩ 1 1 (intsV [0]) rfl rfl (new_row_at (by simp) rfl) (ints_one_cell _ _) (by unfold maxLen; omega) (by omega) (by simp; omega) ?_)
  intro v' w1 hown1 hgrow1
  rw [← intsV_append] at hown1
  have hown1' : w1.ownsRow base 2 1 v' (ns ++ [0]).length (intsV (ns ++ [0])) := by simpa using hown1
  obtain ⟨a3, c3, rfl⟩ := own_form hown1
  have hne0 : some w.heap.size ≠ (Value.slice (some ⟨g, 0, none⟩) ns.length cap).ownBlock := by simp [Value.ownBlock]; omega
  have hne1 : some (w.heap.size + 1) ≠ (Value.slice (some ⟨g, 0, none⟩) ns.length cap).ownBlock := by simp [Value.ownBlock]; omega
  have k0 : w1.cell? ⟨w.heap.size, 0, none⟩ = some (.int .i64 md) := by rw [hgrow1.cell (by simp; try omega) hne0]; simp [go_sem]
  have k1 : w1.cell? ⟨w.heap.size, 1, none⟩ = some (.int .i64 st) := by rw [hgrow1.cell (by simp; try omega) hne0]; simp [go_sem]
  have k2 : w1.cell? ⟨w.heap.size, 2, none⟩ = some (.bool pv) := by rw [hgrow1.cell (by simp; try omega) hne0]; simp [go_sem]
  have k3 : w1.cell? ⟨w.heap.size, 3, none⟩ = some (.slice (some ⟨g, 0, none⟩) ns.length cap) := by rw [hgrow1.cell (by simp; try omega) hne0]; simp [go_sem]
  have j0 : w1.cell? ⟨w.heap.size + 1, 0, none⟩ = some (.int .i64 0) := by rw [hgrow1.cell (by simp; try omega) hne1]; simp [go_sem]
  have j1 : w1.cell? ⟨w.heap.size + 1, 1, none⟩ = some (.int .i64 0) := by rw [hgrow1.cell (by simp; try omega) hne1]; simp [go_sem]
  have j2 : w1.cell? ⟨w.heap.size + 1, 2, none⟩ = some (.bool false) := by rw [hgrow1.cell (by simp; try omega) hne1]; simp [go_sem]
  have j3 : w1.cell? ⟨w.heap.size + 1, 3, none⟩ = some (.slice none 0 0) := by rw [hgrow1.cell (by simp; try omega) hne1]; simp [go_sem]
  have f0 : ∀ o, w1.frozen? ⟨w.heap.size, o, none⟩ = false := fun o => by rw [hgrow1.frozen (by simp; try omega) hne0]; simp [go_sem]
  have f1 : ∀ o, w1.frozen? ⟨w.heap.size + 1, o, none⟩ = false := fun o => by rw [hgrow1.frozen (by simp; try omega) hne1]; simp [go_sem]
  have HB0 := hide (hgrow1.apart (b := w.heap.size) (by simp; try omega) hne0)
  have HB1 := hide (hgrow1.apart (b := w.heap.size + 1) (by simp; try omega) hne1)
  have hg2 := hide ((((GrowTo.refl w (.slice (some ⟨g, 0, none⟩) ns.length cap)).more _).more _).more _ |>.trans hgrow1)
  have HO := hide hown1'
  clear hgrow1 hne0 hne1 hown1 hown1' HC
  go_wp2
  refine bodyPost_ret (v := .agg #[.int .i64 md, .int .i64 st, .bool pv, .slice a3 (ns.length + 1) c3]) (by simp only [results, Tryz.results188]; simp [go_sem, k0, j0, k1, j1, k2, j2, k3, j3]) rfl ⟨_, rfl, ?_, ?_⟩
  · exact own_setCell (own_setCell (own_setCell (own_setCell (own_setCell HO.out HB0.out) HB1.out) HB1.out) HB1.out) HB1.out
  · exact (by repeat' (first | with_reducible exact hg2.out | with_reducible refine GrowTo.more ?_ _ | with_reducible refine GrowTo.drewN ?_ _ | with_reducible refine GrowTo.drew ?_ | with_reducible refine GrowTo.setCell ?_ ?_ _ | (simp; done) | (simp; omega) | omega))

set_option maxHeartbeats 400000 in
theorem withParam_digit (md st : Int) (pv : Bool) (ns : List Int) (c : Int) (base : Nat) (v : Value) (w : World) (hl : 0 < ns.length) (hl6 : ns.length ≤ 6) (hx : ∀ x ∈ ns, 0 ≤ x ∧ x ≤ 999) (hbase : base ≤ w.heap.size) (hown : w.ownsRow base 2 1 v ns.length (intsV ns)) (hc1 : 48 ≤ c) (hc2 : c ≤ 57) :
    Calls Tryz.prog 188 #[.agg #[.int .i64 md, .int .i64 st, .bool pv, v], .int .i64 c] w fun e w' => ∃ v', e = .returned (.agg #[.int .i64 md, .int .i64 st, .bool (paramP ⟨md, st, pv, ns⟩ c).pv, v']) ∧ w'.ownsRow base 2 1 v' (paramP ⟨md, st, pv, ns⟩ c).ns.length (intsV (paramP ⟨md, st, pv, ns⟩ c).ns) ∧ GrowTo w w' v v' := by
  have hp : paramP ⟨md, st, pv, ns⟩ c = ⟨md, st, pv, digitL ns c⟩ := by unfold paramP; rw [if_pos ⟨hc1, hc2⟩]
  rw [hp]
  clear hp
  dsimp only
  obtain ⟨g, cap, rfl, hgb, hgs, hgc, hgf⟩ := own_spot hown hl
  have HC := hide hgc
  clear hgc
  have hd : decide ((48 : Int) ≤ c ∧ c ≤ 57) = true := by simp; omega
  generalize hL : ns.length - 1 = L
  have hLl : L < ns.length := by omega
  have g1 := HC.out L hLl
  have f1 := hgf L
  have hX : 0 ≤ ns.getD L 0 ∧ ns.getD L 0 ≤ 999 := hx _ (by rw [show ns.getD L 0 = ns[L] from by simp [List.getD_eq_getElem?_getD, hLl]]; exact List.getElem_mem hLl)
  have HD : Hid (digitL ns c = ns.set L (min (10 * ns.getD L 0 + c - 48) 999)) := hide (by unfold digitL; rw [hL])
  generalize ns.getD L 0 = x at *
  obtain ⟨hX1, hX2⟩ := hX
  have hq : ((ns.length : Int) - 1) = (L : Int) := by omega
  have w1 : IntKind.i64.wrap (10 * x) = 10 * x := wrap_small (by omega) (by omega)
  have w2 : IntKind.i64.wrap (10 * x + c) = 10 * x + c := wrap_small (by omega) (by omega)
  have w3 : IntKind.i64.wrap (10 * x + c - 48) = 10 * x + c - 48 := wrap_small (by omega) (by omega)
  have HM : Hid ((if 10 * x + c - 48 < 999 then 10 * x + c - 48 else 999) = min (10 * x + c - 48) 999) := hide (by split <;> omega)
  have hm1 : (if 999 < 10 * x + c - 48 then 999 else 10 * x + c - 48) = min (10 * x + c - 48) 999 := by split <;> omega
  generalize hM : min (10 * x + c - 48) 999 = m at *
  have hLn : ((L : Nat) : Int).toNat = L := by omega
  have hLI : ((L : Int) < (ns.length : Int)) := by omega
  clear HC hx hgf hM
  go_enter Tryz.func188, Tryz.ntmps188
  go_wp2_with fail
  refine (isFromTo_calls c 48 57 _).mono ?_
  rintro e w' ⟨rfl, hw⟩
  rw [hw, hd]
  clear hw w'
  go_wp2_with fail
  refine till_region [14] (S := (fun w' => Below w.heap.size w w' ∧ w'.cell? ⟨w.heap.size, 3, none⟩ = some (.slice (some ⟨g, 0, none⟩) ns.length cap) ∧ w'.cell? ⟨g, L, none⟩ = some (.int .i64 x) ∧ w'.frozen? ⟨g, L, none⟩ = false)) (by kernel_rfl) ?_ (fun hHeld => ?_)
  · (try dsimp only); exact ⟨(by repeat' (first | with_reducible exact Below.refl _ _ | with_reducible assumption | with_reducible refine Below.drew ?_ | with_reducible refine Below.alloc ?_ ?_ _ | with_reducible refine Below.setCell ?_ ?_ _ | (simp; done) | (simp; omega) | omega)), by simp [go_sem], cellb (show Below w.heap.size w _ from (by repeat' (first | with_reducible exact Below.refl _ _ | with_reducible assumption | with_reducible refine Below.drew ?_ | with_reducible refine Below.alloc ?_ ?_ _ | with_reducible refine Below.setCell ?_ ?_ _ | (simp; done) | (simp; omega) | omega))) g1, ((show Below w.heap.size w _ from (by repeat' (first | with_reducible exact Below.refl _ _ | with_reducible assumption | with_reducible refine Below.drew ?_ | with_reducible refine Below.alloc ?_ ?_ _ | with_reducible refine Below.setCell ?_ ?_ _ | (simp; done) | (simp; omega) | omega))).frozen (p := ⟨g, L, none⟩) hgs).trans f1⟩
  refine till_take (i := 0) (oi := ⟨_, _, _, _, _, _⟩) (v := ?_) rfl (by kernel_rfl) (by kernel_rfl) (by kernel_rfl) (by kernel_rfl) (fun _ _ _ h => h) (Or.inl ⟨by rfl, ?_⟩) hHeld ?_
  rotate_left
  · (intro w hSw; (try dsimp only at hSw); go_simp; try (with_reducible rfl))
  try simp only [Act.put, List.setIfInBounds_toArray, List.set_cons_zero, List.set_cons_succ]
  refine till_take (i := 1) (oi := ⟨_, _, _, _, _, _⟩) (v := ?_) rfl (by kernel_rfl) (by kernel_rfl) (by kernel_rfl) (by kernel_rfl) (fun _ _ _ h => h) (Or.inl ⟨by rfl, ?_⟩) hHeld ?_
  rotate_left
  · (intro w hSw; (try dsimp only at hSw); go_simp; try (with_reducible rfl))
  try simp only [Act.put, List.setIfInBounds_toArray, List.set_cons_zero, List.set_cons_succ]
  refine till_take (i := 2) (oi := ⟨_, _, _, _, _, _⟩) (v := ?_) rfl (by kernel_rfl) (by kernel_rfl) (by kernel_rfl) (by kernel_rfl) (fun _ _ _ h => h) (Or.inl ⟨by rfl, ?_⟩) hHeld ?_
  rotate_left
  · (intro w hSw; (try dsimp only at hSw); go_simp; try (with_reducible rfl))
  try simp only [Act.put, List.setIfInBounds_toArray, List.set_cons_zero, List.set_cons_succ]
  refine till_take (i := 3) (oi := ⟨_, _, _, _, _, _⟩) (v := ?_) rfl (by kernel_rfl) (by kernel_rfl) (by kernel_rfl) (by kernel_rfl) (fun _ _ _ h => h) (Or.inl ⟨by rfl, ?_⟩) hHeld ?_
  rotate_left
  · (intro w hSw; (try dsimp only at hSw); go_simp; try (with_reducible rfl))
  try simp only [Act.put, List.setIfInBounds_toArray, List.set_cons_zero, List.set_cons_succ]
  refine till_take (i := 4) (oi := ⟨_, _, _, _, _, _⟩) (v := ?_) rfl (by kernel_rfl) (by kernel_rfl) (by kernel_rfl) (by kernel_rfl) (fun _ _ _ h => h) (Or.inl ⟨by rfl, ?_⟩) hHeld ?_
  rotate_left
  · (intro w hSw; (try dsimp only at hSw); go_simp; try (with_reducible rfl))
  try simp only [Act.put, List.setIfInBounds_toArray, List.set_cons_zero, List.set_cons_succ]
  refine till_take (i := 5) (oi := ⟨_, _, _, _, _, _⟩) (v := ?_) rfl (by kernel_rfl) (by kernel_rfl) (by kernel_rfl) (by kernel_rfl) (fun _ _ _ h => h) (Or.inl ⟨by rfl, ?_⟩) hHeld ?_
  rotate_left
  · (intro w hSw; (try dsimp only at hSw); go_simp; try (with_reducible rfl))
  try simp only [Act.put, List.setIfInBounds_toArray, List.set_cons_zero, List.set_cons_succ]
  refine till_take (i := 6) (oi := ⟨_, _, _, _, _, _⟩) (v := ?_) rfl (by kernel_rfl) (by kernel_rfl) (by kernel_rfl) (by kernel_rfl) (fun _ _ _ h => h) (Or.inl ⟨by rfl, ?_⟩) hHeld ?_
  rotate_left
  · (intro w hSw; (try dsimp only at hSw); go_simp; try (with_reducible rfl))
  try simp only [Act.put, List.setIfInBounds_toArray, List.set_cons_zero, List.set_cons_succ]
  refine till_take (i := 7) (oi := ⟨_, _, _, _, _, _⟩) (v := ?_) rfl (by kernel_rfl) (by kernel_rfl) (by kernel_rfl) (by kernel_rfl) (fun _ _ _ h => h) (Or.inl ⟨by rfl, ?_⟩) hHeld ?_
  rotate_left
  · (intro w hSw; (try dsimp only at hSw); go_simp; try (with_reducible rfl))
  try simp only [Act.put, List.setIfInBounds_toArray, List.set_cons_zero, List.set_cons_succ]
  refine till_take (i := 8) (oi := ⟨_, _, _, _, _, _⟩) (v := ?_) rfl (by kernel_rfl) (by kernel_rfl) (by kernel_rfl) (by kernel_rfl) (fun _ _ _ h => h) (Or.inl ⟨by rfl, ?_⟩) hHeld ?_
  rotate_left
  · (intro w hSw; (try dsimp only at hSw); go_simp; try (with_reducible rfl))
  try simp only [Act.put, List.setIfInBounds_toArray, List.set_cons_zero, List.set_cons_succ]
  refine till_take (i := 9) (oi := ⟨_, _, _, _, _, _⟩) (v := ?_) rfl (by kernel_rfl) (by kernel_rfl) (by kernel_rfl) (by kernel_rfl) (fun _ _ _ h => h) (Or.inl ⟨by rfl, ?_⟩) hHeld ?_
  rotate_left
  · (intro w hSw; (try dsimp only at hSw); go_simp; try (with_reducible rfl))
  try simp only [Act.put, List.setIfInBounds_toArray, List.set_cons_zero, List.set_cons_succ]
  refine till_take (i := 10) (oi := ⟨_, _, _, _, _, _⟩) (v := ?_) rfl (by kernel_rfl) (by kernel_rfl) (by kernel_rfl) (by kernel_rfl) (fun _ _ _ h => h) (Or.inl ⟨by rfl, ?_⟩) hHeld ?_
  rotate_left
  · (intro w hSw; (try dsimp only at hSw); go_simp; try (with_reducible rfl))
  try simp only [Act.put, List.setIfInBounds_toArray, List.set_cons_zero, List.set_cons_succ]
  refine till_take (i := 11) (oi := ⟨_, _, _, _, _, _⟩) (v := ?_) rfl (by kernel_rfl) (by kernel_rfl) (by kernel_rfl) (by kernel_rfl) (fun _ _ _ h => h) (Or.inl ⟨by rfl, ?_⟩) hHeld ?_
  rotate_left
  · (intro w hSw; (try dsimp only at hSw); go_simp; try (with_reducible rfl))
  try simp only [Act.put, List.setIfInBounds_toArray, List.set_cons_zero, List.set_cons_succ]
  refine till_take (i := 12) (oi := ⟨_, _, _, _, _, _⟩) (v := ?_) rfl (by kernel_rfl) (by kernel_rfl) (by kernel_rfl) (by kernel_rfl) (fun _ _ _ h => h) (Or.inl ⟨by rfl, ?_⟩) hHeld ?_
  rotate_left
  · (intro w hSw; (try dsimp only at hSw); go_simp; try (with_reducible rfl))
  try simp only [Act.put, List.setIfInBounds_toArray, List.set_cons_zero, List.set_cons_succ]
  refine till_take (i := 13) (oi := ⟨_, _, _, _, _, _⟩) (v := ?_) rfl (by kernel_rfl) (by kernel_rfl) (by kernel_rfl) (by kernel_rfl) (fun _ _ _ h => h) (Or.inl ⟨by rfl, ?_⟩) hHeld ?_
  rotate_left
  · (intro w hSw; (try dsimp only at hSw); go_simp; try (with_reducible rfl))
  try simp only [Act.put, List.setIfInBounds_toArray, List.set_cons_zero, List.set_cons_succ]
  refine till_ready (rs := [14]) (by kernel_rfl) (by simp) ?_
  refine EachTill.last (o := ⟨_, _, _, _, _, _⟩) rfl rfl (fun K hK => ?_) EachTill.nil
  go_simp
  refine hK.out _ _ ?_ ?_
  · (try dsimp only); first | done | trivial
  clear hHeld hK K
  intro hHeld
  try simp only [Act.put, List.setIfInBounds_toArray, List.set_cons_zero, List.set_cons_succ]
  refine till_done (by kernel_rfl) ?_ _
  clear hHeld
  go_wp2
  refine bodyPost_ret (v := .agg #[.int .i64 md, .int .i64 st, .bool pv, .slice (some ⟨g, 0, none⟩) ns.length cap]) (by simp only [results, Tryz.results188]; simp [go_sem]) rfl ⟨_, rfl, ?_, ?_⟩
  · rw [HD.out, List.length_set, intsV_set]; exact (by repeat' (first | with_reducible exact own_put hown hLl | with_reducible refine own_alloc ?_ _ | with_reducible refine own_drewN ?_ | with_reducible refine own_drew ?_ | with_reducible refine own_setCell ?_ ?_ | (simp [Value.ownBlock]; done) | (simp [Value.ownBlock]; omega) | omega))
  · exact (by repeat' (first | with_reducible exact GrowTo.put _ | with_reducible refine GrowTo.more ?_ _ | with_reducible refine GrowTo.drewN ?_ _ | with_reducible refine GrowTo.drew ?_ | with_reducible refine GrowTo.setCell ?_ ?_ _ | (simp; done) | (simp; omega) | omega))

theorem withParam_calls (md st : Int) (pv : Bool) (ns : List Int) (c : Int) (base : Nat) (v : Value) (w : World) (hl : 0 < ns.length) (hl6 : ns.length ≤ 6) (hx : ∀ x ∈ ns, 0 ≤ x ∧ x ≤ 999) (hbase : base ≤ w.heap.size) (hown : w.ownsRow base 2 1 v ns.length (intsV ns)) :
    Calls Tryz.prog 188 #[.agg #[.int .i64 md, .int .i64 st, .bool pv, v], .int .i64 c] w fun e w' => ∃ v', e = .returned (.agg #[.int .i64 md, .int .i64 st, .bool (paramP ⟨md, st, pv, ns⟩ c).pv, v']) ∧ w'.ownsRow base 2 1 v' (paramP ⟨md, st, pv, ns⟩ c).ns.length (intsV (paramP ⟨md, st, pv, ns⟩ c).ns) ∧ GrowTo w w' v v' := by
  by_cases h1 : 48 ≤ c ∧ c ≤ 57
  · exact withParam_digit md st pv ns c base v w hl hl6 hx hbase hown h1.1 h1.2
  by_cases h2 : c = 59 ∧ ns.length < 6
  · exact withParam_more md st pv ns c base v w hl hl6 hx hbase hown h2.1 h2.2
  by_cases h3 : c = 63
  · exact withParam_priv md st pv ns c base v w hl hl6 hx hbase hown h3
  exact withParam_none md st pv ns c base v w hl hl6 hx hbase hown h1 (fun h h' => h2 ⟨h, h'⟩) h3

end Go.Proofs.YtdekegjplegkeaaGreat

/- A parser whose numbers are copied: impl.ownParser, spec.l4Copy walked. -/
namespace Go.Proofs.YtdekegjplegkeaaGreat
set_option maxRecDepth 20000
open Go.ChangeShapes Go.WideShapes Go.ChangeAt Go.RowKit
set_option linter.unusedVariables false
set_option linter.unusedSimpArgs false

set_option maxHeartbeats 1000000 in
theorem ownParser_calls (md st : Int) (pv : Bool) (ns : List Int) (v : Value) (w : World) (hn : ns.length ≤ 1048576) (h1 : ReadAt .i64 w v ns) :
    Calls Tryz.prog 80 #[.agg #[.int .i64 md, .int .i64 st, .bool pv, v]] w fun e w' => ∃ v', e = .returned (.agg #[.int .i64 md, .int .i64 st, .bool pv, v']) ∧ w'.ownsRow w.heap.size 2 1 v' ns.length (intsV ns) ∧ Below w.heap.size w w' := by
  obtain ⟨i0, hi, hz0, hz1, hz2⟩ := info_parts info_ints
  have h1' := h1
  obtain ⟨a1, c1, rfl, _⟩ := h1'
  have hb0 : Below w.heap.size w ((w.alloc (.cells #[.int .i64 md, .int .i64 st, .bool pv, .slice a1 ns.length c1] 68)).alloc (.cells #[.int .i64 0, .int .i64 0, .bool false, .slice none 0 0] 68)) := (by repeat' (first | with_reducible exact Below.refl _ _ | with_reducible assumption | with_reducible refine Below.drew ?_ | with_reducible refine Below.alloc ?_ ?_ _ | with_reducible refine Below.setCell ?_ ?_ _ | (simp; done) | (simp; omega) | omega))
  have HO : ((w.alloc (.cells #[.int .i64 md, .int .i64 st, .bool pv, .slice a1 ns.length c1] 68)).alloc (.cells #[.int .i64 0, .int .i64 0, .bool false, .slice none 0 0] 68)).ownsRow (w.heap.size + 2) 2 1 (.slice none 0 0) 0 (intsV []) := World.ownsRow_nil _ _ _ _
  have HR := h1.below hb0
  go_enter Tryz.func80, Tryz.ntmps80
  go_wp2_with (at_builtin; refine wpList_append_ints _ rfl (.const (.slice none 0 0)) (.tmp 4) 26 rfl (w.heap.size + 2) 2 i0 (.int .i64 0) 8 Tryz.underlying26 hi hz0 hz1 hz2 rfl (.slice none 0 0) 0 [] rfl HO a1 ns ns.length c1 rfl rfl HR (by unfold maxLen; omega) (by omega) (by simp; try omega) ?_)
  intro v' w1 hown1 hgr1
  replace hown1 : w1.ownsRow (w.heap.size + 2) 2 1 v' ns.length (intsV ns) := by simpa using hown1
  obtain ⟨a3, c3, rfl⟩ := own_form hown1
  have hs1 : w.heap.size + 2 ≤ w1.heap.size := by have := hgr1.size; simp at this; omega
  have hcell : ∀ b o, b < w.heap.size + 2 → w1.cell? ⟨b, o, none⟩ = ((w.alloc (.cells #[.int .i64 md, .int .i64 st, .bool pv, .slice a1 ns.length c1] 68)).alloc (.cells #[.int .i64 0, .int .i64 0, .bool false, .slice none 0 0] 68)).cell? ⟨b, o, none⟩ := fun b o hb => World.cell?_of_block (w := ((w.alloc (.cells #[.int .i64 md, .int .i64 st, .bool pv, .slice a1 ns.length c1] 68)).alloc (.cells #[.int .i64 0, .int .i64 0, .bool false, .slice none 0 0] 68))) (a := ⟨b, o, none⟩) (hgr1.block b (by simp; omega) (by simp [Value.ownBlock]))
  have hfz : ∀ b o, b < w.heap.size + 2 → w1.frozen? ⟨b, o, none⟩ = ((w.alloc (.cells #[.int .i64 md, .int .i64 st, .bool pv, .slice a1 ns.length c1] 68)).alloc (.cells #[.int .i64 0, .int .i64 0, .bool false, .slice none 0 0] 68)).frozen? ⟨b, o, none⟩ := fun b o hb => World.frozen?_of_block (w := ((w.alloc (.cells #[.int .i64 md, .int .i64 st, .bool pv, .slice a1 ns.length c1] 68)).alloc (.cells #[.int .i64 0, .int .i64 0, .bool false, .slice none 0 0] 68))) (a := ⟨b, o, none⟩) (hgr1.block b (by simp; omega) (by simp [Value.ownBlock]))
  have k0 : w1.cell? ⟨w.heap.size, 0, none⟩ = some (.int .i64 md) := by rw [hcell _ _ (by omega)]; simp [go_sem]
  have k1 : w1.cell? ⟨w.heap.size, 1, none⟩ = some (.int .i64 st) := by rw [hcell _ _ (by omega)]; simp [go_sem]
  have k2 : w1.cell? ⟨w.heap.size, 2, none⟩ = some (.bool pv) := by rw [hcell _ _ (by omega)]; simp [go_sem]
  have k3 : w1.cell? ⟨w.heap.size, 3, none⟩ = some (.slice a1 ns.length c1) := by rw [hcell _ _ (by omega)]; simp [go_sem]
  have j0 : w1.cell? ⟨w.heap.size + 1, 0, none⟩ = some (.int .i64 0) := by rw [hcell _ _ (by omega)]; simp [go_sem]
  have j1 : w1.cell? ⟨w.heap.size + 1, 1, none⟩ = some (.int .i64 0) := by rw [hcell _ _ (by omega)]; simp [go_sem]
  have j2 : w1.cell? ⟨w.heap.size + 1, 2, none⟩ = some (.bool false) := by rw [hcell _ _ (by omega)]; simp [go_sem]
  have j3 : w1.cell? ⟨w.heap.size + 1, 3, none⟩ = some (.slice none 0 0) := by rw [hcell _ _ (by omega)]; simp [go_sem]
  have f0 : ∀ o, w1.frozen? ⟨w.heap.size, o, none⟩ = false := fun o => by rw [hfz _ _ (by omega)]; simp [go_sem]
  have f1 : ∀ o, w1.frozen? ⟨w.heap.size + 1, o, none⟩ = false := fun o => by rw [hfz _ _ (by omega)]; simp [go_sem]
  have hb1 : Below w.heap.size w w1 := hb0.trans ((Below.refl _ _).grown hgr1 (by simp; omega) (fun q hq => by simp [Value.ownBlock] at hq))
  have HB : Hid (∀ b, w.heap.size ≤ b → b < w.heap.size + 2 → some b ≠ (Value.slice a3 ns.length c3).ownBlock) := hide (fun b h1 h2 h => by have := (hown1.lt b h.symm).1; omega)
  have HW := hide hown1
  clear hgr1 hcell hfz hown1 HR HO hb0
  go_wp2
  refine bodyPost_ret (v := .agg #[.int .i64 md, .int .i64 st, .bool pv, .slice a3 ns.length c3]) (by simp only [results, Tryz.results80]; simp [go_sem, k0, k1, k2, k3, j0, j1, j2, j3]) rfl ⟨_, rfl, ?_, ?_⟩
  · refine own_base (base := w.heap.size + 2) ?_ (by omega)
    repeat' (first | with_reducible exact HW.out | with_reducible refine own_setCell ?_ ?_ | exact HB.out _ (by omega) (by omega))
  · exact (by repeat' (first | with_reducible exact Below.refl _ _ | with_reducible assumption | with_reducible refine Below.drew ?_ | with_reducible refine Below.alloc ?_ ?_ _ | with_reducible refine Below.setCell ?_ ?_ _ | (simp; done) | (simp; omega) | omega))

set_option maxHeartbeats 1000000 in
theorem l4Copy_calls (md st : Int) (pv : Bool) (ns : List Int) (v : Value) (w : World) (hn : ns.length ≤ 1048576) (h1 : ReadAt .i64 w v ns) :
    Calls Tryz.prog 121 #[.agg #[.int .i64 md, .int .i64 st, .bool pv, v]] w fun e w' => ∃ v', e = .returned (.agg #[.int .i64 md, .int .i64 st, .bool pv, v']) ∧ w'.ownsRow w.heap.size 2 1 v' ns.length (intsV ns) ∧ Below w.heap.size w w' := by
  obtain ⟨i0, hi, hz0, hz1, hz2⟩ := info_parts info_ints
  have h1' := h1
  obtain ⟨a1, c1, rfl, _⟩ := h1'
  have hb0 : Below w.heap.size w (((w.alloc (.cells #[.int .i64 md, .int .i64 st, .bool pv, .slice a1 ns.length c1] 68)).alloc (.cells #[.int .i64 0, .int .i64 0, .bool false, .slice none 0 0] 68)).alloc (.cells #[] 2)) := (by repeat' (first | with_reducible exact Below.refl _ _ | with_reducible assumption | with_reducible refine Below.drew ?_ | with_reducible refine Below.alloc ?_ ?_ _ | with_reducible refine Below.setCell ?_ ?_ _ | (simp; done) | (simp; omega) | omega))
  have HO : (((w.alloc (.cells #[.int .i64 md, .int .i64 st, .bool pv, .slice a1 ns.length c1] 68)).alloc (.cells #[.int .i64 0, .int .i64 0, .bool false, .slice none 0 0] 68)).alloc (.cells #[] 2)).ownsRow (w.heap.size + 2) 2 1 (.slice (some ⟨w.heap.size + 2, 0, none⟩) 0 0) 0 (intsV []) := by have h := World.ownsRow_lit (base := w.heap.size + 2) (e := 2) (size := 1) ((w.alloc (.cells #[.int .i64 md, .int .i64 st, .bool pv, .slice a1 ns.length c1] 68)).alloc (.cells #[.int .i64 0, .int .i64 0, .bool false, .slice none 0 0] 68)) #[] 0 (by simp) (by simp) rfl; simpa [intsV] using h
  have HR := h1.below hb0
  go_enter Tryz.func121, Tryz.ntmps121
  go_wp2_with (at_builtin; refine wpList_append_ints _ rfl (.tmp 3) (.tmp 5) 26 rfl (w.heap.size + 2) 2 i0 (.int .i64 0) 8 Tryz.underlying26 hi hz0 hz1 hz2 rfl (.slice (some ⟨w.heap.size + 2, 0, none⟩) 0 0) 0 [] rfl HO a1 ns ns.length c1 rfl rfl HR (by unfold maxLen; omega) (by omega) (by simp; try omega) ?_)
  intro v' w1 hown1 hgr1
  replace hown1 : w1.ownsRow (w.heap.size + 2) 2 1 v' ns.length (intsV ns) := by simpa using hown1
  obtain ⟨a3, c3, rfl⟩ := own_form hown1
  have hs1 : w.heap.size + 2 ≤ w1.heap.size := by have := hgr1.size; simp at this; omega
  have hcell : ∀ b o, b < w.heap.size + 2 → w1.cell? ⟨b, o, none⟩ = (((w.alloc (.cells #[.int .i64 md, .int .i64 st, .bool pv, .slice a1 ns.length c1] 68)).alloc (.cells #[.int .i64 0, .int .i64 0, .bool false, .slice none 0 0] 68)).alloc (.cells #[] 2)).cell? ⟨b, o, none⟩ := fun b o hb => World.cell?_of_block (w := (((w.alloc (.cells #[.int .i64 md, .int .i64 st, .bool pv, .slice a1 ns.length c1] 68)).alloc (.cells #[.int .i64 0, .int .i64 0, .bool false, .slice none 0 0] 68)).alloc (.cells #[] 2))) (a := ⟨b, o, none⟩) (hgr1.block b (by simp; omega) (by simp [Value.ownBlock]; omega))
  have hfz : ∀ b o, b < w.heap.size + 2 → w1.frozen? ⟨b, o, none⟩ = (((w.alloc (.cells #[.int .i64 md, .int .i64 st, .bool pv, .slice a1 ns.length c1] 68)).alloc (.cells #[.int .i64 0, .int .i64 0, .bool false, .slice none 0 0] 68)).alloc (.cells #[] 2)).frozen? ⟨b, o, none⟩ := fun b o hb => World.frozen?_of_block (w := (((w.alloc (.cells #[.int .i64 md, .int .i64 st, .bool pv, .slice a1 ns.length c1] 68)).alloc (.cells #[.int .i64 0, .int .i64 0, .bool false, .slice none 0 0] 68)).alloc (.cells #[] 2))) (a := ⟨b, o, none⟩) (hgr1.block b (by simp; omega) (by simp [Value.ownBlock]; omega))
  have k0 : w1.cell? ⟨w.heap.size, 0, none⟩ = some (.int .i64 md) := by rw [hcell _ _ (by omega)]; simp [go_sem]
  have k1 : w1.cell? ⟨w.heap.size, 1, none⟩ = some (.int .i64 st) := by rw [hcell _ _ (by omega)]; simp [go_sem]
  have k2 : w1.cell? ⟨w.heap.size, 2, none⟩ = some (.bool pv) := by rw [hcell _ _ (by omega)]; simp [go_sem]
  have k3 : w1.cell? ⟨w.heap.size, 3, none⟩ = some (.slice a1 ns.length c1) := by rw [hcell _ _ (by omega)]; simp [go_sem]
  have j0 : w1.cell? ⟨w.heap.size + 1, 0, none⟩ = some (.int .i64 0) := by rw [hcell _ _ (by omega)]; simp [go_sem]
  have j1 : w1.cell? ⟨w.heap.size + 1, 1, none⟩ = some (.int .i64 0) := by rw [hcell _ _ (by omega)]; simp [go_sem]
  have j2 : w1.cell? ⟨w.heap.size + 1, 2, none⟩ = some (.bool false) := by rw [hcell _ _ (by omega)]; simp [go_sem]
  have j3 : w1.cell? ⟨w.heap.size + 1, 3, none⟩ = some (.slice none 0 0) := by rw [hcell _ _ (by omega)]; simp [go_sem]
  have f0 : ∀ o, w1.frozen? ⟨w.heap.size, o, none⟩ = false := fun o => by rw [hfz _ _ (by omega)]; simp [go_sem]
  have f1 : ∀ o, w1.frozen? ⟨w.heap.size + 1, o, none⟩ = false := fun o => by rw [hfz _ _ (by omega)]; simp [go_sem]
  have hb1 : Below w.heap.size w w1 := hb0.trans ((Below.refl _ _).grown hgr1 (by simp; omega) (fun q hq => by simp [Value.ownBlock] at hq; omega))
  have HB : Hid (∀ b, w.heap.size ≤ b → b < w.heap.size + 2 → some b ≠ (Value.slice a3 ns.length c3).ownBlock) := hide (fun b h1 h2 h => by have := (hown1.lt b h.symm).1; omega)
  have HW := hide hown1
  clear hgr1 hcell hfz hown1 HR HO hb0
  go_wp2
  refine bodyPost_ret (v := .agg #[.int .i64 md, .int .i64 st, .bool pv, .slice a3 ns.length c3]) (by simp only [results, Tryz.results121]; simp [go_sem, k0, k1, k2, k3, j0, j1, j2, j3]) rfl ⟨_, rfl, ?_, ?_⟩
  · refine own_base (base := w.heap.size + 2) ?_ (by omega)
    repeat' (first | with_reducible exact HW.out | with_reducible refine own_setCell ?_ ?_ | exact HB.out _ (by omega) (by omega))
  · exact (by repeat' (first | with_reducible exact Below.refl _ _ | with_reducible assumption | with_reducible refine Below.drew ?_ | with_reducible refine Below.alloc ?_ ?_ _ | with_reducible refine Below.setCell ?_ ?_ _ | (simp; done) | (simp; omega) | omega))

end Go.Proofs.YtdekegjplegkeaaGreat

/- What ResizeVt answers, of the program and of the model. -/
namespace Go.Proofs.YtdekegjplegkeaaGreat
set_option maxRecDepth 20000
open Go.ChangeShapes Go.WideShapes Go.ChangeAt Go.RowKit
set_option linter.unusedVariables false
set_option linter.unusedSimpArgs false
set_option maxRecDepth 20000

/-- A screen that is read, whose lists lie from block lo on. -/
structure SHigh (lo : Nat) (w : World) (v1 v2 v3 v4 : Value) (s : Scr) : Prop where
  rd : SRead w s v1 v2 v3 v4
  o1 : w.ownsRow lo 193 2 v1 s.cs.length (pvs s.cs)
  o2 : w.ownsRow lo 193 2 v2 s.bs.length (pvs s.bs)
  o3 : BoolsAt lo w.heap.size w v3 s.tabs
  o4 : IntsAt .i64 lo w.heap.size w v4 s.sets
theorem SHigh.upd {lo g : Nat} {w w' : World} {v1 v2 v3 v4 : Value} {s : Scr} (h : SHigh lo w v1 v2 v3 v4 s) (hu : Upd g w w') (hg : g < lo) (_ : g < lo) : SRead w' s v1 v2 v3 v4 :=
  ⟨(own_pairs (own_upd h.o1 hu (fun k hk => by have := (h.o1.lt k hk).1; omega)) (Nat.le_refl _)).read, (own_pairs (own_upd h.o2 hu (fun k hk => by have := (h.o2.lt k hk).1; omega)) (Nat.le_refl _)).read, (h.o3.of_blocks (fun q q1 q2 => hu.block q (by omega))).read, (h.o4.of_blocks (fun q q1 q2 => hu.block q (by omega))).read⟩
theorem sread_of {lo : Nat} {w : World} {s : Scr} {v1 v2 v3 v4 : Value} (h : ∃ p1 p2 p3 p4, lo ≤ p1 ∧ p1 ≤ p2 ∧ p2 ≤ p3 ∧ p3 ≤ p4 ∧ p4 ≤ w.heap.size ∧ w.ownsRow p1 193 2 v1 s.cs.length (pvs s.cs) ∧ (∀ k, v1.ownBlock = some k → k < p2) ∧ w.ownsRow p2 193 2 v2 s.bs.length (pvs s.bs) ∧ (∀ k, v2.ownBlock = some k → k < p3) ∧ BoolsAt p3 p4 w v3 s.tabs ∧ IntsAt .i64 p4 w.heap.size w v4 s.sets) : SHigh lo w v1 v2 v3 v4 s := by
  obtain ⟨p1, p2, p3, p4, q1, q2, q3, q4, q5, oc1, -, oc2, -, oT, oS⟩ := h
  have lower : ∀ (B : Nat) (v : Value) (n : Nat) (xs : List Value), lo ≤ B → w.ownsRow B 193 2 v n xs → w.ownsRow lo 193 2 v n xs := fun B v n xs hB h => by
    refine ⟨h.1, ?_⟩
    rcases h.2 with h | ⟨g, cap, cur, rfl, hb, rest⟩
    · exact .inl h
    · exact .inr ⟨g, cap, cur, rfl, by omega, rest⟩
  exact ⟨⟨(own_pairs oc1 (Nat.le_refl _)).read, (own_pairs oc2 (Nat.le_refl _)).read, oT.read, oS.read⟩, lower _ _ _ _ q1 oc1, lower _ _ _ _ (by omega) oc2, oT.mono (by omega) (by omega), oS.mono (by omega) (Nat.le_refl _)⟩
def rvCode (t : VtS) (rows width : Int) : Int := if vtCode t = 0 then (rzRes t.s rows width).code else vtCode t
def rvVt (t : VtS) (rows width : Int) : VtS := if vtCode t = 0 then (if (rzRes t.s rows width).code = 0 then { t with s := (rzRes t.s rows width).s } else vt0) else vt0
theorem resA_scr (c : Int) (s : Scr) (v1 v2 v3 v4 : Value) : ((resA c s v1 v2 v3 v4).toList.drop 1).take (scrA s v1 v2 v3 v4).size = (scrA s v1 v2 v3 v4).toList := rfl
theorem vown_zero (lo hi : Nat) (h : lo ≤ hi) (w : World) : VOwn lo hi w (.slice none 0 0) (.slice none 0 0) (.slice none 0 0) (.slice none 0 0) (.slice none 0 0) vt0 := vown_of h (sown_zero lo hi h w)
set_option maxHeartbeats 8000000 in
theorem l6Copy_calls (t : VtS) (u v1 v2 v3 v4 : Value) (w : World) (hn0 : t.ns.length ≤ 1048576) (hn1 : t.s.cs.length ≤ 1048576) (hn2 : t.s.bs.length ≤ 1048576) (hn3 : t.s.tabs.length ≤ 1048576) (hn4 : t.s.sets.length ≤ 1048576) (h : VRead w t u v1 v2 v3 v4) :
    Calls Tryz.prog 65 #[.agg (vtA t u v1 v2 v3 v4)] w fun e w' => ∃ x y1 y2 y3 y4, e = .returned (.agg (vtA t x y1 y2 y3 y4)) ∧ VRead w' t x y1 y2 y3 y4 ∧ IntsAt .i64 w.heap.size w'.heap.size w' x t.ns ∧ Below w.heap.size w w' := by
  have bel0 : Below w.heap.size w ((w.alloc (.cells (vtA t u v1 v2 v3 v4) 70)).alloc (.cells #[.int .i64 0, .int .i64 0, .int .i64 0, .int .i64 0, .int .i64 0, .bool false, .slice none 0 0, .int .i64 0, .int .i64 0, .slice none 0 0, .slice none 0 0, .int .i64 0, .int .i64 0, .bool false, .int .i64 0, .int .i64 0, .int .i64 0, .bool false, .bool false, .bool false, .slice none 0 0, .int .i64 0, .int .i64 0, .int .i64 0, .slice none 0 0, .int .i64 0, .int .i64 0] 70)) := (by repeat' (first | with_reducible exact Below.refl _ _ | with_reducible assumption | with_reducible refine Below.drew ?_ | with_reducible refine Below.alloc ?_ ?_ _ | with_reducible refine Below.setCell ?_ ?_ _ | (simp; done) | (simp; omega) | omega))
  have hA := (Blk.new w (vtA t u v1 v2 v3 v4) 70).alloc (.cells #[.int .i64 0, .int .i64 0, .int .i64 0, .int .i64 0, .int .i64 0, .bool false, .slice none 0 0, .int .i64 0, .int .i64 0, .slice none 0 0, .slice none 0 0, .int .i64 0, .int .i64 0, .bool false, .int .i64 0, .int .i64 0, .int .i64 0, .bool false, .bool false, .bool false, .slice none 0 0, .int .i64 0, .int .i64 0, .int .i64 0, .slice none 0 0, .int .i64 0, .int .i64 0] 70)
  have hR : Blk ((w.alloc (.cells (vtA t u v1 v2 v3 v4) 70)).alloc (.cells #[.int .i64 0, .int .i64 0, .int .i64 0, .int .i64 0, .int .i64 0, .bool false, .slice none 0 0, .int .i64 0, .int .i64 0, .slice none 0 0, .slice none 0 0, .int .i64 0, .int .i64 0, .bool false, .int .i64 0, .int .i64 0, .int .i64 0, .bool false, .bool false, .bool false, .slice none 0 0, .int .i64 0, .int .i64 0, .int .i64 0, .slice none 0 0, .int .i64 0, .int .i64 0] 70)) (w.heap.size + 1) (vtA vt0 (.slice none 0 0) (.slice none 0 0) (.slice none 0 0) (.slice none 0 0) (.slice none 0 0)) := Blk.new_at (by simp) _ _
  obtain ⟨W, hW⟩ : ∃ W, Hid ((w.alloc (.cells (vtA t u v1 v2 v3 v4) 70)).alloc (.cells #[.int .i64 0, .int .i64 0, .int .i64 0, .int .i64 0, .int .i64 0, .bool false, .slice none 0 0, .int .i64 0, .int .i64 0, .slice none 0 0, .slice none 0 0, .int .i64 0, .int .i64 0, .bool false, .int .i64 0, .int .i64 0, .int .i64 0, .bool false, .bool false, .bool false, .slice none 0 0, .int .i64 0, .int .i64 0, .int .i64 0, .slice none 0 0, .int .i64 0, .int .i64 0] 70) = W) := ⟨_, hide rfl⟩
  have hsz : w.heap.size + 2 ≤ ((w.alloc (.cells (vtA t u v1 v2 v3 v4) 70)).alloc (.cells #[.int .i64 0, .int .i64 0, .int .i64 0, .int .i64 0, .int .i64 0, .bool false, .slice none 0 0, .int .i64 0, .int .i64 0, .slice none 0 0, .slice none 0 0, .int .i64 0, .int .i64 0, .bool false, .int .i64 0, .int .i64 0, .int .i64 0, .bool false, .bool false, .bool false, .slice none 0 0, .int .i64 0, .int .i64 0, .int .i64 0, .slice none 0 0, .int .i64 0, .int .i64 0] 70)).heap.size := by simp
  rw [hW.out] at bel0 hA hR hsz
  go_enter Tryz.func65, Tryz.ntmps65
  go_wp2_with fail
  rw [hW.out]
  refine till_region [9] (S := (fun w' => Below W.heap.size W w')) (by kernel_rfl) ?_ (fun hHeld => ?_)
  · (try dsimp only); exact Below.drew (Below.refl _ W)
  refine till_take (i := 0) (oi := ⟨_, _, _, _, _, _⟩) (v := ?_) rfl (by kernel_rfl) (by kernel_rfl) (by kernel_rfl) (by kernel_rfl) (fun _ _ _ h => h) (Or.inl ⟨by rfl, ?_⟩) hHeld ?_
  rotate_left
  · (intro w hSw; (try dsimp only at hSw); go_simp; try (with_reducible rfl))
  try simp only [Act.put, List.setIfInBounds_toArray, List.set_cons_zero, List.set_cons_succ]
  refine till_take (i := 1) (oi := ⟨_, _, _, _, _, _⟩) (v := .agg (decA t)) rfl (by kernel_rfl) (by kernel_rfl) (by kernel_rfl) (by kernel_rfl) (fun _ _ _ h => h) (Or.inl ⟨by rfl, ?_⟩) hHeld ?_
  · intro w hSw
    (try dsimp only at hSw)
    exact run_exLd _ _ rfl _ _ rfl _ (run_loadVar_at (P := Tryz.prog) (o := 0) (vs := (decA t)) (hA.belowb hSw) (vtA_dec t u v1 v2 v3 v4) Tryz.underlying67 rfl (by kernel_rfl))
  try simp only [Act.put, List.setIfInBounds_toArray, List.set_cons_zero, List.set_cons_succ]
  refine till_take (i := 2) (oi := ⟨_, _, _, _, _, _⟩) (v := ?_) rfl (by kernel_rfl) (by kernel_rfl) (by kernel_rfl) (by kernel_rfl) (fun _ _ _ h => h) (Or.inl ⟨by rfl, ?_⟩) hHeld ?_
  rotate_left
  · (intro w hSw; (try dsimp only at hSw); go_simp; try (with_reducible rfl))
  try simp only [Act.put, List.setIfInBounds_toArray, List.set_cons_zero, List.set_cons_succ]
  refine till_take (i := 3) (oi := ⟨_, _, _, _, _, _⟩) (v := .agg (parA t u)) rfl (by kernel_rfl) (by kernel_rfl) (by kernel_rfl) (by kernel_rfl) (fun _ _ _ h => h) (Or.inl ⟨by rfl, ?_⟩) hHeld ?_
  · intro w hSw
    (try dsimp only at hSw)
    exact run_exLd _ _ rfl _ _ rfl _ (run_loadVar_at (P := Tryz.prog) (o := 3) (vs := (parA t u)) (hA.belowb hSw) (vtA_par t u v1 v2 v3 v4) Tryz.underlying68 rfl (by kernel_rfl))
  try simp only [Act.put, List.setIfInBounds_toArray, List.set_cons_zero, List.set_cons_succ]
  refine till_take (i := 5) (oi := ⟨_, _, _, _, _, _⟩) (v := ?_) rfl (by kernel_rfl) (by kernel_rfl) (by kernel_rfl) (by kernel_rfl) (fun _ _ _ h => h) (Or.inl ⟨by rfl, ?_⟩) hHeld ?_
  rotate_left
  · (intro w hSw; (try dsimp only at hSw); go_simp; try (with_reducible rfl))
  try simp only [Act.put, List.setIfInBounds_toArray, List.set_cons_zero, List.set_cons_succ]
  refine till_take (i := 6) (oi := ⟨_, _, _, _, _, _⟩) (v := .agg (scrA t.s v1 v2 v3 v4)) rfl (by kernel_rfl) (by kernel_rfl) (by kernel_rfl) (by kernel_rfl) (fun _ _ _ h => h) (Or.inl ⟨by rfl, ?_⟩) hHeld ?_
  · intro w hSw
    (try dsimp only at hSw)
    exact run_exLd _ _ rfl _ _ rfl _ (run_loadVar_at (P := Tryz.prog) (o := 7) (vs := (scrA t.s v1 v2 v3 v4)) (hA.belowb hSw) (vtA_scr t u v1 v2 v3 v4) Tryz.underlying37 rfl (by kernel_rfl))
  try simp only [Act.put, List.setIfInBounds_toArray, List.set_cons_zero, List.set_cons_succ]
  refine till_ready (rs := [4]) (by kernel_rfl) (by simp) ?_
  refine (EachTill.cons (o := ⟨_, _, _, _, _, _⟩) rfl (fun K hK => ?_) EachTill.nil)
  go_simp
  go_at_call 121
  refine (l4Copy_calls t.md t.st t.pv t.ns u _ hn0 ((h.p.below bel0).below (Below.drew (Below.refl _ W)))).mono ?_
  rintro e w2 ⟨x, rfl, hx', hb'⟩
  have hb2 : Below W.heap.size W w2 := hHeld.trans hb'
  have hx : IntsAt .i64 W.heap.size w2.heap.size w2 x t.ns := own_ints hx' (Nat.le_refl _)
  obtain ⟨ax, cx, rfl, _⟩ := id hx
  have zx : W.heap.size ≤ w2.heap.size := hb2.size
  clear hb' hx'
  refine hK.out _ _ ?_ ?_
  · (try dsimp only); exact hb2
  clear hHeld hK K
  intro hHeld
  try simp only [Act.put, List.setIfInBounds_toArray, List.set_cons_zero, List.set_cons_succ]
  refine till_ready (rs := [7]) (by kernel_rfl) (by simp) ?_
  refine (EachTill.cons (o := ⟨_, _, _, _, _, _⟩) rfl (fun K hK => ?_) EachTill.nil)
  go_simp
  go_at_call 46
  refine (l5Copy_calls t.s v1 v2 v3 v4 _ hn1 hn2 hn3 hn4 (h.s.below (bel0.trans (hb2.mono (by omega))))).mono ?_
  rintro e w3 ⟨y1, y2, y3, y4, rfl, hq, hb3⟩
  have hy := sread_of hq
  obtain ⟨e1, k1, e2, k2, e3, k3, e4, k4, rfl, rfl, rfl, rfl⟩ := hy.rd.forms
  have hb4 : Below W.heap.size W w3 := hb2.trans (hb3.mono zx)
  replace hx := hx.below hb3 (Nat.le_refl _)
  have z3 : w2.heap.size ≤ w3.heap.size := hb3.size
  clear hb3 hq
  refine hK.out _ _ ?_ ?_
  · (try dsimp only); exact hb4
  clear hHeld hK K
  intro hHeld
  try simp only [Act.put, List.setIfInBounds_toArray, List.set_cons_zero, List.set_cons_succ]
  refine till_ready (rs := [8]) (by kernel_rfl) (by simp) ?_
  refine (EachTill.cons (o := ⟨_, _, _, _, _, _⟩) rfl (fun K hK => ?_) EachTill.nil)
  refine wp_build_at 70 _ rfl (vtA t (.slice ax t.ns.length cx) (.slice e1 t.s.cs.length k1) (.slice e2 t.s.bs.length k2) (.slice e3 t.s.tabs.length k3) (.slice e4 t.s.sets.length k4)) (by first | rfl | kernel_rfl) ?_
  refine hK.out _ _ ?_ ?_
  · (try dsimp only); exact hHeld
  clear hHeld hK K
  intro hHeld
  try simp only [Act.put, List.setIfInBounds_toArray, List.set_cons_zero, List.set_cons_succ]
  refine till_ready (rs := [9]) (by kernel_rfl) (by simp) ?_
  refine (EachTill.last (o := ⟨_, _, _, _, _, _⟩) rfl rfl (fun K hK => ?_) EachTill.nil)
  have hR9 := hR.belowb hHeld
  have hW9 := hHeld
  refine wp_store_any _ _ _ rfl (w.heap.size + 1) 0 (vtA vt0 (.slice none 0 0) (.slice none 0 0) (.slice none 0 0) (.slice none 0 0) (.slice none 0 0)) (vtA t (.slice ax t.ns.length cx) (.slice e1 t.s.cs.length k1) (.slice e2 t.s.bs.length k2) (.slice e3 t.s.tabs.length k3) (.slice e4 t.s.sets.length k4)) (.agg (vtA t (.slice ax t.ns.length cx) (.slice e1 t.s.cs.length k1) (.slice e2 t.s.bs.length k2) (.slice e3 t.s.tabs.length k3) (.slice e4 t.s.sets.length k4))) rfl rfl hR9 rfl (by kernel_rfl) rfl rfl ?_
  intro w9 hR' hu
  refine hK.out _ _ ?_ ?_
  · first | trivial | (dsimp only)
  clear hHeld hK K
  intro hHeld
  try simp only [Act.put, List.setIfInBounds_toArray, List.set_cons_zero, List.set_cons_succ]
  refine till_done (by kernel_rfl) ?_ _
  clear hHeld
  go_wp2
  refine bodyPost_ret (results_blk hR' _ _ rfl rfl Tryz.underlying70 rfl (by kernel_rfl)) rfl ⟨_, _, _, _, _, rfl, ⟨?_, ?_⟩, ?_, ?_⟩
  · have := hx.of_blocks (w' := w9) (fun q q1 q2 => hu.block q (by omega))
    exact this.read
  · exact (hy.upd hu (by omega) (by omega))
  · exact (hx.of_blocks (w' := w9) (fun q q1 q2 => hu.block q (by omega))).mono (by omega) (by have := hu.size; have := hW9.size; omega)
  · exact (bel0.trans (hW9.mono (by omega))).trans (hu.below (by omega))
set_option maxHeartbeats 8000000 in
theorem specResizeVt_calls (t : VtS) (u v1 v2 v3 v4 : Value) (rows width : Int) (w : World) (hn0 : t.ns.length ≤ 1048576) (hn1 : t.s.cs.length ≤ 1048576) (hn2 : t.s.bs.length ≤ 1048576) (hn3 : t.s.tabs.length ≤ 1048576) (hn4 : t.s.sets.length ≤ 1048576) (k1 : Capped v1) (k2 : Capped v2) (k3 : Capped v3) (h : VRead w t u v1 v2 v3 v4) :
    Calls Tryz.prog 38 #[.agg (vtA t u v1 v2 v3 v4), .int .i64 rows, .int .i64 width] w fun e w' => ∃ x y1 y2 y3 y4, e = .returned (.agg (resVA (rvCode t rows width) (rvVt t rows width) x y1 y2 y3 y4)) ∧ VOwn w.heap.size w'.heap.size w' x y1 y2 y3 y4 (rvVt t rows width) ∧ Below w.heap.size w w' := by
  have bel0 : Below w.heap.size w ((w.alloc (.cells (vtA t u v1 v2 v3 v4) 70)).alloc (.cells #[.int .i64 0, .int .i64 0, .int .i64 0, .int .i64 0, .int .i64 0, .int .i64 0, .bool false, .slice none 0 0, .int .i64 0, .int .i64 0, .slice none 0 0, .slice none 0 0, .int .i64 0, .int .i64 0, .bool false, .int .i64 0, .int .i64 0, .int .i64 0, .bool false, .bool false, .bool false, .slice none 0 0, .int .i64 0, .int .i64 0, .int .i64 0, .slice none 0 0, .int .i64 0, .int .i64 0] 72)) := (by repeat' (first | with_reducible exact Below.refl _ _ | with_reducible assumption | with_reducible refine Below.drew ?_ | with_reducible refine Below.alloc ?_ ?_ _ | with_reducible refine Below.setCell ?_ ?_ _ | (simp; done) | (simp; omega) | omega))
  have hA := (Blk.new w (vtA t u v1 v2 v3 v4) 70).alloc (.cells #[.int .i64 0, .int .i64 0, .int .i64 0, .int .i64 0, .int .i64 0, .int .i64 0, .bool false, .slice none 0 0, .int .i64 0, .int .i64 0, .slice none 0 0, .slice none 0 0, .int .i64 0, .int .i64 0, .bool false, .int .i64 0, .int .i64 0, .int .i64 0, .bool false, .bool false, .bool false, .slice none 0 0, .int .i64 0, .int .i64 0, .int .i64 0, .slice none 0 0, .int .i64 0, .int .i64 0] 72)
  have hR : Blk ((w.alloc (.cells (vtA t u v1 v2 v3 v4) 70)).alloc (.cells #[.int .i64 0, .int .i64 0, .int .i64 0, .int .i64 0, .int .i64 0, .int .i64 0, .bool false, .slice none 0 0, .int .i64 0, .int .i64 0, .slice none 0 0, .slice none 0 0, .int .i64 0, .int .i64 0, .bool false, .int .i64 0, .int .i64 0, .int .i64 0, .bool false, .bool false, .bool false, .slice none 0 0, .int .i64 0, .int .i64 0, .int .i64 0, .slice none 0 0, .int .i64 0, .int .i64 0] 72)) (w.heap.size + 1) (resVA 0 vt0 (.slice none 0 0) (.slice none 0 0) (.slice none 0 0) (.slice none 0 0) (.slice none 0 0)) := Blk.new_at (by simp) _ _
  unfold rvCode rvVt
  by_cases hc : vtCode t = 0
  · rw [if_pos hc, if_pos hc]
    obtain ⟨c, hC⟩ : ∃ c, (rzRes t.s rows width).code = c := ⟨_, rfl⟩
    obtain ⟨S, hS⟩ : ∃ S, (rzRes t.s rows width).s = S := ⟨_, rfl⟩
    rw [hC, hS]
    have HC := hide hC
    have HS := hide hS
    clear hC hS
    by_cases hz : c = 0
    · rw [if_pos hz]
      subst hz
      go_enter Tryz.func38, Tryz.ntmps38
      go_wp2_with fail
      go_at_call 64
      refine (l6Fault_o t u v1 v2 v3 v4 w.heap.size 0 _ hn0 hn1 hn2 hn3 hn4 hA.seg (h.below bel0)).mono ?_
      rintro e w1 ⟨rfl, hb⟩
      replace hA := hA.belowb hb
      replace hR := hR.belowb hb
      have bel1 := bel0.trans (hb.mono bel0.size)
      have z1 : w.heap.size + 2 ≤ w1.heap.size := by have := hb.size; simp at this; omega
      clear hb bel0
      rw [hc]
      go_wp2_with (first | fail | (refine wpList_load_at rfl 37 _ rfl (w.heap.size) 7 rfl _ (scrA t.s v1 v2 v3 v4) hA (vtA_scr t u v1 v2 v3 v4) _ Tryz.underlying37 rfl (by kernel_rfl) ?_; (try simp only [Act.put, List.setIfInBounds_toArray, List.set_cons_zero, List.set_cons_succ])))
      go_at_call 78
      have HRS := specResizeScreen_calls t.s v1 v2 v3 v4 rows width w1 hn1 hn2 hn3 hn4 k1 k2 k3 (h.s.below bel1)
      rw [HC.out, HS.out] at HRS
      refine HRS.mono ?_
      clear HRS
      rintro e w2 ⟨u1, u2, u3, u4, rfl, hs, hb⟩
      replace hA := hA.belowb hb
      replace hR := hR.belowb hb
      have bel2 := bel1.trans (hb.mono bel1.size)
      have z2 : w1.heap.size ≤ w2.heap.size := hb.size
      obtain ⟨q1, d1, q2, d2, q3, d3, q4, d4, rfl, rfl, rfl, rfl⟩ := hs.forms
      clear hb
      have e0 := resA_0 0 S (.slice q1 S.cs.length d1) (.slice q2 S.bs.length d2) (.slice q3 S.tabs.length d3) (.slice q4 S.sets.length d4)
      go_wp2_with (first | fail | (refine wpList_store_blk rfl _ _ _ rfl (w2.heap.size) 0 (resA 0 scr0 (.slice none 0 0) (.slice none 0 0) (.slice none 0 0) (.slice none 0 0)) (resA 0 S (.slice q1 S.cs.length d1) (.slice q2 S.bs.length d2) (.slice q3 S.tabs.length d3) (.slice q4 S.sets.length d4)) (.agg (resA 0 S (.slice q1 S.cs.length d1) (.slice q2 S.bs.length d2) (.slice q3 S.tabs.length d3) (.slice q4 S.sets.length d4))) rfl rfl (Blk.new w2 _ _) rfl (by kernel_rfl) rfl rfl ?_; (try simp only [Act.put, List.setIfInBounds_toArray, List.set_cons_zero, List.set_cons_succ]); intro w3 hB hu; replace hA := (hA.alloc (.cells #[.int .i64 0, .int .i64 0, .int .i64 0, .slice none 0 0, .slice none 0 0, .int .i64 0, .int .i64 0, .bool false, .int .i64 0, .int .i64 0, .int .i64 0, .bool false, .bool false, .bool false, .slice none 0 0, .int .i64 0, .int .i64 0, .int .i64 0, .slice none 0 0, .int .i64 0, .int .i64 0] 39)).upd hu (by omega); replace hR := (hR.alloc (.cells #[.int .i64 0, .int .i64 0, .int .i64 0, .slice none 0 0, .slice none 0 0, .int .i64 0, .int .i64 0, .bool false, .int .i64 0, .int .i64 0, .int .i64 0, .bool false, .bool false, .bool false, .slice none 0 0, .int .i64 0, .int .i64 0, .int .i64 0, .slice none 0 0, .int .i64 0, .int .i64 0] 39)).upd hu (by omega); replace hs := hs.of_blocks (w' := w3) (fun q q1 q2 => (hu.block q (by omega)).trans (Below.heap_alloc _ _ _ (by omega))); have bel3 := (bel2.trans ((Below.refl _ w2).alloc (by omega) (.cells #[.int .i64 0, .int .i64 0, .int .i64 0, .slice none 0 0, .slice none 0 0, .int .i64 0, .int .i64 0, .bool false, .int .i64 0, .int .i64 0, .int .i64 0, .bool false, .bool false, .bool false, .slice none 0 0, .int .i64 0, .int .i64 0, .int .i64 0, .slice none 0 0, .int .i64 0, .int .i64 0] 39))).trans (hu.below (by omega)); have z3 : w2.heap.size + 1 ≤ w3.heap.size := (by have := hu.size; simp at this; omega); clear hu bel2; have cB := hB.cells) | (refine wpList_load_at rfl 70 _ rfl (w.heap.size) 0 rfl _ (vtA t u v1 v2 v3 v4) hA rfl _ Tryz.underlying70 rfl (by kernel_rfl) ?_; (try simp only [Act.put, List.setIfInBounds_toArray, List.set_cons_zero, List.set_cons_succ])))
      go_at_call 65
      refine (l6Copy_calls t u v1 v2 v3 v4 _ hn0 hn1 hn2 hn3 hn4 (h.below bel3)).mono ?_
      rintro e w4 ⟨x, y1, y2, y3, y4, rfl, hy, hx, hb⟩
      obtain ⟨ax, cx, g1, k1', g2, k2', g3, k3', g4, k4', rfl, rfl, rfl, rfl, rfl⟩ := hy.forms
      replace hR := hR.belowb hb
      replace hB := hB.belowb hb
      replace hs := hs.below hb (by omega)
      have bel4 := bel3.trans (hb.mono (by omega))
      have z4 : w3.heap.size ≤ w4.heap.size := hb.size
      clear hb bel3 cB hA hy
      go_wp2_with (first | fail | (refine wpList_store_blk rfl _ _ _ rfl (w4.heap.size) 0 (vtA vt0 (.slice none 0 0) (.slice none 0 0) (.slice none 0 0) (.slice none 0 0) (.slice none 0 0)) (vtA t (.slice ax t.ns.length cx) (.slice g1 t.s.cs.length k1') (.slice g2 t.s.bs.length k2') (.slice g3 t.s.tabs.length k3') (.slice g4 t.s.sets.length k4')) (.agg (vtA t (.slice ax t.ns.length cx) (.slice g1 t.s.cs.length k1') (.slice g2 t.s.bs.length k2') (.slice g3 t.s.tabs.length k3') (.slice g4 t.s.sets.length k4'))) rfl rfl (Blk.new w4 _ _) rfl (by kernel_rfl) rfl rfl ?_; (try simp only [Act.put, List.setIfInBounds_toArray, List.set_cons_zero, List.set_cons_succ]); intro w5 hV hu; replace hR := (hR.alloc (.cells #[.int .i64 0, .int .i64 0, .int .i64 0, .int .i64 0, .int .i64 0, .bool false, .slice none 0 0, .int .i64 0, .int .i64 0, .slice none 0 0, .slice none 0 0, .int .i64 0, .int .i64 0, .bool false, .int .i64 0, .int .i64 0, .int .i64 0, .bool false, .bool false, .bool false, .slice none 0 0, .int .i64 0, .int .i64 0, .int .i64 0, .slice none 0 0, .int .i64 0, .int .i64 0] 70)).upd hu (by omega); replace hB := (hB.alloc (.cells #[.int .i64 0, .int .i64 0, .int .i64 0, .int .i64 0, .int .i64 0, .bool false, .slice none 0 0, .int .i64 0, .int .i64 0, .slice none 0 0, .slice none 0 0, .int .i64 0, .int .i64 0, .bool false, .int .i64 0, .int .i64 0, .int .i64 0, .bool false, .bool false, .bool false, .slice none 0 0, .int .i64 0, .int .i64 0, .int .i64 0, .slice none 0 0, .int .i64 0, .int .i64 0] 70)).upd hu (by omega); replace hs := hs.of_blocks (w' := w5) (fun q q1 q2 => (hu.block q (by omega)).trans (Below.heap_alloc _ _ _ (by omega))); replace hx := hx.of_blocks (w' := w5) (fun q q1 q2 => (hu.block q (by omega)).trans (Below.heap_alloc _ _ _ (by omega))); have bel5 := (bel4.trans ((Below.refl _ w4).alloc (by omega) (.cells #[.int .i64 0, .int .i64 0, .int .i64 0, .int .i64 0, .int .i64 0, .bool false, .slice none 0 0, .int .i64 0, .int .i64 0, .slice none 0 0, .slice none 0 0, .int .i64 0, .int .i64 0, .bool false, .int .i64 0, .int .i64 0, .int .i64 0, .bool false, .bool false, .bool false, .slice none 0 0, .int .i64 0, .int .i64 0, .int .i64 0, .slice none 0 0, .int .i64 0, .int .i64 0] 70))).trans (hu.below (by omega)); have z5 : w4.heap.size + 1 ≤ w5.heap.size := (by have := hu.size; simp at this; omega); clear hu bel4) | (refine wpList_load_at rfl 37 _ rfl (w2.heap.size) 1 rfl _ (scrA S (.slice q1 S.cs.length d1) (.slice q2 S.bs.length d2) (.slice q3 S.tabs.length d3) (.slice q4 S.sets.length d4)) hB (resA_scr 0 S (.slice q1 S.cs.length d1) (.slice q2 S.bs.length d2) (.slice q3 S.tabs.length d3) (.slice q4 S.sets.length d4)) _ Tryz.underlying37 rfl (by kernel_rfl) ?_; (try simp only [Act.put, List.setIfInBounds_toArray, List.set_cons_zero, List.set_cons_succ])) | (refine wpList_store_blk rfl _ _ _ rfl (w4.heap.size) 7 (vtA t (.slice ax t.ns.length cx) (.slice g1 t.s.cs.length k1') (.slice g2 t.s.bs.length k2') (.slice g3 t.s.tabs.length k3') (.slice g4 t.s.sets.length k4')) (vtA { t with s := S } (.slice ax t.ns.length cx) (.slice q1 S.cs.length d1) (.slice q2 S.bs.length d2) (.slice q3 S.tabs.length d3) (.slice q4 S.sets.length d4)) (.agg (scrA S (.slice q1 S.cs.length d1) (.slice q2 S.bs.length d2) (.slice q3 S.tabs.length d3) (.slice q4 S.sets.length d4))) rfl rfl hV rfl (by kernel_rfl) rfl rfl ?_; (try simp only [Act.put, List.setIfInBounds_toArray, List.set_cons_zero, List.set_cons_succ]); clear hV; intro w6 hV hu; replace hR := hR.upd hu (by omega); replace hs := hs.of_blocks (w' := w6) (fun q q1 q2 => hu.block q (by omega)); replace hx := hx.of_blocks (w' := w6) (fun q q1 q2 => hu.block q (by omega)); have bel6 := bel5.trans (hu.below (by omega)); have z6 : w5.heap.size ≤ w6.heap.size := Nat.le_of_eq hu.size.symm; clear hu bel5) | (refine wpList_load_at rfl 70 _ rfl (w4.heap.size) 0 rfl _ (vtA { t with s := S } (.slice ax t.ns.length cx) (.slice q1 S.cs.length d1) (.slice q2 S.bs.length d2) (.slice q3 S.tabs.length d3) (.slice q4 S.sets.length d4)) hV rfl _ Tryz.underlying70 rfl (by kernel_rfl) ?_; (try simp only [Act.put, List.setIfInBounds_toArray, List.set_cons_zero, List.set_cons_succ])) | (refine wpList_build_at rfl 72 _ rfl (resVA 0 { t with s := S } (.slice ax t.ns.length cx) (.slice q1 S.cs.length d1) (.slice q2 S.bs.length d2) (.slice q3 S.tabs.length d3) (.slice q4 S.sets.length d4)) (by first | rfl | kernel_rfl) ?_; (try simp only [Act.put, List.setIfInBounds_toArray, List.set_cons_zero, List.set_cons_succ])) | (refine wpList_store_blk rfl _ _ _ rfl (w.heap.size + 1) 0 (resVA 0 vt0 (.slice none 0 0) (.slice none 0 0) (.slice none 0 0) (.slice none 0 0) (.slice none 0 0)) (resVA 0 { t with s := S } (.slice ax t.ns.length cx) (.slice q1 S.cs.length d1) (.slice q2 S.bs.length d2) (.slice q3 S.tabs.length d3) (.slice q4 S.sets.length d4)) (.agg (resVA 0 { t with s := S } (.slice ax t.ns.length cx) (.slice q1 S.cs.length d1) (.slice q2 S.bs.length d2) (.slice q3 S.tabs.length d3) (.slice q4 S.sets.length d4))) rfl rfl hR rfl (by kernel_rfl) rfl rfl ?_; (try simp only [Act.put, List.setIfInBounds_toArray, List.set_cons_zero, List.set_cons_succ]); clear hR; intro w9 hR hu))
      exact bodyPost_ret (results_blk hR _ _ rfl rfl Tryz.underlying72 rfl (by kernel_rfl)) rfl ⟨_, _, _, _, _, rfl, ⟨w3.heap.size, w4.heap.size, w1.heap.size, w2.heap.size, by omega, by have := hu.size; omega, by omega, by have := hu.size; omega, by omega, hx.of_blocks (fun q q1 q2 => hu.block q (by omega)), hs.of_blocks (fun q q1 q2 => hu.block q (by omega))⟩, bel6.trans (hu.below (by omega))⟩
    · rw [if_neg hz]
      have hne : (c != 0) = true := by simpa using hz
      have HZ := hide hz
      clear hz
      go_enter Tryz.func38, Tryz.ntmps38
      go_wp2_with fail
      go_at_call 64
      refine (l6Fault_o t u v1 v2 v3 v4 w.heap.size 0 _ hn0 hn1 hn2 hn3 hn4 hA.seg (h.below bel0)).mono ?_
      rintro e w1 ⟨rfl, hb⟩
      replace hA := hA.belowb hb
      replace hR := hR.belowb hb
      have bel1 := bel0.trans (hb.mono bel0.size)
      have z1 : w.heap.size + 2 ≤ w1.heap.size := by have := hb.size; simp at this; omega
      clear hb bel0
      rw [hc]
      go_wp2_with (first | fail | (refine wpList_load_at rfl 37 _ rfl (w.heap.size) 7 rfl _ (scrA t.s v1 v2 v3 v4) hA (vtA_scr t u v1 v2 v3 v4) _ Tryz.underlying37 rfl (by kernel_rfl) ?_; (try simp only [Act.put, List.setIfInBounds_toArray, List.set_cons_zero, List.set_cons_succ])))
      go_at_call 78
      have HRS := specResizeScreen_calls t.s v1 v2 v3 v4 rows width w1 hn1 hn2 hn3 hn4 k1 k2 k3 (h.s.below bel1)
      rw [HC.out, HS.out] at HRS
      refine HRS.mono ?_
      clear HRS
      rintro e w2 ⟨u1, u2, u3, u4, rfl, hs, hb⟩
      replace hA := hA.belowb hb
      replace hR := hR.belowb hb
      have bel2 := bel1.trans (hb.mono bel1.size)
      have z2 : w1.heap.size ≤ w2.heap.size := hb.size
      obtain ⟨q1, d1, q2, d2, q3, d3, q4, d4, rfl, rfl, rfl, rfl⟩ := hs.forms
      clear hb
      have e0 := resA_0 c S (.slice q1 S.cs.length d1) (.slice q2 S.bs.length d2) (.slice q3 S.tabs.length d3) (.slice q4 S.sets.length d4)
      go_wp2_with (first | fail | (refine wpList_store_blk rfl _ _ _ rfl (w2.heap.size) 0 (resA 0 scr0 (.slice none 0 0) (.slice none 0 0) (.slice none 0 0) (.slice none 0 0)) (resA c S (.slice q1 S.cs.length d1) (.slice q2 S.bs.length d2) (.slice q3 S.tabs.length d3) (.slice q4 S.sets.length d4)) (.agg (resA c S (.slice q1 S.cs.length d1) (.slice q2 S.bs.length d2) (.slice q3 S.tabs.length d3) (.slice q4 S.sets.length d4))) rfl rfl (Blk.new w2 _ _) rfl (by kernel_rfl) rfl rfl ?_; (try simp only [Act.put, List.setIfInBounds_toArray, List.set_cons_zero, List.set_cons_succ]); intro w3 hB hu; replace hA := (hA.alloc (.cells #[.int .i64 0, .int .i64 0, .int .i64 0, .slice none 0 0, .slice none 0 0, .int .i64 0, .int .i64 0, .bool false, .int .i64 0, .int .i64 0, .int .i64 0, .bool false, .bool false, .bool false, .slice none 0 0, .int .i64 0, .int .i64 0, .int .i64 0, .slice none 0 0, .int .i64 0, .int .i64 0] 39)).upd hu (by omega); replace hR := (hR.alloc (.cells #[.int .i64 0, .int .i64 0, .int .i64 0, .slice none 0 0, .slice none 0 0, .int .i64 0, .int .i64 0, .bool false, .int .i64 0, .int .i64 0, .int .i64 0, .bool false, .bool false, .bool false, .slice none 0 0, .int .i64 0, .int .i64 0, .int .i64 0, .slice none 0 0, .int .i64 0, .int .i64 0] 39)).upd hu (by omega); replace hs := hs.of_blocks (w' := w3) (fun q q1 q2 => (hu.block q (by omega)).trans (Below.heap_alloc _ _ _ (by omega))); have bel3 := (bel2.trans ((Below.refl _ w2).alloc (by omega) (.cells #[.int .i64 0, .int .i64 0, .int .i64 0, .slice none 0 0, .slice none 0 0, .int .i64 0, .int .i64 0, .bool false, .int .i64 0, .int .i64 0, .int .i64 0, .bool false, .bool false, .bool false, .slice none 0 0, .int .i64 0, .int .i64 0, .int .i64 0, .slice none 0 0, .int .i64 0, .int .i64 0] 39))).trans (hu.below (by omega)); have z3 : w2.heap.size + 1 ≤ w3.heap.size := (by have := hu.size; simp at this; omega); clear hu bel2; have cB := hB.cells) | (refine wpList_build_at rfl 72 _ rfl (resVA c vt0 (.slice none 0 0) (.slice none 0 0) (.slice none 0 0) (.slice none 0 0) (.slice none 0 0)) (by first | rfl | kernel_rfl) ?_; (try simp only [Act.put, List.setIfInBounds_toArray, List.set_cons_zero, List.set_cons_succ])) | (refine wpList_store_blk rfl _ _ _ rfl (w.heap.size + 1) 0 (resVA 0 vt0 (.slice none 0 0) (.slice none 0 0) (.slice none 0 0) (.slice none 0 0) (.slice none 0 0)) (resVA c vt0 (.slice none 0 0) (.slice none 0 0) (.slice none 0 0) (.slice none 0 0) (.slice none 0 0)) (.agg (resVA c vt0 (.slice none 0 0) (.slice none 0 0) (.slice none 0 0) (.slice none 0 0) (.slice none 0 0))) rfl rfl hR rfl (by kernel_rfl) rfl rfl ?_; (try simp only [Act.put, List.setIfInBounds_toArray, List.set_cons_zero, List.set_cons_succ]); clear hR; intro w9 hR hu))
      exact bodyPost_ret (results_blk hR _ _ rfl rfl Tryz.underlying72 rfl (by kernel_rfl)) rfl ⟨_, _, _, _, _, rfl, vown_zero _ _ (by have := hu.size; omega) _, bel3.trans (hu.below (by omega))⟩
  · rw [if_neg hc, if_neg hc]
    obtain ⟨code, hcd⟩ : ∃ c, vtCode t = c := ⟨_, rfl⟩
    rw [hcd]
    have hne : (code != 0) = true := by rw [← hcd]; simpa using hc
    have HC := hide hcd
    clear hc hcd
    go_enter Tryz.func38, Tryz.ntmps38
    go_wp2_with fail
    go_at_call 64
    refine (l6Fault_o t u v1 v2 v3 v4 w.heap.size 0 _ hn0 hn1 hn2 hn3 hn4 hA.seg (h.below bel0)).mono ?_
    rintro e w1 ⟨rfl, hb⟩
    replace hA := hA.belowb hb
    replace hR := hR.belowb hb
    have bel1 := bel0.trans (hb.mono bel0.size)
    have z1 : w.heap.size + 2 ≤ w1.heap.size := by have := hb.size; simp at this; omega
    clear hb bel0
    rw [HC.out]
    go_wp2_with (first | (refine wpList_build_at rfl 72 _ rfl (resVA code vt0 (.slice none 0 0) (.slice none 0 0) (.slice none 0 0) (.slice none 0 0) (.slice none 0 0)) (by first | rfl | kernel_rfl) ?_; (try simp only [Act.put, List.setIfInBounds_toArray, List.set_cons_zero, List.set_cons_succ])) | (refine wpList_store_blk rfl _ _ _ rfl (w.heap.size + 1) 0 (resVA 0 vt0 (.slice none 0 0) (.slice none 0 0) (.slice none 0 0) (.slice none 0 0) (.slice none 0 0)) (resVA code vt0 (.slice none 0 0) (.slice none 0 0) (.slice none 0 0) (.slice none 0 0) (.slice none 0 0)) (.agg (resVA code vt0 (.slice none 0 0) (.slice none 0 0) (.slice none 0 0) (.slice none 0 0) (.slice none 0 0))) rfl rfl hR rfl (by kernel_rfl) rfl rfl ?_; (try simp only [Act.put, List.setIfInBounds_toArray, List.set_cons_zero, List.set_cons_succ]); clear hR; intro w9 hR hu))
    exact bodyPost_ret (results_blk hR _ _ rfl rfl Tryz.underlying72 rfl (by kernel_rfl)) rfl ⟨_, _, _, _, _, rfl, vown_zero _ _ (by have := hu.size; omega) _, bel1.trans (hu.below (by omega))⟩
set_option maxHeartbeats 8000000 in
theorem implResizeVt_calls (t : VtS) (u v1 v2 v3 v4 : Value) (rows width : Int) (w : World) (hn0 : t.ns.length ≤ 1048576) (hn1 : t.s.cs.length ≤ 1048576) (hn2 : t.s.bs.length ≤ 1048576) (hn3 : t.s.tabs.length ≤ 1048576) (hn4 : t.s.sets.length ≤ 1048576) (h : VRead w t u v1 v2 v3 v4) :
    Calls Tryz.prog 39 #[.agg (vtA t u v1 v2 v3 v4), .int .i64 rows, .int .i64 width] w fun e w' => ∃ x y1 y2 y3 y4, e = .returned (.agg (resVA (rvCode t rows width) (rvVt t rows width) x y1 y2 y3 y4)) ∧ VOwn w.heap.size w'.heap.size w' x y1 y2 y3 y4 (rvVt t rows width) ∧ Below w.heap.size w w' := by
  have bel0 : Below w.heap.size w ((w.alloc (.cells (vtA t u v1 v2 v3 v4) 70)).alloc (.cells #[.int .i64 0, .int .i64 0, .int .i64 0, .int .i64 0, .int .i64 0, .int .i64 0, .bool false, .slice none 0 0, .int .i64 0, .int .i64 0, .slice none 0 0, .slice none 0 0, .int .i64 0, .int .i64 0, .bool false, .int .i64 0, .int .i64 0, .int .i64 0, .bool false, .bool false, .bool false, .slice none 0 0, .int .i64 0, .int .i64 0, .int .i64 0, .slice none 0 0, .int .i64 0, .int .i64 0] 72)) := (by repeat' (first | with_reducible exact Below.refl _ _ | with_reducible assumption | with_reducible refine Below.drew ?_ | with_reducible refine Below.alloc ?_ ?_ _ | with_reducible refine Below.setCell ?_ ?_ _ | (simp; done) | (simp; omega) | omega))
  have hA := (Blk.new w (vtA t u v1 v2 v3 v4) 70).alloc (.cells #[.int .i64 0, .int .i64 0, .int .i64 0, .int .i64 0, .int .i64 0, .int .i64 0, .bool false, .slice none 0 0, .int .i64 0, .int .i64 0, .slice none 0 0, .slice none 0 0, .int .i64 0, .int .i64 0, .bool false, .int .i64 0, .int .i64 0, .int .i64 0, .bool false, .bool false, .bool false, .slice none 0 0, .int .i64 0, .int .i64 0, .int .i64 0, .slice none 0 0, .int .i64 0, .int .i64 0] 72)
  have hR : Blk ((w.alloc (.cells (vtA t u v1 v2 v3 v4) 70)).alloc (.cells #[.int .i64 0, .int .i64 0, .int .i64 0, .int .i64 0, .int .i64 0, .int .i64 0, .bool false, .slice none 0 0, .int .i64 0, .int .i64 0, .slice none 0 0, .slice none 0 0, .int .i64 0, .int .i64 0, .bool false, .int .i64 0, .int .i64 0, .int .i64 0, .bool false, .bool false, .bool false, .slice none 0 0, .int .i64 0, .int .i64 0, .int .i64 0, .slice none 0 0, .int .i64 0, .int .i64 0] 72)) (w.heap.size + 1) (resVA 0 vt0 (.slice none 0 0) (.slice none 0 0) (.slice none 0 0) (.slice none 0 0) (.slice none 0 0)) := Blk.new_at (by simp) _ _
  unfold rvCode rvVt
  by_cases hc : vtCode t = 0
  · rw [if_pos hc, if_pos hc]
    obtain ⟨c, hC⟩ : ∃ c, (rzRes t.s rows width).code = c := ⟨_, rfl⟩
    obtain ⟨S, hS⟩ : ∃ S, (rzRes t.s rows width).s = S := ⟨_, rfl⟩
    rw [hC, hS]
    have HC := hide hC
    have HS := hide hS
    clear hC hS
    by_cases hz : c = 0
    · rw [if_pos hz]
      subst hz
      go_enter Tryz.func39, Tryz.ntmps39
      go_wp2_with (first | fail | (refine wpList_load_at rfl 70 _ rfl (w.heap.size) 0 rfl _ (vtA t u v1 v2 v3 v4) hA rfl _ Tryz.underlying70 rfl (by kernel_rfl) ?_; (try simp only [Act.put, List.setIfInBounds_toArray, List.set_cons_zero, List.set_cons_succ])))
      go_at_call 69
      refine (implVtFault_calls t u v1 v2 v3 v4 _ hn0 hn1 hn2 hn3 hn4 (h.below bel0)).mono ?_
      rintro e w1 ⟨rfl, hb⟩
      replace hA := hA.belowb hb
      replace hR := hR.belowb hb
      have bel1 := bel0.trans (hb.mono bel0.size)
      have z1 : w.heap.size + 2 ≤ w1.heap.size := by have := hb.size; simp at this; omega
      clear hb bel0
      rw [hc]
      go_wp2_with (first | fail | (refine wpList_load_at rfl 37 _ rfl (w.heap.size) 7 rfl _ (scrA t.s v1 v2 v3 v4) hA (vtA_scr t u v1 v2 v3 v4) _ Tryz.underlying37 rfl (by kernel_rfl) ?_; (try simp only [Act.put, List.setIfInBounds_toArray, List.set_cons_zero, List.set_cons_succ])))
      go_at_call 79
      have HRS := implResizeScreen_calls t.s v1 v2 v3 v4 rows width w1 hn1 hn2 hn3 hn4 (h.s.below bel1)
      rw [HC.out, HS.out] at HRS
      refine HRS.mono ?_
      clear HRS
      rintro e w2 ⟨u1, u2, u3, u4, rfl, hs, hb⟩
      replace hA := hA.belowb hb
      replace hR := hR.belowb hb
      have bel2 := bel1.trans (hb.mono bel1.size)
      have z2 : w1.heap.size ≤ w2.heap.size := hb.size
      obtain ⟨q1, d1, q2, d2, q3, d3, q4, d4, rfl, rfl, rfl, rfl⟩ := hs.forms
      clear hb
      have e0 := resA_0 0 S (.slice q1 S.cs.length d1) (.slice q2 S.bs.length d2) (.slice q3 S.tabs.length d3) (.slice q4 S.sets.length d4)
      go_wp2_with (first | fail | (refine wpList_store_blk rfl _ _ _ rfl (w2.heap.size) 0 (resA 0 scr0 (.slice none 0 0) (.slice none 0 0) (.slice none 0 0) (.slice none 0 0)) (resA 0 S (.slice q1 S.cs.length d1) (.slice q2 S.bs.length d2) (.slice q3 S.tabs.length d3) (.slice q4 S.sets.length d4)) (.agg (resA 0 S (.slice q1 S.cs.length d1) (.slice q2 S.bs.length d2) (.slice q3 S.tabs.length d3) (.slice q4 S.sets.length d4))) rfl rfl (Blk.new w2 _ _) rfl (by kernel_rfl) rfl rfl ?_; (try simp only [Act.put, List.setIfInBounds_toArray, List.set_cons_zero, List.set_cons_succ]); intro w3 hB hu; replace hA := (hA.alloc (.cells #[.int .i64 0, .int .i64 0, .int .i64 0, .slice none 0 0, .slice none 0 0, .int .i64 0, .int .i64 0, .bool false, .int .i64 0, .int .i64 0, .int .i64 0, .bool false, .bool false, .bool false, .slice none 0 0, .int .i64 0, .int .i64 0, .int .i64 0, .slice none 0 0, .int .i64 0, .int .i64 0] 39)).upd hu (by omega); replace hR := (hR.alloc (.cells #[.int .i64 0, .int .i64 0, .int .i64 0, .slice none 0 0, .slice none 0 0, .int .i64 0, .int .i64 0, .bool false, .int .i64 0, .int .i64 0, .int .i64 0, .bool false, .bool false, .bool false, .slice none 0 0, .int .i64 0, .int .i64 0, .int .i64 0, .slice none 0 0, .int .i64 0, .int .i64 0] 39)).upd hu (by omega); replace hs := hs.of_blocks (w' := w3) (fun q q1 q2 => (hu.block q (by omega)).trans (Below.heap_alloc _ _ _ (by omega))); have bel3 := (bel2.trans ((Below.refl _ w2).alloc (by omega) (.cells #[.int .i64 0, .int .i64 0, .int .i64 0, .slice none 0 0, .slice none 0 0, .int .i64 0, .int .i64 0, .bool false, .int .i64 0, .int .i64 0, .int .i64 0, .bool false, .bool false, .bool false, .slice none 0 0, .int .i64 0, .int .i64 0, .int .i64 0, .slice none 0 0, .int .i64 0, .int .i64 0] 39))).trans (hu.below (by omega)); have z3 : w2.heap.size + 1 ≤ w3.heap.size := (by have := hu.size; simp at this; omega); clear hu bel2; have cB := hB.cells))
      refine till_region [9] (S := (fun w' => Below w3.heap.size w3 w')) (by kernel_rfl) ?_ (fun hHeld => ?_)
      · (try dsimp only); exact Below.drew (Below.refl _ w3)
      refine till_take (i := 0) (oi := ⟨_, _, _, _, _, _⟩) (v := ?_) rfl (by kernel_rfl) (by kernel_rfl) (by kernel_rfl) (by kernel_rfl) (fun _ _ _ h => h) (Or.inl ⟨by rfl, ?_⟩) hHeld ?_
      rotate_left
      · (intro w hSw; (try dsimp only at hSw); go_simp; try (with_reducible rfl))
      try simp only [Act.put, List.setIfInBounds_toArray, List.set_cons_zero, List.set_cons_succ]
      refine till_take (i := 1) (oi := ⟨_, _, _, _, _, _⟩) (v := .agg (decA t)) rfl (by kernel_rfl) (by kernel_rfl) (by kernel_rfl) (by kernel_rfl) (fun _ _ _ h => h) (Or.inl ⟨by rfl, ?_⟩) hHeld ?_
      · intro w hSw
        (try dsimp only at hSw)
        exact run_exLd _ _ rfl _ _ rfl _ (run_loadVar_at (P := Tryz.prog) (o := 0) (vs := (decA t)) (hA.belowb hSw) (vtA_dec t u v1 v2 v3 v4) Tryz.underlying67 rfl (by kernel_rfl))
      try simp only [Act.put, List.setIfInBounds_toArray, List.set_cons_zero, List.set_cons_succ]
      refine till_take (i := 2) (oi := ⟨_, _, _, _, _, _⟩) (v := ?_) rfl (by kernel_rfl) (by kernel_rfl) (by kernel_rfl) (by kernel_rfl) (fun _ _ _ h => h) (Or.inl ⟨by rfl, ?_⟩) hHeld ?_
      rotate_left
      · (intro w hSw; (try dsimp only at hSw); go_simp; try (with_reducible rfl))
      try simp only [Act.put, List.setIfInBounds_toArray, List.set_cons_zero, List.set_cons_succ]
      refine till_take (i := 3) (oi := ⟨_, _, _, _, _, _⟩) (v := .agg (parA t u)) rfl (by kernel_rfl) (by kernel_rfl) (by kernel_rfl) (by kernel_rfl) (fun _ _ _ h => h) (Or.inl ⟨by rfl, ?_⟩) hHeld ?_
      · intro w hSw
        (try dsimp only at hSw)
        exact run_exLd _ _ rfl _ _ rfl _ (run_loadVar_at (P := Tryz.prog) (o := 3) (vs := (parA t u)) (hA.belowb hSw) (vtA_par t u v1 v2 v3 v4) Tryz.underlying68 rfl (by kernel_rfl))
      try simp only [Act.put, List.setIfInBounds_toArray, List.set_cons_zero, List.set_cons_succ]
      refine till_take (i := 5) (oi := ⟨_, _, _, _, _, _⟩) (v := ?_) rfl (by kernel_rfl) (by kernel_rfl) (by kernel_rfl) (by kernel_rfl) (fun _ _ _ h => h) (Or.inl ⟨by rfl, ?_⟩) hHeld ?_
      rotate_left
      · (intro w hSw; (try dsimp only at hSw); go_simp; try (with_reducible rfl))
      try simp only [Act.put, List.setIfInBounds_toArray, List.set_cons_zero, List.set_cons_succ]
      refine till_take (i := 6) (oi := ⟨_, _, _, _, _, _⟩) (v := .agg (scrA S (.slice q1 S.cs.length d1) (.slice q2 S.bs.length d2) (.slice q3 S.tabs.length d3) (.slice q4 S.sets.length d4))) rfl (by kernel_rfl) (by kernel_rfl) (by kernel_rfl) (by kernel_rfl) (fun _ _ _ h => h) (Or.inl ⟨by rfl, ?_⟩) hHeld ?_
      · intro w hSw
        (try dsimp only at hSw)
        exact run_exLd _ _ rfl _ _ rfl _ (run_loadVar_at (P := Tryz.prog) (o := 1) (vs := (scrA S (.slice q1 S.cs.length d1) (.slice q2 S.bs.length d2) (.slice q3 S.tabs.length d3) (.slice q4 S.sets.length d4))) (hB.belowb hSw) (resA_scr 0 S (.slice q1 S.cs.length d1) (.slice q2 S.bs.length d2) (.slice q3 S.tabs.length d3) (.slice q4 S.sets.length d4)) Tryz.underlying37 rfl (by kernel_rfl))
      try simp only [Act.put, List.setIfInBounds_toArray, List.set_cons_zero, List.set_cons_succ]
      refine till_ready (rs := [4]) (by kernel_rfl) (by simp) ?_
      refine (EachTill.cons (o := ⟨_, _, _, _, _, _⟩) rfl (fun K hK => ?_) EachTill.nil)
      go_simp
      go_at_call 80
      refine (ownParser_calls t.md t.st t.pv t.ns u _ hn0 ((h.p.below bel3).below (Below.drew (Below.refl _ w3)))).mono ?_
      rintro e w4 ⟨x, rfl, hx', hb'⟩
      have hb4 : Below w3.heap.size w3 w4 := hHeld.trans hb'
      have hx : IntsAt .i64 w3.heap.size w4.heap.size w4 x t.ns := own_ints hx' (Nat.le_refl _)
      obtain ⟨ax, cx, rfl, _⟩ := id hx
      clear hb' hx'
      refine hK.out _ _ ?_ ?_
      · (try dsimp only); exact hb4
      clear hHeld hK K
      intro hHeld
      try simp only [Act.put, List.setIfInBounds_toArray, List.set_cons_zero, List.set_cons_succ]
      refine till_ready (rs := [7]) (by kernel_rfl) (by simp) ?_
      refine (EachTill.cons (o := ⟨_, _, _, _, _, _⟩) rfl (fun K hK => ?_) EachTill.nil)
      refine wp_build_at 70 _ rfl (vtA { t with s := S } (.slice ax t.ns.length cx) (.slice q1 S.cs.length d1) (.slice q2 S.bs.length d2) (.slice q3 S.tabs.length d3) (.slice q4 S.sets.length d4)) (by first | rfl | kernel_rfl) ?_
      refine hK.out _ _ ?_ ?_
      · (try dsimp only); exact hHeld
      clear hHeld hK K
      intro hHeld
      try simp only [Act.put, List.setIfInBounds_toArray, List.set_cons_zero, List.set_cons_succ]
      refine till_ready (rs := [8]) (by kernel_rfl) (by simp) ?_
      refine (EachTill.cons (o := ⟨_, _, _, _, _, _⟩) rfl (fun K hK => ?_) EachTill.nil)
      refine wp_build_at 72 _ rfl (resVA 0 { t with s := S } (.slice ax t.ns.length cx) (.slice q1 S.cs.length d1) (.slice q2 S.bs.length d2) (.slice q3 S.tabs.length d3) (.slice q4 S.sets.length d4)) (by first | rfl | kernel_rfl) ?_
      refine hK.out _ _ ?_ ?_
      · (try dsimp only); exact hHeld
      clear hHeld hK K
      intro hHeld
      try simp only [Act.put, List.setIfInBounds_toArray, List.set_cons_zero, List.set_cons_succ]
      refine till_ready (rs := [9]) (by kernel_rfl) (by simp) ?_
      refine (EachTill.last (o := ⟨_, _, _, _, _, _⟩) rfl rfl (fun K hK => ?_) EachTill.nil)
      have hR9 := hR.belowb hHeld
      have hW9 := hHeld
      refine wp_store_any _ _ _ rfl (w.heap.size + 1) 0 (resVA 0 vt0 (.slice none 0 0) (.slice none 0 0) (.slice none 0 0) (.slice none 0 0) (.slice none 0 0)) (resVA 0 { t with s := S } (.slice ax t.ns.length cx) (.slice q1 S.cs.length d1) (.slice q2 S.bs.length d2) (.slice q3 S.tabs.length d3) (.slice q4 S.sets.length d4)) (.agg (resVA 0 { t with s := S } (.slice ax t.ns.length cx) (.slice q1 S.cs.length d1) (.slice q2 S.bs.length d2) (.slice q3 S.tabs.length d3) (.slice q4 S.sets.length d4))) rfl rfl hR9 rfl (by kernel_rfl) rfl rfl ?_
      intro w9 hR' hu
      refine hK.out _ _ ?_ ?_
      · first | trivial | (dsimp only)
      clear hHeld hK K
      intro hHeld
      try simp only [Act.put, List.setIfInBounds_toArray, List.set_cons_zero, List.set_cons_succ]
      refine till_done (by kernel_rfl) ?_ _
      clear hHeld
      go_wp2
      refine bodyPost_ret (results_blk hR' _ _ rfl rfl Tryz.underlying72 rfl (by kernel_rfl)) rfl ⟨_, _, _, _, _, rfl, ⟨w3.heap.size, w4.heap.size, w1.heap.size, w2.heap.size, by omega, by have := hu.size; have := hW9.size; have := hb4.size; omega, by omega, by have := hu.size; have := hW9.size; have := hb4.size; omega, by omega, hx.of_blocks (fun q q1 q2 => (hu.block q (by omega))), hs.of_blocks (fun q q1 q2 => (hu.block q (by omega)).trans (hW9.block q (by omega)))⟩, (bel3.trans (hW9.mono (by omega))).trans (hu.below (by omega))⟩
    · rw [if_neg hz]
      have hne : (c != 0) = true := by simpa using hz
      have HZ := hide hz
      clear hz
      go_enter Tryz.func39, Tryz.ntmps39
      go_wp2_with (first | fail | (refine wpList_load_at rfl 70 _ rfl (w.heap.size) 0 rfl _ (vtA t u v1 v2 v3 v4) hA rfl _ Tryz.underlying70 rfl (by kernel_rfl) ?_; (try simp only [Act.put, List.setIfInBounds_toArray, List.set_cons_zero, List.set_cons_succ])))
      go_at_call 69
      refine (implVtFault_calls t u v1 v2 v3 v4 _ hn0 hn1 hn2 hn3 hn4 (h.below bel0)).mono ?_
      rintro e w1 ⟨rfl, hb⟩
      replace hA := hA.belowb hb
      replace hR := hR.belowb hb
      have bel1 := bel0.trans (hb.mono bel0.size)
      have z1 : w.heap.size + 2 ≤ w1.heap.size := by have := hb.size; simp at this; omega
      clear hb bel0
      rw [hc]
      go_wp2_with (first | fail | (refine wpList_load_at rfl 37 _ rfl (w.heap.size) 7 rfl _ (scrA t.s v1 v2 v3 v4) hA (vtA_scr t u v1 v2 v3 v4) _ Tryz.underlying37 rfl (by kernel_rfl) ?_; (try simp only [Act.put, List.setIfInBounds_toArray, List.set_cons_zero, List.set_cons_succ])))
      go_at_call 79
      have HRS := implResizeScreen_calls t.s v1 v2 v3 v4 rows width w1 hn1 hn2 hn3 hn4 (h.s.below bel1)
      rw [HC.out, HS.out] at HRS
      refine HRS.mono ?_
      clear HRS
      rintro e w2 ⟨u1, u2, u3, u4, rfl, hs, hb⟩
      replace hA := hA.belowb hb
      replace hR := hR.belowb hb
      have bel2 := bel1.trans (hb.mono bel1.size)
      have z2 : w1.heap.size ≤ w2.heap.size := hb.size
      obtain ⟨q1, d1, q2, d2, q3, d3, q4, d4, rfl, rfl, rfl, rfl⟩ := hs.forms
      clear hb
      have e0 := resA_0 c S (.slice q1 S.cs.length d1) (.slice q2 S.bs.length d2) (.slice q3 S.tabs.length d3) (.slice q4 S.sets.length d4)
      go_wp2_with (first | fail | (refine wpList_store_blk rfl _ _ _ rfl (w2.heap.size) 0 (resA 0 scr0 (.slice none 0 0) (.slice none 0 0) (.slice none 0 0) (.slice none 0 0)) (resA c S (.slice q1 S.cs.length d1) (.slice q2 S.bs.length d2) (.slice q3 S.tabs.length d3) (.slice q4 S.sets.length d4)) (.agg (resA c S (.slice q1 S.cs.length d1) (.slice q2 S.bs.length d2) (.slice q3 S.tabs.length d3) (.slice q4 S.sets.length d4))) rfl rfl (Blk.new w2 _ _) rfl (by kernel_rfl) rfl rfl ?_; (try simp only [Act.put, List.setIfInBounds_toArray, List.set_cons_zero, List.set_cons_succ]); intro w3 hB hu; replace hA := (hA.alloc (.cells #[.int .i64 0, .int .i64 0, .int .i64 0, .slice none 0 0, .slice none 0 0, .int .i64 0, .int .i64 0, .bool false, .int .i64 0, .int .i64 0, .int .i64 0, .bool false, .bool false, .bool false, .slice none 0 0, .int .i64 0, .int .i64 0, .int .i64 0, .slice none 0 0, .int .i64 0, .int .i64 0] 39)).upd hu (by omega); replace hR := (hR.alloc (.cells #[.int .i64 0, .int .i64 0, .int .i64 0, .slice none 0 0, .slice none 0 0, .int .i64 0, .int .i64 0, .bool false, .int .i64 0, .int .i64 0, .int .i64 0, .bool false, .bool false, .bool false, .slice none 0 0, .int .i64 0, .int .i64 0, .int .i64 0, .slice none 0 0, .int .i64 0, .int .i64 0] 39)).upd hu (by omega); replace hs := hs.of_blocks (w' := w3) (fun q q1 q2 => (hu.block q (by omega)).trans (Below.heap_alloc _ _ _ (by omega))); have bel3 := (bel2.trans ((Below.refl _ w2).alloc (by omega) (.cells #[.int .i64 0, .int .i64 0, .int .i64 0, .slice none 0 0, .slice none 0 0, .int .i64 0, .int .i64 0, .bool false, .int .i64 0, .int .i64 0, .int .i64 0, .bool false, .bool false, .bool false, .slice none 0 0, .int .i64 0, .int .i64 0, .int .i64 0, .slice none 0 0, .int .i64 0, .int .i64 0] 39))).trans (hu.below (by omega)); have z3 : w2.heap.size + 1 ≤ w3.heap.size := (by have := hu.size; simp at this; omega); clear hu bel2; have cB := hB.cells) | (refine wpList_build_at rfl 72 _ rfl (resVA c vt0 (.slice none 0 0) (.slice none 0 0) (.slice none 0 0) (.slice none 0 0) (.slice none 0 0)) (by first | rfl | kernel_rfl) ?_; (try simp only [Act.put, List.setIfInBounds_toArray, List.set_cons_zero, List.set_cons_succ])) | (refine wpList_store_blk rfl _ _ _ rfl (w.heap.size + 1) 0 (resVA 0 vt0 (.slice none 0 0) (.slice none 0 0) (.slice none 0 0) (.slice none 0 0) (.slice none 0 0)) (resVA c vt0 (.slice none 0 0) (.slice none 0 0) (.slice none 0 0) (.slice none 0 0) (.slice none 0 0)) (.agg (resVA c vt0 (.slice none 0 0) (.slice none 0 0) (.slice none 0 0) (.slice none 0 0) (.slice none 0 0))) rfl rfl hR rfl (by kernel_rfl) rfl rfl ?_; (try simp only [Act.put, List.setIfInBounds_toArray, List.set_cons_zero, List.set_cons_succ]); clear hR; intro w9 hR hu))
      exact bodyPost_ret (results_blk hR _ _ rfl rfl Tryz.underlying72 rfl (by kernel_rfl)) rfl ⟨_, _, _, _, _, rfl, vown_zero _ _ (by have := hu.size; omega) _, bel3.trans (hu.below (by omega))⟩
  · rw [if_neg hc, if_neg hc]
    obtain ⟨code, hcd⟩ : ∃ c, vtCode t = c := ⟨_, rfl⟩
    rw [hcd]
    have hne : (code != 0) = true := by rw [← hcd]; simpa using hc
    have HC := hide hcd
    clear hc hcd
    go_enter Tryz.func39, Tryz.ntmps39
    go_wp2_with (first | fail | (refine wpList_load_at rfl 70 _ rfl (w.heap.size) 0 rfl _ (vtA t u v1 v2 v3 v4) hA rfl _ Tryz.underlying70 rfl (by kernel_rfl) ?_; (try simp only [Act.put, List.setIfInBounds_toArray, List.set_cons_zero, List.set_cons_succ])))
    go_at_call 69
    refine (implVtFault_calls t u v1 v2 v3 v4 _ hn0 hn1 hn2 hn3 hn4 (h.below bel0)).mono ?_
    rintro e w1 ⟨rfl, hb⟩
    replace hA := hA.belowb hb
    replace hR := hR.belowb hb
    have bel1 := bel0.trans (hb.mono bel0.size)
    have z1 : w.heap.size + 2 ≤ w1.heap.size := by have := hb.size; simp at this; omega
    clear hb bel0
    rw [HC.out]
    go_wp2_with (first | (refine wpList_build_at rfl 72 _ rfl (resVA code vt0 (.slice none 0 0) (.slice none 0 0) (.slice none 0 0) (.slice none 0 0) (.slice none 0 0)) (by first | rfl | kernel_rfl) ?_; (try simp only [Act.put, List.setIfInBounds_toArray, List.set_cons_zero, List.set_cons_succ])) | (refine wpList_store_blk rfl _ _ _ rfl (w.heap.size + 1) 0 (resVA 0 vt0 (.slice none 0 0) (.slice none 0 0) (.slice none 0 0) (.slice none 0 0) (.slice none 0 0)) (resVA code vt0 (.slice none 0 0) (.slice none 0 0) (.slice none 0 0) (.slice none 0 0) (.slice none 0 0)) (.agg (resVA code vt0 (.slice none 0 0) (.slice none 0 0) (.slice none 0 0) (.slice none 0 0) (.slice none 0 0))) rfl rfl hR rfl (by kernel_rfl) rfl rfl ?_; (try simp only [Act.put, List.setIfInBounds_toArray, List.set_cons_zero, List.set_cons_succ]); clear hR; intro w9 hR hu))
    exact bodyPost_ret (results_blk hR _ _ rfl rfl Tryz.underlying72 rfl (by kernel_rfl)) rfl ⟨_, _, _, _, _, rfl, vown_zero _ _ (by have := hu.size; omega) _, bel1.trans (hu.below (by omega))⟩
end Go.Proofs.YtdekegjplegkeaaGreat

/- Copies of a grid's lists with room for what they hold (toCellS, toGrid). -/
namespace Go.Proofs.YtdekegjplegkeaaGreat
set_option maxRecDepth 20000
open Go.ChangeShapes Go.WideShapes Go.ChangeAt Go.RowKit
set_option linter.unusedVariables false
set_option linter.unusedSimpArgs false
set_option maxRecDepth 20000

set_option maxHeartbeats 1000000 in
theorem toCellS_full (zs : List (Int × Int)) (v : Value) (w : World) (hn : zs.length ≤ 1048576) (h1 : PRead w v zs) :
    Calls Tryz.prog 94 #[v] w fun e w' => ∃ v', e = .returned v' ∧ Capped v' ∧ PairsAt w.heap.size w'.heap.size w' v' zs ∧ Below w.heap.size w w' := by
  obtain ⟨i0, hi, hz0, hz1, hz2⟩ := info_parts info_pair
  obtain ⟨a1, c1, rfl, h1⟩ := h1
  go_enter Tryz.func94, Tryz.ntmps94
  go_wp2_with (at_make; refine wpList_make_full _ rfl (.tmp 6) (.tmp 6) 33 rfl w.heap.size 193 i0 (.agg #[.int .i64 0, .int .i64 0]) 2 Tryz.underlying33 hi hz0 hz1 .i64 .i64 _ _ zs.length rfl rfl rfl rfl ?c1 ?c2 ?c3 ?_)
  case c1 => rw [hz2]; omega
  case c2 => unfold maxLen; omega
  case c3 => exact Nat.le_refl _
  intro w1 hown hgrow
  have hany := own_any2 hown
  have hlt1 : w.heap.size < w1.heap.size := (hown.lt w.heap.size rfl).2
  have hb1 : Below w.heap.size w w1 := (Below.refl _ _).grown hgrow (Nat.le_refl _) (fun k hk => by cases hk)
  have HA := hide hany
  clear hown hgrow hany
  go_wp2
  go_loopw [4] (fun i wr => ∃ k : Nat, k ≤ zs.length ∧ i = .int .i64 k ∧ Below w.heap.size w wr ∧ w.heap.size < wr.heap.size ∧
      (∀ j, j < zs.length * 2 → (∃ u, wr.cell? ⟨w.heap.size, 0 + j, none⟩ = some u) ∧ wr.frozen? ⟨w.heap.size, 0 + j, none⟩ = false) ∧ ∀ j, j < k → wr.cell? ⟨w.heap.size, 0 + j * 2, none⟩ = some (.int .i64 (zs.getD j (0, 0)).1) ∧ wr.cell? ⟨w.heap.size, 0 + j * 2 + 1, none⟩ = some (.int .i64 (zs.getD j (0, 0)).2)) (fun i _ => zs.length - (intOf i).toNat)
  case atStart => exact ⟨0, Nat.zero_le _, rfl, hb1, hlt1, HA.out, fun j hj => by omega⟩
  case round =>
    obtain ⟨k, hkk, rfl, hw, hsz, hf, hc⟩ := hrel
    by_cases hlt : k < zs.length
    · have hpos : zs ≠ [] := by intro h; rw [h] at hlt; simp at hlt
      rcases h1 with h1 | ⟨b1, o1, rfl, h1⟩
      · exact absurd h1 hpos
      obtain ⟨g1, g2⟩ := h1 k hlt
      replace g1 := cellb hw g1
      replace g2 := cellb hw g2
      have hltI : (k : Int) < (zs.length : Int) := by omega
      have HF := hide hf
      have HC := hide hc
      clear hf hc h1 hpos HA hb1 hlt1
      have HG : Hid ((zs.getD k (0, 0)) = ((zs.getD k (0, 0)).1, (zs.getD k (0, 0)).2)) := rfl
      generalize hcc : (zs.getD k (0, 0)).1 = c at *
      generalize hgg : (zs.getD k (0, 0)).2 = g at *
      clear hcc hgg
      go_wp2_with fail
      refine (toCell_calls c g _).mono ?_
      rintro e w2 ⟨rfl, hb2⟩
      have hs2 : w.heap.size < w2.heap.size := Nat.lt_of_lt_of_le hsz hb2.size
      have hw2 := hw.trans (hb2.mono (by omega))
      have HF2 : Hid (∀ j, j < zs.length * 2 → (∃ u, w2.cell? ⟨w.heap.size, 0 + j, none⟩ = some u) ∧ w2.frozen? ⟨w.heap.size, 0 + j, none⟩ = false) := fun j hj => by
        obtain ⟨⟨u, hu⟩, hfz⟩ := HF.out j hj
        exact ⟨⟨u, cellb hb2 hu⟩, by rw [hb2.frozen (p := ⟨w.heap.size, 0 + j, none⟩) hsz]; exact hfz⟩
      have HC2 : Hid (∀ j, j < k → w2.cell? ⟨w.heap.size, 0 + j * 2, none⟩ = some (.int .i64 (zs.getD j (0, 0)).1) ∧ w2.cell? ⟨w.heap.size, 0 + j * 2 + 1, none⟩ = some (.int .i64 (zs.getD j (0, 0)).2)) := fun j hj => ⟨cellb hb2 (HC.out j hj).1, cellb hb2 (HC.out j hj).2⟩
      obtain ⟨⟨u, k1⟩, f1⟩ := HF2.out (k * 2) (by omega)
      obtain ⟨⟨u', k2⟩, f2⟩ := HF2.out (k * 2 + 1) (by omega)
      have K1 := hide k1
      have K2 := hide k2
      rw [Nat.zero_add] at k1 f1 k2 f2
      clear g1 g2 HF HC hw hb2 hsz
      go_wp2
      go_roundw
      case rel =>
        obtain ⟨s1, s2, so⟩ := two_cells (x := .int .i64 c) (y := .int .i64 g) k1 k2
        refine ⟨k + 1, by omega, by go_num, (hw2.setCell (Nat.le_refl _) _).setCell (Nat.le_refl _) _, by simpa [World.setCell] using hs2, fun j hj => ⟨?_, ?_⟩, fun j hj => ?_⟩
        · rw [Nat.zero_add]
          by_cases e : j = k * 2
          · subst e; exact ⟨_, s1⟩
          · by_cases e' : j = k * 2 + 1
            · subst e'; exact ⟨_, s2⟩
            · rw [so j e e']; obtain ⟨u, hu⟩ := (HF2.out j hj).1; rw [Nat.zero_add] at hu; exact ⟨u, hu⟩
        · simp only [World.frozen?_setCell]; exact (HF2.out j hj).2
        · by_cases e : j = k
          · subst e; rw [Nat.zero_add, s1, s2, HG.out]; exact ⟨rfl, rfl⟩
          · rw [Nat.zero_add, so _ (by omega) (by omega), so _ (by omega) (by omega)]
            have := HC2.out j (by omega)
            rw [Nat.zero_add] at this
            exact this
      case measure => simp [intOf]; omega
    · have hk' : k = zs.length := by omega
      subst hk'
      go_wp2
      go_ret
      exact ⟨_, rfl, fun a n c e => (by cases e; exact Nat.le_refl _), ⟨_, _, rfl, .inr ⟨w.heap.size, 0, rfl, Nat.le_refl _, hsz, fun i hi => ⟨hc i hi, (hf (i * 2) (by omega)).2, (hf (i * 2 + 1) (by omega)).2⟩⟩⟩, hw⟩

set_option maxHeartbeats 1000000 in
theorem toGrid_full (r wd : Int) (cs bs : List (Int × Int)) (v1 v2 : Value) (w : World) (hn1 : cs.length ≤ 1048576) (hn2 : bs.length ≤ 1048576) (h1 : PRead w v1 cs) (h2 : PRead w v2 bs) :
    Calls Tryz.prog 48 #[.agg #[.int .i64 r, .int .i64 wd, v1, v2]] w fun e w' => ∃ x y, e = .returned (.agg #[.int .i64 r, .int .i64 wd, x, y]) ∧ Capped x ∧ Capped y ∧ GOwn w.heap.size w'.heap.size w' x y cs bs ∧ Below w.heap.size w w' := by
  have h1' := h1
  obtain ⟨a1, c1, rfl, _⟩ := h1'
  have h2' := h2
  obtain ⟨a2, c2, rfl, _⟩ := h2'
  go_enter Tryz.func48, Tryz.ntmps48
  go_wp2_with fail
  refine (toCellS_full cs _ _ hn1 (h1.below ?hb)).mono ?_
  case hb => exact (by repeat' (first | with_reducible exact Below.refl _ _ | with_reducible assumption | with_reducible refine Below.drew ?_ | with_reducible refine Below.alloc ?_ ?_ _ | with_reducible refine Below.setCell ?_ ?_ _ | (simp; done) | (simp; omega) | omega))
  rintro e w1 ⟨x, rfl, hcx, hx, hb1⟩
  have hW : Below w.heap.size w _ := Below.trans (b := _) ?hq (hb1.mono ?hq2)
  case hq => exact (by repeat' (first | with_reducible exact Below.refl _ _ | with_reducible assumption | with_reducible refine Below.drew ?_ | with_reducible refine Below.alloc ?_ ?_ _ | with_reducible refine Below.setCell ?_ ?_ _ | (simp; done) | (simp; omega) | omega))
  case hq2 => simp [World.setCell]; omega
  have hs1 : w.heap.size + 3 ≤ w1.heap.size := by have := hb1.size; simp [World.setCell] at this; omega
  have A3 : w1.cell? ⟨w.heap.size, 3, none⟩ = some (.slice a2 bs.length c2) := cellb hb1 (by simp [go_sem])
  have k0 : w1.cell? ⟨w.heap.size + 1, 0, none⟩ = some (.int .i64 0) := cellb hb1 (by simp [go_sem])
  have k1 : w1.cell? ⟨w.heap.size + 1, 1, none⟩ = some (.int .i64 0) := cellb hb1 (by simp [go_sem])
  have k2 : w1.cell? ⟨w.heap.size + 1, 2, none⟩ = some (.slice none 0 0) := cellb hb1 (by simp [go_sem])
  have k3 : w1.cell? ⟨w.heap.size + 1, 3, none⟩ = some (.slice none 0 0) := cellb hb1 (by simp [go_sem])
  have j0 : w1.cell? ⟨w.heap.size + 2, 0, none⟩ = some (.int .i64 r) := cellb hb1 (by simp [go_sem])
  have j1 : w1.cell? ⟨w.heap.size + 2, 1, none⟩ = some (.int .i64 wd) := cellb hb1 (by simp [go_sem])
  have j2 : w1.cell? ⟨w.heap.size + 2, 2, none⟩ = some (.slice none 0 0) := cellb hb1 (by simp [go_sem])
  have j3 : w1.cell? ⟨w.heap.size + 2, 3, none⟩ = some (.slice none 0 0) := cellb hb1 (by simp [go_sem])
  have fz : ∀ b o, b < w.heap.size + 3 → w.heap.size ≤ b → w1.frozen? ⟨b, o, none⟩ = false := fun b o hb hb' => by
    rw [hb1.frozen (p := ⟨b, o, none⟩) (by simp [World.setCell]; omega)]
    try simp only [World.frozen?_setCell]
    obtain rfl | rfl | rfl : b = w.heap.size ∨ b = w.heap.size + 1 ∨ b = w.heap.size + 2 := by omega
    all_goals simp [go_sem]
  have z0 := fz (w.heap.size + 1) 0 (by omega) (by omega)
  have z1 := fz (w.heap.size + 1) 1 (by omega) (by omega)
  have z2 := fz (w.heap.size + 1) 2 (by omega) (by omega)
  have z3 := fz (w.heap.size + 1) 3 (by omega) (by omega)
  have y2 := fz (w.heap.size + 2) 2 (by omega) (by omega)
  have y3 := fz (w.heap.size + 2) 3 (by omega) (by omega)
  obtain ⟨a3, c3, rfl, hx'⟩ := hx
  have hx : PairsAt (w.heap.size + 3) w1.heap.size w1 (.slice a3 cs.length c3) cs := PairsAt.mono ⟨a3, c3, rfl, hx'⟩ (by simp [World.setCell]) (Nat.le_refl _)
  clear hx' hb1 fz
  have t2 : Touch (w.heap.size + 2) 2 3 w1 (w1.setCell ⟨w.heap.size + 2, 2, none⟩ (.slice a3 cs.length c3)) := (Touch.refl _ _ _ _).setCell (by omega) (by omega) _
  have J2 : (w1.setCell ⟨w.heap.size + 2, 2, none⟩ (.slice a3 cs.length c3)).cell? ⟨w.heap.size + 2, 2, none⟩ = some (.slice a3 cs.length c3) := World.cell?_setCell_same _ _ _ j2
  go_wp2_with fail
  generalize (w1.setCell ⟨w.heap.size + 2, 2, none⟩ (.slice a3 cs.length c3)) = w2 at *
  have hW2 : Below w.heap.size w w2 := hW.trans (t2.below (by omega) (by omega))
  refine (toCellS_full bs _ _ hn2 (h2.below hW2)).mono ?_
  rintro e w3 ⟨y, rfl, hcy, hy, hb3⟩
  have hs2 : w1.heap.size ≤ w2.heap.size := t2.size
  have hs3 : w2.heap.size ≤ w3.heap.size := hb3.size
  have hW3 : Below w.heap.size w w3 := hW2.trans (hb3.mono (by omega))
  replace k0 := cellb hb3 (t2.cellAt k0 (by omega))
  replace k1 := cellb hb3 (t2.cellAt k1 (by omega))
  replace k2 := cellb hb3 (t2.cellAt k2 (by omega))
  replace k3 := cellb hb3 (t2.cellAt k3 (by omega))
  replace j0 := cellb hb3 (t2.cellAt j0 (by omega))
  replace j1 := cellb hb3 (t2.cellAt j1 (by omega))
  replace j3 := cellb hb3 (t2.cellAt j3 (by omega))
  replace J2 := cellb hb3 J2
  replace z0 : w3.frozen? ⟨w.heap.size + 1, 0, none⟩ = false := by rw [hb3.frozen (p := ⟨w.heap.size + 1, 0, none⟩) (by simp; omega)]; exact t2.frozenAt (by omega) z0
  replace z1 : w3.frozen? ⟨w.heap.size + 1, 1, none⟩ = false := by rw [hb3.frozen (p := ⟨w.heap.size + 1, 1, none⟩) (by simp; omega)]; exact t2.frozenAt (by omega) z1
  replace z2 : w3.frozen? ⟨w.heap.size + 1, 2, none⟩ = false := by rw [hb3.frozen (p := ⟨w.heap.size + 1, 2, none⟩) (by simp; omega)]; exact t2.frozenAt (by omega) z2
  replace z3 : w3.frozen? ⟨w.heap.size + 1, 3, none⟩ = false := by rw [hb3.frozen (p := ⟨w.heap.size + 1, 3, none⟩) (by simp; omega)]; exact t2.frozenAt (by omega) z3
  replace y3 : w3.frozen? ⟨w.heap.size + 2, 3, none⟩ = false := by rw [hb3.frozen (p := ⟨w.heap.size + 2, 3, none⟩) (by simp; omega)]; exact t2.frozenAt (by omega) y3
  replace hx := (hx.within (t2.within (lo := w.heap.size) (hi := w.heap.size + 3) (by omega) (by omega)) (Nat.le_refl _) (by omega)).below hb3 (by omega)
  obtain ⟨a4, c4, rfl, hy'⟩ := hy
  have hy : PairsAt w2.heap.size w3.heap.size w3 (.slice a4 bs.length c4) bs := ⟨a4, c4, rfl, hy'⟩
  clear hy' t2 hb3 hW hW2 A3 j2 y2
  have J3 : (w3.setCell ⟨w.heap.size + 2, 3, none⟩ (.slice a4 bs.length c4)).cell? ⟨w.heap.size + 2, 3, none⟩ = some (.slice a4 bs.length c4) := World.cell?_setCell_same _ _ _ j3
  have t3 : Touch (w.heap.size + 2) 3 4 w3 (w3.setCell ⟨w.heap.size + 2, 3, none⟩ (.slice a4 bs.length c4)) := (Touch.refl _ _ _ _).setCell (by omega) (by omega) _
  have HR := hide (res4 (w := w3.setCell ⟨w.heap.size + 2, 3, none⟩ (.slice a4 bs.length c4)) (r := w.heap.size + 1) (.int .i64 r) (.int .i64 wd) (.slice a3 cs.length c3) (.slice a4 bs.length c4) (t3.cellAt k0 (by omega)) (t3.cellAt k1 (by omega)) (t3.cellAt k2 (by omega)) (t3.cellAt k3 (by omega)))
  have T0 := hide t3
  clear t3
  go_wp2
  have hr := HR.out
  refine bodyPost_ret (v := .agg #[.int .i64 r, .int .i64 wd, .slice a3 cs.length c3, .slice a4 bs.length c4]) (by simp only [results, Tryz.results48]; simp [go_sem, hr.1, hr.2.1, hr.2.2.1, hr.2.2.2]) rfl ⟨_, _, rfl, hcx, hcy, ?_, ?_⟩
  · refine (GOwn.of hx hy (lo := w.heap.size + 3) (hi := w3.heap.size) (by omega) (by omega) (by omega) (by omega) (by omega)).of_blocks ?_ |>.mono (by omega) (by simp [World.setCell])
    intro i hi _
    simp only [World.setCell, Array.getElem?_modify]
    repeat rw [if_neg (by omega)]
  · exact (by repeat' (first | with_reducible exact Below.refl _ _ | with_reducible assumption | with_reducible refine Below.drew ?_ | with_reducible refine Below.alloc ?_ ?_ _ | with_reducible refine Below.setCell ?_ ?_ _ | (simp; done) | (simp; omega) | omega))


end Go.Proofs.YtdekegjplegkeaaGreat

/- toScreen of the laws, with room: what its lists may be cut to. -/
namespace Go.Proofs.YtdekegjplegkeaaGreat
set_option maxRecDepth 20000
open Go.ChangeShapes Go.WideShapes Go.ChangeAt Go.RowKit
set_option linter.unusedVariables false
set_option linter.unusedSimpArgs false
set_option maxRecDepth 20000

set_option maxHeartbeats 400000 in
theorem toBools_full (zs : List Bool) (v : Value) (w : World) (hn : zs.length ≤ 1048576) (h1 : BRead w v zs) :
    Calls Tryz.prog 49 #[v] w fun e w' => ∃ v', e = .returned v' ∧ Capped v' ∧ BoolsAt w.heap.size w'.heap.size w' v' zs ∧ Below w.heap.size w w' := by
  obtain ⟨i0, hi, hz0, hz1, hz2⟩ := info_parts info_toBools
  obtain ⟨a1, c1, rfl, h1⟩ := h1
  go_enter Tryz.func49, Tryz.ntmps49
  go_wp2_with (at_make; refine wpList_make_full _ rfl (.tmp 6) (.tmp 6) 25 rfl w.heap.size 4 i0 (.bool false) 1 Tryz.underlying25 hi hz0 hz1 .i64 .i64 _ _ zs.length rfl rfl rfl rfl ?c1 ?c2 ?c3 ?_)
  case c1 => rw [hz2]; omega
  case c2 => unfold maxLen; omega
  case c3 => exact Nat.le_refl _
  intro w1 hown hgrow
  have hany := own_any hown
  have hlt1 : w.heap.size < w1.heap.size := (hown.lt w.heap.size rfl).2
  have hb1 : Below w.heap.size w w1 := (Below.refl _ _).grown hgrow (Nat.le_refl _) (fun k hk => by cases hk)
  have HA := hide hany
  clear hown hgrow hany
  go_wp2
  go_loopw [4] (fun i wr => ∃ k : Nat, k ≤ zs.length ∧ i = .int .i64 k ∧ Below w.heap.size w wr ∧ w.heap.size < wr.heap.size ∧
      (∀ j, j < zs.length → (∃ u, wr.cell? ⟨w.heap.size, 0 + j, none⟩ = some u) ∧ wr.frozen? ⟨w.heap.size, 0 + j, none⟩ = false) ∧ ∀ j, j < k → wr.cell? ⟨w.heap.size, 0 + j, none⟩ = some (.bool (zs.getD j false))) (fun i _ => zs.length - (intOf i).toNat)
  case atStart => exact ⟨0, Nat.zero_le _, rfl, hb1, hlt1, HA.out, fun j hj => by omega⟩
  case round =>
    obtain ⟨k, hkk, rfl, hw, hsz, hf, hc⟩ := hrel
    by_cases hlt : k < zs.length
    · have hpos : zs ≠ [] := by intro h; rw [h] at hlt; simp at hlt
      rcases h1 with h1 | ⟨b1, o1, rfl, h1⟩
      · exact absurd h1 hpos
      have g0 := cellb hw (h1 k hlt)
      obtain ⟨⟨u, g1⟩, f1⟩ := hf k hlt
      have hltI : (k : Int) < (zs.length : Int) := by omega
      have HF := hide hf
      have HC := hide hc
      have G1 := hide g1
      rw [Nat.zero_add] at g1 f1
      clear hf hc h1 hpos HA hb1 hlt1
      go_wp2
      go_roundw
      case rel =>
        have e0 : (⟨w.heap.size, k, none⟩ : Addr) = ⟨w.heap.size, 0 + k, none⟩ := by rw [Nat.zero_add]
        refine ⟨k + 1, by omega, by go_num, hw.setCell (Nat.le_refl _) _, by simpa [World.setCell] using hsz, fun j hj => ⟨?_, ?_⟩, fun j hj => ?_⟩
        · by_cases e : j = k
          · subst e; rw [e0]; exact ⟨_, World.cell?_setCell_same _ _ _ G1.out⟩
          · obtain ⟨u', hu'⟩ := (HF.out j hj).1
            exact ⟨u', by rw [World.cell?_setCell_other _ _ _ _ (addr_ne (by omega))]; exact hu'⟩
        · rw [World.frozen?_setCell]; exact (HF.out j hj).2
        · by_cases e : j = k
          · subst e; rw [e0, World.cell?_setCell_same _ _ _ G1.out]; simp [hlt]
          · rw [World.cell?_setCell_other _ _ _ _ (addr_ne (by omega))]; exact HC.out j (by omega)
      case measure => simp [intOf]; omega
    · have hk' : k = zs.length := by omega
      subst hk'
      go_wp2
      go_ret
      exact ⟨_, rfl, Capped.of (Nat.le_refl _), ⟨_, _, rfl, .inr ⟨w.heap.size, 0, rfl, Nat.le_refl _, hsz, fun i hi => ⟨hc i hi, (hf i hi).2⟩⟩⟩, hw⟩
set_option maxHeartbeats 4000000 in
theorem toScreen_full (s : Scr) (v1 v2 v3 v4 : Value) (w : World) (hn1 : s.cs.length ≤ 1048576) (hn2 : s.bs.length ≤ 1048576) (hn3 : s.tabs.length ≤ 1048576) (hn4 : s.sets.length ≤ 1048576) (h : SRead w s v1 v2 v3 v4) :
    Calls Tryz.prog 10 #[.agg (scrA s v1 v2 v3 v4)] w fun e w' => ∃ u1 u2 u3 u4, e = .returned (.agg (scrA s u1 u2 u3 u4)) ∧ Capped u1 ∧ Capped u2 ∧ Capped u3 ∧ SOwn w.heap.size w'.heap.size w' u1 u2 u3 u4 s ∧ Below w.heap.size w w' := by
  have e0 := scrA_0 s v1 v2 v3 v4
  have e1 := scrA_1 s v1 v2 v3 v4
  have e2 := scrA_2 s v1 v2 v3 v4
  have e3 := scrA_3 s v1 v2 v3 v4
  have e4 := scrA_4 s v1 v2 v3 v4
  have e5 := scrA_5 s v1 v2 v3 v4
  have e6 := scrA_6 s v1 v2 v3 v4
  have e7 := scrA_7 s v1 v2 v3 v4
  have e8 := scrA_8 s v1 v2 v3 v4
  have e9 := scrA_9 s v1 v2 v3 v4
  have e10 := scrA_10 s v1 v2 v3 v4
  have e11 := scrA_11 s v1 v2 v3 v4
  have e12 := scrA_12 s v1 v2 v3 v4
  have e13 := scrA_13 s v1 v2 v3 v4
  have e14 := scrA_14 s v1 v2 v3 v4
  have e15 := scrA_15 s v1 v2 v3 v4
  have e16 := scrA_16 s v1 v2 v3 v4
  have e17 := scrA_17 s v1 v2 v3 v4
  have e18 := scrA_18 s v1 v2 v3 v4
  have e19 := scrA_19 s v1 v2 v3 v4
  have bel0 : Below w.heap.size w (((w.alloc (.cells (scrA s v1 v2 v3 v4) 28)).alloc (.cells #[.int .i64 0, .int .i64 0, .slice none 0 0, .slice none 0 0, .int .i64 0, .int .i64 0, .bool false, .int .i64 0, .int .i64 0, .int .i64 0, .bool false, .bool false, .bool false, .slice none 0 0, .int .i64 0, .int .i64 0, .int .i64 0, .slice none 0 0, .int .i64 0, .int .i64 0] 37)).alloc (.cells #[.int .i64 0, .int .i64 0, .slice none 0 0, .slice none 0 0, .int .i64 0, .int .i64 0, .bool false, .int .i64 0, .int .i64 0, .int .i64 0, .bool false, .bool false, .bool false, .slice none 0 0, .int .i64 0, .int .i64 0, .int .i64 0, .slice none 0 0, .int .i64 0, .int .i64 0] 37)) := (by repeat' (first | with_reducible exact Below.refl _ _ | with_reducible assumption | with_reducible refine Below.drew ?_ | with_reducible refine Below.alloc ?_ ?_ _ | with_reducible refine Below.setCell ?_ ?_ _ | (simp; done) | (simp; omega) | omega))
  have hA : Blk (((w.alloc (.cells (scrA s v1 v2 v3 v4) 28)).alloc (.cells #[.int .i64 0, .int .i64 0, .slice none 0 0, .slice none 0 0, .int .i64 0, .int .i64 0, .bool false, .int .i64 0, .int .i64 0, .int .i64 0, .bool false, .bool false, .bool false, .slice none 0 0, .int .i64 0, .int .i64 0, .int .i64 0, .slice none 0 0, .int .i64 0, .int .i64 0] 37)).alloc (.cells #[.int .i64 0, .int .i64 0, .slice none 0 0, .slice none 0 0, .int .i64 0, .int .i64 0, .bool false, .int .i64 0, .int .i64 0, .int .i64 0, .bool false, .bool false, .bool false, .slice none 0 0, .int .i64 0, .int .i64 0, .int .i64 0, .slice none 0 0, .int .i64 0, .int .i64 0] 37)) w.heap.size (scrA s v1 v2 v3 v4) := ((Blk.new w _ _).alloc _).alloc _
  have hR : Blk (((w.alloc (.cells (scrA s v1 v2 v3 v4) 28)).alloc (.cells #[.int .i64 0, .int .i64 0, .slice none 0 0, .slice none 0 0, .int .i64 0, .int .i64 0, .bool false, .int .i64 0, .int .i64 0, .int .i64 0, .bool false, .bool false, .bool false, .slice none 0 0, .int .i64 0, .int .i64 0, .int .i64 0, .slice none 0 0, .int .i64 0, .int .i64 0] 37)).alloc (.cells #[.int .i64 0, .int .i64 0, .slice none 0 0, .slice none 0 0, .int .i64 0, .int .i64 0, .bool false, .int .i64 0, .int .i64 0, .int .i64 0, .bool false, .bool false, .bool false, .slice none 0 0, .int .i64 0, .int .i64 0, .int .i64 0, .slice none 0 0, .int .i64 0, .int .i64 0] 37)) (w.heap.size + 1) (scrA scr0 (.slice none 0 0) (.slice none 0 0) (.slice none 0 0) (.slice none 0 0)) := Blk.alloc (Blk.new_at (by simp) _ _) _
  have hO : Blk (((w.alloc (.cells (scrA s v1 v2 v3 v4) 28)).alloc (.cells #[.int .i64 0, .int .i64 0, .slice none 0 0, .slice none 0 0, .int .i64 0, .int .i64 0, .bool false, .int .i64 0, .int .i64 0, .int .i64 0, .bool false, .bool false, .bool false, .slice none 0 0, .int .i64 0, .int .i64 0, .int .i64 0, .slice none 0 0, .int .i64 0, .int .i64 0] 37)).alloc (.cells #[.int .i64 0, .int .i64 0, .slice none 0 0, .slice none 0 0, .int .i64 0, .int .i64 0, .bool false, .int .i64 0, .int .i64 0, .int .i64 0, .bool false, .bool false, .bool false, .slice none 0 0, .int .i64 0, .int .i64 0, .int .i64 0, .slice none 0 0, .int .i64 0, .int .i64 0] 37)) (w.heap.size + 2) (scrA scr0 (.slice none 0 0) (.slice none 0 0) (.slice none 0 0) (.slice none 0 0)) := Blk.new_at (by simp) _ _
  have hs0 : (((w.alloc (.cells (scrA s v1 v2 v3 v4) 28)).alloc (.cells #[.int .i64 0, .int .i64 0, .slice none 0 0, .slice none 0 0, .int .i64 0, .int .i64 0, .bool false, .int .i64 0, .int .i64 0, .int .i64 0, .bool false, .bool false, .bool false, .slice none 0 0, .int .i64 0, .int .i64 0, .int .i64 0, .slice none 0 0, .int .i64 0, .int .i64 0] 37)).alloc (.cells #[.int .i64 0, .int .i64 0, .slice none 0 0, .slice none 0 0, .int .i64 0, .int .i64 0, .bool false, .int .i64 0, .int .i64 0, .int .i64 0, .bool false, .bool false, .bool false, .slice none 0 0, .int .i64 0, .int .i64 0, .int .i64 0, .slice none 0 0, .int .i64 0, .int .i64 0] 37)).heap.size = w.heap.size + 3 := by simp
  have cA := hA.cells
  go_enter Tryz.func10, Tryz.ntmps10
  go_wp2_with fail
  generalize (((w.alloc (.cells (scrA s v1 v2 v3 v4) 28)).alloc (.cells #[.int .i64 0, .int .i64 0, .slice none 0 0, .slice none 0 0, .int .i64 0, .int .i64 0, .bool false, .int .i64 0, .int .i64 0, .int .i64 0, .bool false, .bool false, .bool false, .slice none 0 0, .int .i64 0, .int .i64 0, .int .i64 0, .slice none 0 0, .int .i64 0, .int .i64 0] 37)).alloc (.cells #[.int .i64 0, .int .i64 0, .slice none 0 0, .slice none 0 0, .int .i64 0, .int .i64 0, .bool false, .int .i64 0, .int .i64 0, .int .i64 0, .bool false, .bool false, .bool false, .slice none 0 0, .int .i64 0, .int .i64 0, .int .i64 0, .slice none 0 0, .int .i64 0, .int .i64 0] 37)) = w1 at *
  refine (toGrid_full s.r s.wd s.cs s.bs _ _ _ hn1 hn2 (h.g1.below bel0) (h.g2.below bel0)).mono ?_
  rintro e w2 ⟨y1, y2, rfl, hk1, hk2, hG, hb⟩
  obtain ⟨x1, k1, x2, k2, rfl, rfl⟩ := hG.forms
  have HK1 := hide hk1
  have HK2 := hide hk2
  clear hk1 hk2
  replace hA := hA.belowb hb
  replace cA := hA.cells
  replace hR := hR.belowb hb
  replace hO := hO.belowb hb
  have bel := bel0.trans (hb.mono bel0.size)
  have hs2 : w1.heap.size ≤ w2.heap.size := hb.size
  clear hb bel0
  have hU := Upd.refl (w.heap.size + 2) w2
  go_wp2_with (first
    | (refine wpList_store_blk rfl _ _ _ rfl (w.heap.size + 2) 0 (scrA scr0 (.slice none 0 0) (.slice none 0 0) (.slice none 0 0) (.slice none 0 0)) (scrA ({ scr0 with r := s.r, wd := s.wd } : Scr) (.slice x1 s.cs.length k1) (.slice x2 s.bs.length k2) (.slice none 0 0) (.slice none 0 0)) (.agg #[.int .i64 s.r, .int .i64 s.wd, .slice x1 s.cs.length k1, .slice x2 s.bs.length k2]) rfl rfl hO rfl (by kernel_rfl) rfl rfl ?_; (try simp only [Act.put, List.setIfInBounds_toArray, List.set_cons_zero, List.set_cons_succ]); clear hO; intro w9 hO hu; replace hU := hU.trans hu; replace hA := hA.upd hu (by omega); replace cA := hA.cells; replace hR := hR.upd hu (by omega); clear hu)
    | (refine wpList_store_blk rfl _ _ _ rfl (w.heap.size + 2) 4 (scrA ({ scr0 with r := s.r, wd := s.wd } : Scr) (.slice x1 s.cs.length k1) (.slice x2 s.bs.length k2) (.slice none 0 0) (.slice none 0 0)) (scrA ({ scr0 with r := s.r, wd := s.wd, y := s.y } : Scr) (.slice x1 s.cs.length k1) (.slice x2 s.bs.length k2) (.slice none 0 0) (.slice none 0 0)) (.int .i64 s.y) rfl rfl hO rfl (by kernel_rfl) rfl rfl ?_; (try simp only [Act.put, List.setIfInBounds_toArray, List.set_cons_zero, List.set_cons_succ]); clear hO; intro w9 hO hu; replace hU := hU.trans hu; replace hA := hA.upd hu (by omega); replace cA := hA.cells; replace hR := hR.upd hu (by omega); clear hu)
    | (refine wpList_store_blk rfl _ _ _ rfl (w.heap.size + 2) 5 (scrA ({ scr0 with r := s.r, wd := s.wd, y := s.y } : Scr) (.slice x1 s.cs.length k1) (.slice x2 s.bs.length k2) (.slice none 0 0) (.slice none 0 0)) (scrA ({ scr0 with r := s.r, wd := s.wd, y := s.y, x := s.x } : Scr) (.slice x1 s.cs.length k1) (.slice x2 s.bs.length k2) (.slice none 0 0) (.slice none 0 0)) (.int .i64 s.x) rfl rfl hO rfl (by kernel_rfl) rfl rfl ?_; (try simp only [Act.put, List.setIfInBounds_toArray, List.set_cons_zero, List.set_cons_succ]); clear hO; intro w9 hO hu; replace hU := hU.trans hu; replace hA := hA.upd hu (by omega); replace cA := hA.cells; replace hR := hR.upd hu (by omega); clear hu)
    | (refine wpList_store_blk rfl _ _ _ rfl (w.heap.size + 2) 6 (scrA ({ scr0 with r := s.r, wd := s.wd, y := s.y, x := s.x } : Scr) (.slice x1 s.cs.length k1) (.slice x2 s.bs.length k2) (.slice none 0 0) (.slice none 0 0)) (scrA ({ scr0 with r := s.r, wd := s.wd, y := s.y, x := s.x, wrap := s.wrap } : Scr) (.slice x1 s.cs.length k1) (.slice x2 s.bs.length k2) (.slice none 0 0) (.slice none 0 0)) (.bool s.wrap) rfl rfl hO rfl (by kernel_rfl) rfl rfl ?_; (try simp only [Act.put, List.setIfInBounds_toArray, List.set_cons_zero, List.set_cons_succ]); clear hO; intro w9 hO hu; replace hU := hU.trans hu; replace hA := hA.upd hu (by omega); replace cA := hA.cells; replace hR := hR.upd hu (by omega); clear hu)
    | (refine wpList_store_blk rfl _ _ _ rfl (w.heap.size + 2) 7 (scrA ({ scr0 with r := s.r, wd := s.wd, y := s.y, x := s.x, wrap := s.wrap } : Scr) (.slice x1 s.cs.length k1) (.slice x2 s.bs.length k2) (.slice none 0 0) (.slice none 0 0)) (scrA ({ scr0 with r := s.r, wd := s.wd, y := s.y, x := s.x, wrap := s.wrap, attr := s.attr } : Scr) (.slice x1 s.cs.length k1) (.slice x2 s.bs.length k2) (.slice none 0 0) (.slice none 0 0)) (.int .i64 s.attr) rfl rfl hO rfl (by kernel_rfl) rfl rfl ?_; (try simp only [Act.put, List.setIfInBounds_toArray, List.set_cons_zero, List.set_cons_succ]); clear hO; intro w9 hO hu; replace hU := hU.trans hu; replace hA := hA.upd hu (by omega); replace cA := hA.cells; replace hR := hR.upd hu (by omega); clear hu)
    | (refine wpList_store_blk rfl _ _ _ rfl (w.heap.size + 2) 8 (scrA ({ scr0 with r := s.r, wd := s.wd, y := s.y, x := s.x, wrap := s.wrap, attr := s.attr } : Scr) (.slice x1 s.cs.length k1) (.slice x2 s.bs.length k2) (.slice none 0 0) (.slice none 0 0)) (scrA ({ scr0 with r := s.r, wd := s.wd, y := s.y, x := s.x, wrap := s.wrap, attr := s.attr, top := s.top } : Scr) (.slice x1 s.cs.length k1) (.slice x2 s.bs.length k2) (.slice none 0 0) (.slice none 0 0)) (.int .i64 s.top) rfl rfl hO rfl (by kernel_rfl) rfl rfl ?_; (try simp only [Act.put, List.setIfInBounds_toArray, List.set_cons_zero, List.set_cons_succ]); clear hO; intro w9 hO hu; replace hU := hU.trans hu; replace hA := hA.upd hu (by omega); replace cA := hA.cells; replace hR := hR.upd hu (by omega); clear hu)
    | (refine wpList_store_blk rfl _ _ _ rfl (w.heap.size + 2) 9 (scrA ({ scr0 with r := s.r, wd := s.wd, y := s.y, x := s.x, wrap := s.wrap, attr := s.attr, top := s.top } : Scr) (.slice x1 s.cs.length k1) (.slice x2 s.bs.length k2) (.slice none 0 0) (.slice none 0 0)) (scrA ({ scr0 with r := s.r, wd := s.wd, y := s.y, x := s.x, wrap := s.wrap, attr := s.attr, top := s.top, bot := s.bot } : Scr) (.slice x1 s.cs.length k1) (.slice x2 s.bs.length k2) (.slice none 0 0) (.slice none 0 0)) (.int .i64 s.bot) rfl rfl hO rfl (by kernel_rfl) rfl rfl ?_; (try simp only [Act.put, List.setIfInBounds_toArray, List.set_cons_zero, List.set_cons_succ]); clear hO; intro w9 hO hu; replace hU := hU.trans hu; replace hA := hA.upd hu (by omega); replace cA := hA.cells; replace hR := hR.upd hu (by omega); clear hu)
    | (refine wpList_store_blk rfl _ _ _ rfl (w.heap.size + 2) 10 (scrA ({ scr0 with r := s.r, wd := s.wd, y := s.y, x := s.x, wrap := s.wrap, attr := s.attr, top := s.top, bot := s.bot } : Scr) (.slice x1 s.cs.length k1) (.slice x2 s.bs.length k2) (.slice none 0 0) (.slice none 0 0)) (scrA ({ scr0 with r := s.r, wd := s.wd, y := s.y, x := s.x, wrap := s.wrap, attr := s.attr, top := s.top, bot := s.bot, org := s.org } : Scr) (.slice x1 s.cs.length k1) (.slice x2 s.bs.length k2) (.slice none 0 0) (.slice none 0 0)) (.bool s.org) rfl rfl hO rfl (by kernel_rfl) rfl rfl ?_; (try simp only [Act.put, List.setIfInBounds_toArray, List.set_cons_zero, List.set_cons_succ]); clear hO; intro w9 hO hu; replace hU := hU.trans hu; replace hA := hA.upd hu (by omega); replace cA := hA.cells; replace hR := hR.upd hu (by omega); clear hu)
    | (refine wpList_store_blk rfl _ _ _ rfl (w.heap.size + 2) 11 (scrA ({ scr0 with r := s.r, wd := s.wd, y := s.y, x := s.x, wrap := s.wrap, attr := s.attr, top := s.top, bot := s.bot, org := s.org } : Scr) (.slice x1 s.cs.length k1) (.slice x2 s.bs.length k2) (.slice none 0 0) (.slice none 0 0)) (scrA ({ scr0 with r := s.r, wd := s.wd, y := s.y, x := s.x, wrap := s.wrap, attr := s.attr, top := s.top, bot := s.bot, org := s.org, auto := s.auto } : Scr) (.slice x1 s.cs.length k1) (.slice x2 s.bs.length k2) (.slice none 0 0) (.slice none 0 0)) (.bool s.auto) rfl rfl hO rfl (by kernel_rfl) rfl rfl ?_; (try simp only [Act.put, List.setIfInBounds_toArray, List.set_cons_zero, List.set_cons_succ]); clear hO; intro w9 hO hu; replace hU := hU.trans hu; replace hA := hA.upd hu (by omega); replace cA := hA.cells; replace hR := hR.upd hu (by omega); clear hu)
    | (refine wpList_store_blk rfl _ _ _ rfl (w.heap.size + 2) 12 (scrA ({ scr0 with r := s.r, wd := s.wd, y := s.y, x := s.x, wrap := s.wrap, attr := s.attr, top := s.top, bot := s.bot, org := s.org, auto := s.auto } : Scr) (.slice x1 s.cs.length k1) (.slice x2 s.bs.length k2) (.slice none 0 0) (.slice none 0 0)) (scrA ({ scr0 with r := s.r, wd := s.wd, y := s.y, x := s.x, wrap := s.wrap, attr := s.attr, top := s.top, bot := s.bot, org := s.org, auto := s.auto, ins := s.ins } : Scr) (.slice x1 s.cs.length k1) (.slice x2 s.bs.length k2) (.slice none 0 0) (.slice none 0 0)) (.bool s.ins) rfl rfl hO rfl (by kernel_rfl) rfl rfl ?_; (try simp only [Act.put, List.setIfInBounds_toArray, List.set_cons_zero, List.set_cons_succ]); clear hO; intro w9 hO hu; replace hU := hU.trans hu; replace hA := hA.upd hu (by omega); replace cA := hA.cells; replace hR := hR.upd hu (by omega); clear hu))
  refine (toBools_full s.tabs _ _ hn3 (h.g3.below (bel.trans (hU.below (Nat.le_add_right _ _))))).mono ?_
  rintro e w3 ⟨y3, rfl, hk3, hT, hb⟩
  have HK3 := hide hk3
  clear hk3
  obtain ⟨x3, k3, hy3, hT'⟩ := hT
  subst hy3
  replace hA := hA.belowb hb
  replace cA := hA.cells
  replace hR := hR.belowb hb
  replace hO := hO.belowb hb
  have bel3 := (bel.trans (hU.below (Nat.le_add_right _ _))).trans (hb.mono (by have := hU.size; omega))
  have hs3 : w2.heap.size ≤ w3.heap.size := by have := hU.size; have := hb.size; omega
  replace hG : GOwn w1.heap.size w2.heap.size w3 _ _ s.cs s.bs := (hG.of_blocks (fun k k1 k2 => (hb.block k (by have := hU.size; omega)).trans (hU.block k (by omega))))
  have hT : BoolsAt w2.heap.size w3.heap.size w3 (.slice x3 s.tabs.length k3) s.tabs := BoolsAt.mono ⟨x3, k3, rfl, hT'⟩ (by have := hU.size; omega) (Nat.le_refl _)
  clear hb hU hT'
  have hU := Upd.refl (w.heap.size + 2) w3
  go_wp2_with (first
    | (refine wpList_store_blk rfl _ _ _ rfl (w.heap.size + 2) 13 (scrA ({ scr0 with r := s.r, wd := s.wd, y := s.y, x := s.x, wrap := s.wrap, attr := s.attr, top := s.top, bot := s.bot, org := s.org, auto := s.auto, ins := s.ins } : Scr) (.slice x1 s.cs.length k1) (.slice x2 s.bs.length k2) (.slice none 0 0) (.slice none 0 0)) (scrA ({ scr0 with r := s.r, wd := s.wd, y := s.y, x := s.x, wrap := s.wrap, attr := s.attr, top := s.top, bot := s.bot, org := s.org, auto := s.auto, ins := s.ins } : Scr) (.slice x1 s.cs.length k1) (.slice x2 s.bs.length k2) (.slice x3 s.tabs.length k3) (.slice none 0 0)) (.slice x3 s.tabs.length k3) rfl rfl hO rfl (by kernel_rfl) rfl rfl ?_; (try simp only [Act.put, List.setIfInBounds_toArray, List.set_cons_zero, List.set_cons_succ]); clear hO; intro w9 hO hu; replace hU := hU.trans hu; replace hA := hA.upd hu (by omega); replace cA := hA.cells; replace hR := hR.upd hu (by omega); clear hu)
    | (refine wpList_store_blk rfl _ _ _ rfl (w.heap.size + 2) 14 (scrA ({ scr0 with r := s.r, wd := s.wd, y := s.y, x := s.x, wrap := s.wrap, attr := s.attr, top := s.top, bot := s.bot, org := s.org, auto := s.auto, ins := s.ins } : Scr) (.slice x1 s.cs.length k1) (.slice x2 s.bs.length k2) (.slice x3 s.tabs.length k3) (.slice none 0 0)) (scrA ({ scr0 with r := s.r, wd := s.wd, y := s.y, x := s.x, wrap := s.wrap, attr := s.attr, top := s.top, bot := s.bot, org := s.org, auto := s.auto, ins := s.ins, ky := s.ky } : Scr) (.slice x1 s.cs.length k1) (.slice x2 s.bs.length k2) (.slice x3 s.tabs.length k3) (.slice none 0 0)) (.int .i64 s.ky) rfl rfl hO rfl (by kernel_rfl) rfl rfl ?_; (try simp only [Act.put, List.setIfInBounds_toArray, List.set_cons_zero, List.set_cons_succ]); clear hO; intro w9 hO hu; replace hU := hU.trans hu; replace hA := hA.upd hu (by omega); replace cA := hA.cells; replace hR := hR.upd hu (by omega); clear hu)
    | (refine wpList_store_blk rfl _ _ _ rfl (w.heap.size + 2) 15 (scrA ({ scr0 with r := s.r, wd := s.wd, y := s.y, x := s.x, wrap := s.wrap, attr := s.attr, top := s.top, bot := s.bot, org := s.org, auto := s.auto, ins := s.ins, ky := s.ky } : Scr) (.slice x1 s.cs.length k1) (.slice x2 s.bs.length k2) (.slice x3 s.tabs.length k3) (.slice none 0 0)) (scrA ({ scr0 with r := s.r, wd := s.wd, y := s.y, x := s.x, wrap := s.wrap, attr := s.attr, top := s.top, bot := s.bot, org := s.org, auto := s.auto, ins := s.ins, ky := s.ky, kx := s.kx } : Scr) (.slice x1 s.cs.length k1) (.slice x2 s.bs.length k2) (.slice x3 s.tabs.length k3) (.slice none 0 0)) (.int .i64 s.kx) rfl rfl hO rfl (by kernel_rfl) rfl rfl ?_; (try simp only [Act.put, List.setIfInBounds_toArray, List.set_cons_zero, List.set_cons_succ]); clear hO; intro w9 hO hu; replace hU := hU.trans hu; replace hA := hA.upd hu (by omega); replace cA := hA.cells; replace hR := hR.upd hu (by omega); clear hu)
    | (refine wpList_store_blk rfl _ _ _ rfl (w.heap.size + 2) 16 (scrA ({ scr0 with r := s.r, wd := s.wd, y := s.y, x := s.x, wrap := s.wrap, attr := s.attr, top := s.top, bot := s.bot, org := s.org, auto := s.auto, ins := s.ins, ky := s.ky, kx := s.kx } : Scr) (.slice x1 s.cs.length k1) (.slice x2 s.bs.length k2) (.slice x3 s.tabs.length k3) (.slice none 0 0)) (scrA ({ scr0 with r := s.r, wd := s.wd, y := s.y, x := s.x, wrap := s.wrap, attr := s.attr, top := s.top, bot := s.bot, org := s.org, auto := s.auto, ins := s.ins, ky := s.ky, kx := s.kx, ka := s.ka } : Scr) (.slice x1 s.cs.length k1) (.slice x2 s.bs.length k2) (.slice x3 s.tabs.length k3) (.slice none 0 0)) (.int .i64 s.ka) rfl rfl hO rfl (by kernel_rfl) rfl rfl ?_; (try simp only [Act.put, List.setIfInBounds_toArray, List.set_cons_zero, List.set_cons_succ]); clear hO; intro w9 hO hu; replace hU := hU.trans hu; replace hA := hA.upd hu (by omega); replace cA := hA.cells; replace hR := hR.upd hu (by omega); clear hu))
  refine (toInts_calls s.sets _ _ hn4 (h.g4.below (bel3.trans (hU.below (Nat.le_add_right _ _))))).mono ?_
  rintro e w4 ⟨y4, rfl, hI, hb⟩
  obtain ⟨x4, k4, hy4, hI'⟩ := hI
  subst hy4
  replace hA := hA.belowb hb
  replace cA := hA.cells
  replace hR := hR.belowb hb
  replace hO := hO.belowb hb
  have bel4 := (bel3.trans (hU.below (Nat.le_add_right _ _))).trans (hb.mono (by have := hU.size; omega))
  have hs4 : w3.heap.size ≤ w4.heap.size := by have := hU.size; have := hb.size; omega
  replace hG : GOwn w1.heap.size w2.heap.size w4 _ _ s.cs s.bs := (hG.of_blocks (fun k k1 k2 => (hb.block k (by have := hU.size; omega)).trans (hU.block k (by omega))))
  replace hT : BoolsAt w2.heap.size w3.heap.size w4 _ s.tabs := (hT.of_blocks (fun k k1 k2 => (hb.block k (by have := hU.size; omega)).trans (hU.block k (by omega))))
  have hI : IntsAt .i64 w3.heap.size w4.heap.size w4 (.slice x4 s.sets.length k4) s.sets := IntsAt.mono ⟨x4, k4, rfl, hI'⟩ (by have := hU.size; omega) (Nat.le_refl _)
  clear hb hU hI'
  have hU := Upd.refl (w.heap.size + 2) w4
  have hV := Upd.refl (w.heap.size + 1) w4
  clear hV
  go_wp2_with (first
    | (refine wpList_store_blk rfl _ _ _ rfl (w.heap.size + 2) 17 (scrA ({ scr0 with r := s.r, wd := s.wd, y := s.y, x := s.x, wrap := s.wrap, attr := s.attr, top := s.top, bot := s.bot, org := s.org, auto := s.auto, ins := s.ins, ky := s.ky, kx := s.kx, ka := s.ka } : Scr) (.slice x1 s.cs.length k1) (.slice x2 s.bs.length k2) (.slice x3 s.tabs.length k3) (.slice none 0 0)) (scrA ({ scr0 with r := s.r, wd := s.wd, y := s.y, x := s.x, wrap := s.wrap, attr := s.attr, top := s.top, bot := s.bot, org := s.org, auto := s.auto, ins := s.ins, ky := s.ky, kx := s.kx, ka := s.ka } : Scr) (.slice x1 s.cs.length k1) (.slice x2 s.bs.length k2) (.slice x3 s.tabs.length k3) (.slice x4 s.sets.length k4)) (.slice x4 s.sets.length k4) rfl rfl hO rfl (by kernel_rfl) rfl rfl ?_; (try simp only [Act.put, List.setIfInBounds_toArray, List.set_cons_zero, List.set_cons_succ]); clear hO; intro w9 hO hu; replace hU := hU.trans hu; replace hA := hA.upd hu (by omega); replace cA := hA.cells; replace hR := hR.upd hu (by omega); clear hu)
    | (refine wpList_store_blk rfl _ _ _ rfl (w.heap.size + 2) 18 (scrA ({ scr0 with r := s.r, wd := s.wd, y := s.y, x := s.x, wrap := s.wrap, attr := s.attr, top := s.top, bot := s.bot, org := s.org, auto := s.auto, ins := s.ins, ky := s.ky, kx := s.kx, ka := s.ka } : Scr) (.slice x1 s.cs.length k1) (.slice x2 s.bs.length k2) (.slice x3 s.tabs.length k3) (.slice x4 s.sets.length k4)) (scrA ({ scr0 with r := s.r, wd := s.wd, y := s.y, x := s.x, wrap := s.wrap, attr := s.attr, top := s.top, bot := s.bot, org := s.org, auto := s.auto, ins := s.ins, ky := s.ky, kx := s.kx, ka := s.ka, sh := s.sh } : Scr) (.slice x1 s.cs.length k1) (.slice x2 s.bs.length k2) (.slice x3 s.tabs.length k3) (.slice x4 s.sets.length k4)) (.int .i64 s.sh) rfl rfl hO rfl (by kernel_rfl) rfl rfl ?_; (try simp only [Act.put, List.setIfInBounds_toArray, List.set_cons_zero, List.set_cons_succ]); clear hO; intro w9 hO hu; replace hU := hU.trans hu; replace hA := hA.upd hu (by omega); replace cA := hA.cells; replace hR := hR.upd hu (by omega); clear hu)
    | (refine wpList_store_blk rfl _ _ _ rfl (w.heap.size + 2) 19 (scrA ({ scr0 with r := s.r, wd := s.wd, y := s.y, x := s.x, wrap := s.wrap, attr := s.attr, top := s.top, bot := s.bot, org := s.org, auto := s.auto, ins := s.ins, ky := s.ky, kx := s.kx, ka := s.ka, sh := s.sh } : Scr) (.slice x1 s.cs.length k1) (.slice x2 s.bs.length k2) (.slice x3 s.tabs.length k3) (.slice x4 s.sets.length k4)) (scrA ({ scr0 with r := s.r, wd := s.wd, y := s.y, x := s.x, wrap := s.wrap, attr := s.attr, top := s.top, bot := s.bot, org := s.org, auto := s.auto, ins := s.ins, ky := s.ky, kx := s.kx, ka := s.ka, sh := s.sh, bells := s.bells } : Scr) (.slice x1 s.cs.length k1) (.slice x2 s.bs.length k2) (.slice x3 s.tabs.length k3) (.slice x4 s.sets.length k4)) (.int .i64 s.bells) rfl rfl hO rfl (by kernel_rfl) rfl rfl ?_; (try simp only [Act.put, List.setIfInBounds_toArray, List.set_cons_zero, List.set_cons_succ]); clear hO; intro w9 hO hu; replace hU := hU.trans hu; replace hA := hA.upd hu (by omega); replace cA := hA.cells; replace hR := hR.upd hu (by omega); clear hu)
    | (refine wpList_load_at rfl 37 _ rfl (w.heap.size + 2) 0 rfl (scrA ({ scr0 with r := s.r, wd := s.wd, y := s.y, x := s.x, wrap := s.wrap, attr := s.attr, top := s.top, bot := s.bot, org := s.org, auto := s.auto, ins := s.ins, ky := s.ky, kx := s.kx, ka := s.ka, sh := s.sh, bells := s.bells } : Scr) (.slice x1 s.cs.length k1) (.slice x2 s.bs.length k2) (.slice x3 s.tabs.length k3) (.slice x4 s.sets.length k4)) (scrA s (.slice x1 s.cs.length k1) (.slice x2 s.bs.length k2) (.slice x3 s.tabs.length k3) (.slice x4 s.sets.length k4)) hO rfl _ Tryz.underlying37 rfl (by kernel_rfl) ?_; simp only [Act.put, List.setIfInBounds_toArray, List.set_cons_zero, List.set_cons_succ])
    | (refine wpList_store_blk rfl _ _ _ rfl (w.heap.size + 1) 0 (scrA scr0 (.slice none 0 0) (.slice none 0 0) (.slice none 0 0) (.slice none 0 0)) (scrA s (.slice x1 s.cs.length k1) (.slice x2 s.bs.length k2) (.slice x3 s.tabs.length k3) (.slice x4 s.sets.length k4)) (.agg (scrA s (.slice x1 s.cs.length k1) (.slice x2 s.bs.length k2) (.slice x3 s.tabs.length k3) (.slice x4 s.sets.length k4))) rfl rfl hR rfl (by kernel_rfl) rfl rfl ?_; (try simp only [Act.put, List.setIfInBounds_toArray, List.set_cons_zero, List.set_cons_succ]); clear hR hO hA cA; intro w9 hR hV))
  refine bodyPost_ret (results_blk hR _ _ rfl rfl Tryz.underlying37 rfl (by kernel_rfl)) rfl ⟨_, _, _, _, rfl, HK1.out, HK2.out, HK3.out, ?_, ?_⟩
  · have hblk : ∀ k, k ≠ w.heap.size + 2 → k ≠ w.heap.size + 1 → w9.heap[k]? = w4.heap[k]? := fun k n1 n2 => (hV.block k n2).trans (hU.block k n1)
    have hz : w9.heap.size = w4.heap.size := hV.size.trans hU.size
    refine ⟨w1.heap.size, w2.heap.size, w2.heap.size, w3.heap.size, w3.heap.size, w4.heap.size, by omega, by omega, by omega, by omega, by omega, by omega, by omega, by omega, by omega, ?_, ?_, ?_⟩
    · exact hG.of_blocks (fun k k1 k2 => hblk k (by omega) (by omega))
    · exact hT.of_blocks (fun k k1 k2 => hblk k (by omega) (by omega))
    · exact hI.of_blocks (fun k k1 k2 => hblk k (by omega) (by omega))
  · exact (bel4.trans (hU.below (Nat.le_add_right _ _))).trans (hV.below (Nat.le_add_right _ _))
end Go.Proofs.YtdekegjplegkeaaGreat

/- toVt of the laws, with room: what the lists of its screen may be cut to. -/
namespace Go.Proofs.YtdekegjplegkeaaGreat
set_option maxRecDepth 20000
open Go.ChangeShapes Go.WideShapes Go.ChangeAt Go.RowKit
set_option linter.unusedVariables false
set_option linter.unusedSimpArgs false
set_option maxRecDepth 20000

set_option maxHeartbeats 4000000 in
theorem toVt_full (t : VtS) (u v1 v2 v3 v4 : Value) (w : World) (hn0 : t.ns.length ≤ 1048576) (hn1 : t.s.cs.length ≤ 1048576) (hn2 : t.s.bs.length ≤ 1048576) (hn3 : t.s.tabs.length ≤ 1048576) (hn4 : t.s.sets.length ≤ 1048576) (h : VRead w t u v1 v2 v3 v4) :
    Calls Tryz.prog 28 #[.agg (vtA t u v1 v2 v3 v4)] w fun e w' => ∃ x y1 y2 y3 y4, e = .returned (.agg (vtA t x y1 y2 y3 y4)) ∧ Capped y1 ∧ Capped y2 ∧ Capped y3 ∧ VOwn w.heap.size w'.heap.size w' x y1 y2 y3 y4 t ∧ Below w.heap.size w w' := by
  have bel0 : Below w.heap.size w (((w.alloc (.cells (vtA t u v1 v2 v3 v4) 64)).alloc (.cells (vtA vt0 (.slice none 0 0) (.slice none 0 0) (.slice none 0 0) (.slice none 0 0) (.slice none 0 0)) 70)).alloc (.cells (vtA vt0 (.slice none 0 0) (.slice none 0 0) (.slice none 0 0) (.slice none 0 0) (.slice none 0 0)) 70)) := (by repeat' (first | with_reducible exact Below.refl _ _ | with_reducible assumption | with_reducible refine Below.drew ?_ | with_reducible refine Below.alloc ?_ ?_ _ | with_reducible refine Below.setCell ?_ ?_ _ | (simp; done) | (simp; omega) | omega))
  have B0 := ((Blk.new w (vtA t u v1 v2 v3 v4) 64).alloc (.cells (vtA vt0 (.slice none 0 0) (.slice none 0 0) (.slice none 0 0) (.slice none 0 0) (.slice none 0 0)) 70)).alloc (.cells (vtA vt0 (.slice none 0 0) (.slice none 0 0) (.slice none 0 0) (.slice none 0 0) (.slice none 0 0)) 70)
  have R0 := (Blk.new_at (w := w.alloc (.cells (vtA t u v1 v2 v3 v4) 64)) (b := w.heap.size + 1) (by simp) (vtA vt0 (.slice none 0 0) (.slice none 0 0) (.slice none 0 0) (.slice none 0 0) (.slice none 0 0)) 70).alloc (.cells (vtA vt0 (.slice none 0 0) (.slice none 0 0) (.slice none 0 0) (.slice none 0 0) (.slice none 0 0)) 70)
  have V0 := Blk.new_at (w := (w.alloc (.cells (vtA t u v1 v2 v3 v4) 64)).alloc (.cells (vtA vt0 (.slice none 0 0) (.slice none 0 0) (.slice none 0 0) (.slice none 0 0) (.slice none 0 0)) 70)) (b := w.heap.size + 1 + 1) (by simp) (vtA vt0 (.slice none 0 0) (.slice none 0 0) (.slice none 0 0) (.slice none 0 0) (.slice none 0 0)) 70
  go_enter Tryz.func28, Tryz.ntmps28
  go_wp2_with (first | fail | (refine wpList_load_at rfl 60 _ rfl (w.heap.size) 0 rfl _ (decA t) B0 (vtA_dec t u v1 v2 v3 v4) _ Tryz.underlying60 rfl (by kernel_rfl) ?_; (try simp only [Act.put, List.setIfInBounds_toArray, List.set_cons_zero, List.set_cons_succ])))
  go_at_call 67
  refine (toDecoder_calls t.l t.lo t.v _).mono ?_
  rintro e w1 ⟨rfl, hb⟩
  replace B0 := B0.belowb hb
  replace R0 := R0.belowb hb
  replace V0 := V0.belowb hb
  have bel1 : Below w.heap.size w w1 := bel0.trans (hb.mono bel0.size)
  have z1 : w.heap.size + 3 ≤ w1.heap.size := by have := hb.size; simp at this; omega
  clear hb bel0
  go_wp2_with (first | fail | (refine wpList_store_blk rfl _ _ _ rfl (w.heap.size + 1 + 1) 0 (vtA vt0 (.slice none 0 0) (.slice none 0 0) (.slice none 0 0) (.slice none 0 0) (.slice none 0 0)) (vtA { vt0 with l := t.l, lo := t.lo, v := t.v } (.slice none 0 0) (.slice none 0 0) (.slice none 0 0) (.slice none 0 0) (.slice none 0 0)) (.agg (decA t)) rfl rfl V0 rfl (by kernel_rfl) rfl rfl ?_; (try simp only [Act.put, List.setIfInBounds_toArray, List.set_cons_zero, List.set_cons_succ]); clear V0; intro w2 V0 hu; replace B0 := B0.upd hu (by omega); replace R0 := R0.upd hu (by omega); have bel2 : Below w.heap.size w w2 := bel1.trans (hu.below (by omega)); have z2 : w2.heap.size = w1.heap.size := hu.size; clear hu bel1) | (refine wpList_load_at rfl 62 _ rfl (w.heap.size) 3 rfl _ (parA t u) B0 (vtA_par t u v1 v2 v3 v4) _ Tryz.underlying62 rfl (by kernel_rfl) ?_; (try simp only [Act.put, List.setIfInBounds_toArray, List.set_cons_zero, List.set_cons_succ])))
  go_at_call 68
  refine (toParser_calls t.md t.st t.pv t.ns u _ hn0 (h.p.below bel2)).mono ?_
  rintro e w3 ⟨x, rfl, hx, hb⟩
  replace B0 := B0.belowb hb
  replace R0 := R0.belowb hb
  replace V0 := V0.belowb hb
  have bel3 : Below w.heap.size w w3 := bel2.trans (hb.mono bel2.size)
  have z3 : w2.heap.size ≤ w3.heap.size := hb.size
  have hxr := hx.read
  obtain ⟨a0, c0, rfl, _⟩ := hxr
  clear hb bel2
  go_wp2_with (first | fail | (refine wpList_store_blk rfl _ _ _ rfl (w.heap.size + 1 + 1) 3 (vtA { vt0 with l := t.l, lo := t.lo, v := t.v } (.slice none 0 0) (.slice none 0 0) (.slice none 0 0) (.slice none 0 0) (.slice none 0 0)) (vtA { t with s := scr0 } (.slice a0 t.ns.length c0) (.slice none 0 0) (.slice none 0 0) (.slice none 0 0) (.slice none 0 0)) (.agg (parA t (.slice a0 t.ns.length c0))) rfl rfl V0 rfl (by kernel_rfl) rfl rfl ?_; (try simp only [Act.put, List.setIfInBounds_toArray, List.set_cons_zero, List.set_cons_succ]); clear V0; intro w4 V0 hu; replace B0 := B0.upd hu (by omega); replace R0 := R0.upd hu (by omega); replace hx := hx.of_blocks (w' := w4) (fun q q1 q2 => hu.block q (by omega)); have bel4 : Below w.heap.size w w4 := bel3.trans (hu.below (by omega)); have z4 : w4.heap.size = w3.heap.size := hu.size; clear hu bel3) | (refine wpList_load_at rfl 28 _ rfl (w.heap.size) 7 rfl _ (scrA t.s v1 v2 v3 v4) B0 (vtA_scr t u v1 v2 v3 v4) _ Tryz.underlying28 rfl (by kernel_rfl) ?_; (try simp only [Act.put, List.setIfInBounds_toArray, List.set_cons_zero, List.set_cons_succ])))
  go_at_call 10
  refine (toScreen_full t.s v1 v2 v3 v4 _ hn1 hn2 hn3 hn4 (h.s.below bel4)).mono ?_
  rintro e w5 ⟨y1, y2, y3, y4, rfl, hk1, hk2, hk3, hy, hb⟩
  have HK1 := hide hk1
  have HK2 := hide hk2
  have HK3 := hide hk3
  clear hk1 hk2 hk3
  replace B0 := B0.belowb hb
  replace R0 := R0.belowb hb
  replace V0 := V0.belowb hb
  replace hx := hx.below hb (by omega)
  have bel5 : Below w.heap.size w w5 := bel4.trans (hb.mono bel4.size)
  have z5 : w4.heap.size ≤ w5.heap.size := hb.size
  clear hb bel4
  go_wp2_with (first | fail | (refine wpList_store_blk rfl _ _ _ rfl (w.heap.size + 1 + 1) 7 (vtA { t with s := scr0 } (.slice a0 t.ns.length c0) (.slice none 0 0) (.slice none 0 0) (.slice none 0 0) (.slice none 0 0)) (vtA t (.slice a0 t.ns.length c0) y1 y2 y3 y4) (.agg (scrA t.s y1 y2 y3 y4)) rfl rfl V0 rfl (by kernel_rfl) (scr_one' hy.read) rfl ?_; (try simp only [Act.put, List.setIfInBounds_toArray, List.set_cons_zero, List.set_cons_succ]); clear V0; intro w6 V0 hu; replace R0 := R0.upd hu (by omega); replace hx := hx.of_blocks (w' := w6) (fun q q1 q2 => hu.block q (by omega)); replace hy := hy.of_blocks (w' := w6) (fun q q1 q2 => hu.block q (by omega)); have bel6 : Below w.heap.size w w6 := bel5.trans (hu.below (by omega)); have z6 : w6.heap.size = w5.heap.size := hu.size; have VR : VRead w6 t (.slice a0 t.ns.length c0) y1 y2 y3 y4 := ⟨hx.read, hy.read⟩; clear hu bel5) | (refine wpList_load_at rfl 70 _ rfl (w.heap.size + 1 + 1) 0 rfl _ (vtA t (.slice a0 t.ns.length c0) y1 y2 y3 y4) V0 rfl _ Tryz.underlying70 rfl (by kernel_rfl) ?_; (try simp only [Act.put, List.setIfInBounds_toArray, List.set_cons_zero, List.set_cons_succ])) | (refine wpList_store_blk rfl _ _ _ rfl (w.heap.size + 1) 0 (vtA vt0 (.slice none 0 0) (.slice none 0 0) (.slice none 0 0) (.slice none 0 0) (.slice none 0 0)) (vtA t (.slice a0 t.ns.length c0) y1 y2 y3 y4) (.agg (vtA t (.slice a0 t.ns.length c0) y1 y2 y3 y4)) rfl rfl R0 rfl (by kernel_rfl) (vt_one VR) rfl ?_; (try simp only [Act.put, List.setIfInBounds_toArray, List.set_cons_zero, List.set_cons_succ]); clear R0; intro w7 R0 hu; replace hx := hx.of_blocks (w' := w7) (fun q q1 q2 => hu.block q (by omega)); replace hy := hy.of_blocks (w' := w7) (fun q q1 q2 => hu.block q (by omega)); have bel7 : Below w.heap.size w w7 := bel6.trans (hu.below (by omega)); have z7 : w7.heap.size = w6.heap.size := hu.size; clear hu bel6))
  refine bodyPost_ret (results_blk R0 _ _ rfl rfl Tryz.underlying70 rfl (by kernel_rfl)) rfl ⟨_, _, _, _, _, rfl, HK1.out, HK2.out, HK3.out, ⟨w2.heap.size, w3.heap.size, w4.heap.size, w5.heap.size, by omega, by omega, by omega, by omega, by omega, hx, hy⟩, bel7⟩
end Go.Proofs.YtdekegjplegkeaaGreat

/- A grid that came in, opened: its numbers and its two lists of cells; a cell that came in. -/
namespace Go.Proofs.YtdekegjplegkeaaGreat
set_option maxRecDepth 20000
open Go.ChangeShapes Go.WideShapes Go.ChangeAt Go.RowKit Go.Joins
set_option linter.unusedVariables false
set_option linter.unusedSimpArgs false

theorem grid_cells : Tryz.prog.cellsOf 24 = 4 := by kernel_rfl
theorem cell_cells2 : Tryz.prog.cellsOf 198 = 2 := by kernel_rfl
theorem int_cells1 : Tryz.prog.cellsOf 2 = 1 := by kernel_rfl

set_option maxRecDepth 100000 in
theorem open_cells {H : Type} {enc : TypeId × Value → H} {W : World} {m0 : Nat} {x : Value} {d : DataW H} {p : List MemPlace}
    (h : DataW.trod enc Tryz.prog W 0 (fun _ => true) true m0 22 [x] = some (d, p)) : ∃ ps : List (Int × Int), PRead W x ps ∧ ps.length ≤ maxLen := by
  rcases Go.Deep.open_slice_pairs Tryz.underlying22 Tryz.underlying198 cell_cells2 rfl rfl int_cells1 int_cells1 h with ⟨e1, _⟩ | ⟨a, len, cap, mm, n, V0, V1, D0, D1, P0, P1, e1, _, hl, hm, hmm, _, hc⟩
  · simp at e1
    subst e1
    exact ⟨[], PRead.nil _ _ _, by simp⟩
  · simp at e1
    subst e1
    have hlm : len ≤ mm := by rw [hmm]; split <;> omega
    have each : ∀ i, i < len → ∃ q : Int × Int, V0 i = .int .i64 q.1 ∧ V1 i = .int .i64 q.2 := by
      intro i hi
      obtain ⟨_, _, t0, t1⟩ := hc i (by omega)
      obtain ⟨x, ex, _, _⟩ := DataW.trod_int Tryz.underlying2 t0
      obtain ⟨y, ey, _, _⟩ := DataW.trod_int Tryz.underlying2 t1
      simp at ex ey
      exact ⟨(x, y), ex, ey⟩
    obtain ⟨q, hq⟩ := Go.Deep.choose_lt each
    have hlen : ((List.range len).map q).length = len := by simp
    refine ⟨(List.range len).map q, ⟨_, _, by rw [hlen], ?_⟩, by omega⟩
    by_cases h0 : len = 0
    · left; subst h0; rfl
    · right
      obtain ⟨b, off, spot⟩ := a
      have hc0 := (hc 0 (by omega)).1
      have hspot : spot = none := by simpa [Addr.add] using World.cell?_spot hc0
      subst hspot
      refine ⟨b, off, rfl, fun i hi => ?_⟩
      rw [hlen] at hi
      have hg : ((List.range len).map q).getD i (0, 0) = q i := by simp [List.getD_eq_getElem?_getD, hi]
      obtain ⟨g0, g1, _, _⟩ := hc i (by omega)
      rw [hg, ← (hq i hi).1, ← (hq i hi).2]
      refine ⟨?_, ?_⟩
      · rw [show ((⟨b, off, none⟩ : Addr).add (i * 2)) = ⟨b, off + i * 2, none⟩ from by simp [Addr.add]] at g0; exact g0
      · rw [show ((⟨b, off, none⟩ : Addr).add (i * 2 + 1)) = ⟨b, off + i * 2 + 1, none⟩ from by simp [Addr.add]; omega] at g1; exact g1

set_option maxRecDepth 100000 in
theorem open_grid {H : Type} {enc : TypeId × Value → H} {W : World} {base : Nat} {v : Value} {d : DataW H} {p : List MemPlace}
    (hv : Value.okWide Tryz.prog W .any base 24 v) (h : DataW.Trod enc Tryz.prog W 0 (fun _ => true) true 24 v d p) :
    ∃ (r wd : Int) (x y : Value) (cs bs : List (Int × Int)), v = .agg #[.int .i64 r, .int .i64 wd, x, y] ∧ PRead W x cs ∧ PRead W y bs ∧ cs.length ≤ maxLen ∧ bs.length ≤ maxLen := by
  obtain ⟨v0, v1, v2, v3, y0, y1, y2, y3, m, rfl, _, _, hy0, hy1, hy2, hy3⟩ := open_agg4 Tryz.underlying24 (by kernel_rfl) grid_cells hv h
  obtain ⟨r, e0, _, _⟩ := DataW.trod_int Tryz.underlying2 hy0
  simp at e0
  subst e0
  obtain ⟨wd, e1, _, _⟩ := DataW.trod_int Tryz.underlying2 hy1
  simp at e1
  subst e1
  obtain ⟨cs, h2, h2'⟩ := open_cells hy2
  obtain ⟨bs, h3, h3'⟩ := open_cells hy3
  exact ⟨r, wd, _, _, cs, bs, rfl, h2, h3, h2', h3'⟩

set_option maxRecDepth 100000 in
theorem open_cell {H : Type} {enc : TypeId × Value → H} {W : World} {base : Nat} {v : Value} {d : DataW H} {p : List MemPlace}
    (hv : Value.okWide Tryz.prog W .any base 198 v) (h : DataW.Trod enc Tryz.prog W 0 (fun _ => true) true 198 v d p) :
    ∃ (c g : Int), v = .agg #[.int .i64 c, .int .i64 g] := by
  obtain ⟨v0, v1, y0, y1, m, rfl, _, _, hy0, hy1⟩ := open_agg2 Tryz.underlying198 (by kernel_rfl) cell_cells2 hv h
  obtain ⟨c, e0, _, _⟩ := DataW.trod_int Tryz.underlying2 hy0
  obtain ⟨g, e1, _, _⟩ := DataW.trod_int Tryz.underlying2 hy1
  simp at e0 e1
  subst e0
  subst e1
  exact ⟨c, g, rfl⟩

end Go.Proofs.YtdekegjplegkeaaGreat

/- A screen that came in, opened: its numbers and its lists. -/
namespace Go.Proofs.YtdekegjplegkeaaGreat
set_option maxRecDepth 20000
open Go.ChangeShapes Go.WideShapes Go.ChangeAt Go.RowKit Go.Joins Go.Deep
set_option linter.unusedVariables false
set_option linter.unusedSimpArgs false

theorem scr_int1 : Tryz.prog.cellsOf 2 = 1 := by kernel_rfl
theorem scr_bool1 : Tryz.prog.cellsOf 4 = 1 := by kernel_rfl
theorem scr_cells20 : Tryz.prog.cellsOf 28 = 20 := by kernel_rfl
theorem scr_grid4 : Tryz.prog.cellsOf 24 = 4 := by kernel_rfl
theorem scr_sl1 : Tryz.prog.cellsOf 25 = 1 := by kernel_rfl
theorem scr_sl2 : Tryz.prog.cellsOf 26 = 1 := by kernel_rfl
theorem array20 {α : Type} {cs : Array α} (h : cs.size = 20) : ∃ c0 c1 c2 c3 c4 c5 c6 c7 c8 c9 c10 c11 c12 c13 c14 c15 c16 c17 c18 c19, cs = #[c0, c1, c2, c3, c4, c5, c6, c7, c8, c9, c10, c11, c12, c13, c14, c15, c16, c17, c18, c19] := by
  obtain ⟨l⟩ := cs
  match l, h with
  | [c0, c1, c2, c3, c4, c5, c6, c7, c8, c9, c10, c11, c12, c13, c14, c15, c16, c17, c18, c19], _ => exact ⟨c0, c1, c2, c3, c4, c5, c6, c7, c8, c9, c10, c11, c12, c13, c14, c15, c16, c17, c18, c19, rfl⟩

theorem scr_ints {H : Type} {enc : TypeId × Value → H} {W : World} {m0 : Nat} {x : Value} {y : DataW H × List MemPlace}
    (h : DataW.trod enc Tryz.prog W 0 (fun _ => true) true m0 26 [x] = some y) : ∃ ns : List Int, ReadAt .i64 W x ns ∧ ns.length ≤ maxLen := by
  rcases open_ints Tryz.underlying26 Tryz.underlying2 scr_int1 h with ⟨hcs, _⟩ | ⟨a, l, c, zs, hcs, _, hl, hm, hz, _, hcell, hwz⟩
  · simp at hcs
    subst hcs
    exact ⟨[], ReadAt.nil _ _ _ _, by simp⟩
  · simp at hcs
    subst hcs
    exact read_take (by simpa using hz) hl hm hcell
theorem scr_bools {H : Type} {enc : TypeId × Value → H} {W : World} {m0 : Nat} {x : Value} {y : DataW H × List MemPlace}
    (h : DataW.trod enc Tryz.prog W 0 (fun _ => true) true m0 25 [x] = some y) : ∃ ns : List Bool, BRead W x ns ∧ ns.length ≤ maxLen := by
  rcases open_bools Tryz.underlying25 Tryz.underlying4 scr_bool1 h with ⟨hcs, _⟩ | ⟨a, l, c, B, hcs, _, hl, hm, _, hcell⟩
  · simp at hcs
    subst hcs
    exact ⟨[], BRead.nil _ _ _, by simp⟩
  · simp at hcs
    subst hcs
    have hz : ((List.range c).map B).length = c := by simp
    refine bread_take (zs := (List.range c).map B) hz hl hm (fun i hi => ?_)
    rw [hz] at hi
    rw [hcell i hi]
    simp [List.getD_eq_getElem?_getD, hi]

set_option maxRecDepth 100000 in
set_option maxHeartbeats 2000000 in
theorem open_screen {H : Type} {enc : TypeId × Value → H} {W : World} {base : Nat} {v : Value} {d : DataW H} {p : List MemPlace}
    (hv : Value.okWide Tryz.prog W .any base 28 v) (h : DataW.Trod enc Tryz.prog W 0 (fun _ => true) true 28 v d p) :
    ∃ (s : Scr) (v1 v2 v3 v4 : Value), v = .agg (scrA s v1 v2 v3 v4) ∧ SRead W s v1 v2 v3 v4 ∧ s.cs.length ≤ maxLen ∧ s.bs.length ≤ maxLen ∧ s.tabs.length ≤ maxLen ∧ s.sets.length ≤ maxLen := by
  obtain ⟨cs, rfl, hsz⟩ := okWide_struct Tryz.underlying28 hv
  obtain ⟨c0, c1, c2, c3, c4, c5, c6, c7, c8, c9, c10, c11, c12, c13, c14, c15, c16, c17, c18, c19, rfl⟩ := array20 (hsz.trans scr_cells20)
  obtain ⟨fuel, hf⟩ := h
  obtain ⟨xs, n, _, _, hl, hlen, hf⟩ := DataW.trod_struct Tryz.underlying28 hf
  have hlen' : xs.length = 17 := hlen
  have f0 : DataW.trod enc Tryz.prog W 0 (fun _ => true) true n 24 [c0, c1, c2, c3] = some (xs[0]'(by omega)) := by
    have g : DataW.trod enc Tryz.prog W 0 (fun _ => true) true n 24 ((([c0, c1, c2, c3, c4, c5, c6, c7, c8, c9, c10, c11, c12, c13, c14, c15, c16, c17, c18, c19] : List Value).drop 0).take (Tryz.prog.cellsOf 24)) = xs[0]? := hf 0 _ rfl
    rw [scr_grid4, List.getElem?_eq_getElem (by omega)] at g
    exact g
  have f1 : DataW.trod enc Tryz.prog W 0 (fun _ => true) true n 2 [c4] = some (xs[1]'(by omega)) := by
    have g : DataW.trod enc Tryz.prog W 0 (fun _ => true) true n 2 ((([c0, c1, c2, c3, c4, c5, c6, c7, c8, c9, c10, c11, c12, c13, c14, c15, c16, c17, c18, c19] : List Value).drop 4).take (Tryz.prog.cellsOf 2)) = xs[1]? := hf 1 _ rfl
    rw [scr_int1, List.getElem?_eq_getElem (by omega)] at g
    exact g
  have f2 : DataW.trod enc Tryz.prog W 0 (fun _ => true) true n 2 [c5] = some (xs[2]'(by omega)) := by
    have g : DataW.trod enc Tryz.prog W 0 (fun _ => true) true n 2 ((([c0, c1, c2, c3, c4, c5, c6, c7, c8, c9, c10, c11, c12, c13, c14, c15, c16, c17, c18, c19] : List Value).drop 5).take (Tryz.prog.cellsOf 2)) = xs[2]? := hf 2 _ rfl
    rw [scr_int1, List.getElem?_eq_getElem (by omega)] at g
    exact g
  have f3 : DataW.trod enc Tryz.prog W 0 (fun _ => true) true n 4 [c6] = some (xs[3]'(by omega)) := by
    have g : DataW.trod enc Tryz.prog W 0 (fun _ => true) true n 4 ((([c0, c1, c2, c3, c4, c5, c6, c7, c8, c9, c10, c11, c12, c13, c14, c15, c16, c17, c18, c19] : List Value).drop 6).take (Tryz.prog.cellsOf 4)) = xs[3]? := hf 3 _ rfl
    rw [scr_bool1, List.getElem?_eq_getElem (by omega)] at g
    exact g
  have f4 : DataW.trod enc Tryz.prog W 0 (fun _ => true) true n 2 [c7] = some (xs[4]'(by omega)) := by
    have g : DataW.trod enc Tryz.prog W 0 (fun _ => true) true n 2 ((([c0, c1, c2, c3, c4, c5, c6, c7, c8, c9, c10, c11, c12, c13, c14, c15, c16, c17, c18, c19] : List Value).drop 7).take (Tryz.prog.cellsOf 2)) = xs[4]? := hf 4 _ rfl
    rw [scr_int1, List.getElem?_eq_getElem (by omega)] at g
    exact g
  have f5 : DataW.trod enc Tryz.prog W 0 (fun _ => true) true n 2 [c8] = some (xs[5]'(by omega)) := by
    have g : DataW.trod enc Tryz.prog W 0 (fun _ => true) true n 2 ((([c0, c1, c2, c3, c4, c5, c6, c7, c8, c9, c10, c11, c12, c13, c14, c15, c16, c17, c18, c19] : List Value).drop 8).take (Tryz.prog.cellsOf 2)) = xs[5]? := hf 5 _ rfl
    rw [scr_int1, List.getElem?_eq_getElem (by omega)] at g
    exact g
  have f6 : DataW.trod enc Tryz.prog W 0 (fun _ => true) true n 2 [c9] = some (xs[6]'(by omega)) := by
    have g : DataW.trod enc Tryz.prog W 0 (fun _ => true) true n 2 ((([c0, c1, c2, c3, c4, c5, c6, c7, c8, c9, c10, c11, c12, c13, c14, c15, c16, c17, c18, c19] : List Value).drop 9).take (Tryz.prog.cellsOf 2)) = xs[6]? := hf 6 _ rfl
    rw [scr_int1, List.getElem?_eq_getElem (by omega)] at g
    exact g
  have f7 : DataW.trod enc Tryz.prog W 0 (fun _ => true) true n 4 [c10] = some (xs[7]'(by omega)) := by
    have g : DataW.trod enc Tryz.prog W 0 (fun _ => true) true n 4 ((([c0, c1, c2, c3, c4, c5, c6, c7, c8, c9, c10, c11, c12, c13, c14, c15, c16, c17, c18, c19] : List Value).drop 10).take (Tryz.prog.cellsOf 4)) = xs[7]? := hf 7 _ rfl
    rw [scr_bool1, List.getElem?_eq_getElem (by omega)] at g
    exact g
  have f8 : DataW.trod enc Tryz.prog W 0 (fun _ => true) true n 4 [c11] = some (xs[8]'(by omega)) := by
    have g : DataW.trod enc Tryz.prog W 0 (fun _ => true) true n 4 ((([c0, c1, c2, c3, c4, c5, c6, c7, c8, c9, c10, c11, c12, c13, c14, c15, c16, c17, c18, c19] : List Value).drop 11).take (Tryz.prog.cellsOf 4)) = xs[8]? := hf 8 _ rfl
    rw [scr_bool1, List.getElem?_eq_getElem (by omega)] at g
    exact g
  have f9 : DataW.trod enc Tryz.prog W 0 (fun _ => true) true n 4 [c12] = some (xs[9]'(by omega)) := by
    have g : DataW.trod enc Tryz.prog W 0 (fun _ => true) true n 4 ((([c0, c1, c2, c3, c4, c5, c6, c7, c8, c9, c10, c11, c12, c13, c14, c15, c16, c17, c18, c19] : List Value).drop 12).take (Tryz.prog.cellsOf 4)) = xs[9]? := hf 9 _ rfl
    rw [scr_bool1, List.getElem?_eq_getElem (by omega)] at g
    exact g
  have f10 : DataW.trod enc Tryz.prog W 0 (fun _ => true) true n 25 [c13] = some (xs[10]'(by omega)) := by
    have g : DataW.trod enc Tryz.prog W 0 (fun _ => true) true n 25 ((([c0, c1, c2, c3, c4, c5, c6, c7, c8, c9, c10, c11, c12, c13, c14, c15, c16, c17, c18, c19] : List Value).drop 13).take (Tryz.prog.cellsOf 25)) = xs[10]? := hf 10 _ rfl
    rw [scr_sl1, List.getElem?_eq_getElem (by omega)] at g
    exact g
  have f11 : DataW.trod enc Tryz.prog W 0 (fun _ => true) true n 2 [c14] = some (xs[11]'(by omega)) := by
    have g : DataW.trod enc Tryz.prog W 0 (fun _ => true) true n 2 ((([c0, c1, c2, c3, c4, c5, c6, c7, c8, c9, c10, c11, c12, c13, c14, c15, c16, c17, c18, c19] : List Value).drop 14).take (Tryz.prog.cellsOf 2)) = xs[11]? := hf 11 _ rfl
    rw [scr_int1, List.getElem?_eq_getElem (by omega)] at g
    exact g
  have f12 : DataW.trod enc Tryz.prog W 0 (fun _ => true) true n 2 [c15] = some (xs[12]'(by omega)) := by
    have g : DataW.trod enc Tryz.prog W 0 (fun _ => true) true n 2 ((([c0, c1, c2, c3, c4, c5, c6, c7, c8, c9, c10, c11, c12, c13, c14, c15, c16, c17, c18, c19] : List Value).drop 15).take (Tryz.prog.cellsOf 2)) = xs[12]? := hf 12 _ rfl
    rw [scr_int1, List.getElem?_eq_getElem (by omega)] at g
    exact g
  have f13 : DataW.trod enc Tryz.prog W 0 (fun _ => true) true n 2 [c16] = some (xs[13]'(by omega)) := by
    have g : DataW.trod enc Tryz.prog W 0 (fun _ => true) true n 2 ((([c0, c1, c2, c3, c4, c5, c6, c7, c8, c9, c10, c11, c12, c13, c14, c15, c16, c17, c18, c19] : List Value).drop 16).take (Tryz.prog.cellsOf 2)) = xs[13]? := hf 13 _ rfl
    rw [scr_int1, List.getElem?_eq_getElem (by omega)] at g
    exact g
  have f14 : DataW.trod enc Tryz.prog W 0 (fun _ => true) true n 26 [c17] = some (xs[14]'(by omega)) := by
    have g : DataW.trod enc Tryz.prog W 0 (fun _ => true) true n 26 ((([c0, c1, c2, c3, c4, c5, c6, c7, c8, c9, c10, c11, c12, c13, c14, c15, c16, c17, c18, c19] : List Value).drop 17).take (Tryz.prog.cellsOf 26)) = xs[14]? := hf 14 _ rfl
    rw [scr_sl2, List.getElem?_eq_getElem (by omega)] at g
    exact g
  have f15 : DataW.trod enc Tryz.prog W 0 (fun _ => true) true n 2 [c18] = some (xs[15]'(by omega)) := by
    have g : DataW.trod enc Tryz.prog W 0 (fun _ => true) true n 2 ((([c0, c1, c2, c3, c4, c5, c6, c7, c8, c9, c10, c11, c12, c13, c14, c15, c16, c17, c18, c19] : List Value).drop 18).take (Tryz.prog.cellsOf 2)) = xs[15]? := hf 15 _ rfl
    rw [scr_int1, List.getElem?_eq_getElem (by omega)] at g
    exact g
  have f16 : DataW.trod enc Tryz.prog W 0 (fun _ => true) true n 2 [c19] = some (xs[16]'(by omega)) := by
    have g : DataW.trod enc Tryz.prog W 0 (fun _ => true) true n 2 ((([c0, c1, c2, c3, c4, c5, c6, c7, c8, c9, c10, c11, c12, c13, c14, c15, c16, c17, c18, c19] : List Value).drop 19).take (Tryz.prog.cellsOf 2)) = xs[16]? := hf 16 _ rfl
    rw [scr_int1, List.getElem?_eq_getElem (by omega)] at g
    exact g
  clear hf
  have f0' : ∃ (r wd : Int) (cs bs : List (Int × Int)), c0 = .int .i64 r ∧ c1 = .int .i64 wd ∧ PRead W c2 cs ∧ PRead W c3 bs ∧ cs.length ≤ maxLen ∧ bs.length ≤ maxLen := by
    obtain ⟨y0, y1, y2, y3, m, _, _, g0, g1, g2, g3⟩ := trod_struct4 Tryz.underlying24 f0
    rw [int_cells1] at g0 g1
    obtain ⟨r, e0, _, _⟩ := DataW.trod_int Tryz.underlying2 g0
    obtain ⟨wd, e1, _, _⟩ := DataW.trod_int Tryz.underlying2 g1
    simp at e0 e1
    subst e0 e1
    rw [show Tryz.prog.cellsOf 22 = 1 from by kernel_rfl] at g2 g3
    obtain ⟨cs, q2, q2'⟩ := open_cells g2
    obtain ⟨bs, q3, q3'⟩ := open_cells g3
    exact ⟨r, wd, cs, bs, rfl, rfl, q2, q3, q2', q3'⟩
  obtain ⟨r, wd, cs, bs, rfl, rfl, h1, h2, h1', h2'⟩ := f0'
  obtain ⟨z4, e4, _, _⟩ := DataW.trod_int Tryz.underlying2 f1
  simp at e4
  subst e4
  obtain ⟨z5, e5, _, _⟩ := DataW.trod_int Tryz.underlying2 f2
  simp at e5
  subst e5
  obtain ⟨z6, e6, _⟩ := DataW.trod_bool Tryz.underlying4 f3
  simp at e6
  subst e6
  obtain ⟨z7, e7, _, _⟩ := DataW.trod_int Tryz.underlying2 f4
  simp at e7
  subst e7
  obtain ⟨z8, e8, _, _⟩ := DataW.trod_int Tryz.underlying2 f5
  simp at e8
  subst e8
  obtain ⟨z9, e9, _, _⟩ := DataW.trod_int Tryz.underlying2 f6
  simp at e9
  subst e9
  obtain ⟨z10, e10, _⟩ := DataW.trod_bool Tryz.underlying4 f7
  simp at e10
  subst e10
  obtain ⟨z11, e11, _⟩ := DataW.trod_bool Tryz.underlying4 f8
  simp at e11
  subst e11
  obtain ⟨z12, e12, _⟩ := DataW.trod_bool Tryz.underlying4 f9
  simp at e12
  subst e12
  obtain ⟨tabs, h3, h3'⟩ := scr_bools f10
  obtain ⟨z14, e14, _, _⟩ := DataW.trod_int Tryz.underlying2 f11
  simp at e14
  subst e14
  obtain ⟨z15, e15, _, _⟩ := DataW.trod_int Tryz.underlying2 f12
  simp at e15
  subst e15
  obtain ⟨z16, e16, _, _⟩ := DataW.trod_int Tryz.underlying2 f13
  simp at e16
  subst e16
  obtain ⟨sets, h4, h4'⟩ := scr_ints f14
  obtain ⟨z18, e18, _, _⟩ := DataW.trod_int Tryz.underlying2 f15
  simp at e18
  subst e18
  obtain ⟨z19, e19, _, _⟩ := DataW.trod_int Tryz.underlying2 f16
  simp at e19
  subst e19
  exact ⟨{ r := r, wd := wd, cs := cs, bs := bs, tabs := tabs, sets := sets, y := z4, x := z5, wrap := z6, attr := z7, top := z8, bot := z9, org := z10, auto := z11, ins := z12, ky := z14, kx := z15, ka := z16, sh := z18, bells := z19 }, c2, c3, c13, c17, rfl, ⟨h1, h2, h3, h4⟩, h1', h2', h3', h4'⟩

end Go.Proofs.YtdekegjplegkeaaGreat

/- A terminal that came in, opened: its numbers and its lists. -/
namespace Go.Proofs.YtdekegjplegkeaaGreat
set_option maxRecDepth 20000
open Go.ChangeShapes Go.WideShapes Go.ChangeAt Go.RowKit Go.Joins Go.Deep
set_option linter.unusedVariables false
set_option linter.unusedSimpArgs false

theorem vt_cells27 : Tryz.prog.cellsOf 64 = 27 := by kernel_rfl
theorem vt_dec3 : Tryz.prog.cellsOf 60 = 3 := by kernel_rfl
theorem vt_par4 : Tryz.prog.cellsOf 62 = 4 := by kernel_rfl
set_option maxRecDepth 100000 in
set_option maxHeartbeats 2000000 in
theorem screen_core {H : Type} {enc : TypeId × Value → H} {W : World} {fuel : Nat} {c0 c1 c2 c3 c4 c5 c6 c7 c8 c9 c10 c11 c12 c13 c14 c15 c16 c17 c18 c19 : Value} {z : DataW H × List MemPlace}
    (hf : DataW.trod enc Tryz.prog W 0 (fun _ => true) true fuel 28 [c0, c1, c2, c3, c4, c5, c6, c7, c8, c9, c10, c11, c12, c13, c14, c15, c16, c17, c18, c19] = some z) :
    ∃ (s : Scr) (v1 v2 v3 v4 : Value), [c0, c1, c2, c3, c4, c5, c6, c7, c8, c9, c10, c11, c12, c13, c14, c15, c16, c17, c18, c19] = (scrA s v1 v2 v3 v4).toList ∧ SRead W s v1 v2 v3 v4 ∧ s.cs.length ≤ maxLen ∧ s.bs.length ≤ maxLen ∧ s.tabs.length ≤ maxLen ∧ s.sets.length ≤ maxLen := by
  obtain ⟨xs, n, _, _, hl, hlen, hf⟩ := DataW.trod_struct Tryz.underlying28 hf
  have hlen' : xs.length = 17 := hlen
  have f0 : DataW.trod enc Tryz.prog W 0 (fun _ => true) true n 24 [c0, c1, c2, c3] = some (xs[0]'(by omega)) := by
    have g : DataW.trod enc Tryz.prog W 0 (fun _ => true) true n 24 ((([c0, c1, c2, c3, c4, c5, c6, c7, c8, c9, c10, c11, c12, c13, c14, c15, c16, c17, c18, c19] : List Value).drop 0).take (Tryz.prog.cellsOf 24)) = xs[0]? := hf 0 _ rfl
    rw [scr_grid4, List.getElem?_eq_getElem (by omega)] at g
    exact g
  have f1 : DataW.trod enc Tryz.prog W 0 (fun _ => true) true n 2 [c4] = some (xs[1]'(by omega)) := by
    have g : DataW.trod enc Tryz.prog W 0 (fun _ => true) true n 2 ((([c0, c1, c2, c3, c4, c5, c6, c7, c8, c9, c10, c11, c12, c13, c14, c15, c16, c17, c18, c19] : List Value).drop 4).take (Tryz.prog.cellsOf 2)) = xs[1]? := hf 1 _ rfl
    rw [scr_int1, List.getElem?_eq_getElem (by omega)] at g
    exact g
  have f2 : DataW.trod enc Tryz.prog W 0 (fun _ => true) true n 2 [c5] = some (xs[2]'(by omega)) := by
    have g : DataW.trod enc Tryz.prog W 0 (fun _ => true) true n 2 ((([c0, c1, c2, c3, c4, c5, c6, c7, c8, c9, c10, c11, c12, c13, c14, c15, c16, c17, c18, c19] : List Value).drop 5).take (Tryz.prog.cellsOf 2)) = xs[2]? := hf 2 _ rfl
    rw [scr_int1, List.getElem?_eq_getElem (by omega)] at g
    exact g
  have f3 : DataW.trod enc Tryz.prog W 0 (fun _ => true) true n 4 [c6] = some (xs[3]'(by omega)) := by
    have g : DataW.trod enc Tryz.prog W 0 (fun _ => true) true n 4 ((([c0, c1, c2, c3, c4, c5, c6, c7, c8, c9, c10, c11, c12, c13, c14, c15, c16, c17, c18, c19] : List Value).drop 6).take (Tryz.prog.cellsOf 4)) = xs[3]? := hf 3 _ rfl
    rw [scr_bool1, List.getElem?_eq_getElem (by omega)] at g
    exact g
  have f4 : DataW.trod enc Tryz.prog W 0 (fun _ => true) true n 2 [c7] = some (xs[4]'(by omega)) := by
    have g : DataW.trod enc Tryz.prog W 0 (fun _ => true) true n 2 ((([c0, c1, c2, c3, c4, c5, c6, c7, c8, c9, c10, c11, c12, c13, c14, c15, c16, c17, c18, c19] : List Value).drop 7).take (Tryz.prog.cellsOf 2)) = xs[4]? := hf 4 _ rfl
    rw [scr_int1, List.getElem?_eq_getElem (by omega)] at g
    exact g
  have f5 : DataW.trod enc Tryz.prog W 0 (fun _ => true) true n 2 [c8] = some (xs[5]'(by omega)) := by
    have g : DataW.trod enc Tryz.prog W 0 (fun _ => true) true n 2 ((([c0, c1, c2, c3, c4, c5, c6, c7, c8, c9, c10, c11, c12, c13, c14, c15, c16, c17, c18, c19] : List Value).drop 8).take (Tryz.prog.cellsOf 2)) = xs[5]? := hf 5 _ rfl
    rw [scr_int1, List.getElem?_eq_getElem (by omega)] at g
    exact g
  have f6 : DataW.trod enc Tryz.prog W 0 (fun _ => true) true n 2 [c9] = some (xs[6]'(by omega)) := by
    have g : DataW.trod enc Tryz.prog W 0 (fun _ => true) true n 2 ((([c0, c1, c2, c3, c4, c5, c6, c7, c8, c9, c10, c11, c12, c13, c14, c15, c16, c17, c18, c19] : List Value).drop 9).take (Tryz.prog.cellsOf 2)) = xs[6]? := hf 6 _ rfl
    rw [scr_int1, List.getElem?_eq_getElem (by omega)] at g
    exact g
  have f7 : DataW.trod enc Tryz.prog W 0 (fun _ => true) true n 4 [c10] = some (xs[7]'(by omega)) := by
    have g : DataW.trod enc Tryz.prog W 0 (fun _ => true) true n 4 ((([c0, c1, c2, c3, c4, c5, c6, c7, c8, c9, c10, c11, c12, c13, c14, c15, c16, c17, c18, c19] : List Value).drop 10).take (Tryz.prog.cellsOf 4)) = xs[7]? := hf 7 _ rfl
    rw [scr_bool1, List.getElem?_eq_getElem (by omega)] at g
    exact g
  have f8 : DataW.trod enc Tryz.prog W 0 (fun _ => true) true n 4 [c11] = some (xs[8]'(by omega)) := by
    have g : DataW.trod enc Tryz.prog W 0 (fun _ => true) true n 4 ((([c0, c1, c2, c3, c4, c5, c6, c7, c8, c9, c10, c11, c12, c13, c14, c15, c16, c17, c18, c19] : List Value).drop 11).take (Tryz.prog.cellsOf 4)) = xs[8]? := hf 8 _ rfl
    rw [scr_bool1, List.getElem?_eq_getElem (by omega)] at g
    exact g
  have f9 : DataW.trod enc Tryz.prog W 0 (fun _ => true) true n 4 [c12] = some (xs[9]'(by omega)) := by
    have g : DataW.trod enc Tryz.prog W 0 (fun _ => true) true n 4 ((([c0, c1, c2, c3, c4, c5, c6, c7, c8, c9, c10, c11, c12, c13, c14, c15, c16, c17, c18, c19] : List Value).drop 12).take (Tryz.prog.cellsOf 4)) = xs[9]? := hf 9 _ rfl
    rw [scr_bool1, List.getElem?_eq_getElem (by omega)] at g
    exact g
  have f10 : DataW.trod enc Tryz.prog W 0 (fun _ => true) true n 25 [c13] = some (xs[10]'(by omega)) := by
    have g : DataW.trod enc Tryz.prog W 0 (fun _ => true) true n 25 ((([c0, c1, c2, c3, c4, c5, c6, c7, c8, c9, c10, c11, c12, c13, c14, c15, c16, c17, c18, c19] : List Value).drop 13).take (Tryz.prog.cellsOf 25)) = xs[10]? := hf 10 _ rfl
    rw [scr_sl1, List.getElem?_eq_getElem (by omega)] at g
    exact g
  have f11 : DataW.trod enc Tryz.prog W 0 (fun _ => true) true n 2 [c14] = some (xs[11]'(by omega)) := by
    have g : DataW.trod enc Tryz.prog W 0 (fun _ => true) true n 2 ((([c0, c1, c2, c3, c4, c5, c6, c7, c8, c9, c10, c11, c12, c13, c14, c15, c16, c17, c18, c19] : List Value).drop 14).take (Tryz.prog.cellsOf 2)) = xs[11]? := hf 11 _ rfl
    rw [scr_int1, List.getElem?_eq_getElem (by omega)] at g
    exact g
  have f12 : DataW.trod enc Tryz.prog W 0 (fun _ => true) true n 2 [c15] = some (xs[12]'(by omega)) := by
    have g : DataW.trod enc Tryz.prog W 0 (fun _ => true) true n 2 ((([c0, c1, c2, c3, c4, c5, c6, c7, c8, c9, c10, c11, c12, c13, c14, c15, c16, c17, c18, c19] : List Value).drop 15).take (Tryz.prog.cellsOf 2)) = xs[12]? := hf 12 _ rfl
    rw [scr_int1, List.getElem?_eq_getElem (by omega)] at g
    exact g
  have f13 : DataW.trod enc Tryz.prog W 0 (fun _ => true) true n 2 [c16] = some (xs[13]'(by omega)) := by
    have g : DataW.trod enc Tryz.prog W 0 (fun _ => true) true n 2 ((([c0, c1, c2, c3, c4, c5, c6, c7, c8, c9, c10, c11, c12, c13, c14, c15, c16, c17, c18, c19] : List Value).drop 16).take (Tryz.prog.cellsOf 2)) = xs[13]? := hf 13 _ rfl
    rw [scr_int1, List.getElem?_eq_getElem (by omega)] at g
    exact g
  have f14 : DataW.trod enc Tryz.prog W 0 (fun _ => true) true n 26 [c17] = some (xs[14]'(by omega)) := by
    have g : DataW.trod enc Tryz.prog W 0 (fun _ => true) true n 26 ((([c0, c1, c2, c3, c4, c5, c6, c7, c8, c9, c10, c11, c12, c13, c14, c15, c16, c17, c18, c19] : List Value).drop 17).take (Tryz.prog.cellsOf 26)) = xs[14]? := hf 14 _ rfl
    rw [scr_sl2, List.getElem?_eq_getElem (by omega)] at g
    exact g
  have f15 : DataW.trod enc Tryz.prog W 0 (fun _ => true) true n 2 [c18] = some (xs[15]'(by omega)) := by
    have g : DataW.trod enc Tryz.prog W 0 (fun _ => true) true n 2 ((([c0, c1, c2, c3, c4, c5, c6, c7, c8, c9, c10, c11, c12, c13, c14, c15, c16, c17, c18, c19] : List Value).drop 18).take (Tryz.prog.cellsOf 2)) = xs[15]? := hf 15 _ rfl
    rw [scr_int1, List.getElem?_eq_getElem (by omega)] at g
    exact g
  have f16 : DataW.trod enc Tryz.prog W 0 (fun _ => true) true n 2 [c19] = some (xs[16]'(by omega)) := by
    have g : DataW.trod enc Tryz.prog W 0 (fun _ => true) true n 2 ((([c0, c1, c2, c3, c4, c5, c6, c7, c8, c9, c10, c11, c12, c13, c14, c15, c16, c17, c18, c19] : List Value).drop 19).take (Tryz.prog.cellsOf 2)) = xs[16]? := hf 16 _ rfl
    rw [scr_int1, List.getElem?_eq_getElem (by omega)] at g
    exact g
  clear hf
  have f0' : ∃ (r wd : Int) (cs bs : List (Int × Int)), c0 = .int .i64 r ∧ c1 = .int .i64 wd ∧ PRead W c2 cs ∧ PRead W c3 bs ∧ cs.length ≤ maxLen ∧ bs.length ≤ maxLen := by
    obtain ⟨y0, y1, y2, y3, m, _, _, g0, g1, g2, g3⟩ := trod_struct4 Tryz.underlying24 f0
    rw [int_cells1] at g0 g1
    obtain ⟨r, e0, _, _⟩ := DataW.trod_int Tryz.underlying2 g0
    obtain ⟨wd, e1, _, _⟩ := DataW.trod_int Tryz.underlying2 g1
    simp at e0 e1
    subst e0 e1
    rw [show Tryz.prog.cellsOf 22 = 1 from by kernel_rfl] at g2 g3
    obtain ⟨cs, q2, q2'⟩ := open_cells g2
    obtain ⟨bs, q3, q3'⟩ := open_cells g3
    exact ⟨r, wd, cs, bs, rfl, rfl, q2, q3, q2', q3'⟩
  obtain ⟨r, wd, cs, bs, rfl, rfl, h1, h2, h1', h2'⟩ := f0'
  obtain ⟨z4, e4, _, _⟩ := DataW.trod_int Tryz.underlying2 f1
  simp at e4
  subst e4
  obtain ⟨z5, e5, _, _⟩ := DataW.trod_int Tryz.underlying2 f2
  simp at e5
  subst e5
  obtain ⟨z6, e6, _⟩ := DataW.trod_bool Tryz.underlying4 f3
  simp at e6
  subst e6
  obtain ⟨z7, e7, _, _⟩ := DataW.trod_int Tryz.underlying2 f4
  simp at e7
  subst e7
  obtain ⟨z8, e8, _, _⟩ := DataW.trod_int Tryz.underlying2 f5
  simp at e8
  subst e8
  obtain ⟨z9, e9, _, _⟩ := DataW.trod_int Tryz.underlying2 f6
  simp at e9
  subst e9
  obtain ⟨z10, e10, _⟩ := DataW.trod_bool Tryz.underlying4 f7
  simp at e10
  subst e10
  obtain ⟨z11, e11, _⟩ := DataW.trod_bool Tryz.underlying4 f8
  simp at e11
  subst e11
  obtain ⟨z12, e12, _⟩ := DataW.trod_bool Tryz.underlying4 f9
  simp at e12
  subst e12
  obtain ⟨tabs, h3, h3'⟩ := scr_bools f10
  obtain ⟨z14, e14, _, _⟩ := DataW.trod_int Tryz.underlying2 f11
  simp at e14
  subst e14
  obtain ⟨z15, e15, _, _⟩ := DataW.trod_int Tryz.underlying2 f12
  simp at e15
  subst e15
  obtain ⟨z16, e16, _, _⟩ := DataW.trod_int Tryz.underlying2 f13
  simp at e16
  subst e16
  obtain ⟨sets, h4, h4'⟩ := scr_ints f14
  obtain ⟨z18, e18, _, _⟩ := DataW.trod_int Tryz.underlying2 f15
  simp at e18
  subst e18
  obtain ⟨z19, e19, _, _⟩ := DataW.trod_int Tryz.underlying2 f16
  simp at e19
  subst e19
  exact ⟨{ r := r, wd := wd, cs := cs, bs := bs, tabs := tabs, sets := sets, y := z4, x := z5, wrap := z6, attr := z7, top := z8, bot := z9, org := z10, auto := z11, ins := z12, ky := z14, kx := z15, ka := z16, sh := z18, bells := z19 }, c2, c3, c13, c17, rfl, ⟨h1, h2, h3, h4⟩, h1', h2', h3', h4'⟩
theorem array27 {α : Type} {cs : Array α} (h : cs.size = 27) : ∃ c0 c1 c2 c3 c4 c5 c6 c7 c8 c9 c10 c11 c12 c13 c14 c15 c16 c17 c18 c19 c20 c21 c22 c23 c24 c25 c26, cs = #[c0, c1, c2, c3, c4, c5, c6, c7, c8, c9, c10, c11, c12, c13, c14, c15, c16, c17, c18, c19, c20, c21, c22, c23, c24, c25, c26] := by
  obtain ⟨l⟩ := cs
  match l, h with
  | [c0, c1, c2, c3, c4, c5, c6, c7, c8, c9, c10, c11, c12, c13, c14, c15, c16, c17, c18, c19, c20, c21, c22, c23, c24, c25, c26], _ => exact ⟨c0, c1, c2, c3, c4, c5, c6, c7, c8, c9, c10, c11, c12, c13, c14, c15, c16, c17, c18, c19, c20, c21, c22, c23, c24, c25, c26, rfl⟩
set_option maxRecDepth 100000 in
set_option maxHeartbeats 2000000 in
theorem open_vt {H : Type} {enc : TypeId × Value → H} {W : World} {base : Nat} {v : Value} {d : DataW H} {p : List MemPlace}
    (hv : Value.okWide Tryz.prog W .any base 64 v) (h : DataW.Trod enc Tryz.prog W 0 (fun _ => true) true 64 v d p) :
    ∃ (t : VtS) (u v1 v2 v3 v4 : Value), v = .agg (vtA t u v1 v2 v3 v4) ∧ VRead W t u v1 v2 v3 v4 ∧ t.ns.length ≤ maxLen ∧ t.s.cs.length ≤ maxLen ∧ t.s.bs.length ≤ maxLen ∧ t.s.tabs.length ≤ maxLen ∧ t.s.sets.length ≤ maxLen := by
  obtain ⟨cs, rfl, hsz⟩ := okWide_struct Tryz.underlying64 hv
  obtain ⟨c0, c1, c2, c3, c4, c5, c6, c7, c8, c9, c10, c11, c12, c13, c14, c15, c16, c17, c18, c19, c20, c21, c22, c23, c24, c25, c26, rfl⟩ := array27 (hsz.trans vt_cells27)
  obtain ⟨fuel, hf⟩ := h
  obtain ⟨xs, n, _, _, hl, hlen, hf⟩ := DataW.trod_struct Tryz.underlying64 hf
  have hlen' : xs.length = 3 := hlen
  have f0 : DataW.trod enc Tryz.prog W 0 (fun _ => true) true n 60 [c0, c1, c2] = some (xs[0]'(by omega)) := by
    have g : DataW.trod enc Tryz.prog W 0 (fun _ => true) true n 60 ((([c0, c1, c2, c3, c4, c5, c6, c7, c8, c9, c10, c11, c12, c13, c14, c15, c16, c17, c18, c19, c20, c21, c22, c23, c24, c25, c26] : List Value).drop 0).take (Tryz.prog.cellsOf 60)) = xs[0]? := hf 0 _ rfl
    rw [vt_dec3, List.getElem?_eq_getElem (by omega)] at g
    exact g
  have f1 : DataW.trod enc Tryz.prog W 0 (fun _ => true) true n 62 [c3, c4, c5, c6] = some (xs[1]'(by omega)) := by
    have g : DataW.trod enc Tryz.prog W 0 (fun _ => true) true n 62 ((([c0, c1, c2, c3, c4, c5, c6, c7, c8, c9, c10, c11, c12, c13, c14, c15, c16, c17, c18, c19, c20, c21, c22, c23, c24, c25, c26] : List Value).drop 3).take (Tryz.prog.cellsOf 62)) = xs[1]? := hf 1 _ rfl
    rw [vt_par4, List.getElem?_eq_getElem (by omega)] at g
    exact g
  have f2 : DataW.trod enc Tryz.prog W 0 (fun _ => true) true n 28 [c7, c8, c9, c10, c11, c12, c13, c14, c15, c16, c17, c18, c19, c20, c21, c22, c23, c24, c25, c26] = some (xs[2]'(by omega)) := by
    have g : DataW.trod enc Tryz.prog W 0 (fun _ => true) true n 28 ((([c0, c1, c2, c3, c4, c5, c6, c7, c8, c9, c10, c11, c12, c13, c14, c15, c16, c17, c18, c19, c20, c21, c22, c23, c24, c25, c26] : List Value).drop 7).take (Tryz.prog.cellsOf 28)) = xs[2]? := hf 2 _ rfl
    rw [scr_cells20, List.getElem?_eq_getElem (by omega)] at g
    exact g
  obtain ⟨s, v1, v2, v3, v4, es, hs, m1, m2, m3, m4⟩ := screen_core f2
  obtain ⟨xd, nd, _, _, hld, hlend, hfd⟩ := DataW.trod_struct Tryz.underlying60 f0
  have hlend' : xd.length = 3 := hlend
  have d0 : DataW.trod enc Tryz.prog W 0 (fun _ => true) true nd 2 [c0] = some (xd[0]'(by omega)) := by
    have g : DataW.trod enc Tryz.prog W 0 (fun _ => true) true nd 2 ((([c0, c1, c2] : List Value).drop 0).take (Tryz.prog.cellsOf 2)) = xd[0]? := hfd 0 _ rfl
    rw [scr_int1, List.getElem?_eq_getElem (by omega)] at g
    exact g
  have d1 : DataW.trod enc Tryz.prog W 0 (fun _ => true) true nd 2 [c1] = some (xd[1]'(by omega)) := by
    have g : DataW.trod enc Tryz.prog W 0 (fun _ => true) true nd 2 ((([c0, c1, c2] : List Value).drop 1).take (Tryz.prog.cellsOf 2)) = xd[1]? := hfd 1 _ rfl
    rw [scr_int1, List.getElem?_eq_getElem (by omega)] at g
    exact g
  have d2 : DataW.trod enc Tryz.prog W 0 (fun _ => true) true nd 2 [c2] = some (xd[2]'(by omega)) := by
    have g : DataW.trod enc Tryz.prog W 0 (fun _ => true) true nd 2 ((([c0, c1, c2] : List Value).drop 2).take (Tryz.prog.cellsOf 2)) = xd[2]? := hfd 2 _ rfl
    rw [scr_int1, List.getElem?_eq_getElem (by omega)] at g
    exact g
  obtain ⟨xp, np, _, _, hlp, hlenp, hfp⟩ := DataW.trod_struct Tryz.underlying62 f1
  have hlenp' : xp.length = 4 := hlenp
  have p0 : DataW.trod enc Tryz.prog W 0 (fun _ => true) true np 2 [c3] = some (xp[0]'(by omega)) := by
    have g : DataW.trod enc Tryz.prog W 0 (fun _ => true) true np 2 ((([c3, c4, c5, c6] : List Value).drop 0).take (Tryz.prog.cellsOf 2)) = xp[0]? := hfp 0 _ rfl
    rw [scr_int1, List.getElem?_eq_getElem (by omega)] at g
    exact g
  have p1 : DataW.trod enc Tryz.prog W 0 (fun _ => true) true np 2 [c4] = some (xp[1]'(by omega)) := by
    have g : DataW.trod enc Tryz.prog W 0 (fun _ => true) true np 2 ((([c3, c4, c5, c6] : List Value).drop 1).take (Tryz.prog.cellsOf 2)) = xp[1]? := hfp 1 _ rfl
    rw [scr_int1, List.getElem?_eq_getElem (by omega)] at g
    exact g
  have p2 : DataW.trod enc Tryz.prog W 0 (fun _ => true) true np 4 [c5] = some (xp[2]'(by omega)) := by
    have g : DataW.trod enc Tryz.prog W 0 (fun _ => true) true np 4 ((([c3, c4, c5, c6] : List Value).drop 2).take (Tryz.prog.cellsOf 4)) = xp[2]? := hfp 2 _ rfl
    rw [scr_bool1, List.getElem?_eq_getElem (by omega)] at g
    exact g
  have p3 : DataW.trod enc Tryz.prog W 0 (fun _ => true) true np 26 [c6] = some (xp[3]'(by omega)) := by
    have g : DataW.trod enc Tryz.prog W 0 (fun _ => true) true np 26 ((([c3, c4, c5, c6] : List Value).drop 3).take (Tryz.prog.cellsOf 26)) = xp[3]? := hfp 3 _ rfl
    rw [scr_sl2, List.getElem?_eq_getElem (by omega)] at g
    exact g
  obtain ⟨q0, e0, _, _⟩ := DataW.trod_int Tryz.underlying2 d0
  simp at e0
  subst e0
  obtain ⟨q1, e1, _, _⟩ := DataW.trod_int Tryz.underlying2 d1
  simp at e1
  subst e1
  obtain ⟨q2, e2, _, _⟩ := DataW.trod_int Tryz.underlying2 d2
  simp at e2
  subst e2
  obtain ⟨q3, e3, _, _⟩ := DataW.trod_int Tryz.underlying2 p0
  simp at e3
  subst e3
  obtain ⟨q4, e4, _, _⟩ := DataW.trod_int Tryz.underlying2 p1
  simp at e4
  subst e4
  obtain ⟨q5, e5, _⟩ := DataW.trod_bool Tryz.underlying4 p2
  simp at e5
  subst e5
  obtain ⟨ns, h6, h6'⟩ := scr_ints p3
  refine ⟨⟨q0, q1, q2, q3, q4, q5, ns, s⟩, c6, v1, v2, v3, v4, ?_, ⟨h6, hs⟩, h6', m1, m2, m3, m4⟩
  have : vtA ⟨q0, q1, q2, q3, q4, q5, ns, s⟩ c6 v1 v2 v3 v4 = (([.int .i64 q0, .int .i64 q1, .int .i64 q2, .int .i64 q3, .int .i64 q4, .bool q5, c6] : List Value) ++ (scrA s v1 v2 v3 v4).toList).toArray := rfl
  rw [this, ← es]
  rfl
end Go.Proofs.YtdekegjplegkeaaGreat

namespace Go.Proofs.YtdekegjplegkeaaGreat
set_option maxRecDepth 20000
open Go.ChangeShapes Go.WideShapes Go.ChangeAt Go.RowKit Go.Joins
set_option linter.unusedVariables false
set_option linter.unusedSimpArgs false

set_option maxRecDepth 20000
theorem run_execLoad {P : Program} {ρ : Operand → Value} {op : Oper} {w : World} (ty : TypeId) (x : Operand) (ho : op.op = .load ty x) (g off : Nat) (hx : ρ x = .pointer (some ⟨g, off, none⟩)) (v : Value) (h : (loadVar ty ⟨g, off, none⟩).run P w = .ok v w) :
    (execOp ρ op).run P w = .ok (Next.value v) w := by
  unfold execOp
  simp only [ho, hx, Instr.loadAt, Instr.sureAddr, Sem.run_bind, Sem.run_pure, Result.andThen_ok, h]
theorem rvVt_len (t : VtS) (rows width : Int) (h0 : t.ns.length ≤ 1048576) (h4 : t.s.sets.length ≤ 1048576) : (rvVt t rows width).ns.length ≤ 1048576 ∧ (rvVt t rows width).s.cs.length ≤ 1048576 ∧ (rvVt t rows width).s.bs.length ≤ 1048576 ∧ (rvVt t rows width).s.tabs.length ≤ 1048576 ∧ (rvVt t rows width).s.sets.length ≤ 1048576 := by
  unfold rvVt
  split
  · split
    · obtain ⟨a1, a2, a3, a4⟩ := rzRes_len t.s rows width h4
      exact ⟨h0, a1, a2, a3, a4⟩
    · simp [vt0, scr0]
  · simp [vt0, scr0]
theorem rv_spec {t S : VtS} {c : Int} {rows width : Int} (hC : rvCode t rows width = c) (hS : rvVt t rows width = S) (u v1 v2 v3 v4 : Value) (w : World) (hn0 : t.ns.length ≤ 1048576) (hn1 : t.s.cs.length ≤ 1048576) (hn2 : t.s.bs.length ≤ 1048576) (hn3 : t.s.tabs.length ≤ 1048576) (hn4 : t.s.sets.length ≤ 1048576) (k1 : Capped v1) (k2 : Capped v2) (k3 : Capped v3) (h : VRead w t u v1 v2 v3 v4) :
    Calls Tryz.prog 38 #[.agg (vtA t u v1 v2 v3 v4), .int .i64 rows, .int .i64 width] w fun e w' => ∃ x u1 u2 u3 u4, e = .returned (.agg (resVA c S x u1 u2 u3 u4)) ∧ VOwn w.heap.size w'.heap.size w' x u1 u2 u3 u4 S ∧ Below w.heap.size w w' := by
  subst hC hS
  exact specResizeVt_calls t u v1 v2 v3 v4 rows width w hn0 hn1 hn2 hn3 hn4 k1 k2 k3 h
theorem rv_impl {t S : VtS} {c : Int} {rows width : Int} (hC : rvCode t rows width = c) (hS : rvVt t rows width = S) (u v1 v2 v3 v4 : Value) (w : World) (hn0 : t.ns.length ≤ 1048576) (hn1 : t.s.cs.length ≤ 1048576) (hn2 : t.s.bs.length ≤ 1048576) (hn3 : t.s.tabs.length ≤ 1048576) (hn4 : t.s.sets.length ≤ 1048576) (h : VRead w t u v1 v2 v3 v4) :
    Calls Tryz.prog 39 #[.agg (vtA t u v1 v2 v3 v4), .int .i64 rows, .int .i64 width] w fun e w' => ∃ x u1 u2 u3 u4, e = .returned (.agg (resVA c S x u1 u2 u3 u4)) ∧ VOwn w.heap.size w'.heap.size w' x u1 u2 u3 u4 S ∧ Below w.heap.size w w' := by
  subst hC hS
  exact implResizeVt_calls t u v1 v2 v3 v4 rows width w hn0 hn1 hn2 hn3 hn4 h
set_option maxRecDepth 20000 in
set_option maxHeartbeats 8000000 in
theorem lawRV_walk (t : VtS) (u v1 v2 v3 v4 : Value) (rows : Int) (width : Int) (w : World) (hrt : VRead w t u v1 v2 v3 v4) (hmt1 : t.ns.length ≤ maxLen) (hmt2 : t.s.cs.length ≤ maxLen) (hmt3 : t.s.bs.length ≤ maxLen) (hmt4 : t.s.tabs.length ≤ maxLen) (hmt5 : t.s.sets.length ≤ maxLen) :
    Calls Tryz.prog 6 #[.agg (vtA t u v1 v2 v3 v4), .int .i64 rows, .int .i64 width] w fun e w' => e = .returned (.bool true) ∧ Below w.heap.size w w' := by
  by_cases hsum0 : (t.ns.length : Int) + t.s.cs.length + t.s.bs.length + t.s.tabs.length + t.s.sets.length ≤ 1048576
  · skip
    obtain ⟨c, hC⟩ : ∃ c, rvCode t rows width = c := ⟨_, rfl⟩
    obtain ⟨S, hS⟩ : ∃ S, rvVt t rows width = S := ⟨_, rfl⟩
    obtain ⟨hS0, hS1, hS2, hS3, hS4⟩ := rvVt_len t rows width (show t.ns.length ≤ 1048576 by omega) (show t.s.sets.length ≤ 1048576 by omega)
    rw [hS] at hS0 hS1 hS2 hS3 hS4
    have HC := hide hC
    have HS := hide hS
    clear hC hS
    have hne : ∀ y : Int, (y != y) = false := fun y => by simp
    have hgS : ¬ (1 + cntV S < 0) := by unfold cntV cntS; omega
    have hgs : ¬ (1 + cntV t < 0) := by unfold cntV cntS; omega
    have HRt := hide hrt
    have q0 : Below w.heap.size w (w.alloc (.cells (vtA t u v1 v2 v3 v4) 64)) := (by repeat' (first | with_reducible exact Below.refl _ _ | with_reducible assumption | with_reducible refine Below.drew ?_ | with_reducible refine Below.alloc ?_ ?_ _ | with_reducible refine Below.setCell ?_ ?_ _ | (simp; done) | (simp; omega) | omega))
    have hAt := Blk.new w (vtA t u v1 v2 v3 v4) 64
    go_enter Tryz.func6, Tryz.ntmps6
    go_wp2_with (first | fail | (refine wpList_load_at rfl 64 _ rfl (w.heap.size) 0 rfl _ (vtA t u v1 v2 v3 v4) hAt rfl _ Tryz.underlying64 rfl (by kernel_rfl) ?_; (try simp only [Act.put, List.setIfInBounds_toArray, List.set_cons_zero, List.set_cons_succ])))
    go_at_call 26
    refine (szVt_calls t u v1 v2 v3 v4 1048576 (by omega) (by omega) _ (hrt.below q0) hmt1 hmt2 hmt3 hmt4 hmt5).mono ?_
    rintro e w1 ⟨rfl, hb⟩
    replace hAt := hAt.belowb hb
    have z0 : w.heap.size + 1 ≤ w1.heap.size := by have := hb.size; simp at this; omega
    have b1 : Below w.heap.size w w1 := q0.trans (hb.mono q0.size)
    clear hb q0
    replace hrt := hrt.below b1
    rw [if_pos hsum0]
    have hge0 : ¬ ((1048576 - t.ns.length - t.s.cs.length - t.s.bs.length - t.s.tabs.length - t.s.sets.length) < 0) := by omega
    have hnt1 : t.ns.length ≤ 1048576 := by omega
    have hnt2 : t.s.cs.length ≤ 1048576 := by omega
    have hnt3 : t.s.bs.length ≤ 1048576 := by omega
    have hnt4 : t.s.tabs.length ≤ 1048576 := by omega
    have hnt5 : t.s.sets.length ≤ 1048576 := by omega
    go_wp2_with (first | fail | (refine wpList_load_at rfl 64 _ rfl (w.heap.size) 0 rfl _ (vtA t u v1 v2 v3 v4) hAt rfl _ Tryz.underlying64 rfl (by kernel_rfl) ?_; (try simp only [Act.put, List.setIfInBounds_toArray, List.set_cons_zero, List.set_cons_succ])))
    go_at_call 28
    refine (toVt_full t u v1 v2 v3 v4 _ hnt1 hnt2 hnt3 hnt4 hnt5 hrt).mono ?_
    rintro e w2 ⟨p1, p2, p3, p4, p5, rfl, k1, k2, k3, hp, hb⟩
    have z2 : w1.heap.size ≤ w2.heap.size := hb.size
    replace hAt := hAt.belowb hb
    replace hrt := hrt.below hb
    have b2 : Below w.heap.size w w2 := b1.trans (hb.mono (by omega))
    clear hb b1
    go_wp2_with fail
    go_at_call 38
    refine (rv_spec HC.out HS.out _ _ _ _ _ _ hnt1 hnt2 hnt3 hnt4 hnt5 k1 k2 k3 hp.read).mono ?_
    rintro e w3 ⟨j1, j2, j3, j4, j5, rfl, hj, hb⟩
    have z3 : w2.heap.size ≤ w3.heap.size := hb.size
    replace hAt := hAt.belowb hb
    replace hrt := hrt.below hb
    replace hp := hp.below hb (by omega)
    have b3 : Below w.heap.size w w3 := b2.trans (hb.mono (by omega))
    clear hb b2
    clear hp
    go_wp2_with (first | fail | (refine wpList_load_at rfl 64 _ rfl (w.heap.size) 0 rfl _ (vtA t u v1 v2 v3 v4) hAt rfl _ Tryz.underlying64 rfl (by kernel_rfl) ?_; (try simp only [Act.put, List.setIfInBounds_toArray, List.set_cons_zero, List.set_cons_succ])) | (refine wpList_store_blk rfl _ _ _ rfl (w3.heap.size) 0 (resVA 0 vt0 (.slice none 0 0) (.slice none 0 0) (.slice none 0 0) (.slice none 0 0) (.slice none 0 0)) (resVA c S j1 j2 j3 j4 j5) (.agg (resVA c S j1 j2 j3 j4 j5)) rfl rfl (Blk.new w3 _ _) rfl (by kernel_rfl) (resV_one hj.read) rfl ?_; (try simp only [Act.put, List.setIfInBounds_toArray, List.set_cons_zero, List.set_cons_succ]); intro w4 hJ hu; have hb : Below w3.heap.size w3 w4 := ((Below.refl _ w3).alloc (Nat.le_refl _) _).trans (hu.below (Nat.le_refl _)); have z4 : w3.heap.size + 1 = w4.heap.size := (by have := hu.size; simp at this; omega); clear hu; replace hAt := hAt.belowb hb) | (refine wpList_load_at rfl 72 _ rfl (w3.heap.size) 0 rfl _ (resVA c S j1 j2 j3 j4 j5) hJ rfl _ Tryz.underlying72 rfl (by kernel_rfl) ?_; (try simp only [Act.put, List.setIfInBounds_toArray, List.set_cons_zero, List.set_cons_succ])))
    replace hrt := hrt.below hb
    replace hj := hj.below hb (by omega)
    have b4 : Below w.heap.size w w4 := b3.trans (hb.mono (by omega))
    clear hb b3
    go_wp2_with (first | fail | (refine wpList_load_at rfl 64 _ rfl (w.heap.size) 0 rfl _ (vtA t u v1 v2 v3 v4) hAt rfl _ Tryz.underlying64 rfl (by kernel_rfl) ?_; (try simp only [Act.put, List.setIfInBounds_toArray, List.set_cons_zero, List.set_cons_succ])) | (refine wpList_load_at rfl 72 _ rfl (w3.heap.size) 0 rfl _ (resVA c S j1 j2 j3 j4 j5) hJ rfl _ Tryz.underlying72 rfl (by kernel_rfl) ?_; (try simp only [Act.put, List.setIfInBounds_toArray, List.set_cons_zero, List.set_cons_succ])))
    go_at_call 28
    refine (toVt_calls t u v1 v2 v3 v4 _ hnt1 hnt2 hnt3 hnt4 hnt5 hrt).mono ?_
    rintro e w5 ⟨q1, q2, q3, q4, q5, rfl, hq, hb⟩
    have z5 : w4.heap.size ≤ w5.heap.size := hb.size
    replace hAt := hAt.belowb hb
    replace hJ := hJ.belowb hb
    replace hrt := hrt.below hb
    replace hj := hj.below hb (by omega)
    have b5 : Below w.heap.size w w5 := b4.trans (hb.mono (by omega))
    clear hb b4
    go_wp2_with (first | fail | (refine wpList_load_at rfl 64 _ rfl (w.heap.size) 0 rfl _ (vtA t u v1 v2 v3 v4) hAt rfl _ Tryz.underlying64 rfl (by kernel_rfl) ?_; (try simp only [Act.put, List.setIfInBounds_toArray, List.set_cons_zero, List.set_cons_succ])) | (refine wpList_load_at rfl 72 _ rfl (w3.heap.size) 0 rfl _ (resVA c S j1 j2 j3 j4 j5) hJ rfl _ Tryz.underlying72 rfl (by kernel_rfl) ?_; (try simp only [Act.put, List.setIfInBounds_toArray, List.set_cons_zero, List.set_cons_succ])) | (refine wpList_store_blk rfl _ _ _ rfl (w5.heap.size) 0 (vtA vt0 (.slice none 0 0) (.slice none 0 0) (.slice none 0 0) (.slice none 0 0) (.slice none 0 0)) (vtA t q1 q2 q3 q4 q5) (.agg (vtA t q1 q2 q3 q4 q5)) rfl rfl (Blk.new w5 _ _) rfl (by kernel_rfl) (vt_one hq.read) rfl ?_; (try simp only [Act.put, List.setIfInBounds_toArray, List.set_cons_zero, List.set_cons_succ]); intro w6 hX hu; have hb : Below w5.heap.size w5 w6 := ((Below.refl _ w5).alloc (Nat.le_refl _) _).trans (hu.below (Nat.le_refl _)); have z6 : w5.heap.size + 1 = w6.heap.size := (by have := hu.size; simp at this; omega); clear hu; replace hAt := hAt.belowb hb; replace hJ := hJ.belowb hb) | (refine wpList_load_at rfl 70 _ rfl (w5.heap.size) 0 rfl _ (vtA t q1 q2 q3 q4 q5) hX rfl _ Tryz.underlying70 rfl (by kernel_rfl) ?_; (try simp only [Act.put, List.setIfInBounds_toArray, List.set_cons_zero, List.set_cons_succ])))
    replace hrt := hrt.below hb
    replace hj := hj.below hb (by omega)
    replace hq := hq.below hb (by omega)
    have b6 : Below w.heap.size w w6 := b5.trans (hb.mono (by omega))
    clear hb b5
    go_wp2_with (first | fail | (refine wpList_load_at rfl 64 _ rfl (w.heap.size) 0 rfl _ (vtA t u v1 v2 v3 v4) hAt rfl _ Tryz.underlying64 rfl (by kernel_rfl) ?_; (try simp only [Act.put, List.setIfInBounds_toArray, List.set_cons_zero, List.set_cons_succ])) | (refine wpList_load_at rfl 72 _ rfl (w3.heap.size) 0 rfl _ (resVA c S j1 j2 j3 j4 j5) hJ rfl _ Tryz.underlying72 rfl (by kernel_rfl) ?_; (try simp only [Act.put, List.setIfInBounds_toArray, List.set_cons_zero, List.set_cons_succ])) | (refine wpList_load_at rfl 70 _ rfl (w5.heap.size) 0 rfl _ (vtA t q1 q2 q3 q4 q5) hX rfl _ Tryz.underlying70 rfl (by kernel_rfl) ?_; (try simp only [Act.put, List.setIfInBounds_toArray, List.set_cons_zero, List.set_cons_succ])))
    go_at_call 39
    refine (rv_impl HC.out HS.out _ _ _ _ _ _ hnt1 hnt2 hnt3 hnt4 hnt5 hq.read).mono ?_
    rintro e w7 ⟨g1, g2, g3, g4, g5, rfl, hg, hb⟩
    have z7 : w6.heap.size ≤ w7.heap.size := hb.size
    replace hAt := hAt.belowb hb
    replace hJ := hJ.belowb hb
    replace hX := hX.belowb hb
    replace hrt := hrt.below hb
    replace hj := hj.below hb (by omega)
    replace hq := hq.below hb (by omega)
    have b7 : Below w.heap.size w w7 := b6.trans (hb.mono (by omega))
    clear hb b6
    go_wp2_with (first | fail | (refine wpList_load_at rfl 64 _ rfl (w.heap.size) 0 rfl _ (vtA t u v1 v2 v3 v4) hAt rfl _ Tryz.underlying64 rfl (by kernel_rfl) ?_; (try simp only [Act.put, List.setIfInBounds_toArray, List.set_cons_zero, List.set_cons_succ])) | (refine wpList_load_at rfl 72 _ rfl (w3.heap.size) 0 rfl _ (resVA c S j1 j2 j3 j4 j5) hJ rfl _ Tryz.underlying72 rfl (by kernel_rfl) ?_; (try simp only [Act.put, List.setIfInBounds_toArray, List.set_cons_zero, List.set_cons_succ])) | (refine wpList_load_at rfl 70 _ rfl (w5.heap.size) 0 rfl _ (vtA t q1 q2 q3 q4 q5) hX rfl _ Tryz.underlying70 rfl (by kernel_rfl) ?_; (try simp only [Act.put, List.setIfInBounds_toArray, List.set_cons_zero, List.set_cons_succ])) | (refine wpList_store_blk rfl _ _ _ rfl (w7.heap.size) 0 (resVA 0 vt0 (.slice none 0 0) (.slice none 0 0) (.slice none 0 0) (.slice none 0 0) (.slice none 0 0)) (resVA c S g1 g2 g3 g4 g5) (.agg (resVA c S g1 g2 g3 g4 g5)) rfl rfl (Blk.new w7 _ _) rfl (by kernel_rfl) (resV_one hg.read) rfl ?_; (try simp only [Act.put, List.setIfInBounds_toArray, List.set_cons_zero, List.set_cons_succ]); intro w8 hG hu; have hb : Below w7.heap.size w7 w8 := ((Below.refl _ w7).alloc (Nat.le_refl _) _).trans (hu.below (Nat.le_refl _)); have z8 : w7.heap.size + 1 = w8.heap.size := (by have := hu.size; simp at this; omega); clear hu; replace hAt := hAt.belowb hb; replace hJ := hJ.belowb hb; replace hX := hX.belowb hb) | (refine wpList_load_at rfl 72 _ rfl (w7.heap.size) 0 rfl _ (resVA c S g1 g2 g3 g4 g5) hG rfl _ Tryz.underlying72 rfl (by kernel_rfl) ?_; (try simp only [Act.put, List.setIfInBounds_toArray, List.set_cons_zero, List.set_cons_succ])))
    replace hrt := hrt.below hb
    replace hj := hj.below hb (by omega)
    replace hq := hq.below hb (by omega)
    replace hg := hg.below hb (by omega)
    have b8 : Below w.heap.size w w8 := b7.trans (hb.mono (by omega))
    clear hb b7
    go_at_call 31
    refine (eqVtResult_calls c S _ _ _ _ _ _ _ _ _ _ _ hS0 hS1 hS2 hS3 hS4 hg.read hj.read).mono ?_
    rintro e w9 ⟨rfl, hb⟩
    have z9 : w8.heap.size ≤ w9.heap.size := hb.size
    replace hAt := hAt.belowb hb
    replace hJ := hJ.belowb hb
    replace hX := hX.belowb hb
    replace hG := hG.belowb hb
    replace hrt := hrt.below hb
    replace hj := hj.below hb (by omega)
    replace hq := hq.below hb (by omega)
    replace hg := hg.below hb (by omega)
    have b9 : Below w.heap.size w w9 := b8.trans (hb.mono (by omega))
    clear hb b8
    go_wp2_with fail
    have hd : Below w9.heap.size w9 w9.drew := Below.drew (Below.refl _ _)
    have ra := hrt.below hd
    have rx := hq.read.below hd
    refine wp_region_held_drew (S := (fun w' => Below w9.heap.size w9 w' ∧ Blk w' (w.heap.size) (vtA t u v1 v2 v3 v4) ∧ Blk w' (w5.heap.size) (vtA t q1 q2 q3 q4 q5))) (by kernel_rfl) ?_ (fun hHeld => ?_)
    · (try dsimp only); exact ⟨hd, hAt, hX⟩
    refine wpAnyH_take (i := 0) (oi := ⟨_, _, _, _, _, _⟩) (v := .agg (vtA t q1 q2 q3 q4 q5)) rfl (by kernel_rfl) (by kernel_rfl) (by kernel_rfl) (fun _ _ _ h => h) (Or.inl ⟨by rfl, ?_⟩) hHeld ?_
    · intro w hSw
      (try dsimp only at hSw)
      have hx := run_loadVar_at (P := Tryz.prog) (o := 0) (ty := 70) (vs := (vtA t q1 q2 q3 q4 q5)) hSw.2.2 rfl Tryz.underlying70 rfl (by kernel_rfl)
      exact run_execLoad _ _ rfl _ _ rfl _ hx
    try simp only [Act.put, List.setIfInBounds_toArray, List.set_cons_zero, List.set_cons_succ]
    refine wpAnyH_take (i := 1) (oi := ⟨_, _, _, _, _, _⟩) (v := .agg (vtA t u v1 v2 v3 v4)) rfl (by kernel_rfl) (by kernel_rfl) (by kernel_rfl) (fun _ _ _ h => h) (Or.inl ⟨by rfl, ?_⟩) hHeld ?_
    · intro w hSw
      (try dsimp only at hSw)
      have hx := run_loadVar_at (P := Tryz.prog) (o := 0) (ty := 64) (vs := (vtA t u v1 v2 v3 v4)) hSw.2.1 rfl Tryz.underlying64 rfl (by kernel_rfl)
      exact run_execLoad _ _ rfl _ _ rfl _ hx
    try simp only [Act.put, List.setIfInBounds_toArray, List.set_cons_zero, List.set_cons_succ]
    refine wpAnyH_ready (rs := [2]) (by kernel_rfl) (by simp) ?_
    refine AllReadyH.cons (o := ⟨_, _, _, _, _, _⟩) rfl (fun K hK => ?_) AllReadyH.nil
    go_simp
    go_at_call 28
    refine (toVt_calls t u v1 v2 v3 v4 _ hnt1 hnt2 hnt3 hnt4 hnt5 ra).mono ?_
    rintro e y10_1 ⟨y1, y2, y3, y4, y5, rfl, hya, hb1⟩
    have r1 := hya.read
    replace rx := rx.below hb1
    clear hya
    try go_wp2_with fail
    refine hK.out _ _ ?_ ?_
    · (try dsimp only); exact ⟨hHeld.1.trans (hb1.mono hHeld.1.size), hHeld.2.1.belowb hb1, hHeld.2.2.belowb hb1⟩
    clear hHeld hK K
    intro hHeld
    try simp only [Act.put, List.setIfInBounds_toArray, List.set_cons_zero, List.set_cons_succ]
    refine wpAnyH_ready (rs := [3]) (by kernel_rfl) (by simp) ?_
    refine AllReadyH.cons (o := ⟨_, _, _, _, _, _⟩) rfl (fun K hK => ?_) AllReadyH.nil
    go_simp
    go_at_call 32
    refine (eqVt_calls t _ _ _ _ _ _ _ _ _ _ _ hnt1 hnt2 hnt3 hnt4 hnt5 rx r1).mono ?_
    rintro e w10 ⟨rfl, hb3⟩
    try go_wp2_with fail
    refine hK.out _ _ ?_ ?_
    · (try dsimp only); exact ⟨hHeld.1.trans (hb3.mono hHeld.1.size), hHeld.2.1.belowb hb3, hHeld.2.2.belowb hb3⟩
    clear hHeld hK K
    intro hHeld
    try simp only [Act.put, List.setIfInBounds_toArray, List.set_cons_zero, List.set_cons_succ]
    refine wpAnyH_take (i := 4) (oi := ⟨_, _, _, _, _, _⟩) (v := ?_) rfl (by kernel_rfl) (by kernel_rfl) (by kernel_rfl) (fun _ _ _ h => h) (Or.inl ⟨by rfl, ?_⟩) hHeld ?_
    rotate_left
    · (intro w hSw; (try dsimp only at hSw); go_simp; try (with_reducible rfl))
    try simp only [Act.put, List.setIfInBounds_toArray, List.set_cons_zero, List.set_cons_succ]
    refine wpAnyH_done (by kernel_rfl) ?_ _
    have hb := hHeld.1
    clear hHeld ra rx r1 hb1 hb3 hd
    have z10 : w9.heap.size ≤ w10.heap.size := hb.size
    replace hAt := hAt.belowb hb
    replace hJ := hJ.belowb hb
    replace hX := hX.belowb hb
    replace hG := hG.belowb hb
    replace hrt := hrt.below hb
    replace hj := hj.below hb (by omega)
    replace hq := hq.below hb (by omega)
    replace hg := hg.below hb (by omega)
    have b10 : Below w.heap.size w w10 := b9.trans (hb.mono (by omega))
    clear hb b9
    go_wp2_with (first | fail | (refine wpList_load_at rfl 64 _ rfl (w.heap.size) 0 rfl _ (vtA t u v1 v2 v3 v4) hAt rfl _ Tryz.underlying64 rfl (by kernel_rfl) ?_; (try simp only [Act.put, List.setIfInBounds_toArray, List.set_cons_zero, List.set_cons_succ])) | (refine wpList_load_at rfl 72 _ rfl (w3.heap.size) 0 rfl _ (resVA c S j1 j2 j3 j4 j5) hJ rfl _ Tryz.underlying72 rfl (by kernel_rfl) ?_; (try simp only [Act.put, List.setIfInBounds_toArray, List.set_cons_zero, List.set_cons_succ])) | (refine wpList_load_at rfl 70 _ rfl (w5.heap.size) 0 rfl _ (vtA t q1 q2 q3 q4 q5) hX rfl _ Tryz.underlying70 rfl (by kernel_rfl) ?_; (try simp only [Act.put, List.setIfInBounds_toArray, List.set_cons_zero, List.set_cons_succ])) | (refine wpList_load_at rfl 72 _ rfl (w7.heap.size) 0 rfl _ (resVA c S g1 g2 g3 g4 g5) hG rfl _ Tryz.underlying72 rfl (by kernel_rfl) ?_; (try simp only [Act.put, List.setIfInBounds_toArray, List.set_cons_zero, List.set_cons_succ])))
    go_at_call 34
    refine (markVt_calls t 1 w4.heap.size w5.heap.size _ _ _ _ _ _ hnt1 hnt2 hnt3 hnt4 hnt5 hnt1 (by omega) (by omega) (by omega) hq).mono ?_
    rintro e w11 ⟨rfl, hm, hb⟩
    have z11 : w10.heap.size ≤ w11.heap.size := hb.size
    replace hAt := hAt.within hb (by omega)
    replace hJ := hJ.within hb (by omega)
    replace hX := hX.within hb (by omega)
    replace hG := hG.within hb (by omega)
    replace hj := hj.within hb (by omega) (by omega)
    replace hg := hg.within hb (by omega) (by omega)
    have b11 : Below w.heap.size w w11 := b10.trans (hb.below (by omega) (by omega))
    clear hb hq b10
    replace hrt := HRt.out.below b11
    clear hm
    go_wp2_with (first | fail | (refine wpList_load_at rfl 64 _ rfl (w.heap.size) 0 rfl _ (vtA t u v1 v2 v3 v4) hAt rfl _ Tryz.underlying64 rfl (by kernel_rfl) ?_; (try simp only [Act.put, List.setIfInBounds_toArray, List.set_cons_zero, List.set_cons_succ])) | (refine wpList_load_at rfl 72 _ rfl (w3.heap.size) 0 rfl _ (resVA c S j1 j2 j3 j4 j5) hJ rfl _ Tryz.underlying72 rfl (by kernel_rfl) ?_; (try simp only [Act.put, List.setIfInBounds_toArray, List.set_cons_zero, List.set_cons_succ])) | (refine wpList_load_at rfl 70 _ rfl (w5.heap.size) 0 rfl _ (vtA t q1 q2 q3 q4 q5) hX rfl _ Tryz.underlying70 rfl (by kernel_rfl) ?_; (try simp only [Act.put, List.setIfInBounds_toArray, List.set_cons_zero, List.set_cons_succ])) | (refine wpList_load_at rfl 72 _ rfl (w7.heap.size) 0 rfl _ (resVA c S g1 g2 g3 g4 g5) hG rfl _ Tryz.underlying72 rfl (by kernel_rfl) ?_; (try simp only [Act.put, List.setIfInBounds_toArray, List.set_cons_zero, List.set_cons_succ])))
    go_at_call 31
    refine (eqVtResult_calls c S _ _ _ _ _ _ _ _ _ _ _ hS0 hS1 hS2 hS3 hS4 hg.read hj.read).mono ?_
    rintro e w12 ⟨rfl, hb⟩
    have z12 : w11.heap.size ≤ w12.heap.size := hb.size
    replace hAt := hAt.belowb hb
    replace hJ := hJ.belowb hb
    replace hX := hX.belowb hb
    replace hG := hG.belowb hb
    replace hrt := hrt.below hb
    replace hj := hj.below hb (by omega)
    replace hg := hg.below hb (by omega)
    have b12 : Below w.heap.size w w12 := b11.trans (hb.mono (by omega))
    clear hb b11
    go_wp2_with (first | fail | (refine wpList_load_at rfl 64 _ rfl (w.heap.size) 0 rfl _ (vtA t u v1 v2 v3 v4) hAt rfl _ Tryz.underlying64 rfl (by kernel_rfl) ?_; (try simp only [Act.put, List.setIfInBounds_toArray, List.set_cons_zero, List.set_cons_succ])) | (refine wpList_load_at rfl 72 _ rfl (w3.heap.size) 0 rfl _ (resVA c S j1 j2 j3 j4 j5) hJ rfl _ Tryz.underlying72 rfl (by kernel_rfl) ?_; (try simp only [Act.put, List.setIfInBounds_toArray, List.set_cons_zero, List.set_cons_succ])) | (refine wpList_load_at rfl 70 _ rfl (w5.heap.size) 0 rfl _ (vtA t q1 q2 q3 q4 q5) hX rfl _ Tryz.underlying70 rfl (by kernel_rfl) ?_; (try simp only [Act.put, List.setIfInBounds_toArray, List.set_cons_zero, List.set_cons_succ])) | (refine wpList_load_at rfl 72 _ rfl (w7.heap.size) 0 rfl _ (resVA c S g1 g2 g3 g4 g5) hG rfl _ Tryz.underlying72 rfl (by kernel_rfl) ?_; (try simp only [Act.put, List.setIfInBounds_toArray, List.set_cons_zero, List.set_cons_succ])))
    go_at_call 36
    refine (markVtResult_calls c S 1 w6.heap.size w7.heap.size _ _ _ _ _ _ hS0 hS1 hS2 hS3 hS4 hS0 (by omega) (by omega) (by omega) hg).mono ?_
    rintro e w13 ⟨rfl, hm, hb⟩
    have z13 : w12.heap.size ≤ w13.heap.size := hb.size
    replace hAt := hAt.within hb (by omega)
    replace hJ := hJ.within hb (by omega)
    replace hX := hX.within hb (by omega)
    replace hG := hG.within hb (by omega)
    replace hj := hj.within hb (by omega) (by omega)
    have b13 : Below w.heap.size w w13 := b12.trans (hb.below (by omega) (by omega))
    clear hb hg b12
    replace hrt := HRt.out.below b13
    have hg := hm
    clear hm
    go_wp2_with (first | fail | (refine wpList_load_at rfl 64 _ rfl (w.heap.size) 0 rfl _ (vtA t u v1 v2 v3 v4) hAt rfl _ Tryz.underlying64 rfl (by kernel_rfl) ?_; (try simp only [Act.put, List.setIfInBounds_toArray, List.set_cons_zero, List.set_cons_succ])) | (refine wpList_load_at rfl 72 _ rfl (w3.heap.size) 0 rfl _ (resVA c S j1 j2 j3 j4 j5) hJ rfl _ Tryz.underlying72 rfl (by kernel_rfl) ?_; (try simp only [Act.put, List.setIfInBounds_toArray, List.set_cons_zero, List.set_cons_succ])) | (refine wpList_load_at rfl 70 _ rfl (w5.heap.size) 0 rfl _ (vtA t q1 q2 q3 q4 q5) hX rfl _ Tryz.underlying70 rfl (by kernel_rfl) ?_; (try simp only [Act.put, List.setIfInBounds_toArray, List.set_cons_zero, List.set_cons_succ])) | (refine wpList_load_at rfl 72 _ rfl (w7.heap.size) 0 rfl _ (resVA c S g1 g2 g3 g4 g5) hG rfl _ Tryz.underlying72 rfl (by kernel_rfl) ?_; (try simp only [Act.put, List.setIfInBounds_toArray, List.set_cons_zero, List.set_cons_succ])))
    go_at_call 37
    refine (heldVtResult_calls c S 1 _ _ _ _ _ _ hS0 hS1 hS2 hS3 hS4 hS0 (by omega) (by omega) hg.read).mono ?_
    rintro e w14 ⟨rfl, hb⟩
    have z14 : w13.heap.size ≤ w14.heap.size := hb.size
    replace hAt := hAt.belowb hb
    replace hJ := hJ.belowb hb
    replace hX := hX.belowb hb
    replace hG := hG.belowb hb
    replace hrt := hrt.below hb
    replace hj := hj.below hb (by omega)
    replace hg := hg.below hb (by omega)
    have b14 : Below w.heap.size w w14 := b13.trans (hb.mono (by omega))
    clear hb b13
    go_wp2_with (first | fail | (refine wpList_load_at rfl 64 _ rfl (w.heap.size) 0 rfl _ (vtA t u v1 v2 v3 v4) hAt rfl _ Tryz.underlying64 rfl (by kernel_rfl) ?_; (try simp only [Act.put, List.setIfInBounds_toArray, List.set_cons_zero, List.set_cons_succ])) | (refine wpList_load_at rfl 72 _ rfl (w3.heap.size) 0 rfl _ (resVA c S j1 j2 j3 j4 j5) hJ rfl _ Tryz.underlying72 rfl (by kernel_rfl) ?_; (try simp only [Act.put, List.setIfInBounds_toArray, List.set_cons_zero, List.set_cons_succ])) | (refine wpList_load_at rfl 70 _ rfl (w5.heap.size) 0 rfl _ (vtA t q1 q2 q3 q4 q5) hX rfl _ Tryz.underlying70 rfl (by kernel_rfl) ?_; (try simp only [Act.put, List.setIfInBounds_toArray, List.set_cons_zero, List.set_cons_succ])) | (refine wpList_load_at rfl 72 _ rfl (w7.heap.size) 0 rfl _ (resVA c S g1 g2 g3 g4 g5) hG rfl _ Tryz.underlying72 rfl (by kernel_rfl) ?_; (try simp only [Act.put, List.setIfInBounds_toArray, List.set_cons_zero, List.set_cons_succ])))
    go_at_call 28
    refine (toVt_calls t u v1 v2 v3 v4 _ hnt1 hnt2 hnt3 hnt4 hnt5 hrt).mono ?_
    rintro e w15 ⟨y1, y2, y3, y4, y5, rfl, hq', hb⟩
    have z15 : w14.heap.size ≤ w15.heap.size := hb.size
    replace hAt := hAt.belowb hb
    replace hJ := hJ.belowb hb
    replace hX := hX.belowb hb
    replace hG := hG.belowb hb
    replace hrt := hrt.below hb
    replace hj := hj.below hb (by omega)
    replace hg := hg.below hb (by omega)
    have b15 : Below w.heap.size w w15 := b14.trans (hb.mono (by omega))
    clear hb b14
    go_wp2_with fail
    go_at_call 39
    refine (rv_impl HC.out HS.out _ _ _ _ _ _ hnt1 hnt2 hnt3 hnt4 hnt5 hq'.read).mono ?_
    rintro e w16 ⟨u1, u2, u3, u4, u5, rfl, hu, hb⟩
    have z16 : w15.heap.size ≤ w16.heap.size := hb.size
    replace hAt := hAt.belowb hb
    replace hJ := hJ.belowb hb
    replace hX := hX.belowb hb
    replace hG := hG.belowb hb
    replace hrt := hrt.below hb
    replace hj := hj.below hb (by omega)
    replace hg := hg.below hb (by omega)
    replace hq' := hq'.below hb (by omega)
    have b16 : Below w.heap.size w w16 := b15.trans (hb.mono (by omega))
    clear hb b15
    clear hq'
    go_wp2_with (first | fail | (refine wpList_load_at rfl 64 _ rfl (w.heap.size) 0 rfl _ (vtA t u v1 v2 v3 v4) hAt rfl _ Tryz.underlying64 rfl (by kernel_rfl) ?_; (try simp only [Act.put, List.setIfInBounds_toArray, List.set_cons_zero, List.set_cons_succ])) | (refine wpList_load_at rfl 72 _ rfl (w3.heap.size) 0 rfl _ (resVA c S j1 j2 j3 j4 j5) hJ rfl _ Tryz.underlying72 rfl (by kernel_rfl) ?_; (try simp only [Act.put, List.setIfInBounds_toArray, List.set_cons_zero, List.set_cons_succ])) | (refine wpList_load_at rfl 70 _ rfl (w5.heap.size) 0 rfl _ (vtA t q1 q2 q3 q4 q5) hX rfl _ Tryz.underlying70 rfl (by kernel_rfl) ?_; (try simp only [Act.put, List.setIfInBounds_toArray, List.set_cons_zero, List.set_cons_succ])) | (refine wpList_load_at rfl 72 _ rfl (w7.heap.size) 0 rfl _ (resVA c S g1 g2 g3 g4 g5) hG rfl _ Tryz.underlying72 rfl (by kernel_rfl) ?_; (try simp only [Act.put, List.setIfInBounds_toArray, List.set_cons_zero, List.set_cons_succ])) | (refine wpList_store_blk rfl _ _ _ rfl (w16.heap.size) 0 (resVA 0 vt0 (.slice none 0 0) (.slice none 0 0) (.slice none 0 0) (.slice none 0 0) (.slice none 0 0)) (resVA c S u1 u2 u3 u4 u5) (.agg (resVA c S u1 u2 u3 u4 u5)) rfl rfl (Blk.new w16 _ _) rfl (by kernel_rfl) (resV_one hu.read) rfl ?_; (try simp only [Act.put, List.setIfInBounds_toArray, List.set_cons_zero, List.set_cons_succ]); intro w17 hU hu; have hb : Below w16.heap.size w16 w17 := ((Below.refl _ w16).alloc (Nat.le_refl _) _).trans (hu.below (Nat.le_refl _)); have z17 : w16.heap.size + 1 = w17.heap.size := (by have := hu.size; simp at this; omega); clear hu; replace hAt := hAt.belowb hb; replace hJ := hJ.belowb hb; replace hX := hX.belowb hb; replace hG := hG.belowb hb) | (refine wpList_load_at rfl 72 _ rfl (w16.heap.size) 0 rfl _ (resVA c S u1 u2 u3 u4 u5) hU rfl _ Tryz.underlying72 rfl (by kernel_rfl) ?_; (try simp only [Act.put, List.setIfInBounds_toArray, List.set_cons_zero, List.set_cons_succ])))
    replace hrt := hrt.below hb
    replace hj := hj.below hb (by omega)
    replace hg := hg.below hb (by omega)
    replace hu := hu.below hb (by omega)
    have b17 : Below w.heap.size w w17 := b16.trans (hb.mono (by omega))
    clear hb b16
    go_at_call 31
    refine (eqVtResult_calls c S _ _ _ _ _ _ _ _ _ _ _ hS0 hS1 hS2 hS3 hS4 hu.read hj.read).mono ?_
    rintro e w18 ⟨rfl, hb⟩
    have z18 : w17.heap.size ≤ w18.heap.size := hb.size
    replace hAt := hAt.belowb hb
    replace hJ := hJ.belowb hb
    replace hX := hX.belowb hb
    replace hG := hG.belowb hb
    replace hU := hU.belowb hb
    replace hrt := hrt.below hb
    replace hj := hj.below hb (by omega)
    replace hg := hg.below hb (by omega)
    replace hu := hu.below hb (by omega)
    have b18 : Below w.heap.size w w18 := b17.trans (hb.mono (by omega))
    clear hb b17
    go_wp2_with (first | fail | (refine wpList_load_at rfl 64 _ rfl (w.heap.size) 0 rfl _ (vtA t u v1 v2 v3 v4) hAt rfl _ Tryz.underlying64 rfl (by kernel_rfl) ?_; (try simp only [Act.put, List.setIfInBounds_toArray, List.set_cons_zero, List.set_cons_succ])) | (refine wpList_load_at rfl 72 _ rfl (w3.heap.size) 0 rfl _ (resVA c S j1 j2 j3 j4 j5) hJ rfl _ Tryz.underlying72 rfl (by kernel_rfl) ?_; (try simp only [Act.put, List.setIfInBounds_toArray, List.set_cons_zero, List.set_cons_succ])) | (refine wpList_load_at rfl 70 _ rfl (w5.heap.size) 0 rfl _ (vtA t q1 q2 q3 q4 q5) hX rfl _ Tryz.underlying70 rfl (by kernel_rfl) ?_; (try simp only [Act.put, List.setIfInBounds_toArray, List.set_cons_zero, List.set_cons_succ])) | (refine wpList_load_at rfl 72 _ rfl (w7.heap.size) 0 rfl _ (resVA c S g1 g2 g3 g4 g5) hG rfl _ Tryz.underlying72 rfl (by kernel_rfl) ?_; (try simp only [Act.put, List.setIfInBounds_toArray, List.set_cons_zero, List.set_cons_succ])) | (refine wpList_load_at rfl 72 _ rfl (w16.heap.size) 0 rfl _ (resVA c S u1 u2 u3 u4 u5) hU rfl _ Tryz.underlying72 rfl (by kernel_rfl) ?_; (try simp only [Act.put, List.setIfInBounds_toArray, List.set_cons_zero, List.set_cons_succ])))
    go_at_call 37
    refine (heldVtResult_calls c S 1 _ _ _ _ _ _ hS0 hS1 hS2 hS3 hS4 hS0 (by omega) (by omega) hg.read).mono ?_
    rintro e w19 ⟨rfl, hb⟩
    have z19 : w18.heap.size ≤ w19.heap.size := hb.size
    replace hAt := hAt.belowb hb
    replace hJ := hJ.belowb hb
    replace hX := hX.belowb hb
    replace hG := hG.belowb hb
    replace hU := hU.belowb hb
    replace hrt := hrt.below hb
    replace hj := hj.below hb (by omega)
    replace hg := hg.below hb (by omega)
    replace hu := hu.below hb (by omega)
    have b19 : Below w.heap.size w w19 := b18.trans (hb.mono (by omega))
    clear hb b18
    go_wp2
    go_ret
    exact ⟨rfl, b19⟩
  · have q0 : Below w.heap.size w (w.alloc (.cells (vtA t u v1 v2 v3 v4) 64)) := (by repeat' (first | with_reducible exact Below.refl _ _ | with_reducible assumption | with_reducible refine Below.drew ?_ | with_reducible refine Below.alloc ?_ ?_ _ | with_reducible refine Below.setCell ?_ ?_ _ | (simp; done) | (simp; omega) | omega))
    have hAt := Blk.new w (vtA t u v1 v2 v3 v4) 64
    go_enter Tryz.func6, Tryz.ntmps6
    go_wp2_with (first | fail | (refine wpList_load_at rfl 64 _ rfl (w.heap.size) 0 rfl _ (vtA t u v1 v2 v3 v4) hAt rfl _ Tryz.underlying64 rfl (by kernel_rfl) ?_; (try simp only [Act.put, List.setIfInBounds_toArray, List.set_cons_zero, List.set_cons_succ])))
    go_at_call 26
    refine (szVt_calls t u v1 v2 v3 v4 1048576 (by omega) (by omega) _ (hrt.below q0) hmt1 hmt2 hmt3 hmt4 hmt5).mono ?_
    rintro e w1 ⟨rfl, hb⟩
    replace hAt := hAt.belowb hb
    have b1 : Below w.heap.size w w1 := q0.trans (hb.mono q0.size)
    clear hb q0
    rw [if_neg (by omega)]
    go_wp2
    go_ret
    exact ⟨rfl, b1⟩

theorem lawRV_laid : laidOutB Tryz.prog = true := by kernel_rfl
theorem lawRV_own : ownKnob Tryz.prog.godebug = none := by kernel_rfl
set_option maxRecDepth 100000 in
theorem lawRV_lifted (os : Os) (started : os.Started) (H : Type) (enc : TypeId × Value → H) :
    ReturnsInHanded {} Tryz.checked os 6 .any (Rows.fnExactResizeVtSpec.pre6 enc Tryz.prog Tryz.f6 Rows.fnExactResizeVtRow.domain false) (Rows.fnExactResizeVtSpec.post enc Tryz.prog Tryz.f6 false true false false) := by
  refine returnsInHanded_of_change (C := Tryz.checked) lawRV_own started (by kernel_rfl) Tryz.func6
    (ChangeSpec.witness6 (enc := enc) (C := Tryz.checked) false ⟨#[], #[.agg #[.int .i64 0, .int .i64 0, .int .i64 0, .int .i64 0, .int .i64 0, .bool false, .slice none 0 0, .int .i64 0, .int .i64 0, .slice none 0 0, .slice none 0 0, .int .i64 0, .int .i64 0, .bool false, .int .i64 0, .int .i64 0, .int .i64 0, .bool false, .bool false, .bool false, .slice none 0 0, .int .i64 0, .int .i64 0, .int .i64 0, .slice none 0 0, .int .i64 0, .int .i64 0], .int .i64 0, .int .i64 0], []⟩ 8 (by kernel_rfl) (by kernel_rfl) (by kernel_rfl) (by kernel_rfl)) ?_
  intro W base args ds gs before hval0 hW hcnd _
  have hval : ∀ (j : Nat) t v, Tryz.f6.params[j]? = some t → args[j]? = some v → Value.okWide Tryz.prog W .any base t v := hval0
  have hW' := hW
  obtain ⟨p, q, hA0, hV, rfl, hfz, hnd⟩ := hW
  have hA : DataW.TrodAll enc Tryz.prog W 0 (fun _ => true) true Tryz.f6.params.toList args.toList ds p := hA0
  rw [Tryz.params6] at hA hval
  obtain ⟨z0, z1, z2, d0, d1, d2, p0, p1, p2, rfl, rfl, rfl, h0, h1, h2⟩ := trodAll_three hA
  obtain ⟨rfl, rfl⟩ := trodVars_none hV
  have k0 := h0
  have lt0 : ∀ x ∈ p0, x.block < W.heap.size := by obtain ⟨m, hm⟩ := k0; exact DataW.trod_lt m _ _ _ hm
  obtain ⟨t, u, v1, v2, v3, v4, rfl, hrt, hmt1, hmt2, hmt3, hmt4, hmt5⟩ := open_vt (hval 0 64 z0 rfl rfl) h0
  obtain ⟨rows, rfl, rfl, rfl, wi0⟩ := open_int Tryz.underlying2 (hval 1 2 z1 rfl rfl) h1
  obtain ⟨width, rfl, rfl, rfl, wi1⟩ := open_int Tryz.underlying2 (hval 2 2 z2 rfl rfl) h2
  clear hA0 hval0

  refine (lawRV_walk t u v1 v2 v3 v4 rows width W hrt hmt1 hmt2 hmt3 hmt4 hmt5).mono fun e W' ⟨he, bel⟩ => ?_
  subst he
  exact ⟨_, rfl, _, _, _, [], _, [], hW', trodAll_mk1 (shut_bool Tryz.underlying4 _), trodAll_mk3 (Below.trod lawRV_laid (by kernel_rfl) (of_decide_eq_true (by kernel_rfl)) k0 bel lt0) (shut_int Tryz.underlying2 wi0) (shut_int Tryz.underlying2 wi1), rfl, bel.frame _, fun h => by cases h⟩

theorem lawRV_over : Rows.fnExactResizeVtRow.holds Tryz.pinned (OpenSpec.ofChange Rows.fnExactResizeVtSpec) :=
  OpenClaim.holds_of_wide 6 Tryz.f6 rfl rfl rfl rfl rfl rfl rfl ⟨rfl, rfl, rfl, rfl, rfl⟩ rfl rfl rfl rfl rfl (by kernel_rfl) Tryz.func6 (by kernel_rfl)
    (of_decide_eq_true (by kernel_rfl)) (by unfold Func.isWrapper; first | (rw [if_pos (by decide +kernel)]; kernel_rfl) | (rw [if_neg (by decide +kernel)]; exact ⟨rfl, rfl⟩))
    (fun os started H enc _ => lawRV_lifted os started H enc)

theorem lawRV_proved : Rows.FnExactResizeVtSaid := lawRV_over
#print axioms lawRV_proved
end Go.Proofs.YtdekegjplegkeaaGreat
