/-
  For every screen and every two int64 the law FnExactResizeScreen returns true: impl.ResizeScreen answers at each screen and each size what the model's ResizeScreen answers, every field; its lists are memory of its own, and it turns no argument. No condition (the law itself passes screens of more than 1048576 cells, tab stops and tables together by).
-/
import Derived.Test.YtknkbihjboadjaaCopyNew
import Derived.Test.YtknkbihjboadjaaScrFns
import Derived.Test.YtknkbihjboadjaaOwnScr
import Derived.Test.YtknkbihjboadjaaGoFns
import Derived.Test.YtknkbihjboadjaaMem
import Derived.Test.YtknkbihjboadjaaResizeTop
import Derived.Test.YtknkbihjboadjaaScrollSpec
import Derived.Test.YtknkbihjboadjaaUntil
import Derived.Test.YtknkbihjboadjaaScrFaults
import Derived.Deep.QuietTactic
import Derived.BigQuiet
import Derived.Test.YtknkbihjboadjaaPlaceFns
import Derived.Test.YtknkbihjboadjaaSegMem
import Derived.Test.YtknkbihjboadjaaRzScr
import Derived.Deep.RegionHeld3
import Derived.Test.YtknkbihjboadjaaGridFns
import Derived.Test.YtknkbihjboadjaaCellFns
import Derived.Test.YtknkbihjboadjaaRows
import Derived.Test.YtknkbihjboadjaaPairMem
import Derived.WalkKit
import Derived.ProofKit
import Derived.OpenShut
import Derived.Below
import Derived.Deep.SlicePairs
import Derived.Lib.SmallJoins
import Derived.Test.YtknkbihjboadjaaScrMem
import Derived.ChangeSlices
import Derived.Deep.Grids
import Derived.Deep.RegionHeld
import Derived.ShutString
import Derived.ChangeOld
/- l5Copy of the model: a copy of a screen that shares nothing. -/
namespace Go.Proofs.Ytknkbihjboadjaa
set_option maxRecDepth 20000
open Go.ChangeShapes Go.WideShapes Go.ChangeAt Go.RowKit
set_option linter.unusedVariables false
set_option linter.unusedSimpArgs false
set_option maxRecDepth 20000

theorem scrA_grdC (s : Scr) (v1 v2 v3 v4 : Value) : ((scrA s v1 v2 v3 v4).toList.drop 0).take (#[.int .i64 s.r, .int .i64 s.wd, v1, v2] : Array Value).size = (#[.int .i64 s.r, .int .i64 s.wd, v1, v2] : Array Value).toList := rfl
/-- A row of one's own stays where another block turns. -/
theorem own_upd {w w' : World} {base size n g : Nat} {e : TypeId} {v : Value} {xs : List Value} (h : w.ownsRow base e size v n xs) (hu : Upd g w w') (hg : ∀ k, v.ownBlock = some k → k ≠ g) : w'.ownsRow base e size v n xs := by
  obtain ⟨h1, h2⟩ := h
  refine ⟨h1, ?_⟩
  rcases h2 with h2 | ⟨q, cap, cur, rfl, hb, hq, hr⟩
  · exact .inl h2
  · exact .inr ⟨q, cap, cur, rfl, hb, (hu.block q (hg q (by simp [Value.ownBlock]))).trans hq, hr⟩
set_option maxHeartbeats 4000000 in
theorem l5Copy_calls (s : Scr) (v1 v2 v3 v4 : Value) (w : World) (hn1 : s.cs.length ≤ 1048576) (hn2 : s.bs.length ≤ 1048576) (hn3 : s.tabs.length ≤ 1048576) (hn4 : s.sets.length ≤ 1048576) (h : SRead w s v1 v2 v3 v4) :
    Calls Try.prog 29 #[.agg (scrA s v1 v2 v3 v4)] w fun e w' => ∃ u1 u2 u3 u4, e = .returned (.agg (scrA s u1 u2 u3 u4)) ∧ (∃ p1 p2 p3 p4, w.heap.size ≤ p1 ∧ p1 ≤ p2 ∧ p2 ≤ p3 ∧ p3 ≤ p4 ∧ p4 ≤ w'.heap.size ∧ w'.ownsRow p1 99 2 u1 s.cs.length (pvs s.cs) ∧ (∀ k, u1.ownBlock = some k → k < p2) ∧ w'.ownsRow p2 99 2 u2 s.bs.length (pvs s.bs) ∧ (∀ k, u2.ownBlock = some k → k < p3) ∧ BoolsAt p3 p4 w' u3 s.tabs ∧ IntsAt .i64 p4 w'.heap.size w' u4 s.sets) ∧ Below w.heap.size w w' := by
  obtain ⟨ii, hi, hi0, hi1, hi2⟩ := info_parts info_intO
  obtain ⟨ib, hb', hb0, hb1, hb2⟩ := info_parts info_boolO
  have h' := h
  obtain ⟨a1, c1, a2, c2, a3, c3, a4, c4, rfl, rfl, rfl, rfl⟩ := h'.forms
  clear h'
  have bel : Below w.heap.size w ((w.alloc (.cells (scrA s (.slice a1 s.cs.length c1) (.slice a2 s.bs.length c2) (.slice a3 s.tabs.length c3) (.slice a4 s.sets.length c4)) 34)).alloc (.cells #[.int .i64 0, .int .i64 0, .slice none 0 0, .slice none 0 0, .int .i64 0, .int .i64 0, .bool false, .int .i64 0, .int .i64 0, .int .i64 0, .bool false, .bool false, .bool false, .slice none 0 0, .int .i64 0, .int .i64 0, .int .i64 0, .slice none 0 0, .int .i64 0, .int .i64 0] 34)) := (by repeat' (first | with_reducible exact Below.refl _ _ | with_reducible assumption | with_reducible refine Below.drew ?_ | with_reducible refine Below.alloc ?_ ?_ _ | with_reducible refine Below.setCell ?_ ?_ _ | (simp; done) | (simp; omega) | omega))
  have s0 : ((w.alloc (.cells (scrA s (.slice a1 s.cs.length c1) (.slice a2 s.bs.length c2) (.slice a3 s.tabs.length c3) (.slice a4 s.sets.length c4)) 34)).alloc (.cells #[.int .i64 0, .int .i64 0, .slice none 0 0, .slice none 0 0, .int .i64 0, .int .i64 0, .bool false, .int .i64 0, .int .i64 0, .int .i64 0, .bool false, .bool false, .bool false, .slice none 0 0, .int .i64 0, .int .i64 0, .int .i64 0, .slice none 0 0, .int .i64 0, .int .i64 0] 34)).heap.size = w.heap.size + 2 := by simp
  have hA := (Blk.new w (scrA s (.slice a1 s.cs.length c1) (.slice a2 s.bs.length c2) (.slice a3 s.tabs.length c3) (.slice a4 s.sets.length c4)) 34).alloc (.cells #[.int .i64 0, .int .i64 0, .slice none 0 0, .slice none 0 0, .int .i64 0, .int .i64 0, .bool false, .int .i64 0, .int .i64 0, .int .i64 0, .bool false, .bool false, .bool false, .slice none 0 0, .int .i64 0, .int .i64 0, .int .i64 0, .slice none 0 0, .int .i64 0, .int .i64 0] 34)
  have hO : Blk ((w.alloc (.cells (scrA s (.slice a1 s.cs.length c1) (.slice a2 s.bs.length c2) (.slice a3 s.tabs.length c3) (.slice a4 s.sets.length c4)) 34)).alloc (.cells #[.int .i64 0, .int .i64 0, .slice none 0 0, .slice none 0 0, .int .i64 0, .int .i64 0, .bool false, .int .i64 0, .int .i64 0, .int .i64 0, .bool false, .bool false, .bool false, .slice none 0 0, .int .i64 0, .int .i64 0, .int .i64 0, .slice none 0 0, .int .i64 0, .int .i64 0] 34)) (w.heap.size + 1) (scrA scr0 (.slice none 0 0) (.slice none 0 0) (.slice none 0 0) (.slice none 0 0)) := Blk.new_at (by simp) _ _
  go_enter Try.func29, Try.ntmps29
  go_wp2_with (first | fail | (refine wpList_load_at rfl 32 _ rfl (w.heap.size) 0 rfl _ #[.int .i64 s.r, .int .i64 s.wd, .slice a1 s.cs.length c1, .slice a2 s.bs.length c2] hA (scrA_grdC s _ _ _ _) _ Try.underlying32 rfl (by kernel_rfl) ?_; (try simp only [Act.put, List.setIfInBounds_toArray, List.set_cons_zero, List.set_cons_succ])))
  go_at_call 71
  refine (l3Copy_calls s.r s.wd s.cs s.bs _ _ _ hn1 hn2 (h.g1.below bel) (h.g2.below bel)).mono ?_
  rintro e w1 ⟨x, y, m, rfl, hm1, hm2, hox, hxl, hoy, hb⟩
  rw [s0] at hm1 hox
  obtain ⟨b1, d1, rfl, _⟩ := own_room2 hox
  obtain ⟨b2, d2, rfl, _⟩ := own_room2 hoy
  replace hA := hA.belowb hb
  replace hO := hO.belowb hb
  have s1 : w.heap.size + 2 ≤ w1.heap.size := by have := hb.size; rw [s0] at this; exact this
  have hyl : ∀ k, (Value.slice b2 s.bs.length d2).ownBlock = some k → k < w1.heap.size := fun k hk => (hoy.lt k hk).2
  have HXL := hide hxl
  have HYL := hide hyl
  replace bel := bel.trans (hb.mono bel.size)
  clear hb hxl hyl s0
  have cA := hA.cells
  have e0_2 := scrA_2 s (.slice a1 s.cs.length c1) (.slice a2 s.bs.length c2) (.slice a3 s.tabs.length c3) (.slice a4 s.sets.length c4)
  have e0_3 := scrA_3 s (.slice a1 s.cs.length c1) (.slice a2 s.bs.length c2) (.slice a3 s.tabs.length c3) (.slice a4 s.sets.length c4)
  have e0_13 := scrA_13 s (.slice a1 s.cs.length c1) (.slice a2 s.bs.length c2) (.slice a3 s.tabs.length c3) (.slice a4 s.sets.length c4)
  have e0_17 := scrA_17 s (.slice a1 s.cs.length c1) (.slice a2 s.bs.length c2) (.slice a3 s.tabs.length c3) (.slice a4 s.sets.length c4)
  go_wp2_with (first | fail | (refine wpList_store_blk rfl _ _ _ rfl (w.heap.size) 0 (scrA s (.slice a1 s.cs.length c1) (.slice a2 s.bs.length c2) (.slice a3 s.tabs.length c3) (.slice a4 s.sets.length c4)) (scrA s (.slice b1 s.cs.length d1) (.slice b2 s.bs.length d2) (.slice a3 s.tabs.length c3) (.slice a4 s.sets.length c4)) (.agg #[.int .i64 s.r, .int .i64 s.wd, .slice b1 s.cs.length d1, .slice b2 s.bs.length d2]) rfl rfl hA rfl (by kernel_rfl) rfl rfl ?_; (try simp only [Act.put, List.setIfInBounds_toArray, List.set_cons_zero, List.set_cons_succ]); clear hA cA; intro w2 hA hu; replace hO := hO.upd hu (by omega); replace hox := own_upd hox hu (fun k hk => by have := (hox.lt k hk).1; omega); replace hoy := own_upd hoy hu (fun k hk => by have := (hoy.lt k hk).1; omega); replace bel := bel.trans (hu.below (by omega)); have z2 := Nat.le_of_eq hu.size; have zz2 := Nat.le_of_eq hu.size.symm; clear hu; have cA := hA.cells; have cB := (hA.alloc (.cells #[] 4)).cells; have e1_2 := scrA_2 s (.slice b1 s.cs.length d1) (.slice b2 s.bs.length d2) (.slice a3 s.tabs.length c3) (.slice a4 s.sets.length c4); have e1_3 := scrA_3 s (.slice b1 s.cs.length d1) (.slice b2 s.bs.length d2) (.slice a3 s.tabs.length c3) (.slice a4 s.sets.length c4); have e1_13 := scrA_13 s (.slice b1 s.cs.length d1) (.slice b2 s.bs.length d2) (.slice a3 s.tabs.length c3) (.slice a4 s.sets.length c4); have e1_17 := scrA_17 s (.slice b1 s.cs.length d1) (.slice b2 s.bs.length d2) (.slice a3 s.tabs.length c3) (.slice a4 s.sets.length c4)) | (at_builtin; refine wpList_copy_bools _ rfl (.tmp 7) (.tmp 9) 25 rfl w2.heap.size 4 ib (.bool false) 1 Try.underlying25 hb' hb0 hb1 hb2 rfl (.slice (some ⟨w2.heap.size, 0, none⟩) 0 0) rfl (by have h := World.ownsRow_lit (base := w2.heap.size) (e := 4) (size := 1) w2 #[] 0 (by simp) (by simp) rfl; simpa [boolsV, intsV] using h) _ _ rfl ((h.below bel).g3.below ((Below.refl _ _).alloc (Nat.le_refl _) _)) (by omega) (by omega) (by simp) ?_; intro v' w3 ow hT hb; clear ow; have P' := hT; obtain ⟨b3, d3, rfl, _⟩ := P'; replace hb := ((Below.refl w2.heap.size w2).alloc (Nat.le_refl _) (.cells #[] 4)).trans hb; replace hA := hA.belowb hb; replace hO := hO.belowb hb; replace hox := own_below hox hb; replace hoy := own_below hoy hb; have z3 : w2.heap.size ≤ w3.heap.size := hb.size; replace bel := bel.trans (hb.mono (by omega)); clear hb; have cA := hA.cells) | (refine wpList_store_blk rfl _ _ _ rfl (w.heap.size) 13 (scrA s (.slice b1 s.cs.length d1) (.slice b2 s.bs.length d2) (.slice a3 s.tabs.length c3) (.slice a4 s.sets.length c4)) (scrA s (.slice b1 s.cs.length d1) (.slice b2 s.bs.length d2) (.slice b3 s.tabs.length d3) (.slice a4 s.sets.length c4)) (.slice b3 s.tabs.length d3) rfl rfl hA rfl (by kernel_rfl) rfl rfl ?_; (try simp only [Act.put, List.setIfInBounds_toArray, List.set_cons_zero, List.set_cons_succ]); clear hA cA; intro w4 hA hu; replace hO := hO.upd hu (by omega); replace hox := own_upd hox hu (fun k hk => by have := (hox.lt k hk).1; omega); replace hoy := own_upd hoy hu (fun k hk => by have := (hoy.lt k hk).1; omega); replace hT := hT.of_blocks (w' := w4) (fun q q1 q2 => hu.block q (by omega)); replace bel := bel.trans (hu.below (by omega)); have z4 := Nat.le_of_eq hu.size; have zz4 := Nat.le_of_eq hu.size.symm; clear hu; have cA := hA.cells; have cC := (hA.alloc (.cells #[] 2)).cells; have e2_2 := scrA_2 s (.slice b1 s.cs.length d1) (.slice b2 s.bs.length d2) (.slice b3 s.tabs.length d3) (.slice a4 s.sets.length c4); have e2_3 := scrA_3 s (.slice b1 s.cs.length d1) (.slice b2 s.bs.length d2) (.slice b3 s.tabs.length d3) (.slice a4 s.sets.length c4); have e2_13 := scrA_13 s (.slice b1 s.cs.length d1) (.slice b2 s.bs.length d2) (.slice b3 s.tabs.length d3) (.slice a4 s.sets.length c4); have e2_17 := scrA_17 s (.slice b1 s.cs.length d1) (.slice b2 s.bs.length d2) (.slice b3 s.tabs.length d3) (.slice a4 s.sets.length c4)) | (at_builtin; refine wpList_copy_ints _ rfl (.tmp 12) (.tmp 14) 26 rfl w4.heap.size 2 ii (.int .i64 0) 8 Try.underlying26 hi hi0 hi1 hi2 rfl (.slice (some ⟨w4.heap.size, 0, none⟩) 0 0) rfl (by have h := World.ownsRow_lit (base := w4.heap.size) (e := 2) (size := 1) w4 #[] 0 (by simp) (by simp) rfl; simpa [boolsV, intsV] using h) _ _ rfl ((h.below bel).g4.below ((Below.refl _ _).alloc (Nat.le_refl _) _)) (by omega) (by omega) (by simp) ?_; intro v' w5 ow hI hb; clear ow; have P' := hI; obtain ⟨b4, d4, rfl, _⟩ := P'; replace hb := ((Below.refl w4.heap.size w4).alloc (Nat.le_refl _) (.cells #[] 2)).trans hb; replace hA := hA.belowb hb; replace hO := hO.belowb hb; replace hox := own_below hox hb; replace hoy := own_below hoy hb; have z5 : w4.heap.size ≤ w5.heap.size := hb.size; replace bel := bel.trans (hb.mono (by omega)); replace hT := hT.below hb (by omega); clear hb; have cA := hA.cells) | (refine wpList_store_blk rfl _ _ _ rfl (w.heap.size) 17 (scrA s (.slice b1 s.cs.length d1) (.slice b2 s.bs.length d2) (.slice b3 s.tabs.length d3) (.slice a4 s.sets.length c4)) (scrA s (.slice b1 s.cs.length d1) (.slice b2 s.bs.length d2) (.slice b3 s.tabs.length d3) (.slice b4 s.sets.length d4)) (.slice b4 s.sets.length d4) rfl rfl hA rfl (by kernel_rfl) rfl rfl ?_; (try simp only [Act.put, List.setIfInBounds_toArray, List.set_cons_zero, List.set_cons_succ]); clear hA cA; intro w6 hA hu; replace hO := hO.upd hu (by omega); replace hox := own_upd hox hu (fun k hk => by have := (hox.lt k hk).1; omega); replace hoy := own_upd hoy hu (fun k hk => by have := (hoy.lt k hk).1; omega); replace hT := hT.of_blocks (w' := w6) (fun q q1 q2 => hu.block q (by omega)); replace hI := hI.of_blocks (w' := w6) (fun q q1 q2 => hu.block q (by omega)); replace bel := bel.trans (hu.below (by omega)); have z6 := Nat.le_of_eq hu.size; have zz6 := Nat.le_of_eq hu.size.symm; clear hu; have cA := hA.cells; have e3_2 := scrA_2 s (.slice b1 s.cs.length d1) (.slice b2 s.bs.length d2) (.slice b3 s.tabs.length d3) (.slice b4 s.sets.length d4); have e3_3 := scrA_3 s (.slice b1 s.cs.length d1) (.slice b2 s.bs.length d2) (.slice b3 s.tabs.length d3) (.slice b4 s.sets.length d4); have e3_13 := scrA_13 s (.slice b1 s.cs.length d1) (.slice b2 s.bs.length d2) (.slice b3 s.tabs.length d3) (.slice b4 s.sets.length d4); have e3_17 := scrA_17 s (.slice b1 s.cs.length d1) (.slice b2 s.bs.length d2) (.slice b3 s.tabs.length d3) (.slice b4 s.sets.length d4)) | (refine wpList_load_at rfl 34 _ rfl (w.heap.size) 0 rfl _ (scrA s (.slice b1 s.cs.length d1) (.slice b2 s.bs.length d2) (.slice b3 s.tabs.length d3) (.slice b4 s.sets.length d4)) hA rfl _ Try.underlying34 rfl (by kernel_rfl) ?_; (try simp only [Act.put, List.setIfInBounds_toArray, List.set_cons_zero, List.set_cons_succ])) | (refine wpList_store_blk rfl _ _ _ rfl (w.heap.size + 1) 0 (scrA scr0 (.slice none 0 0) (.slice none 0 0) (.slice none 0 0) (.slice none 0 0)) (scrA s (.slice b1 s.cs.length d1) (.slice b2 s.bs.length d2) (.slice b3 s.tabs.length d3) (.slice b4 s.sets.length d4)) (.agg (scrA s (.slice b1 s.cs.length d1) (.slice b2 s.bs.length d2) (.slice b3 s.tabs.length d3) (.slice b4 s.sets.length d4))) rfl rfl hO rfl (by kernel_rfl) rfl rfl ?_; (try simp only [Act.put, List.setIfInBounds_toArray, List.set_cons_zero, List.set_cons_succ]); clear hO; intro w7 hO hu; have HX3 := hide (fun k (hk : (Value.slice b1 s.cs.length d1).ownBlock = some k) => (by have := (hox.lt k hk).1; omega : k ≠ w.heap.size + 1)); have HY3 := hide (fun k (hk : (Value.slice b2 s.bs.length d2).ownBlock = some k) => (by have := (hoy.lt k hk).1; omega : k ≠ w.heap.size + 1))))
  exact bodyPost_ret (results_blk hO _ _ rfl rfl Try.underlying34 rfl (by kernel_rfl)) rfl ⟨_, _, _, _, rfl, ⟨w.heap.size + 2, m, w1.heap.size, w3.heap.size, by omega, by omega, by omega, by omega, by have := hu.size; omega, own_upd hox hu HX3.out, HXL.out, own_upd hoy hu HY3.out, HYL.out, (BoolsAt.of_blocks hT (fun q q1 q2 => hu.block q (by omega))).mono (by omega) (by omega), (hI.of_blocks (fun q q1 q2 => hu.block q (by omega))).mono (by omega) (by have := hu.size; omega)⟩, bel.trans (hu.below (by omega))⟩
end Go.Proofs.Ytknkbihjboadjaa

/- Where one may go on a screen, for the model: l5Go. -/
namespace Go.Proofs.Ytknkbihjboadjaa
set_option maxRecDepth 20000
open Go.ChangeShapes Go.WideShapes Go.ChangeAt Go.RowKit
set_option linter.unusedVariables false
set_option linter.unusedSimpArgs false
set_option maxRecDepth 20000

theorem l1Max_calls (a b : Int) (w : World) : Calls Try.prog 76 #[.int .i64 a, .int .i64 b] w fun e w' => e = .returned (.int .i64 (max a b)) ∧ w' = w := by
  by_cases h : b < a
  · go_enter Try.func76, Try.ntmps76
    go_wp2
    go_ret
    exact ⟨by rw [show max a b = a by omega]; rfl, rfl⟩
  · go_enter Try.func76, Try.ntmps76
    go_wp2
    go_ret
    exact ⟨by rw [show max a b = b by omega]; rfl, rfl⟩
def goTo (s : Scr) (y x : Int) : Scr := goCol (goRow s y) x
set_option maxHeartbeats 2000000 in
theorem l5Go_calls (s : Scr) (v1 v2 v3 v4 : Value) (b ob : Nat) (O : Nat → Prop) (y x : Int) (w : World) (s1 : 1 ≤ s.r) (s2 : s.r ≤ 6) (s3 : 2 ≤ s.wd) (s4 : s.wd ≤ 12) (hB : Seg w b ob (scrA s v1 v2 v3 v4)) :
    Calls Try.prog 33 #[.pointer (some ⟨b, ob, none⟩), .int .i64 y, .int .i64 x] w fun e w' => (∃ u, e = .returned u) ∧ Seg w' b ob (scrA (goTo s y x) v1 v2 v3 v4) ∧ Turn O b ob (ob + 20) w w' := by
  obtain ⟨m, hm⟩ : ∃ m, min (rowHi s) y = m := ⟨_, rfl⟩
  obtain ⟨k, hk⟩ : ∃ k, max (rowLo s) m = k := ⟨_, rfl⟩
  obtain ⟨p, hp⟩ : ∃ p, min (s.wd - 1) x = p := ⟨_, rfl⟩
  obtain ⟨q, hq⟩ : ∃ q, max 0 p = q := ⟨_, rfl⟩
  have e1 : goTo s y x = { s with y := k, x := q, wrap := false } := by
    unfold goTo goCol goRow
    rw [Int.min_comm y, hm, hk]
    show ({ s with y := k, wrap := false, x := max 0 (min x (s.wd - 1)) } : Scr) = _
    rw [Int.min_comm x, hp, hq]
  rw [e1]
  have hr : IntKind.i64.wrap (s.r - 1) = s.r - 1 := wrap_small (by omega) (by omega)
  have hc : IntKind.i64.wrap (s.wd - 1) = s.wd - 1 := wrap_small (by omega) (by omega)
  have hT := Turn.refl O b ob (ob + 20) w
  clear e1
  unfold rowHi at hm
  unfold rowLo at hk
  have g0 := hB.at0 (scrA_0 s v1 v2 v3 v4)
  have g1 := hB.at 1 (scrA_1 s v1 v2 v3 v4)
  have g8 := hB.at 8 (scrA_8 s v1 v2 v3 v4)
  have g9 := hB.at 9 (scrA_9 s v1 v2 v3 v4)
  have g10 := hB.at 10 (scrA_10 s v1 v2 v3 v4)
  rcases (show s.org = false ∨ s.org = true by cases s.org <;> simp) with ho | ho
  · rw [ho] at hm hk g10
    simp only [Bool.false_eq_true, if_false] at hm hk
    have HM := hide hm
    have HK := hide hk
    have HP := hide hp
    have HQ := hide hq
    clear hm hk hp hq
    go_enter Try.func33, Try.ntmps33
    go_wp2_with (first | (go_at_call 31; refine (l1Min_calls _ _ _).mono ?_; rintro e w' ⟨rfl, hw⟩; rw [hw]; clear hw w'; first | rw [HM.out] | rw [HK.out] | rw [HP.out] | rw [HQ.out]) | (go_at_call 76; refine (l1Max_calls _ _ _).mono ?_; rintro e w' ⟨rfl, hw⟩; rw [hw]; clear hw w'; first | rw [HM.out] | rw [HK.out] | rw [HP.out] | rw [HQ.out]) | (refine wpList_store_seg rfl O 2 _ _ rfl b ob 4 (scrA s v1 v2 v3 v4) (.int .i64 k) hB rfl rfl rfl (by kernel_rfl) rfl ?_; (try simp only [Act.put, List.setIfInBounds_toArray, List.set_cons_zero, List.set_cons_succ]); clear g0 g1 g8 g9 g10; intro w1 hB' tt; replace hT := hT.trans tt; clear hB tt; have hB : Seg w1 b ob (scrA { s with y := k } v1 v2 v3 v4) := hB'; clear hB'; have g1 := hB.at 1 (scrA_1 { s with y := k } v1 v2 v3 v4)) | (refine wpList_store_seg rfl O 2 _ _ rfl b ob 5 (scrA { s with y := k } v1 v2 v3 v4) (.int .i64 q) hB rfl rfl rfl (by kernel_rfl) rfl ?_; (try simp only [Act.put, List.setIfInBounds_toArray, List.set_cons_zero, List.set_cons_succ]); clear g1; intro w2 hB' tt; replace hT := hT.trans tt; clear hB tt; have hB : Seg w2 b ob (scrA { s with y := k, x := q } v1 v2 v3 v4) := hB'; clear hB') | (refine wpList_store_seg rfl O 4 _ _ rfl b ob 6 (scrA { s with y := k, x := q } v1 v2 v3 v4) (.bool false) hB rfl rfl rfl (by kernel_rfl) rfl ?_; (try simp only [Act.put, List.setIfInBounds_toArray, List.set_cons_zero, List.set_cons_succ]); intro w3 hB' tt; replace hT := hT.trans tt; clear hB tt; have hB : Seg w3 b ob (scrA { s with y := k, x := q, wrap := false } v1 v2 v3 v4) := hB'; clear hB'))
    go_end0
    exact ⟨⟨_, rfl⟩, hB, hT⟩
  · rw [ho] at hm hk g10
    simp only [if_true] at hm hk
    have HM := hide hm
    have HK := hide hk
    have HP := hide hp
    have HQ := hide hq
    clear hm hk hp hq
    go_enter Try.func33, Try.ntmps33
    go_wp2_with (first | (go_at_call 31; refine (l1Min_calls _ _ _).mono ?_; rintro e w' ⟨rfl, hw⟩; rw [hw]; clear hw w'; first | rw [HM.out] | rw [HK.out] | rw [HP.out] | rw [HQ.out]) | (go_at_call 76; refine (l1Max_calls _ _ _).mono ?_; rintro e w' ⟨rfl, hw⟩; rw [hw]; clear hw w'; first | rw [HM.out] | rw [HK.out] | rw [HP.out] | rw [HQ.out]) | (refine wpList_store_seg rfl O 2 _ _ rfl b ob 4 (scrA s v1 v2 v3 v4) (.int .i64 k) hB rfl rfl rfl (by kernel_rfl) rfl ?_; (try simp only [Act.put, List.setIfInBounds_toArray, List.set_cons_zero, List.set_cons_succ]); clear g0 g1 g8 g9 g10; intro w1 hB' tt; replace hT := hT.trans tt; clear hB tt; have hB : Seg w1 b ob (scrA { s with y := k } v1 v2 v3 v4) := hB'; clear hB'; have g1 := hB.at 1 (scrA_1 { s with y := k } v1 v2 v3 v4)) | (refine wpList_store_seg rfl O 2 _ _ rfl b ob 5 (scrA { s with y := k } v1 v2 v3 v4) (.int .i64 q) hB rfl rfl rfl (by kernel_rfl) rfl ?_; (try simp only [Act.put, List.setIfInBounds_toArray, List.set_cons_zero, List.set_cons_succ]); clear g1; intro w2 hB' tt; replace hT := hT.trans tt; clear hB tt; have hB : Seg w2 b ob (scrA { s with y := k, x := q } v1 v2 v3 v4) := hB'; clear hB') | (refine wpList_store_seg rfl O 4 _ _ rfl b ob 6 (scrA { s with y := k, x := q } v1 v2 v3 v4) (.bool false) hB rfl rfl rfl (by kernel_rfl) rfl ?_; (try simp only [Act.put, List.setIfInBounds_toArray, List.set_cons_zero, List.set_cons_succ]); intro w3 hB' tt; replace hT := hT.trans tt; clear hB tt; have hB : Seg w3 b ob (scrA { s with y := k, x := q, wrap := false } v1 v2 v3 v4) := hB'; clear hB'))
    go_end0
    exact ⟨⟨_, rfl⟩, hB, hT⟩
end Go.Proofs.Ytknkbihjboadjaa

/- A slice that has room for what it holds. -/
namespace Go.Proofs.Ytknkbihjboadjaa
set_option maxRecDepth 20000
def Capped (v : Value) : Prop := ∀ a n c, v = .slice a n c → n ≤ c
theorem Capped.of {a : Option Addr} {n c : Nat} (h : n ≤ c) : Capped (.slice a n c) := fun _ _ _ e => by cases e; exact h
end Go.Proofs.Ytknkbihjboadjaa

/- What ResizeGrid answers, of the model: l3Fit, l3Resize. -/
namespace Go.Proofs.Ytknkbihjboadjaa
set_option maxRecDepth 20000
open Go.ChangeShapes Go.WideShapes Go.ChangeAt Go.RowKit
set_option linter.unusedVariables false
set_option linter.unusedSimpArgs false
set_option maxRecDepth 20000

theorem fitF_step2 {m m' k : Nat} {f : Nat → Int × Int} {bl : Int × Int} (h : 0 < m') (i : Nat) : (if k * m' ≤ i ∧ i < k * m' + m' then (if i - k * m' < min m m' then f (k * m + (i - k * m')) else bl) else fitF m m' k f bl i) = fitF m m' (k + 1) f bl i := by
  rw [← fitF_step h]
  by_cases e : k * m' ≤ i ∧ i < k * m' + m'
  · rw [if_pos e]
    by_cases e2 : i - k * m' < min m m'
    · rw [if_pos e2, if_pos (by omega)]
    · rw [if_neg e2, if_neg (by omega)]
      unfold fitF
      rw [if_neg (by omega)]
  · rw [if_neg e, if_neg (by omega)]
theorem fitF_more {m m' K k : Nat} {f : Nat → Int × Int} {bl : Int × Int} (h : 0 < m') (hk : k < K) : mkL (k * m') (fitF m m' K f bl) ++ mkL m' (fun x => if x < min m m' then f (k * m + x) else bl) = mkL ((k + 1) * m') (fitF m m' K f bl) := by
  rw [Nat.add_mul, Nat.one_mul, mkL_add]
  congr 1
  refine mkL_congr (fun x hx => ?_)
  unfold fitF
  have h2 : (k + 1) * m' ≤ K * m' := Nat.mul_le_mul_right m' (by omega)
  rw [Nat.add_mul, Nat.one_mul] at h2
  have hd : (k * m' + x) / m' = k := Nat.div_eq_of_lt_le (by omega) (by rw [Nat.add_mul, Nat.one_mul]; omega)
  have hm := Nat.div_add_mod (k * m' + x) m'
  rw [hd, Nat.mul_comm] at hm
  have hx2 : (k * m' + x) % m' = x := by omega
  rw [hd, hx2]
  by_cases e : x < m
  · rw [if_pos (by omega), if_pos ⟨by omega, e⟩]
  · rw [if_neg (by omega), if_neg (by omega)]
set_option maxHeartbeats 2000000 in
theorem l3RowOf_off (pb bx off n cx k m u : Nat) (y wd : Int) (f : Nat → Int × Int) (w : World) (c1 : w.cell? ⟨pb, 1, none⟩ = some (.int .i64 wd)) (c2 : w.cell? ⟨pb, 2, none⟩ = some (.slice (some ⟨bx, off, none⟩) n cx)) (hr : RowR w bx off n f) (hc : n ≤ cx)
    (hk : y * wd = (k : Int)) (hm : wd = (m : Int)) (hu : u = k + m) (hun : u ≤ n) (hn : n ≤ 1048576) (hm0 : 0 < m) (y0 : 0 ≤ y) (y1 : y ≤ 1000) :
    Calls Try.prog 75 #[.pointer (some ⟨pb, 0, none⟩), .int .i64 y] w fun e w' => ∃ v, e = .returned v ∧ w'.ownsRow w.heap.size 99 2 v m (pvs (mkL m (fun i => f (k + i)))) ∧ Below w.heap.size w w' := by
  obtain ⟨i0, hi, hz0, hz1, hz2⟩ := info_parts info_cell
  have e1 : IntKind.i64.wrap (y * wd) = (k : Int) := by rw [hk]; exact wrap_small (by omega) (by omega)
  have e2 : IntKind.i64.wrap ((y + 1) * wd) = (u : Int) := by rw [Int.add_mul, hk, hm]; rw [show (k : Int) + 1 * (m : Int) = (u : Int) by omega]; exact wrap_small (by omega) (by omega)
  have e3 : IntKind.i64.wrap (y + 1) = y + 1 := wrap_small (by omega) (by omega)
  have e4 : u ≤ cx := by omega
  have e5 : (k : Int) ≤ (u : Int) := by omega
  have e6 : (u : Int) ≤ (cx : Int) := by omega
  have e7 : ¬ cx = k := by omega
  have e8 : ¬ k = cx := by omega
  have e9 : k ≤ u := by omega
  have HK := hide hk
  have HM := hide hm
  have HU := hide hu
  clear hk hm
  have hpr : PRead (w.drew.alloc (.cells #[] 99)) (.slice (some ⟨bx, off + k * 2, none⟩) (u - k) (cx - k)) (mkL (u - k) (fun i => f (k + i))) := by
    have h := (hr.sub k (u - k) (by omega)).below (B := w.heap.size) (w' := w.drew.alloc (.cells #[] 99)) (by repeat' (first | with_reducible exact Below.refl _ _ | with_reducible assumption | with_reducible refine Below.drew ?_ | with_reducible refine Below.alloc ?_ ?_ _ | with_reducible refine Below.setCell ?_ ?_ _ | (simp; done) | (simp; omega) | omega)) (hr.lt (by omega))
    exact pread_of_row h
  clear hu hr
  go_enter Try.func75, Try.ntmps75
  go_wp2_with fail
  have hlit : (w.drew.alloc (.cells #[] 99)).ownsRow w.heap.size 99 2 (.slice (some ⟨w.heap.size, 0, none⟩) 0 0) 0 (pvs []) := World.ownsRow_lit (base := w.heap.size) (e := 99) (size := 2) w.drew #[] 0 (Nat.le_refl _) (by simp) rfl
  have hba : Below w.heap.size w (w.alloc (.cells #[] 99)) := (by repeat' (first | with_reducible exact Below.refl _ _ | with_reducible assumption | with_reducible refine Below.drew ?_ | with_reducible refine Below.alloc ?_ ?_ _ | with_reducible refine Below.setCell ?_ ?_ _ | (simp; done) | (simp; omega) | omega))
  have K1 := cellb hba c1
  have K2 := cellb hba c2
  refine wp_region_held_drew (S := (fun w' => w'.cell? ⟨pb, 1, none⟩ = some (.int .i64 wd) ∧ w'.cell? ⟨pb, 2, none⟩ = some (.slice (some ⟨bx, off, none⟩) n cx))) (by kernel_rfl) ?_ (fun hHeld => ?_)
  · (try dsimp only); exact ⟨c1, c2⟩
  refine wpAnyH_take (i := 1) (oi := ⟨_, _, _, _, _, _⟩) (v := ?_) rfl (by kernel_rfl) (by kernel_rfl) (by kernel_rfl) (fun _ _ _ h => h) (Or.inl ⟨by rfl, ?_⟩) hHeld ?_
  rotate_left
  · (intro w hSw; (try dsimp only at hSw); go_simp; try (with_reducible rfl))
  try simp only [Act.put, List.setIfInBounds_toArray, List.set_cons_zero, List.set_cons_succ]
  refine wpAnyH_take (i := 2) (oi := ⟨_, _, _, _, _, _⟩) (v := ?_) rfl (by kernel_rfl) (by kernel_rfl) (by kernel_rfl) (fun _ _ _ h => h) (Or.inl ⟨by rfl, ?_⟩) hHeld ?_
  rotate_left
  · (intro w hSw; (try dsimp only at hSw); go_simp; try (with_reducible rfl))
  try simp only [Act.put, List.setIfInBounds_toArray, List.set_cons_zero, List.set_cons_succ]
  refine wpAnyH_take (i := 3) (oi := ⟨_, _, _, _, _, _⟩) (v := ?_) rfl (by kernel_rfl) (by kernel_rfl) (by kernel_rfl) (fun _ _ _ h => h) (Or.inl ⟨by rfl, ?_⟩) hHeld ?_
  rotate_left
  · (intro w hSw; (try dsimp only at hSw); go_simp; try (with_reducible rfl))
  try simp only [Act.put, List.setIfInBounds_toArray, List.set_cons_zero, List.set_cons_succ]
  refine wpAnyH_take (i := 4) (oi := ⟨_, _, _, _, _, _⟩) (v := ?_) rfl (by kernel_rfl) (by kernel_rfl) (by kernel_rfl) (fun _ _ _ h => h) (Or.inl ⟨by rfl, ?_⟩) hHeld ?_
  rotate_left
  · (intro w hSw; (try dsimp only at hSw); go_simp; try (with_reducible rfl))
  try simp only [Act.put, List.setIfInBounds_toArray, List.set_cons_zero, List.set_cons_succ]
  refine wpAnyH_take (i := 5) (oi := ⟨_, _, _, _, _, _⟩) (v := ?_) rfl (by kernel_rfl) (by kernel_rfl) (by kernel_rfl) (fun _ _ _ h => h) (Or.inl ⟨by rfl, ?_⟩) hHeld ?_
  rotate_left
  · (intro w hSw; (try dsimp only at hSw); go_simp; try (with_reducible rfl))
  try simp only [Act.put, List.setIfInBounds_toArray, List.set_cons_zero, List.set_cons_succ]
  refine wpAnyH_take (i := 6) (oi := ⟨_, _, _, _, _, _⟩) (v := ?_) rfl (by kernel_rfl) (by kernel_rfl) (by kernel_rfl) (fun _ _ _ h => h) (Or.inl ⟨by rfl, ?_⟩) hHeld ?_
  rotate_left
  · (intro w hSw; (try dsimp only at hSw); go_simp; try (with_reducible rfl))
  try simp only [Act.put, List.setIfInBounds_toArray, List.set_cons_zero, List.set_cons_succ]
  refine wpAnyH_take (i := 7) (oi := ⟨_, _, _, _, _, _⟩) (v := ?_) rfl (by kernel_rfl) (by kernel_rfl) (by kernel_rfl) (fun _ _ _ h => h) (Or.inl ⟨by rfl, ?_⟩) hHeld ?_
  rotate_left
  · (intro w hSw; (try dsimp only at hSw); go_simp; try (with_reducible rfl))
  try simp only [Act.put, List.setIfInBounds_toArray, List.set_cons_zero, List.set_cons_succ]
  refine wpAnyH_take (i := 8) (oi := ⟨_, _, _, _, _, _⟩) (v := ?_) rfl (by kernel_rfl) (by kernel_rfl) (by kernel_rfl) (fun _ _ _ h => h) (Or.inl ⟨by rfl, ?_⟩) hHeld ?_
  rotate_left
  · (intro w hSw; (try dsimp only at hSw); go_simp; try (with_reducible rfl))
  try simp only [Act.put, List.setIfInBounds_toArray, List.set_cons_zero, List.set_cons_succ]
  refine wpAnyH_take (i := 9) (oi := ⟨_, _, _, _, _, _⟩) (v := ?_) rfl (by kernel_rfl) (by kernel_rfl) (by kernel_rfl) (fun _ _ _ h => h) (Or.inl ⟨by rfl, ?_⟩) hHeld ?_
  rotate_left
  · (intro w hSw; (try dsimp only at hSw); go_simp; try (with_reducible rfl))
  try simp only [Act.put, List.setIfInBounds_toArray, List.set_cons_zero, List.set_cons_succ]
  refine wpAnyH_take (i := 10) (oi := ⟨_, _, _, _, _, _⟩) (v := ?_) rfl (by kernel_rfl) (by kernel_rfl) (by kernel_rfl) (fun _ _ _ h => h) (Or.inl ⟨by rfl, ?_⟩) hHeld ?_
  rotate_left
  · (intro w hSw; (try dsimp only at hSw); go_simp; try (with_reducible rfl))
  try simp only [Act.put, List.setIfInBounds_toArray, List.set_cons_zero, List.set_cons_succ]
  refine wpAnyH_take (i := 11) (oi := ⟨_, _, _, _, _, _⟩) (v := ?_) rfl (by kernel_rfl) (by kernel_rfl) (by kernel_rfl) (fun _ _ _ h => h) (Or.inl ⟨by rfl, ?_⟩) hHeld ?_
  rotate_left
  · (intro w hSw; (try dsimp only at hSw); go_simp; try (with_reducible rfl))
  try simp only [Act.put, List.setIfInBounds_toArray, List.set_cons_zero, List.set_cons_succ]
  refine wpAnyH_take (i := 12) (oi := ⟨_, _, _, _, _, _⟩) (v := ?_) rfl (by kernel_rfl) (by kernel_rfl) (by kernel_rfl) (fun _ _ _ h => h) (Or.inl ⟨by rfl, ?_⟩) hHeld ?_
  rotate_left
  · (intro w hSw; (try dsimp only at hSw); go_simp; try (with_reducible rfl))
  try simp only [Act.put, List.setIfInBounds_toArray, List.set_cons_zero, List.set_cons_succ]
  refine wpAnyH_take (i := 13) (oi := ⟨_, _, _, _, _, _⟩) (v := ?_) rfl (by kernel_rfl) (by kernel_rfl) (by kernel_rfl) (fun _ _ _ h => h) (Or.inl ⟨by rfl, ?_⟩) hHeld ?_
  rotate_left
  · (intro w hSw; (try dsimp only at hSw); go_simp; try (with_reducible rfl))
  try simp only [Act.put, List.setIfInBounds_toArray, List.set_cons_zero, List.set_cons_succ]
  refine wpAnyH_take (i := 14) (oi := ⟨_, _, _, _, _, _⟩) (v := ?_) rfl (by kernel_rfl) (by kernel_rfl) (by kernel_rfl) (fun _ _ _ h => h) (Or.inl ⟨by rfl, ?_⟩) hHeld ?_
  rotate_left
  · (intro w hSw; (try dsimp only at hSw); go_simp; try (with_reducible rfl))
  try simp only [Act.put, List.setIfInBounds_toArray, List.set_cons_zero, List.set_cons_succ]
  refine wpAnyH_take (i := 15) (oi := ⟨_, _, _, _, _, _⟩) (v := ?_) rfl (by kernel_rfl) (by kernel_rfl) (by kernel_rfl) (fun _ _ _ h => h) (Or.inl ⟨by rfl, ?_⟩) hHeld ?_
  rotate_left
  · (intro w hSw; (try dsimp only at hSw); go_simp; try (with_reducible rfl))
  try simp only [Act.put, List.setIfInBounds_toArray, List.set_cons_zero, List.set_cons_succ]
  refine wpAnyH_take (i := 16) (oi := ⟨_, _, _, _, _, _⟩) (v := ?_) rfl (by kernel_rfl) (by kernel_rfl) (by kernel_rfl) (fun _ _ _ h => h) (Or.inl ⟨by rfl, ?_⟩) hHeld ?_
  rotate_left
  · (intro w hSw; (try dsimp only at hSw); go_simp; try (with_reducible rfl))
  try simp only [Act.put, List.setIfInBounds_toArray, List.set_cons_zero, List.set_cons_succ]
  refine wpAnyH_take (i := 17) (oi := ⟨_, _, _, _, _, _⟩) (v := ?_) rfl (by kernel_rfl) (by kernel_rfl) (by kernel_rfl) (fun _ _ _ h => h) (Or.inl ⟨by rfl, ?_⟩) hHeld ?_
  rotate_left
  · (intro w hSw; (try dsimp only at hSw); go_simp; try (with_reducible rfl))
  try simp only [Act.put, List.setIfInBounds_toArray, List.set_cons_zero, List.set_cons_succ]
  refine wpAnyH_take (i := 18) (oi := ⟨_, _, _, _, _, _⟩) (v := ?_) rfl (by kernel_rfl) (by kernel_rfl) (by kernel_rfl) (fun _ _ _ h => h) (Or.inl ⟨by rfl, ?_⟩) hHeld ?_
  rotate_left
  · (intro w hSw; (try dsimp only at hSw); go_simp; try (with_reducible rfl))
  try simp only [Act.put, List.setIfInBounds_toArray, List.set_cons_zero, List.set_cons_succ]
  refine wpAnyH_ready (rs := [0]) (by kernel_rfl) (by simp) ?_
  refine (AllReadyH.cons (o := ⟨_, _, _, _, _, _⟩) rfl (fun K hK => ?_) AllReadyH.nil)
  go_simp
  refine hK.out _ _ ?_ ?_
  · (try dsimp only); exact ⟨K1, K2⟩
  clear hHeld hK K
  intro hHeld
  try simp only [Act.put, List.setIfInBounds_toArray, List.set_cons_zero, List.set_cons_succ]
  refine wpAnyH_ready (rs := [19]) (by kernel_rfl) (by simp) ?_
  refine (AllReadyH.cons (o := ⟨_, _, _, _, _, _⟩) rfl (fun K hK => ?_) AllReadyH.nil)
  refine step_append_pread rfl (.tmp 5) (.tmp 23) 30 rfl w.heap.size 99 i0 (.agg #[.int .i64 0, .int .i64 0]) 16 Try.underlying30 hi hz0 hz1 hz2 rfl _ 0 [] rfl hlit (some ⟨bx, off + k * 2, none⟩) (mkL (u - k) (fun i => f (k + i))) (u - k) (cx - k) rfl (by rw [mkL_length]) hpr (by unfold maxLen; omega) (by omega) (by show w.heap.size ≤ (w.drew.alloc _).heap.size; simp) ?_
  intro v w1 hown1 hgr1
  have hb1 : Below w.heap.size w w1 := (((below_drewN (Below.refl _ _) 1).alloc (Nat.le_refl _) _) : Below w.heap.size w (w.drew.alloc (.cells #[] 99))).grown hgr1 (by show w.heap.size ≤ (w.drew.alloc _).heap.size; simp) (fun q hq => (hlit.lt q hq).1)
  replace K1 := cellb hb1 c1
  replace K2 := cellb hb1 c2
  try simp only [List.nil_append, Nat.zero_add] at hown1
  obtain ⟨av, cv, rfl, hvc⟩ := own_room2 hown1
  have HO := hide hown1
  clear hown1 hgr1
  refine hK.out _ _ ?_ ?_
  · (try dsimp only); exact ⟨K1, K2⟩
  clear hHeld hK K
  intro hHeld
  try simp only [Act.put, List.setIfInBounds_toArray, List.set_cons_zero, List.set_cons_succ]
  refine wpAnyH_take (i := 20) (oi := ⟨_, _, _, _, _, _⟩) (v := ?_) rfl (by kernel_rfl) (by kernel_rfl) (by kernel_rfl) (fun _ _ _ h => h) (Or.inl ⟨by rfl, ?_⟩) hHeld ?_
  rotate_left
  · (intro w hSw; (try dsimp only at hSw); go_simp; try (with_reducible rfl))
  try simp only [Act.put, List.setIfInBounds_toArray, List.set_cons_zero, List.set_cons_succ]
  refine wpAnyH_done (by kernel_rfl) ?_ _
  go_wp2
  go_ret
  have hm' : u - k = m := by have := HU.out; omega
  refine ⟨.slice av (u - k) cv, rfl, ?_, hb1⟩
  have h := HO.out
  rw [hm'] at h ⊢
  exact h
set_option maxHeartbeats 2000000 in
theorem l3Fit_calls (b off m cap W' : Nat) (g : Nat → Int × Int) (w : World) (hg : RowR w b off m g) (h2 : 2 ≤ W') (h12 : W' ≤ 12) (hm : 0 < m) :
    Calls Try.prog 74 #[.slice (some ⟨b, off, none⟩) m cap, .int .i64 (W' : Int)] w fun e w' => ∃ bn cn, e = .returned (.slice (some ⟨bn, 0, none⟩) W' cn) ∧ W' ≤ cn ∧ w.heap.size ≤ bn ∧ bn < w'.heap.size ∧ Row w' bn 0 W' (fun x => if x < min m W' then g x else (32, 0)) ∧ Below w.heap.size w w' := by
  have hbl := hg.lt hm
  have HG := hide hg
  clear hg
  go_enter Try.func74, Try.ntmps74
  go_wp2_with fail
  refine (l3Blanks_calls W' 0 (by omega) w).mono ?_
  rintro e w1 ⟨v, rfl, ov, hb1⟩
  obtain ⟨bn, cn, rfl, hcn, _, u1, u2, hrv⟩ := own_row ov (by omega)
  have hs1 : w.heap.size ≤ w1.heap.size := hb1.size
  obtain ⟨w2, hrun, hr2, ht2⟩ := run_copy2 (P := Try.prog) w1 30 30 3 99 Try.underlying30 cell_size2 (some ⟨bn, 0, none⟩) (some ⟨b, off, none⟩) W' cn m cap (min m W') rfl bn 0 (fun _ => (32, 0)) (hrv.congr (fun i hi => rep_get _ _ _ hi)) (fun _ => rfl) b off g (fun i hi => (HG.out.below hb1 hbl) i (by omega)) (fun _ => rfl)
  have R2 := hide hr2
  have T2 := hide ht2
  have B1 := hide hb1
  clear hr2 ht2 hb1 hrv ov
  go_wp2
  go_ret
  exact ⟨bn, cn, rfl, hcn, u1, by have := T2.out.size; omega, R2.out, B1.out.trans (T2.out.below u1 hs1)⟩
theorem Touch.later {b p q : Nat} {a w w' : World} (h : Touch b p q a w) (hb : Below a.heap.size w w') (hl : b < a.heap.size) : Touch b p q a w' :=
  ⟨hb.os.trans h.os, hb.tape.trans h.tape, hb.output.trans h.output, Nat.le_trans h.size hb.size, fun k hk hn => (hb.block k hk).trans (h.block k hk hn), fun o ho => (hb.cell (p := ⟨b, o, none⟩) hl).trans (h.cell o ho), fun o => (hb.frozen (p := ⟨b, o, none⟩) hl).trans (h.frozen o)⟩

set_option maxHeartbeats 1000000 in
theorem l3Resize_calls (R W R' W' Hb N' M' : Nat) (r wd : Int) (cs bs : List (Int × Int)) (v1 v2 : Value) (w : World) (h1 : PRead w v1 cs) (h2 : PRead w v2 bs) (k1 : Capped v1) (k2 : Capped v2) (eR : r = (R : Int)) (eW : wd = (W : Int)) (p1 : 1 ≤ R) (p2 : R ≤ 6) (p3 : 2 ≤ W) (p4 : W ≤ 12) (p5 : 1 ≤ R') (p6 : R' ≤ 6) (p7 : 2 ≤ W') (p8 : W' ≤ 12) (p9 : Hb ≤ 5) (p10 : N' ≤ 72) (p11 : M' ≤ 60) (p12 : 0 < N')
    (n9 : cs.length ≤ 72) (n10 : bs.length ≤ 60) (e1 : cs.length = R * W) (e2 : bs.length = Hb * W) (e4 : N' = R' * W') (e5 : M' = Hb * W') :
    Calls Try.prog 30 #[.agg #[.int .i64 r, .int .i64 wd, v1, v2], .int .i64 (R' : Int), .int .i64 (W' : Int)] w fun e w' => ∃ v5 v6, e = .returned (.agg #[.int .i64 (R' : Int), .int .i64 (W' : Int), v5, v6]) ∧ GOwn w.heap.size w'.heap.size w' v5 v6 (mkL N' (fitF W W' (min R' R) (fun i => cs.getD i (0, 0)) (32, 0))) (mkL M' (fitF W W' Hb (fun i => bs.getD i (0, 0)) (32, 0))) ∧ Below w.heap.size w w' := by
  obtain ⟨i0, hi, hz0, hz1, hz2⟩ := info_parts info_cell
  have h1' := h1
  obtain ⟨a1, c1, rfl, hx1⟩ := h1'
  have h2' := h2
  obtain ⟨a2, c2, rfl, hx2⟩ := h2'
  have hcl : 0 < cs.length := by rw [e1]; exact Nat.mul_pos (by omega) (by omega)
  obtain ⟨bx, off, rfl, hx⟩ : ∃ bx off, a1 = some ⟨bx, off, none⟩ ∧ RowR w bx off cs.length (fun i => cs.getD i (0, 0)) := by
    rcases hx1 with hx1 | ⟨bx, off, hx1, hx⟩
    · rw [hx1] at hcl; simp at hcl
    · exact ⟨bx, off, hx1, hx⟩
  obtain ⟨by', off2, hy, hya⟩ : ∃ by' off2, RowR w by' off2 bs.length (fun i => bs.getD i (0, 0)) ∧ (0 < bs.length → a2 = some ⟨by', off2, none⟩) := by
    rcases hx2 with hx2 | ⟨by', off2, hx2, hx⟩
    · exact ⟨0, 0, fun i hi => by rw [hx2] at hi; simp at hi, fun h => by rw [hx2] at h; simp at h⟩
    · exact ⟨by', off2, hx, fun _ => hx2⟩
  have hbx := hx.lt hcl
  have hc1 : cs.length ≤ c1 := k1 _ _ _ rfl
  have hc2 : bs.length ≤ c2 := k2 _ _ _ rfl
  clear k1 k2
  have hyl : 0 < bs.length → by' < w.heap.size := fun h => hy.lt h
  have HX := hide hx
  have HY := hide hy
  have HYA := hide hya
  have HYL := hide hyl
  have E1 := hide e1
  have E2 := hide e2
  have E4 := hide e4
  have E5 := hide e5
  have hmul : (R' : Int) * (W' : Int) = (N' : Int) := by rw [e4, Int.natCast_mul]
  have HMU := hide hmul
  have hmn : min (R' : Int) (R : Int) = ((min R' R : Nat) : Int) := by omega
  have HMN := hide hmn
  subst eR
  subst eW
  clear hx hx1 hx2 hy hya hyl e1 e2 e4 e5 hmul hmn h1 h2
  have hb0 : Below w.heap.size w ((w.alloc (.cells #[.int .i64 (R : Int), .int .i64 (W : Int), .slice (some ⟨bx, off, none⟩) cs.length c1, .slice a2 bs.length c2] 32)).alloc (.cells #[.int .i64 0, .int .i64 0, .slice none 0 0, .slice none 0 0] 32)) := (by repeat' (first | with_reducible exact Below.refl _ _ | with_reducible assumption | with_reducible refine Below.drew ?_ | with_reducible refine Below.alloc ?_ ?_ _ | with_reducible refine Below.setCell ?_ ?_ _ | (simp; done) | (simp; omega) | omega))
  go_enter Try.func30, Try.ntmps30
  go_wp2_with fail
  refine (l3New_calls (R' : Int) (W' : Int) N' HMU.out p12 (by omega) _).mono ?_
  rintro e w1 ⟨bo, co, rfl, hco, o1, o2, hro, hb1⟩
  have A0 : w1.cell? ⟨w.heap.size, 0, none⟩ = some (.int .i64 (R : Int)) := cellb hb1 (by simp [go_sem])
  have A1 : w1.cell? ⟨w.heap.size, 1, none⟩ = some (.int .i64 (W : Int)) := cellb hb1 (by simp [go_sem])
  have A2 : w1.cell? ⟨w.heap.size, 2, none⟩ = some (.slice (some ⟨bx, off, none⟩) cs.length c1) := cellb hb1 (by simp [go_sem])
  have A3 : w1.cell? ⟨w.heap.size, 3, none⟩ = some (.slice a2 bs.length c2) := cellb hb1 (by simp [go_sem])
  have R0 : w1.cell? ⟨w.heap.size + 1, 0, none⟩ = some (.int .i64 0) := cellb hb1 (by simp [go_sem])
  have Z0 : w1.frozen? ⟨w.heap.size + 1, 0, none⟩ = false := by rw [hb1.frozen (p := ⟨w.heap.size + 1, 0, none⟩) (by simp)]; simp [go_sem]
  have R1 : w1.cell? ⟨w.heap.size + 1, 1, none⟩ = some (.int .i64 0) := cellb hb1 (by simp [go_sem])
  have Z1 : w1.frozen? ⟨w.heap.size + 1, 1, none⟩ = false := by rw [hb1.frozen (p := ⟨w.heap.size + 1, 1, none⟩) (by simp)]; simp [go_sem]
  have R2 : w1.cell? ⟨w.heap.size + 1, 2, none⟩ = some (.slice none 0 0) := cellb hb1 (by simp [go_sem])
  have Z2 : w1.frozen? ⟨w.heap.size + 1, 2, none⟩ = false := by rw [hb1.frozen (p := ⟨w.heap.size + 1, 2, none⟩) (by simp)]; simp [go_sem]
  have R3 : w1.cell? ⟨w.heap.size + 1, 3, none⟩ = some (.slice none 0 0) := cellb hb1 (by simp [go_sem])
  have Z3 : w1.frozen? ⟨w.heap.size + 1, 3, none⟩ = false := by rw [hb1.frozen (p := ⟨w.heap.size + 1, 3, none⟩) (by simp)]; simp [go_sem]
  have hs1 : w.heap.size + 2 ≤ w1.heap.size := by have := hb1.size; simp at this; omega
  have o1' : w.heap.size + 2 ≤ bo := by simpa using o1
  have b1 : Below w.heap.size w w1 := hb0.trans (hb1.mono (by simp; omega))
  have HRO := hide hro
  clear hb1 hb0 hro o1
  have hb3 : Below w1.heap.size w1 (w1.alloc (.cells #[.int .i64 (R' : Int), .int .i64 (W' : Int), .slice (some ⟨bo, 0, none⟩) N' co, .slice none 0 0] 32)) := (by repeat' (first | with_reducible exact Below.refl _ _ | with_reducible assumption | with_reducible refine Below.drew ?_ | with_reducible refine Below.alloc ?_ ?_ _ | with_reducible refine Below.setCell ?_ ?_ _ | (simp; done) | (simp; omega) | omega))
  have O0 : (w1.alloc (.cells #[.int .i64 (R' : Int), .int .i64 (W' : Int), .slice (some ⟨bo, 0, none⟩) N' co, .slice none 0 0] 32)).cell? ⟨w1.heap.size, 0, none⟩ = some (.int .i64 (R' : Int)) := by simp [go_sem]
  have O1 : (w1.alloc (.cells #[.int .i64 (R' : Int), .int .i64 (W' : Int), .slice (some ⟨bo, 0, none⟩) N' co, .slice none 0 0] 32)).cell? ⟨w1.heap.size, 1, none⟩ = some (.int .i64 (W' : Int)) := by simp [go_sem]
  have O2 : (w1.alloc (.cells #[.int .i64 (R' : Int), .int .i64 (W' : Int), .slice (some ⟨bo, 0, none⟩) N' co, .slice none 0 0] 32)).cell? ⟨w1.heap.size, 2, none⟩ = some (.slice (some ⟨bo, 0, none⟩) N' co) := by simp [go_sem]
  have O3 : (w1.alloc (.cells #[.int .i64 (R' : Int), .int .i64 (W' : Int), .slice (some ⟨bo, 0, none⟩) N' co, .slice none 0 0] 32)).cell? ⟨w1.heap.size, 3, none⟩ = some (.slice none 0 0) := by simp [go_sem]
  have ZO : (w1.alloc (.cells #[.int .i64 (R' : Int), .int .i64 (W' : Int), .slice (some ⟨bo, 0, none⟩) N' co, .slice none 0 0] 32)).frozen? ⟨w1.heap.size, 3, none⟩ = false := by simp [go_sem]
  have hs3 : (w1.alloc (.cells #[.int .i64 (R' : Int), .int .i64 (W' : Int), .slice (some ⟨bo, 0, none⟩) N' co, .slice none 0 0] 32)).heap.size = w1.heap.size + 1 := by simp
  go_wp2
  generalize (w1.alloc (.cells #[.int .i64 (R' : Int), .int .i64 (W' : Int), .slice (some ⟨bo, 0, none⟩) N' co, .slice none 0 0] 32)) = w3 at *
  replace A0 := cellb hb3 A0
  replace A1 := cellb hb3 A1
  replace A2 := cellb hb3 A2
  replace A3 := cellb hb3 A3
  replace R0 := cellb hb3 R0
  replace R1 := cellb hb3 R1
  replace R2 := cellb hb3 R2
  replace R3 := cellb hb3 R3
  replace Z0 : w3.frozen? ⟨w.heap.size + 1, 0, none⟩ = false := by rw [hb3.frozen (p := ⟨w.heap.size + 1, 0, none⟩) (by simp; omega)]; exact Z0
  replace Z1 : w3.frozen? ⟨w.heap.size + 1, 1, none⟩ = false := by rw [hb3.frozen (p := ⟨w.heap.size + 1, 1, none⟩) (by simp; omega)]; exact Z1
  replace Z2 : w3.frozen? ⟨w.heap.size + 1, 2, none⟩ = false := by rw [hb3.frozen (p := ⟨w.heap.size + 1, 2, none⟩) (by simp; omega)]; exact Z2
  replace Z3 : w3.frozen? ⟨w.heap.size + 1, 3, none⟩ = false := by rw [hb3.frozen (p := ⟨w.heap.size + 1, 3, none⟩) (by simp; omega)]; exact Z3
  have b3 := b1.trans (hb3.mono b1.size)
  replace HRO := hide (HRO.out.below hb3 o2)
  clear hb3 b1
  have obn : w1.heap.size ≠ bo := by omega
  go_loopw [8] (fun i wr => ∃ k : Nat, k ≤ min R' R ∧ i = .int .i64 k ∧ Hid (Touch bo 0 (N' * 2) w3 wr) ∧ Hid (Row wr bo 0 N' (fitF W W' k (fun i => cs.getD i (0, 0)) (32, 0)))) (fun i _ => R' - (intOf i).toNat)
  case atStart => exact ⟨0, Nat.zero_le _, rfl, hide (Touch.refl _ _ _ _), hide (HRO.out.congr (fun i _ => fitF_zero W W' _ (32, 0) i))⟩
  case round =>
    obtain ⟨k, hk, rfl, ht, hrow⟩ := hrel
    have B0 := ht.out.cellAt A0 (by omega)
    have B1 := ht.out.cellAt A1 (by omega)
    have B2 := ht.out.cellAt A2 (by omega)
    have P1 := ht.out.cellAt O1 (by omega)
    have P2 := ht.out.cellAt O2 (by omega)
    have hsr : w3.heap.size ≤ wr.heap.size := ht.out.size
    go_wp2_with fail
    refine (l1Min_calls _ _ wr).mono ?_
    rintro e w' ⟨rfl, hw⟩
    rw [hw, HMN.out]
    clear hw w'
    by_cases hlt : k < min R' R
    · have hltI : (k : Int) < ((min R' R : Nat) : Int) := by omega
      have hKW : k * W' + W' ≤ N' := by
        have h := Nat.mul_le_mul_right W' (show k + 1 ≤ R' by omega)
        rw [Nat.add_mul, Nat.one_mul, ← E4.out] at h
        exact h
      have hKm : k * W + W ≤ cs.length := by
        have h := Nat.mul_le_mul_right W (show k + 1 ≤ R by omega)
        rw [Nat.add_mul, Nat.one_mul, ← E1.out] at h
        exact h
      have XR := hide ((HX.out.below b3 (by omega)).touch ht.out (.inl (by omega)))
      go_wp2_with fail
      refine (l3RowOf_off w.heap.size bx off cs.length c1 (k * W) W (k * W + W) (k : Int) (W : Int) _ wr B1 B2 XR.out hc1 (by rw [Int.natCast_mul]) rfl rfl hKm (by omega) (by omega) (by omega) (by omega)).mono ?_
      rintro e w4 ⟨v, rfl, ov, hb4⟩
      obtain ⟨br, cr, rfl, hcr, _, u1, u2, hrv⟩ := own_row ov (by omega)
      have rv := hide (hrv.congr (fun i hi => mkL_get _ _ _ hi))
      have hs4 : wr.heap.size ≤ w4.heap.size := hb4.size
      have T4 := hide (ht.out.trans (Touch.of_below hb4 (Nat.le_refl _) (by omega)))
      have R4 := hide (hrow.out.below hb4 (by omega))
      clear hrv ov hb4 ht hrow XR B0 B1 B2 P1 P2
      go_wp2_with fail
      refine (l3Fit_calls br 0 W cr W' _ w4 rv.out.read p7 p8 (by omega)).mono ?_
      rintro e w5 ⟨bn, cn, rfl, hcn, v1, v2, hrn, hb5⟩
      have hs5 : w4.heap.size ≤ w5.heap.size := hb5.size
      have T5 := hide (T4.out.trans (Touch.of_below hb5 (Nat.le_refl _) (by omega)))
      have R5 := hide (R4.out.below hb5 (by omega))
      have RN := hide hrn
      clear hrn hb5 T4 R4 rv
      have P1 := T5.out.cellAt O1 (by omega)
      have P2 := T5.out.cellAt O2 (by omega)
      go_wp2_with fail
      refine (l3Row_calls w1.heap.size bo N' co (k * W') W' (k * W' + W') bn W' cn W' (k : Int) (W' : Int) _ _ w5 P1 P2 R5.out hco obn RN.out.read (by rw [Int.natCast_mul]) rfl rfl hKW (by omega) (by omega) (by omega) (by omega) (by omega)).mono ?_
      rintro e w6 ⟨⟨u6, rfl⟩, hr6, ht6⟩
      have R6 := hide (hr6.congr (fun i _ => fitF_step2 (show 0 < W' by omega) i))
      have T6 := hide (T5.out.trans ht6)
      clear hr6 ht6 T5 R5 RN P1 P2
      go_wp2
      go_roundw
      case rel => exact ⟨k + 1, by omega, by go_num, T6, R6⟩
      case measure => simp [intOf]; omega
    · obtain rfl : k = min R' R := by omega
      have hge : ¬ (((min R' R : Nat) : Int) < ((min R' R : Nat) : Int)) := by omega
      obtain ⟨wo, hwo⟩ : ∃ wo, wo = wr := ⟨_, rfl⟩
      subst hwo
      replace A0 := ht.out.cellAt A0 (by omega)
      replace A1 := ht.out.cellAt A1 (by omega)
      replace A2 := ht.out.cellAt A2 (by omega)
      replace A3 := ht.out.cellAt A3 (by omega)
      replace R0 := ht.out.cellAt R0 (by omega)
      replace R1 := ht.out.cellAt R1 (by omega)
      replace R2 := ht.out.cellAt R2 (by omega)
      replace R3 := ht.out.cellAt R3 (by omega)
      replace O0 := ht.out.cellAt O0 (by omega)
      replace O1 := ht.out.cellAt O1 (by omega)
      replace O2 := ht.out.cellAt O2 (by omega)
      replace O3 := ht.out.cellAt O3 (by omega)
      replace Z0 := ht.out.frozenAt (by omega) Z0
      replace Z1 := ht.out.frozenAt (by omega) Z1
      replace Z2 := ht.out.frozenAt (by omega) Z2
      replace Z3 := ht.out.frozenAt (by omega) Z3
      replace ZO := ht.out.frozenAt (by omega) ZO
      have br' : Below w.heap.size w wo := b3.trans (ht.out.below (by omega) (by omega))
      clear B0 B1 B2 P1 P2 ht HRO b3
      go_wp2
      go_loopw [9] (fun i wr => ∃ (k : Nat) (v : Value), k ≤ Hb ∧ i = .int .i64 ((k * W : Nat) : Int) ∧ Hid (Touch w1.heap.size 3 4 wo wr) ∧ wr.cell? ⟨w1.heap.size, 3, none⟩ = some v ∧ Hid (wr.ownsRow wo.heap.size 99 2 v (k * W') (pvs (mkL (k * W') (fitF W W' Hb (fun i => bs.getD i (0, 0)) (32, 0)))))) (fun i _ => bs.length - (intOf i).toNat)
      case atStart => exact ⟨0, .slice none 0 0, Nat.zero_le _, by rw [Nat.zero_mul]; rfl, hide (Touch.refl _ _ _ _), O3, hide (by rw [Nat.zero_mul]; exact World.ownsRow_nil _ _ _ _)⟩
      case round =>
        obtain ⟨k, v, hk, rfl, ht, C3, hown⟩ := hrel
        have B1 := ht.out.cellAt A1 (by omega)
        have B3 := ht.out.cellAt A3 (by omega)
        have hsq : wo.heap.size ≤ wr.heap.size := ht.out.size
        by_cases hlt : k < Hb
        · obtain ⟨av, cv, rfl, hcv⟩ := own_room2 hown.out
          have hKm : k * W + W ≤ bs.length := by
            have h := Nat.mul_le_mul_right W (show k + 1 ≤ Hb by omega)
            rw [Nat.add_mul, Nat.one_mul, ← E2.out] at h
            exact h
          have hKW : k * W' + W' ≤ M' := by
            have h := Nat.mul_le_mul_right W' (show k + 1 ≤ Hb by omega)
            rw [Nat.add_mul, Nat.one_mul, ← E5.out] at h
            exact h
          obtain rfl := HYA.out (by omega)
          have hyb := HYL.out (by omega)
          obtain ⟨q, hq⟩ : ∃ q, q = k * W := ⟨_, rfl⟩
          have hqs : (k + 1) * W = q + W := by rw [hq, Nat.add_mul, Nat.one_mul]
          rw [← hq] at hKm ⊢
          have hqI : (q : Int) < (bs.length : Int) := by omega
          obtain ⟨u, hu⟩ : ∃ u, u = q + W := ⟨_, rfl⟩
          have z1 : IntKind.i64.wrap ((q : Int) + (W : Int)) = (u : Int) := by rw [wrap_small (by omega) (by omega)]; omega
          have z2 : (q : Int) ≤ (u : Int) := by omega
          have z3 : (u : Int) ≤ (c2 : Int) := by omega
          have z4 : ¬ c2 = q := by omega
          have z5 : ¬ q = c2 := by omega
          have z6 : u - q = W := by omega
          have z7 : q ≤ u := by omega
          have z8 : u ≤ c2 := by omega
          have HU := hide hu
          clear hu
          have HQ := hide hq
          have HQS := hide hqs
          clear hq hqs
          have YR := hide (((HY.out.below br' hyb).touch ht.out (.inl (by omega))).sub q W hKm)
          have ZB := ht.out.frozenAt (by omega) ZO
          go_wp2_with fail
          refine till_region [14] (S := (fun w' => w'.cell? ⟨w1.heap.size, 3, none⟩ = some (.slice av (k * W') cv) ∧ w'.cell? ⟨w.heap.size, 3, none⟩ = some (.slice (some ⟨by', off2, none⟩) bs.length c2) ∧ w'.cell? ⟨w.heap.size, 1, none⟩ = some (.int .i64 (W : Int)))) (by kernel_rfl) ?_ (fun hHeld => ?_)
          · (try dsimp only); exact ⟨C3, B3, B1⟩
          refine till_take (i := 0) (oi := ⟨_, _, _, _, _, _⟩) (v := ?_) rfl (by kernel_rfl) (by kernel_rfl) (by kernel_rfl) (by kernel_rfl) (fun _ _ _ h => h) (Or.inl ⟨by rfl, ?_⟩) hHeld ?_
          rotate_left
          · (intro w hSw; (try dsimp only at hSw); go_simp; try (with_reducible rfl))
          try simp only [Act.put, List.setIfInBounds_toArray, List.set_cons_zero, List.set_cons_succ]
          refine till_take (i := 1) (oi := ⟨_, _, _, _, _, _⟩) (v := ?_) rfl (by kernel_rfl) (by kernel_rfl) (by kernel_rfl) (by kernel_rfl) (fun _ _ _ h => h) (Or.inl ⟨by rfl, ?_⟩) hHeld ?_
          rotate_left
          · (intro w hSw; (try dsimp only at hSw); go_simp; try (with_reducible rfl))
          try simp only [Act.put, List.setIfInBounds_toArray, List.set_cons_zero, List.set_cons_succ]
          refine till_take (i := 2) (oi := ⟨_, _, _, _, _, _⟩) (v := ?_) rfl (by kernel_rfl) (by kernel_rfl) (by kernel_rfl) (by kernel_rfl) (fun _ _ _ h => h) (Or.inl ⟨by rfl, ?_⟩) hHeld ?_
          rotate_left
          · (intro w hSw; (try dsimp only at hSw); go_simp; try (with_reducible rfl))
          try simp only [Act.put, List.setIfInBounds_toArray, List.set_cons_zero, List.set_cons_succ]
          refine till_take (i := 3) (oi := ⟨_, _, _, _, _, _⟩) (v := ?_) rfl (by kernel_rfl) (by kernel_rfl) (by kernel_rfl) (by kernel_rfl) (fun _ _ _ h => h) (Or.inl ⟨by rfl, ?_⟩) hHeld ?_
          rotate_left
          · (intro w hSw; (try dsimp only at hSw); go_simp; try (with_reducible rfl))
          try simp only [Act.put, List.setIfInBounds_toArray, List.set_cons_zero, List.set_cons_succ]
          refine till_take (i := 4) (oi := ⟨_, _, _, _, _, _⟩) (v := ?_) rfl (by kernel_rfl) (by kernel_rfl) (by kernel_rfl) (by kernel_rfl) (fun _ _ _ h => h) (Or.inl ⟨by rfl, ?_⟩) hHeld ?_
          rotate_left
          · (intro w hSw; (try dsimp only at hSw); go_simp; try (with_reducible rfl))
          try simp only [Act.put, List.setIfInBounds_toArray, List.set_cons_zero, List.set_cons_succ]
          refine till_take (i := 5) (oi := ⟨_, _, _, _, _, _⟩) (v := ?_) rfl (by kernel_rfl) (by kernel_rfl) (by kernel_rfl) (by kernel_rfl) (fun _ _ _ h => h) (Or.inl ⟨by rfl, ?_⟩) hHeld ?_
          rotate_left
          · (intro w hSw; (try dsimp only at hSw); go_simp; try (with_reducible rfl))
          try simp only [Act.put, List.setIfInBounds_toArray, List.set_cons_zero, List.set_cons_succ]
          refine till_take (i := 6) (oi := ⟨_, _, _, _, _, _⟩) (v := ?_) rfl (by kernel_rfl) (by kernel_rfl) (by kernel_rfl) (by kernel_rfl) (fun _ _ _ h => h) (Or.inl ⟨by rfl, ?_⟩) hHeld ?_
          rotate_left
          · (intro w hSw; (try dsimp only at hSw); go_simp; try (with_reducible rfl))
          try simp only [Act.put, List.setIfInBounds_toArray, List.set_cons_zero, List.set_cons_succ]
          refine till_take (i := 7) (oi := ⟨_, _, _, _, _, _⟩) (v := ?_) rfl (by kernel_rfl) (by kernel_rfl) (by kernel_rfl) (by kernel_rfl) (fun _ _ _ h => h) (Or.inl ⟨by rfl, ?_⟩) hHeld ?_
          rotate_left
          · (intro w hSw; (try dsimp only at hSw); go_simp; try (with_reducible rfl))
          try simp only [Act.put, List.setIfInBounds_toArray, List.set_cons_zero, List.set_cons_succ]
          refine till_take (i := 8) (oi := ⟨_, _, _, _, _, _⟩) (v := ?_) rfl (by kernel_rfl) (by kernel_rfl) (by kernel_rfl) (by kernel_rfl) (fun _ _ _ h => h) (Or.inl ⟨by rfl, ?_⟩) hHeld ?_
          rotate_left
          · (intro w hSw; (try dsimp only at hSw); go_simp; try (with_reducible rfl))
          try simp only [Act.put, List.setIfInBounds_toArray, List.set_cons_zero, List.set_cons_succ]
          refine till_take (i := 9) (oi := ⟨_, _, _, _, _, _⟩) (v := ?_) rfl (by kernel_rfl) (by kernel_rfl) (by kernel_rfl) (by kernel_rfl) (fun _ _ _ h => h) (Or.inl ⟨by rfl, ?_⟩) hHeld ?_
          rotate_left
          · (intro w hSw; (try dsimp only at hSw); go_simp; try (with_reducible rfl))
          try simp only [Act.put, List.setIfInBounds_toArray, List.set_cons_zero, List.set_cons_succ]
          refine till_take (i := 10) (oi := ⟨_, _, _, _, _, _⟩) (v := ?_) rfl (by kernel_rfl) (by kernel_rfl) (by kernel_rfl) (by kernel_rfl) (fun _ _ _ h => h) (Or.inl ⟨by rfl, ?_⟩) hHeld ?_
          rotate_left
          · (intro w hSw; (try dsimp only at hSw); go_simp; try (with_reducible rfl))
          try simp only [Act.put, List.setIfInBounds_toArray, List.set_cons_zero, List.set_cons_succ]
          refine till_ready (rs := [11]) (by kernel_rfl) (by simp) ?_
          refine (EachTill.cons (o := ⟨_, _, _, _, _, _⟩) rfl (fun K hK => ?_) EachTill.nil)
          go_simp
          go_at_call 74
          (try rw [z6])
          refine (l3Fit_calls by' (off2 + q * 2) W _ W' (fun i => bs.getD (q + i) (0, 0)) wr.drew (show RowR wr.drew _ _ _ _ from YR.out) p7 p8 (by omega)).mono ?_
          rintro e w5 ⟨bn, cn, rfl, hcn, v1, v2, hrn, hb5⟩
          replace hb5 : Below wr.heap.size wr w5 := (below_drewN (Below.refl _ _) 1).trans hb5
          replace v1 : wr.heap.size ≤ bn := v1
          have hs5 : wr.heap.size ≤ w5.heap.size := hb5.size
          have K3 := cellb hb5 C3
          have K4 := cellb hb5 B3
          have K5 := cellb hb5 B1
          have K6 : w5.frozen? ⟨w1.heap.size, 3, none⟩ = false := by rw [hb5.frozen (p := ⟨w1.heap.size, 3, none⟩) (by simp; omega)]; exact ZB
          have T5 := hide (ht.out.later (hb5.mono hsq) (by omega))
          have O5 := hide (own_below hown.out hb5)
          have RN := hide hrn
          clear hrn hb5 ht hown YR
          try go_wp2_with fail
          refine hK.out _ _ ?_ ?_
          · (try dsimp only); exact ⟨K3, K4, K5⟩
          clear hHeld hK K
          intro hHeld
          try simp only [Act.put, List.setIfInBounds_toArray, List.set_cons_zero, List.set_cons_succ]
          refine till_ready (rs := [12]) (by kernel_rfl) (by simp) ?_
          refine (EachTill.cons (o := ⟨_, _, _, _, _, _⟩) rfl (fun K hK => ?_) EachTill.nil)
          refine step_append_pread rfl (.tmp 37) (.tmp 47) 30 rfl wo.heap.size 99 i0 (.agg #[.int .i64 0, .int .i64 0]) 16 Try.underlying30 hi hz0 hz1 hz2 rfl _ (k * W') _ rfl O5.out (some ⟨bn, 0, none⟩) (mkL W' (fun x => if x < min W W' then bs.getD (q + x) (0, 0) else (32, 0))) W' cn rfl (by rw [mkL_length]) (pread_of_row RN.out.read) (by unfold maxLen; omega) (by omega) (by omega) ?_
          intro v6 w6 o6 g6
          have hb6 : Below wo.heap.size w5 w6 := (Below.refl _ _).grown g6 (by omega) (fun j hj => (O5.out.lt j hj).1)
          have hs6 : w5.heap.size ≤ w6.heap.size := hb6.size
          replace K3 := cellk hb6 (by omega) K3
          replace K4 := cellk hb6 (by omega) K4
          replace K5 := cellk hb6 (by omega) K5
          replace K6 : w6.frozen? ⟨w1.heap.size, 3, none⟩ = false := by rw [hb6.frozen (p := ⟨w1.heap.size, 3, none⟩) (by simp; omega)]; exact K6
          have T6 := hide (T5.out.later hb6 (by omega))
          have O6 := hide o6
          obtain ⟨a6, c6, rfl, hc6⟩ := own_room2 o6
          clear o6 g6 hb6 T5 O5 RN
          refine hK.out _ _ ?_ ?_
          · (try dsimp only); exact ⟨K3, K4, K5⟩
          clear hHeld hK K
          intro hHeld
          try simp only [Act.put, List.setIfInBounds_toArray, List.set_cons_zero, List.set_cons_succ]
          refine till_take (i := 13) (oi := ⟨_, _, _, _, _, _⟩) (v := ?_) rfl (by kernel_rfl) (by kernel_rfl) (by kernel_rfl) (by kernel_rfl) (fun _ _ _ h => h) (Or.inl ⟨by rfl, ?_⟩) hHeld ?_
          rotate_left
          · (intro w hSw; (try dsimp only at hSw); go_simp; try (with_reducible rfl))
          try simp only [Act.put, List.setIfInBounds_toArray, List.set_cons_zero, List.set_cons_succ]
          refine till_ready (rs := [14]) (by kernel_rfl) (by simp) ?_
          refine (EachTill.last (o := ⟨_, _, _, _, _, _⟩) rfl rfl (fun K hK => ?_) EachTill.nil)
          go_simp
          have T9 := hide (T6.out.setCell (o := 3) (by omega) (by omega) (.slice a6 (k * W' + W') c6))
          have C9 := World.cell?_setCell_same w6 ⟨w1.heap.size, 3, none⟩ (.slice a6 (k * W' + W') c6) K3
          have O9 : Hid ((w6.setCell ⟨w1.heap.size, 3, none⟩ (.slice a6 (k * W' + W') c6)).ownsRow wo.heap.size 99 2 (.slice a6 (k * W' + W') c6) ((k + 1) * W') (pvs (mkL ((k + 1) * W') (fitF W W' Hb (fun i => bs.getD i (0, 0)) (32, 0))))) := hide (by
            have h := own_setCell (b := w1.heap.size) (o := 3) (u := .slice a6 (k * W' + W') c6) O6.out (fun e => by have := (O6.out.lt _ e.symm).1; omega)
            rw [HQ.out, fitF_more (by omega) hlt] at h
            rw [show (k + 1) * W' = k * W' + W' by rw [Nat.add_mul, Nat.one_mul]] at h ⊢
            exact h)
          generalize (w6.setCell ⟨w1.heap.size, 3, none⟩ (.slice a6 (k * W' + W') c6)) = w9 at *
          have B9 := T9.out.cellAt A1 (by omega)
          clear T6 O6 K3 K4 K5 K6
          refine hK.out _ _ ?_ ?_
          · (try dsimp only); skip
          clear hHeld hK K
          intro hHeld
          try simp only [Act.put, List.setIfInBounds_toArray, List.set_cons_zero, List.set_cons_succ]
          refine till_done (by kernel_rfl) ?_ _
          clear hHeld
          have hend : (u : Int) = (((k + 1) * W : Nat) : Int) := by rw [HQS.out, HU.out]
          have HEND := hide hend
          clear hend
          go_wp2
          go_roundw
          case rel => exact ⟨k + 1, _, by omega, by first | (rw [HEND.out]; done) | (rw [HEND.out]) | (rw [← HEND.out]; go_num), T9, C9, O9⟩
          case measure => simp [intOf]; omega
        · obtain rfl : k = Hb := by omega
          have hle : bs.length = k * W := E2.out
          obtain ⟨q, hq⟩ : ∃ q, q = k * W := ⟨_, rfl⟩
          rw [← hq]
          have hge : ¬ ((q : Int) < (bs.length : Int)) := by omega
          clear hle hq
          obtain ⟨av, cv, rfl, hcv⟩ := own_room2 hown.out
          replace R0 := ht.out.cellAt R0 (by omega)
          replace R1 := ht.out.cellAt R1 (by omega)
          replace R2 := ht.out.cellAt R2 (by omega)
          replace R3 := ht.out.cellAt R3 (by omega)
          replace O0 := ht.out.cellAt O0 (by omega)
          replace O1 := ht.out.cellAt O1 (by omega)
          replace O2 := ht.out.cellAt O2 (by omega)
          replace Z0 := ht.out.frozenAt (by omega) Z0
          replace Z1 := ht.out.frozenAt (by omega) Z1
          replace Z2 := ht.out.frozenAt (by omega) Z2
          replace Z3 := ht.out.frozenAt (by omega) Z3
          have bq : Below w.heap.size w wr := br'.trans (ht.out.below (by omega) (by omega))
          have RQ := hide (hrow.out.touch ht.out (by omega))
          have TQ := hide ht.out
          clear ht O3 B1
          have hr := res4 (w := wr) (r := w.heap.size + 1) (.int .i64 (R' : Int)) (.int .i64 (W' : Int)) (.slice (some ⟨bo, 0, none⟩) N' co) (.slice av (k * W') cv) R0 R1 R2 R3
          go_wp2
          refine bodyPost_ret (v := .agg #[.int .i64 (R' : Int), .int .i64 (W' : Int), .slice (some ⟨bo, 0, none⟩) N' co, .slice av (k * W') cv]) (by simp only [results, Try.results30]; simp [go_sem, hr.1, hr.2.1, hr.2.2.1, hr.2.2.2]) rfl ⟨_, _, rfl, ?_, bq.trans (show Below w.heap.size wr _ from (by repeat' (first | with_reducible exact Below.refl _ _ | with_reducible assumption | with_reducible refine Below.drew ?_ | with_reducible refine Below.alloc ?_ ?_ _ | with_reducible refine Below.setCell ?_ ?_ _ | (simp; done) | (simp; omega) | omega)))⟩
          rw [E5.out]
          refine (gown_of (w := wr) (base := w.heap.size + 2) (m := wo.heap.size) RQ.out (by omega) (by omega) (by rw [mkL_length]; exact hown.out) (by omega) (by omega) (by simp [World.setCell]) (fun j _ => ?_) (by omega)).mono (by omega) (Nat.le_refl _)
          by_cases hj : j < w.heap.size + 2
          · exact .inr hj
          · left
            simp only [World.setCell, Array.getElem?_modify]
            repeat rw [if_neg (by omega)]
end Go.Proofs.Ytknkbihjboadjaa

/- What the model's ScreenFault answers: l2Table, l5Region, l5Ranges, l5Form, l5Fault, ScreenFault. -/
namespace Go.Proofs.Ytknkbihjboadjaa
set_option maxRecDepth 20000
open Go.ChangeShapes Go.WideShapes Go.ChangeAt Go.RowKit
set_option linter.unusedVariables false
set_option linter.unusedSimpArgs false
set_option maxRecDepth 20000

theorem l1In_named (n lo hi : Int) (B : Bool) (hB : decide (lo ≤ n ∧ n ≤ hi) = B) (w : World) : Calls Try.prog 50 #[.int .i64 n, .int .i64 lo, .int .i64 hi] w fun e w' => e = .returned (.bool B) ∧ w' = w := by
  subst hB; exact l1In_calls n lo hi w
set_option maxHeartbeats 400000 in
theorem scrAttr_calls (a : Int) (w : World) : Calls Try.prog 108 #[.int .i64 a] w fun e w' => e = .returned (.bool (atB a)) ∧ w' = w := by
  go_enter Try.func108, Try.ntmps108
  go_wp2_with (go_at_call 50; refine (l1In_named a 0 31 (atB a) rfl _).mono ?_; rintro e w' ⟨rfl, hw⟩; rw [hw]; clear hw w')
  go_ret
  exact ⟨rfl, rfl⟩
theorem scrAttr_named (a : Int) (B : Bool) (hB : atB a = B) (w : World) : Calls Try.prog 108 #[.int .i64 a] w fun e w' => e = .returned (.bool B) ∧ w' = w := by
  subst hB; exact scrAttr_calls a w
theorem scrPlace (s : Scr) (b : Nat) (B : Bool) (hB : placeB s.r s.wd s.y s.x = B) (s1 : 1 ≤ s.r) (s2 : s.r ≤ 6) (s3 : 2 ≤ s.wd) (s4 : s.wd ≤ 12) (w : World) (c0 : w.cell? ⟨b, 0, none⟩ = some (.int .i64 s.r)) (c1 : w.cell? ⟨b, 1, none⟩ = some (.int .i64 s.wd)) :
    Calls Try.prog 107 #[.pointer (some ⟨b, 0, none⟩), .int .i64 s.y, .int .i64 s.x] w fun e w' => e = .returned (.bool B) ∧ w' = w := by
  subst hB; exact l3Place_calls s.r s.wd s.y s.x b s1 s2 s3 s4 w c0 c1
set_option maxHeartbeats 400000 in
theorem l2Table_calls (a : Int) (w : World) : Calls Try.prog 109 #[.int .i64 a] w fun e w' => e = .returned (.bool (tblB a)) ∧ w' = w := by
  go_enter Try.func109, Try.ntmps109
  go_wp2_with (go_at_call 50; refine (l1In_named a 1 3 (tblB a) rfl _).mono ?_; rintro e w' ⟨rfl, hw⟩; rw [hw]; clear hw w')
  go_ret
  exact ⟨rfl, rfl⟩
theorem regionB_alt (top bot r : Int) : regionB top bot r = (decide (0 ≤ top) && (decide (bot < r) && (decide (top < bot) || (decide (top = 0) && decide (bot = r - 1))))) := by
  unfold regionB
  rw [Bool.eq_iff_iff]
  simp only [Bool.or_eq_true, Bool.and_eq_true, decide_eq_true_eq]
  omega
set_option maxHeartbeats 1000000 in
theorem l5Region_calls (top bot r : Int) (h1 : 1 ≤ r) (h2 : r ≤ 6) (w : World) : Calls Try.prog 110 #[.int .i64 top, .int .i64 bot, .int .i64 r] w fun e w' => e = .returned (.bool (regionB top bot r)) ∧ w' = w := by
  have hw : IntKind.i64.wrap (r - 1) = r - 1 := wrap_small (by omega) (by omega)
  rw [regionB_alt]
  cases k0 : decide (0 ≤ top) <;> cases k1 : decide (bot < r) <;> cases k2 : decide (top < bot) <;> cases k3 : decide (top = 0) <;> cases k4 : decide (bot = r - 1)
  all_goals simp only [decide_eq_true_eq, decide_eq_false_iff_not] at k0 k1 k2 k3 k4
  all_goals (try omega)
  all_goals
    go_enter Try.func110, Try.ntmps110
    go_wp2
    all_goals go_ret
    all_goals exact ⟨ret_bool (by simp [*]), rfl⟩

def kyB (s : Scr) : Bool := decide (0 ≤ s.ky ∧ s.ky ≤ 5)
def kxB (s : Scr) : Bool := decide (0 ≤ s.kx ∧ s.kx ≤ 11)
theorem keptB_eq (s : Scr) : keptB s = (kyB s && (kxB s && atB s.ka)) := rfl
theorem setsB_len {l : List Int} (h : ¬ l.length = 2) : setsB l = false := by simp [setsB, h]
theorem setsB_two (a b : Int) : setsB [a, b] = (tblB a && tblB b) := by simp [setsB, allT]
set_option maxHeartbeats 16000000 in
theorem l5Ranges_calls (s : Scr) (v1 v2 v3 v4 : Value) (b : Nat) (s1 : 1 ≤ s.r) (s2 : s.r ≤ 6) (s3 : 2 ≤ s.wd) (s4 : s.wd ≤ 12) (w : World) (hn4 : s.sets.length ≤ 1048576) (hB : Blk w b (scrA s v1 v2 v3 v4)) (h4 : ReadAt .i64 w v4 s.sets) :
    Calls Try.prog 69 #[.pointer (some ⟨b, 0, none⟩)] w fun e w' => e = .returned (.bool (rangeB s)) ∧ ∃ n, w' = w.drewN n := by
  have g0 := hB.at 0 (scrA_0 s v1 v2 v3 v4)
  have g1 := hB.at 1 (scrA_1 s v1 v2 v3 v4)
  have g2 := hB.at 4 (scrA_4 s v1 v2 v3 v4)
  have g3 := hB.at 5 (scrA_5 s v1 v2 v3 v4)
  have g4 := hB.at 7 (scrA_7 s v1 v2 v3 v4)
  have g5 := hB.at 14 (scrA_14 s v1 v2 v3 v4)
  have g6 := hB.at 15 (scrA_15 s v1 v2 v3 v4)
  have g7 := hB.at 16 (scrA_16 s v1 v2 v3 v4)
  have g8 := hB.at 17 (scrA_17 s v1 v2 v3 v4)
  have g9 := hB.at 18 (scrA_18 s v1 v2 v3 v4)
  have g10 := hB.at 19 (scrA_19 s v1 v2 v3 v4)
  obtain ⟨a4, c4, rfl, h4⟩ := h4
  unfold rangeB
  rw [keptB_eq]
  generalize hp0 : placeB s.r s.wd s.y s.x = b0
  replace hp0 := hide hp0
  generalize hp1 : atB s.attr = b1
  replace hp1 := hide hp1
  generalize hp2 : kyB s = b2
  replace hp2 := hide hp2
  generalize hp3 : kxB s = b3
  replace hp3 := hide hp3
  generalize hp4 : atB s.ka = b4
  replace hp4 := hide hp4
  go_enter Try.func69, Try.ntmps69
  go_wp2_with fail
  refine wp_region_quiet_lit (by kernel_rfl) (by kernel_rfl) ?_
  repeat (go_big_quiet_step (first
    | (go_at_call 107; exact Calls.quiet_of_same (scrPlace s b _ hp0.out s1 s2 s3 s4 _ ((hB.drewN _).at 0 rfl) ((hB.drewN _).at 1 rfl)))))
  cases b0
  · as_aux_lemma =>
      simp only [Bool.not_false, Bool.not_true]
      repeat (go_big_quiet_step (first
        | (go_at_call 107; exact Calls.quiet_of_same (scrPlace s b _ hp0.out s1 s2 s3 s4 _ ((hB.drewN _).at 0 rfl) ((hB.drewN _).at 1 rfl)))))
      refine wpQuiet_nil ?_
      intro _ hw'
      obtain ⟨nq, hw''⟩ := hw'
      subst hw''
      go_wp2
      go_ret
      exact ⟨ret_bool (by simp), _, rfl⟩
  · as_aux_lemma =>
      simp only [Bool.not_false, Bool.not_true]
      repeat (go_big_quiet_step (first
        | (go_at_call 107; exact Calls.quiet_of_same (scrPlace s b _ hp0.out s1 s2 s3 s4 _ ((hB.drewN _).at 0 rfl) ((hB.drewN _).at 1 rfl)))
        | (go_at_call_of 108 (Value.int IntKind.i64 s.attr); exact Calls.quiet_of_same (scrAttr_named s.attr _ hp1.out _))))
      cases b1
      · as_aux_lemma =>
          simp only [Bool.not_false, Bool.not_true]
          repeat (go_big_quiet_step (first
            | (go_at_call 107; exact Calls.quiet_of_same (scrPlace s b _ hp0.out s1 s2 s3 s4 _ ((hB.drewN _).at 0 rfl) ((hB.drewN _).at 1 rfl)))
            | (go_at_call_of 108 (Value.int IntKind.i64 s.attr); exact Calls.quiet_of_same (scrAttr_named s.attr _ hp1.out _))))
          refine wpQuiet_nil ?_
          intro _ hw'
          obtain ⟨nq, hw''⟩ := hw'
          subst hw''
          go_wp2
          go_ret
          exact ⟨ret_bool (by simp), _, rfl⟩
      · as_aux_lemma =>
          simp only [Bool.not_false, Bool.not_true]
          repeat (go_big_quiet_step (first
            | (go_at_call 107; exact Calls.quiet_of_same (scrPlace s b _ hp0.out s1 s2 s3 s4 _ ((hB.drewN _).at 0 rfl) ((hB.drewN _).at 1 rfl)))
            | (go_at_call_of 108 (Value.int IntKind.i64 s.attr); exact Calls.quiet_of_same (scrAttr_named s.attr _ hp1.out _))
            | (go_at_call_of 50 (Value.int IntKind.i64 s.ky); exact Calls.quiet_of_same (l1In_named s.ky 0 5 _ hp2.out _))))
          cases b2
          · as_aux_lemma =>
              simp only [Bool.not_false, Bool.not_true]
              repeat (go_big_quiet_step (first
                | (go_at_call 107; exact Calls.quiet_of_same (scrPlace s b _ hp0.out s1 s2 s3 s4 _ ((hB.drewN _).at 0 rfl) ((hB.drewN _).at 1 rfl)))
                | (go_at_call_of 108 (Value.int IntKind.i64 s.attr); exact Calls.quiet_of_same (scrAttr_named s.attr _ hp1.out _))
                | (go_at_call_of 50 (Value.int IntKind.i64 s.ky); exact Calls.quiet_of_same (l1In_named s.ky 0 5 _ hp2.out _))))
              refine wpQuiet_nil ?_
              intro _ hw'
              obtain ⟨nq, hw''⟩ := hw'
              subst hw''
              go_wp2
              go_ret
              exact ⟨ret_bool (by simp), _, rfl⟩
          · as_aux_lemma =>
              simp only [Bool.not_false, Bool.not_true]
              repeat (go_big_quiet_step (first
                | (go_at_call 107; exact Calls.quiet_of_same (scrPlace s b _ hp0.out s1 s2 s3 s4 _ ((hB.drewN _).at 0 rfl) ((hB.drewN _).at 1 rfl)))
                | (go_at_call_of 108 (Value.int IntKind.i64 s.attr); exact Calls.quiet_of_same (scrAttr_named s.attr _ hp1.out _))
                | (go_at_call_of 50 (Value.int IntKind.i64 s.ky); exact Calls.quiet_of_same (l1In_named s.ky 0 5 _ hp2.out _))
                | (go_at_call_of 50 (Value.int IntKind.i64 s.kx); exact Calls.quiet_of_same (l1In_named s.kx 0 11 _ hp3.out _))))
              cases b3
              · as_aux_lemma =>
                  simp only [Bool.not_false, Bool.not_true]
                  repeat (go_big_quiet_step (first
                    | (go_at_call 107; exact Calls.quiet_of_same (scrPlace s b _ hp0.out s1 s2 s3 s4 _ ((hB.drewN _).at 0 rfl) ((hB.drewN _).at 1 rfl)))
                    | (go_at_call_of 108 (Value.int IntKind.i64 s.attr); exact Calls.quiet_of_same (scrAttr_named s.attr _ hp1.out _))
                    | (go_at_call_of 50 (Value.int IntKind.i64 s.ky); exact Calls.quiet_of_same (l1In_named s.ky 0 5 _ hp2.out _))
                    | (go_at_call_of 50 (Value.int IntKind.i64 s.kx); exact Calls.quiet_of_same (l1In_named s.kx 0 11 _ hp3.out _))))
                  refine wpQuiet_nil ?_
                  intro _ hw'
                  obtain ⟨nq, hw''⟩ := hw'
                  subst hw''
                  go_wp2
                  go_ret
                  exact ⟨ret_bool (by simp), _, rfl⟩
              · as_aux_lemma =>
                  simp only [Bool.not_false, Bool.not_true]
                  repeat (go_big_quiet_step (first
                    | (go_at_call 107; exact Calls.quiet_of_same (scrPlace s b _ hp0.out s1 s2 s3 s4 _ ((hB.drewN _).at 0 rfl) ((hB.drewN _).at 1 rfl)))
                    | (go_at_call_of 108 (Value.int IntKind.i64 s.attr); exact Calls.quiet_of_same (scrAttr_named s.attr _ hp1.out _))
                    | (go_at_call_of 50 (Value.int IntKind.i64 s.ky); exact Calls.quiet_of_same (l1In_named s.ky 0 5 _ hp2.out _))
                    | (go_at_call_of 50 (Value.int IntKind.i64 s.kx); exact Calls.quiet_of_same (l1In_named s.kx 0 11 _ hp3.out _))
                    | (go_at_call_of 108 (Value.int IntKind.i64 s.ka); exact Calls.quiet_of_same (scrAttr_named s.ka _ hp4.out _))))
                  cases b4
                  · as_aux_lemma =>
                      simp only [Bool.not_false, Bool.not_true]
                      repeat (go_big_quiet_step (first
                        | (go_at_call 107; exact Calls.quiet_of_same (scrPlace s b _ hp0.out s1 s2 s3 s4 _ ((hB.drewN _).at 0 rfl) ((hB.drewN _).at 1 rfl)))
                        | (go_at_call_of 108 (Value.int IntKind.i64 s.attr); exact Calls.quiet_of_same (scrAttr_named s.attr _ hp1.out _))
                        | (go_at_call_of 50 (Value.int IntKind.i64 s.ky); exact Calls.quiet_of_same (l1In_named s.ky 0 5 _ hp2.out _))
                        | (go_at_call_of 50 (Value.int IntKind.i64 s.kx); exact Calls.quiet_of_same (l1In_named s.kx 0 11 _ hp3.out _))
                        | (go_at_call_of 108 (Value.int IntKind.i64 s.ka); exact Calls.quiet_of_same (scrAttr_named s.ka _ hp4.out _))))
                      refine wpQuiet_nil ?_
                      intro _ hw'
                      obtain ⟨nq, hw''⟩ := hw'
                      subst hw''
                      go_wp2
                      go_ret
                      exact ⟨ret_bool (by simp), _, rfl⟩
                  · as_aux_lemma =>
                      simp only [Bool.not_false, Bool.not_true]
                      skip
                      repeat (go_big_quiet_step (first
                        | (go_at_call 107; exact Calls.quiet_of_same (scrPlace s b _ hp0.out s1 s2 s3 s4 _ ((hB.drewN _).at 0 rfl) ((hB.drewN _).at 1 rfl)))
                        | (go_at_call_of 108 (Value.int IntKind.i64 s.attr); exact Calls.quiet_of_same (scrAttr_named s.attr _ hp1.out _))
                        | (go_at_call_of 50 (Value.int IntKind.i64 s.ky); exact Calls.quiet_of_same (l1In_named s.ky 0 5 _ hp2.out _))
                        | (go_at_call_of 50 (Value.int IntKind.i64 s.kx); exact Calls.quiet_of_same (l1In_named s.kx 0 11 _ hp3.out _))
                        | (go_at_call_of 108 (Value.int IntKind.i64 s.ka); exact Calls.quiet_of_same (scrAttr_named s.ka _ hp4.out _))))
                      refine wpQuiet_nil ?_
                      intro _ hw'
                      obtain ⟨nq, hw''⟩ := hw'
                      subst hw''
                      try simp only [Bool.true_and]
                      by_cases hl : s.sets.length = 2
                      · skip
                        obtain ⟨x0, x1, hx⟩ : ∃ x0 x1, s.sets = [x0, x1] := by
                          match hs : s.sets, hl with
                          | [x0, x1], _ => exact ⟨x0, x1, rfl⟩
                        rcases h4 with h4 | ⟨b4, o4, rfl, h4⟩
                        · rw [h4] at hl; simp at hl
                        have q0 := h4 0 (by omega)
                        have q1 := h4 1 (by omega)
                        rw [hx] at q0 q1
                        simp only [List.getD_cons_zero, List.getD_cons_succ, Nat.add_zero] at q0 q1
                        rw [hl] at g8
                        have HS : Hid (setsB s.sets = (tblB x0 && tblB x1)) := hide (by rw [hx, setsB_two])
                        clear h4 hl hx
                        cases p5 : tblB x0
                        · go_wp2_with (first | (go_at_call 109; refine (l2Table_calls _ _).mono ?_; rintro e w' ⟨rfl, hw⟩; rw [hw]; clear hw w') | (go_at_call_of 50 (Value.int IntKind.i64 s.sh); refine (l1In_named s.sh 0 1 (shiftB s) rfl _).mono ?_; rintro e w' ⟨rfl, hw⟩; rw [hw]; clear hw w') | (go_at_call_of 50 (Value.int IntKind.i64 s.bells); refine (l1In_named s.bells 0 999 (bellsB s) rfl _).mono ?_; rintro e w' ⟨rfl, hw⟩; rw [hw]; clear hw w'))
                          go_ret
                          exact ⟨ret_bool (by rw [HS.out]; simp [*]), _, rfl⟩
                        · skip
                          cases p6 : tblB x1
                          · go_wp2_with (first | (go_at_call 109; refine (l2Table_calls _ _).mono ?_; rintro e w' ⟨rfl, hw⟩; rw [hw]; clear hw w') | (go_at_call_of 50 (Value.int IntKind.i64 s.sh); refine (l1In_named s.sh 0 1 (shiftB s) rfl _).mono ?_; rintro e w' ⟨rfl, hw⟩; rw [hw]; clear hw w') | (go_at_call_of 50 (Value.int IntKind.i64 s.bells); refine (l1In_named s.bells 0 999 (bellsB s) rfl _).mono ?_; rintro e w' ⟨rfl, hw⟩; rw [hw]; clear hw w'))
                            go_ret
                            exact ⟨ret_bool (by rw [HS.out]; simp [*]), _, rfl⟩
                          · skip
                            cases p7 : shiftB s
                            · go_wp2_with (first | (go_at_call 109; refine (l2Table_calls _ _).mono ?_; rintro e w' ⟨rfl, hw⟩; rw [hw]; clear hw w') | (go_at_call_of 50 (Value.int IntKind.i64 s.sh); refine (l1In_named s.sh 0 1 (shiftB s) rfl _).mono ?_; rintro e w' ⟨rfl, hw⟩; rw [hw]; clear hw w') | (go_at_call_of 50 (Value.int IntKind.i64 s.bells); refine (l1In_named s.bells 0 999 (bellsB s) rfl _).mono ?_; rintro e w' ⟨rfl, hw⟩; rw [hw]; clear hw w'))
                              go_ret
                              exact ⟨ret_bool (by rw [HS.out]; simp [*]), _, rfl⟩
                            · skip
                              cases p8 : bellsB s
                              · go_wp2_with (first | (go_at_call 109; refine (l2Table_calls _ _).mono ?_; rintro e w' ⟨rfl, hw⟩; rw [hw]; clear hw w') | (go_at_call_of 50 (Value.int IntKind.i64 s.sh); refine (l1In_named s.sh 0 1 (shiftB s) rfl _).mono ?_; rintro e w' ⟨rfl, hw⟩; rw [hw]; clear hw w') | (go_at_call_of 50 (Value.int IntKind.i64 s.bells); refine (l1In_named s.bells 0 999 (bellsB s) rfl _).mono ?_; rintro e w' ⟨rfl, hw⟩; rw [hw]; clear hw w'))
                                go_ret
                                exact ⟨ret_bool (by rw [HS.out]; simp [*]), _, rfl⟩
                              · skip
                                go_wp2_with (first | (go_at_call 109; refine (l2Table_calls _ _).mono ?_; rintro e w' ⟨rfl, hw⟩; rw [hw]; clear hw w') | (go_at_call_of 50 (Value.int IntKind.i64 s.sh); refine (l1In_named s.sh 0 1 (shiftB s) rfl _).mono ?_; rintro e w' ⟨rfl, hw⟩; rw [hw]; clear hw w') | (go_at_call_of 50 (Value.int IntKind.i64 s.bells); refine (l1In_named s.bells 0 999 (bellsB s) rfl _).mono ?_; rintro e w' ⟨rfl, hw⟩; rw [hw]; clear hw w'))
                                go_ret
                                exact ⟨ret_bool (by rw [HS.out]; simp [*]), _, rfl⟩
                      · have hne : ((s.sets.length : Int) != 2) = true := by simp; omega
                        have HS := hide (setsB_len hl)
                        clear hl h4 hB
                        go_wp2
                        go_ret
                        exact ⟨ret_bool (by rw [HS.out]; simp), _, rfl⟩
end Go.Proofs.Ytknkbihjboadjaa

/- What the model's ScreenFault answers: l5Form, l5Fault, ScreenFault. -/
namespace Go.Proofs.Ytknkbihjboadjaa
set_option maxRecDepth 20000
open Go.ChangeShapes Go.WideShapes Go.ChangeAt Go.RowKit
set_option linter.unusedVariables false
set_option linter.unusedSimpArgs false
set_option maxRecDepth 20000

set_option maxHeartbeats 8000000 in
theorem l5Form_calls (s : Scr) (v1 v2 v3 v4 : Value) (b : Nat) (s1 : 1 ≤ s.r) (s2 : s.r ≤ 6) (s3 : 2 ≤ s.wd) (s4 : s.wd ≤ 12) (w : World) (hn3 : s.tabs.length ≤ 1048576) (hB : Blk w b (scrA s v1 v2 v3 v4)) (h3 : BRead w v3 s.tabs) :
    Calls Try.prog 70 #[.pointer (some ⟨b, 0, none⟩)] w fun e w' => e = .returned (.bool (sformB s)) ∧ ∃ n, w' = w.drewN n := by
  have g0 := hB.at 0 (scrA_0 s v1 v2 v3 v4)
  have g1 := hB.at 1 (scrA_1 s v1 v2 v3 v4)
  have g4 := hB.at 4 (scrA_4 s v1 v2 v3 v4)
  have g5 := hB.at 5 (scrA_5 s v1 v2 v3 v4)
  have g6 := hB.at 6 (scrA_6 s v1 v2 v3 v4)
  have g8 := hB.at 8 (scrA_8 s v1 v2 v3 v4)
  have g9 := hB.at 9 (scrA_9 s v1 v2 v3 v4)
  have g10 := hB.at 10 (scrA_10 s v1 v2 v3 v4)
  have g11 := hB.at 11 (scrA_11 s v1 v2 v3 v4)
  have g13 := hB.at 13 (scrA_13 s v1 v2 v3 v4)
  clear hB
  obtain ⟨a3, c3, rfl, _⟩ := h3
  have hw : IntKind.i64.wrap (s.wd - 1) = s.wd - 1 := wrap_small (by omega) (by omega)
  unfold sformB
  cases p1 : regionB s.top s.bot s.r
  · go_enter Try.func70, Try.ntmps70
    go_wp2_with fail
    go_quiet ((go_at_call 110; exact Calls.quiet_of_same (l5Region_calls s.top s.bot s.r s1 s2 _)))
    go_wp2
    go_ret
    exact ⟨rfl, _, rfl⟩
  · by_cases ht : (s.tabs.length : Int) = s.wd
    · have hne : ((s.tabs.length : Int) != s.wd) = false := by simp [ht]
      have p2 : Hid (tabsB s = true) := hide (by simp [tabsB, ht])
      clear ht
      go_enter Try.func70, Try.ntmps70
      go_wp2_with fail
      go_quiet ((go_at_call 110; exact Calls.quiet_of_same (l5Region_calls s.top s.bot s.r s1 s2 _)))
      go_wp2_with fail
      generalize hW : s.wrap = wr at *
      generalize hU : s.auto = au at *
      have HW := hide hW
      have HU := hide hU
      clear hW hU
      by_cases hx : s.x = s.wd - 1
      · have hxn : (s.x != s.wd - 1) = false := by simp [hx]
        have HX := hide hx
        clear hx
        cases wr <;> cases au
        case true.false =>
          go_quiet (fail)
          go_wp2
          go_ret
          exact ⟨ret_bool (by rw [p2.out]; simp [wrapB, orgB, HW.out, HU.out, HX.out]), _, by simp [World.drewN_drewN]; rfl⟩
        all_goals
          go_quiet (fail)
          go_wp2_with fail
          generalize hO : s.org = og at *
          have HO := hide hO
          clear hO
          cases og
          · go_quiet (fail)
            go_wp2
            go_ret
            exact ⟨ret_bool (by rw [p2.out]; simp [wrapB, orgB, HW.out, HU.out, HX.out, HO.out]), _, by simp [World.drewN_drewN]; rfl⟩
          · go_quiet ((go_at_call 50; refine (l1In_calls s.y s.top s.bot _).mono ?_; rintro e w' ⟨rfl, rfl⟩; exact ⟨rfl, _, by first | rfl | (simp only [World.drewN_drewN]; rfl)⟩))
            go_wp2
            go_ret
            exact ⟨ret_bool (by rw [p2.out]; simp [wrapB, orgB, HW.out, HU.out, HX.out, HO.out]), _, by simp [World.drewN_drewN]; rfl⟩
      · have hxn : (s.x != s.wd - 1) = true := by simpa using hx
        have HX := hide hx
        clear hx
        cases wr <;> cases au
        case true.false =>
          go_quiet (fail)
          go_wp2
          go_ret
          exact ⟨ret_bool (by rw [p2.out]; simp [wrapB, orgB, HW.out, HU.out, HX.out]), _, by simp [World.drewN_drewN]; rfl⟩
        case true.true =>
          go_quiet (fail)
          go_wp2
          go_ret
          exact ⟨ret_bool (by rw [p2.out]; simp [wrapB, orgB, HW.out, HU.out, HX.out]), _, by simp [World.drewN_drewN]; rfl⟩
        all_goals
          go_quiet (fail)
          go_wp2_with fail
          generalize hO : s.org = og at *
          have HO := hide hO
          clear hO
          cases og
          · go_quiet (fail)
            go_wp2
            go_ret
            exact ⟨ret_bool (by rw [p2.out]; simp [wrapB, orgB, HW.out, HU.out, HX.out, HO.out]), _, by simp [World.drewN_drewN]; rfl⟩
          · go_quiet ((go_at_call 50; refine (l1In_calls s.y s.top s.bot _).mono ?_; rintro e w' ⟨rfl, rfl⟩; exact ⟨rfl, _, by first | rfl | (simp only [World.drewN_drewN]; rfl)⟩))
            go_wp2
            go_ret
            exact ⟨ret_bool (by rw [p2.out]; simp [wrapB, orgB, HW.out, HU.out, HX.out, HO.out]), _, by simp [World.drewN_drewN]; rfl⟩
    · have hne : ((s.tabs.length : Int) != s.wd) = true := by simpa using ht
      have p2 : Hid (tabsB s = false) := hide (by simp [tabsB, ht])
      clear ht
      go_enter Try.func70, Try.ntmps70
      go_wp2_with fail
      go_quiet ((go_at_call 110; exact Calls.quiet_of_same (l5Region_calls s.top s.bot s.r s1 s2 _)))
      go_wp2
      go_ret
      exact ⟨ret_bool (by rw [p2.out]; rfl), _, rfl⟩

set_option maxHeartbeats 2000000 in
theorem l5Fault_calls (s : Scr) (v1 v2 v3 v4 : Value) (b : Nat) (w : World) (hn1 : s.cs.length ≤ 1048576) (hn2 : s.bs.length ≤ 1048576) (hn3 : s.tabs.length ≤ 1048576) (hn4 : s.sets.length ≤ 1048576) (hB : Blk w b (scrA s v1 v2 v3 v4)) (h : SRead w s v1 v2 v3 v4) :
    Calls Try.prog 26 #[.pointer (some ⟨b, 0, none⟩)] w fun e w' => e = .returned (.int .i64 (scrCode s)) ∧ Below w.heap.size w w' := by
  go_enter Try.func26, Try.ntmps26
  go_wp2_with fail
  refine (l3Fault_calls s.r s.wd s.cs s.bs v1 v2 b _ hn1 hn2 h.g1 h.g2 (hB.at 0 rfl) (hB.at 1 rfl) (hB.at 2 rfl) (hB.at 3 rfl)).mono ?_
  rintro e w1 ⟨rfl, hb1⟩
  have hB1 := hB.belowb hb1
  by_cases hg : gridCode s.r s.wd s.cs s.bs = 0
  · obtain ⟨s1, s2, s3, s4, _, _⟩ := size_mul (gfine_of_code hg).size
    have HG := hide hg
    rw [hg]
    clear hg
    go_wp2_with fail
    refine (l5Ranges_calls s v1 v2 v3 v4 b s1 s2 s3 s4 _ hn4 hB1 (h.g4.below hb1)).mono ?_
    rintro e w2 ⟨rfl, n2, hw2⟩
    have hb2 : Below w1.heap.size w1 w2 := by rw [hw2]; exact below_drewN (Below.refl _ _) n2
    have hB2 := hB1.belowb hb2
    have bel2 : Below w.heap.size w w2 := hb1.trans (hb2.mono hb1.size)
    clear hw2
    cases p1 : rangeB s
    · go_wp2
      go_ret
      exact ⟨by rw [scr_range HG.out p1]; rfl, bel2⟩
    · go_wp2_with fail
      refine (l5Form_calls s v1 v2 v3 v4 b s1 s2 s3 s4 _ hn3 hB2 (h.g3.below bel2)).mono ?_
      rintro e w3 ⟨rfl, n3, hw3⟩
      have hb3 : Below w2.heap.size w2 w3 := by rw [hw3]; exact below_drewN (Below.refl _ _) n3
      have bel3 : Below w.heap.size w w3 := bel2.trans (hb3.mono bel2.size)
      clear hw3
      cases p2 : sformB s
      · go_wp2
        go_ret
        exact ⟨by rw [scr_form HG.out p1 p2]; rfl, bel3⟩
      · go_wp2
        go_ret
        exact ⟨by rw [scr_ok HG.out p1 p2]; rfl, bel3⟩
  · have hne : (gridCode s.r s.wd s.cs s.bs != 0) = true := by simpa using hg
    have HC := hide (scr_grid hg)
    clear hg
    generalize gridCode s.r s.wd s.cs s.bs = code at *
    go_wp2
    go_ret
    exact ⟨by rw [HC.out]; rfl, hb1⟩

end Go.Proofs.Ytknkbihjboadjaa

/- The model's readers of a grid that is a part of a block: l3Place, l3Fault. -/
namespace Go.Proofs.Ytknkbihjboadjaa
set_option maxRecDepth 20000
open Go.ChangeShapes Go.WideShapes Go.ChangeAt Go.RowKit
set_option linter.unusedVariables false
set_option linter.unusedSimpArgs false
set_option maxRecDepth 20000

set_option maxHeartbeats 400000 in
theorem l3Place_o (r wd y x : Int) (b ob : Nat) (h1 : 1 ≤ r) (h2 : r ≤ 6) (h3 : 2 ≤ wd) (h4 : wd ≤ 12) (w : World) (c0 : w.cell? ⟨b, ob, none⟩ = some (.int .i64 r)) (c1 : w.cell? ⟨b, ob + 1, none⟩ = some (.int .i64 wd)) :
    Calls Try.prog 107 #[.pointer (some ⟨b, ob, none⟩), .int .i64 y, .int .i64 x] w fun e w' => e = .returned (.bool (placeB r wd y x)) ∧ w' = w := by
  unfold placeB
  cases k0 : decide (0 ≤ y ∧ y ≤ r - 1) with
  | false =>
    go_enter Try.func107, Try.ntmps107
    go_wp2_with (go_at_call 50; refine (l1In_calls _ _ _ _).mono ?_; rintro e w' ⟨rfl, hw⟩; rw [hw]; clear hw w'; rw [k0])
    go_ret
    exact ⟨rfl, rfl⟩
  | true =>
    cases k1 : decide (0 ≤ x ∧ x ≤ wd - 1) with
    | false =>
      go_enter Try.func107, Try.ntmps107
      go_wp2_with (go_at_call 50; refine (l1In_calls _ _ _ _).mono ?_; rintro e w' ⟨rfl, hw⟩; rw [hw]; clear hw w'; first | rw [k0] | rw [k1])
      go_ret
      exact ⟨rfl, rfl⟩
    | true =>
      go_enter Try.func107, Try.ntmps107
      go_wp2_with (go_at_call 50; refine (l1In_calls _ _ _ _).mono ?_; rintro e w' ⟨rfl, hw⟩; rw [hw]; clear hw w'; first | rw [k0] | rw [k1])
      go_ret
      exact ⟨rfl, rfl⟩

theorem keep4_o {W w1 w2 : World} {b ob : Nat} {u0 u1 u2 u3 : Value} (h : Below W.heap.size W w1 ∧ w1.cell? ⟨b, ob, none⟩ = some u0 ∧ w1.cell? ⟨b, ob + 1, none⟩ = some u1 ∧ w1.cell? ⟨b, ob + 2, none⟩ = some u2 ∧ w1.cell? ⟨b, ob + 3, none⟩ = some u3) (hb : Below w1.heap.size w1 w2) :
    Below W.heap.size W w2 ∧ w2.cell? ⟨b, ob, none⟩ = some u0 ∧ w2.cell? ⟨b, ob + 1, none⟩ = some u1 ∧ w2.cell? ⟨b, ob + 2, none⟩ = some u2 ∧ w2.cell? ⟨b, ob + 3, none⟩ = some u3 := by
  obtain ⟨h0, h1, h2, h3, h4⟩ := h
  exact ⟨h0.trans (hb.mono h0.size), cellb hb h1, cellb hb h2, cellb hb h3, cellb hb h4⟩

set_option maxHeartbeats 1000000 in
theorem l3Fault_o (r wd : Int) (cs bs : List (Int × Int)) (v1 v2 : Value) (b ob : Nat) (w : World) (hn1 : cs.length ≤ 1048576) (hn2 : bs.length ≤ 1048576) (h1 : PRead w v1 cs) (h2 : PRead w v2 bs)
    (k0 : w.cell? ⟨b, ob, none⟩ = some (.int .i64 r)) (k1 : w.cell? ⟨b, ob + 1, none⟩ = some (.int .i64 wd)) (k2 : w.cell? ⟨b, ob + 2, none⟩ = some v1) (k3 : w.cell? ⟨b, ob + 3, none⟩ = some v2) :
    Calls Try.prog 68 #[.pointer (some ⟨b, ob, none⟩)] w fun e w' => e = .returned (.int .i64 (gridCode r wd cs bs)) ∧ Below w.heap.size w w' := by
  have h1' := h1
  obtain ⟨a1, c1, rfl, _⟩ := h1'
  have h2' := h2
  obtain ⟨a2, c2, rfl, _⟩ := h2'
  cases hsz : sizeB r wd with
  | false =>
    rw [code_size hsz]
    go_enter Try.func68, Try.ntmps68
    go_wp2_with fail
    go_region_held3 (fun w' => Below w.heap.size w w' ∧ w'.cell? ⟨b, ob, none⟩ = some (.int .i64 r) ∧ w'.cell? ⟨b, ob + 1, none⟩ = some (.int .i64 wd) ∧ w'.cell? ⟨b, ob + 2, none⟩ = some (.slice a1 cs.length c1) ∧ w'.cell? ⟨b, ob + 3, none⟩ = some (.slice a2 bs.length c2))
      (first
        | exact ⟨Below.drew (Below.refl _ w), k0, k1, k2, k3⟩
        | exact keep4_o (by assumption) (Below.refl _ _))
      (first | (go_at_call 28; refine (l3Size_calls r wd _).mono ?_; rintro e w9 ⟨rfl, hw⟩; rw [hw, hsz]; clear hw w9))
    go_wp2
    go_ret
    exact ⟨rfl, ‹Below w.heap.size w _ ∧ _›.1⟩
  | true =>
    obtain ⟨s1, s2, s3, s4, s5, s6⟩ := size_mul hsz
    have hwr : IntKind.i64.wrap (r * wd) = r * wd := wrap_small (by omega) (by omega)
    have hw5 : IntKind.i64.wrap (5 * wd) = 5 * wd := wrap_small (by omega) (by omega)
    have hz0 : ¬ wd = 0 := by omega
    have htm : (bs.length : Int).tmod wd = (bs.length : Int) % wd := tmod_pos (by omega)
    have hwm : IntKind.i64.wrap ((bs.length : Int) % wd) = (bs.length : Int) % wd := wrap_small (by have := Int.emod_nonneg (bs.length : Int) hz0; omega) (by have := Int.emod_lt_of_pos (bs.length : Int) (show 0 < wd by omega); omega)
    go_enter Try.func68, Try.ntmps68
    go_wp2_with fail
    go_region_held3 (fun w' => Below w.heap.size w w' ∧ w'.cell? ⟨b, ob, none⟩ = some (.int .i64 r) ∧ w'.cell? ⟨b, ob + 1, none⟩ = some (.int .i64 wd) ∧ w'.cell? ⟨b, ob + 2, none⟩ = some (.slice a1 cs.length c1) ∧ w'.cell? ⟨b, ob + 3, none⟩ = some (.slice a2 bs.length c2))
      (first
        | exact ⟨Below.drew (Below.refl _ w), k0, k1, k2, k3⟩
        | exact keep4_o (by assumption) (Below.refl _ _))
      (first | (go_at_call 28; refine (l3Size_calls r wd _).mono ?_; rintro e w9 ⟨rfl, hw⟩; rw [hw, hsz]; clear hw w9))
    have hb0 := ‹Below w.heap.size w _ ∧ _›.1
    by_cases e1 : (cs.length : Int) = r * wd
    · have HE1 := hide e1
      have hne : ((cs.length : Int) != r * wd) = false := by simpa using e1
      clear e1
      by_cases e2 : 5 * wd < (bs.length : Int)
      · have HC := hide (code_back hsz HE1.out e2)
        clear hsz HE1
        go_wp2_with fail
        go_quiet (fail)
        go_wp2
        go_ret
        exact ⟨by rw [HC.out]; rfl, below_drewN hb0 _⟩
      · by_cases e3 : (bs.length : Int) % wd = 0
        · have e3' : (((bs.length : Int) % wd) != 0) = false := by simpa using e3
          have HE3 := hide e3
          clear e3
          have HC1 := hide (code_bad1 (bs := bs) hsz HE1.out e2 HE3.out)
          have HC2 := hide (code_bad2 (bs := bs) hsz HE1.out e2 HE3.out)
          have HC3 := hide (code_ok (bs := bs) hsz HE1.out e2 HE3.out)
          clear hsz HE1 HE3
          go_wp2_with fail
          go_quiet (fail)
          go_wp2_with fail
          have hb1 : Below w.heap.size w (w.drewN (1 + nq)) := below_drewN (Below.refl _ _) _
          refine (l3Cells_calls cs _ _ hn1 (h1.below hb1)).mono ?_
          rintro e w1 ⟨rfl, rfl⟩
          cases h4 : allC cs 0 with
          | false =>
            have HC := hide (HC1.out h4)
            clear HC1 HC2 HC3
            go_wp2
            go_ret
            exact ⟨by rw [HC.out]; rfl, hb1⟩
          | true =>
            replace HC2 := hide (HC2.out h4)
            replace HC3 := hide (HC3.out h4)
            clear HC1
            go_wp2_with fail
            refine (l3Cells_calls bs _ _ hn2 (h2.below hb1)).mono ?_
            rintro e w2 ⟨rfl, rfl⟩
            cases h5 : allC bs 0 with
            | false =>
              have HC := hide (HC2.out h5)
              clear HC2 HC3
              go_wp2
              go_ret
              exact ⟨by rw [HC.out]; rfl, hb1⟩
            | true =>
              have HC := hide (HC3.out h5)
              clear HC2 HC3
              go_wp2
              go_ret
              exact ⟨by rw [HC.out]; rfl, hb1⟩
        · have e3' : (((bs.length : Int) % wd) != 0) = true := by simpa using e3
          have HC := hide (code_rest hsz HE1.out e2 e3)
          clear hsz HE1 e3
          go_wp2_with fail
          go_quiet (fail)
          go_wp2
          go_ret
          exact ⟨by rw [HC.out]; rfl, below_drewN hb0 _⟩
    · have hne : ((cs.length : Int) != r * wd) = true := by simpa using e1
      have HC := hide (code_cells (bs := bs) hsz e1)
      clear hsz e1
      go_wp2_with fail
      go_quiet (fail)
      go_wp2
      go_ret
      exact ⟨by rw [HC.out]; rfl, below_drewN hb0 _⟩

theorem scrPlace_o (s : Scr) (b ob : Nat) (B : Bool) (hB : placeB s.r s.wd s.y s.x = B) (s1 : 1 ≤ s.r) (s2 : s.r ≤ 6) (s3 : 2 ≤ s.wd) (s4 : s.wd ≤ 12) (w : World) (c0 : w.cell? ⟨b, ob, none⟩ = some (.int .i64 s.r)) (c1 : w.cell? ⟨b, ob + 1, none⟩ = some (.int .i64 s.wd)) :
    Calls Try.prog 107 #[.pointer (some ⟨b, ob, none⟩), .int .i64 s.y, .int .i64 s.x] w fun e w' => e = .returned (.bool B) ∧ w' = w := by
  subst hB; exact l3Place_o s.r s.wd s.y s.x b ob s1 s2 s3 s4 w c0 c1

end Go.Proofs.Ytknkbihjboadjaa

/- The model's ScreenFault of a screen that is a part of a block: l5Ranges, l5Form, l5Fault. -/
namespace Go.Proofs.Ytknkbihjboadjaa
set_option maxRecDepth 20000
open Go.ChangeShapes Go.WideShapes Go.ChangeAt Go.RowKit
set_option linter.unusedVariables false
set_option linter.unusedSimpArgs false
set_option maxRecDepth 20000

set_option maxHeartbeats 16000000 in
theorem l5Ranges_o (s : Scr) (v1 v2 v3 v4 : Value) (b ob : Nat) (s1 : 1 ≤ s.r) (s2 : s.r ≤ 6) (s3 : 2 ≤ s.wd) (s4 : s.wd ≤ 12) (w : World) (hn4 : s.sets.length ≤ 1048576) (hB : Seg w b ob (scrA s v1 v2 v3 v4)) (h4 : ReadAt .i64 w v4 s.sets) :
    Calls Try.prog 69 #[.pointer (some ⟨b, ob, none⟩)] w fun e w' => e = .returned (.bool (rangeB s)) ∧ ∃ n, w' = w.drewN n := by
  have g0 := hB.at0 (scrA_0 s v1 v2 v3 v4)
  have g1 := hB.at 1 (scrA_1 s v1 v2 v3 v4)
  have g2 := hB.at 4 (scrA_4 s v1 v2 v3 v4)
  have g3 := hB.at 5 (scrA_5 s v1 v2 v3 v4)
  have g4 := hB.at 7 (scrA_7 s v1 v2 v3 v4)
  have g5 := hB.at 14 (scrA_14 s v1 v2 v3 v4)
  have g6 := hB.at 15 (scrA_15 s v1 v2 v3 v4)
  have g7 := hB.at 16 (scrA_16 s v1 v2 v3 v4)
  have g8 := hB.at 17 (scrA_17 s v1 v2 v3 v4)
  have g9 := hB.at 18 (scrA_18 s v1 v2 v3 v4)
  have g10 := hB.at 19 (scrA_19 s v1 v2 v3 v4)
  obtain ⟨a4, c4, rfl, h4⟩ := h4
  unfold rangeB
  rw [keptB_eq]
  generalize hp0 : placeB s.r s.wd s.y s.x = b0
  replace hp0 := hide hp0
  generalize hp1 : atB s.attr = b1
  replace hp1 := hide hp1
  generalize hp2 : kyB s = b2
  replace hp2 := hide hp2
  generalize hp3 : kxB s = b3
  replace hp3 := hide hp3
  generalize hp4 : atB s.ka = b4
  replace hp4 := hide hp4
  go_enter Try.func69, Try.ntmps69
  go_wp2_with fail
  refine wp_region_quiet_lit (by kernel_rfl) (by kernel_rfl) ?_
  repeat (go_big_quiet_step (first
    | (go_at_call 107; exact Calls.quiet_of_same (scrPlace_o s b ob _ hp0.out s1 s2 s3 s4 _ ((hB.drewN _).at0 rfl) ((hB.drewN _).at 1 rfl)))))
  cases b0
  · as_aux_lemma =>
      simp only [Bool.not_false, Bool.not_true]
      repeat (go_big_quiet_step (first
        | (go_at_call 107; exact Calls.quiet_of_same (scrPlace_o s b ob _ hp0.out s1 s2 s3 s4 _ ((hB.drewN _).at0 rfl) ((hB.drewN _).at 1 rfl)))))
      refine wpQuiet_nil ?_
      intro _ hw'
      obtain ⟨nq, hw''⟩ := hw'
      subst hw''
      go_wp2
      go_ret
      exact ⟨ret_bool (by simp), _, rfl⟩
  · as_aux_lemma =>
      simp only [Bool.not_false, Bool.not_true]
      repeat (go_big_quiet_step (first
        | (go_at_call 107; exact Calls.quiet_of_same (scrPlace_o s b ob _ hp0.out s1 s2 s3 s4 _ ((hB.drewN _).at0 rfl) ((hB.drewN _).at 1 rfl)))
        | (go_at_call_of 108 (Value.int IntKind.i64 s.attr); exact Calls.quiet_of_same (scrAttr_named s.attr _ hp1.out _))))
      cases b1
      · as_aux_lemma =>
          simp only [Bool.not_false, Bool.not_true]
          repeat (go_big_quiet_step (first
            | (go_at_call 107; exact Calls.quiet_of_same (scrPlace_o s b ob _ hp0.out s1 s2 s3 s4 _ ((hB.drewN _).at0 rfl) ((hB.drewN _).at 1 rfl)))
            | (go_at_call_of 108 (Value.int IntKind.i64 s.attr); exact Calls.quiet_of_same (scrAttr_named s.attr _ hp1.out _))))
          refine wpQuiet_nil ?_
          intro _ hw'
          obtain ⟨nq, hw''⟩ := hw'
          subst hw''
          go_wp2
          go_ret
          exact ⟨ret_bool (by simp), _, rfl⟩
      · as_aux_lemma =>
          simp only [Bool.not_false, Bool.not_true]
          repeat (go_big_quiet_step (first
            | (go_at_call 107; exact Calls.quiet_of_same (scrPlace_o s b ob _ hp0.out s1 s2 s3 s4 _ ((hB.drewN _).at0 rfl) ((hB.drewN _).at 1 rfl)))
            | (go_at_call_of 108 (Value.int IntKind.i64 s.attr); exact Calls.quiet_of_same (scrAttr_named s.attr _ hp1.out _))
            | (go_at_call_of 50 (Value.int IntKind.i64 s.ky); exact Calls.quiet_of_same (l1In_named s.ky 0 5 _ hp2.out _))))
          cases b2
          · as_aux_lemma =>
              simp only [Bool.not_false, Bool.not_true]
              repeat (go_big_quiet_step (first
                | (go_at_call 107; exact Calls.quiet_of_same (scrPlace_o s b ob _ hp0.out s1 s2 s3 s4 _ ((hB.drewN _).at0 rfl) ((hB.drewN _).at 1 rfl)))
                | (go_at_call_of 108 (Value.int IntKind.i64 s.attr); exact Calls.quiet_of_same (scrAttr_named s.attr _ hp1.out _))
                | (go_at_call_of 50 (Value.int IntKind.i64 s.ky); exact Calls.quiet_of_same (l1In_named s.ky 0 5 _ hp2.out _))))
              refine wpQuiet_nil ?_
              intro _ hw'
              obtain ⟨nq, hw''⟩ := hw'
              subst hw''
              go_wp2
              go_ret
              exact ⟨ret_bool (by simp), _, rfl⟩
          · as_aux_lemma =>
              simp only [Bool.not_false, Bool.not_true]
              repeat (go_big_quiet_step (first
                | (go_at_call 107; exact Calls.quiet_of_same (scrPlace_o s b ob _ hp0.out s1 s2 s3 s4 _ ((hB.drewN _).at0 rfl) ((hB.drewN _).at 1 rfl)))
                | (go_at_call_of 108 (Value.int IntKind.i64 s.attr); exact Calls.quiet_of_same (scrAttr_named s.attr _ hp1.out _))
                | (go_at_call_of 50 (Value.int IntKind.i64 s.ky); exact Calls.quiet_of_same (l1In_named s.ky 0 5 _ hp2.out _))
                | (go_at_call_of 50 (Value.int IntKind.i64 s.kx); exact Calls.quiet_of_same (l1In_named s.kx 0 11 _ hp3.out _))))
              cases b3
              · as_aux_lemma =>
                  simp only [Bool.not_false, Bool.not_true]
                  repeat (go_big_quiet_step (first
                    | (go_at_call 107; exact Calls.quiet_of_same (scrPlace_o s b ob _ hp0.out s1 s2 s3 s4 _ ((hB.drewN _).at0 rfl) ((hB.drewN _).at 1 rfl)))
                    | (go_at_call_of 108 (Value.int IntKind.i64 s.attr); exact Calls.quiet_of_same (scrAttr_named s.attr _ hp1.out _))
                    | (go_at_call_of 50 (Value.int IntKind.i64 s.ky); exact Calls.quiet_of_same (l1In_named s.ky 0 5 _ hp2.out _))
                    | (go_at_call_of 50 (Value.int IntKind.i64 s.kx); exact Calls.quiet_of_same (l1In_named s.kx 0 11 _ hp3.out _))))
                  refine wpQuiet_nil ?_
                  intro _ hw'
                  obtain ⟨nq, hw''⟩ := hw'
                  subst hw''
                  go_wp2
                  go_ret
                  exact ⟨ret_bool (by simp), _, rfl⟩
              · as_aux_lemma =>
                  simp only [Bool.not_false, Bool.not_true]
                  repeat (go_big_quiet_step (first
                    | (go_at_call 107; exact Calls.quiet_of_same (scrPlace_o s b ob _ hp0.out s1 s2 s3 s4 _ ((hB.drewN _).at0 rfl) ((hB.drewN _).at 1 rfl)))
                    | (go_at_call_of 108 (Value.int IntKind.i64 s.attr); exact Calls.quiet_of_same (scrAttr_named s.attr _ hp1.out _))
                    | (go_at_call_of 50 (Value.int IntKind.i64 s.ky); exact Calls.quiet_of_same (l1In_named s.ky 0 5 _ hp2.out _))
                    | (go_at_call_of 50 (Value.int IntKind.i64 s.kx); exact Calls.quiet_of_same (l1In_named s.kx 0 11 _ hp3.out _))
                    | (go_at_call_of 108 (Value.int IntKind.i64 s.ka); exact Calls.quiet_of_same (scrAttr_named s.ka _ hp4.out _))))
                  cases b4
                  · as_aux_lemma =>
                      simp only [Bool.not_false, Bool.not_true]
                      repeat (go_big_quiet_step (first
                        | (go_at_call 107; exact Calls.quiet_of_same (scrPlace_o s b ob _ hp0.out s1 s2 s3 s4 _ ((hB.drewN _).at0 rfl) ((hB.drewN _).at 1 rfl)))
                        | (go_at_call_of 108 (Value.int IntKind.i64 s.attr); exact Calls.quiet_of_same (scrAttr_named s.attr _ hp1.out _))
                        | (go_at_call_of 50 (Value.int IntKind.i64 s.ky); exact Calls.quiet_of_same (l1In_named s.ky 0 5 _ hp2.out _))
                        | (go_at_call_of 50 (Value.int IntKind.i64 s.kx); exact Calls.quiet_of_same (l1In_named s.kx 0 11 _ hp3.out _))
                        | (go_at_call_of 108 (Value.int IntKind.i64 s.ka); exact Calls.quiet_of_same (scrAttr_named s.ka _ hp4.out _))))
                      refine wpQuiet_nil ?_
                      intro _ hw'
                      obtain ⟨nq, hw''⟩ := hw'
                      subst hw''
                      go_wp2
                      go_ret
                      exact ⟨ret_bool (by simp), _, rfl⟩
                  · as_aux_lemma =>
                      simp only [Bool.not_false, Bool.not_true]
                      skip
                      repeat (go_big_quiet_step (first
                        | (go_at_call 107; exact Calls.quiet_of_same (scrPlace_o s b ob _ hp0.out s1 s2 s3 s4 _ ((hB.drewN _).at0 rfl) ((hB.drewN _).at 1 rfl)))
                        | (go_at_call_of 108 (Value.int IntKind.i64 s.attr); exact Calls.quiet_of_same (scrAttr_named s.attr _ hp1.out _))
                        | (go_at_call_of 50 (Value.int IntKind.i64 s.ky); exact Calls.quiet_of_same (l1In_named s.ky 0 5 _ hp2.out _))
                        | (go_at_call_of 50 (Value.int IntKind.i64 s.kx); exact Calls.quiet_of_same (l1In_named s.kx 0 11 _ hp3.out _))
                        | (go_at_call_of 108 (Value.int IntKind.i64 s.ka); exact Calls.quiet_of_same (scrAttr_named s.ka _ hp4.out _))))
                      refine wpQuiet_nil ?_
                      intro _ hw'
                      obtain ⟨nq, hw''⟩ := hw'
                      subst hw''
                      try simp only [Bool.true_and]
                      by_cases hl : s.sets.length = 2
                      · skip
                        obtain ⟨x0, x1, hx⟩ : ∃ x0 x1, s.sets = [x0, x1] := by
                          match hs : s.sets, hl with
                          | [x0, x1], _ => exact ⟨x0, x1, rfl⟩
                        rcases h4 with h4 | ⟨b4, o4, rfl, h4⟩
                        · rw [h4] at hl; simp at hl
                        have q0 := h4 0 (by omega)
                        have q1 := h4 1 (by omega)
                        rw [hx] at q0 q1
                        simp only [List.getD_cons_zero, List.getD_cons_succ, Nat.add_zero] at q0 q1
                        rw [hl] at g8
                        have HS : Hid (setsB s.sets = (tblB x0 && tblB x1)) := hide (by rw [hx, setsB_two])
                        clear h4 hl hx
                        cases p5 : tblB x0
                        · go_wp2_with (first | (go_at_call 109; refine (l2Table_calls _ _).mono ?_; rintro e w' ⟨rfl, hw⟩; rw [hw]; clear hw w') | (go_at_call_of 50 (Value.int IntKind.i64 s.sh); refine (l1In_named s.sh 0 1 (shiftB s) rfl _).mono ?_; rintro e w' ⟨rfl, hw⟩; rw [hw]; clear hw w') | (go_at_call_of 50 (Value.int IntKind.i64 s.bells); refine (l1In_named s.bells 0 999 (bellsB s) rfl _).mono ?_; rintro e w' ⟨rfl, hw⟩; rw [hw]; clear hw w'))
                          go_ret
                          exact ⟨ret_bool (by rw [HS.out]; simp [*]), _, rfl⟩
                        · skip
                          cases p6 : tblB x1
                          · go_wp2_with (first | (go_at_call 109; refine (l2Table_calls _ _).mono ?_; rintro e w' ⟨rfl, hw⟩; rw [hw]; clear hw w') | (go_at_call_of 50 (Value.int IntKind.i64 s.sh); refine (l1In_named s.sh 0 1 (shiftB s) rfl _).mono ?_; rintro e w' ⟨rfl, hw⟩; rw [hw]; clear hw w') | (go_at_call_of 50 (Value.int IntKind.i64 s.bells); refine (l1In_named s.bells 0 999 (bellsB s) rfl _).mono ?_; rintro e w' ⟨rfl, hw⟩; rw [hw]; clear hw w'))
                            go_ret
                            exact ⟨ret_bool (by rw [HS.out]; simp [*]), _, rfl⟩
                          · skip
                            cases p7 : shiftB s
                            · go_wp2_with (first | (go_at_call 109; refine (l2Table_calls _ _).mono ?_; rintro e w' ⟨rfl, hw⟩; rw [hw]; clear hw w') | (go_at_call_of 50 (Value.int IntKind.i64 s.sh); refine (l1In_named s.sh 0 1 (shiftB s) rfl _).mono ?_; rintro e w' ⟨rfl, hw⟩; rw [hw]; clear hw w') | (go_at_call_of 50 (Value.int IntKind.i64 s.bells); refine (l1In_named s.bells 0 999 (bellsB s) rfl _).mono ?_; rintro e w' ⟨rfl, hw⟩; rw [hw]; clear hw w'))
                              go_ret
                              exact ⟨ret_bool (by rw [HS.out]; simp [*]), _, rfl⟩
                            · skip
                              cases p8 : bellsB s
                              · go_wp2_with (first | (go_at_call 109; refine (l2Table_calls _ _).mono ?_; rintro e w' ⟨rfl, hw⟩; rw [hw]; clear hw w') | (go_at_call_of 50 (Value.int IntKind.i64 s.sh); refine (l1In_named s.sh 0 1 (shiftB s) rfl _).mono ?_; rintro e w' ⟨rfl, hw⟩; rw [hw]; clear hw w') | (go_at_call_of 50 (Value.int IntKind.i64 s.bells); refine (l1In_named s.bells 0 999 (bellsB s) rfl _).mono ?_; rintro e w' ⟨rfl, hw⟩; rw [hw]; clear hw w'))
                                go_ret
                                exact ⟨ret_bool (by rw [HS.out]; simp [*]), _, rfl⟩
                              · skip
                                go_wp2_with (first | (go_at_call 109; refine (l2Table_calls _ _).mono ?_; rintro e w' ⟨rfl, hw⟩; rw [hw]; clear hw w') | (go_at_call_of 50 (Value.int IntKind.i64 s.sh); refine (l1In_named s.sh 0 1 (shiftB s) rfl _).mono ?_; rintro e w' ⟨rfl, hw⟩; rw [hw]; clear hw w') | (go_at_call_of 50 (Value.int IntKind.i64 s.bells); refine (l1In_named s.bells 0 999 (bellsB s) rfl _).mono ?_; rintro e w' ⟨rfl, hw⟩; rw [hw]; clear hw w'))
                                go_ret
                                exact ⟨ret_bool (by rw [HS.out]; simp [*]), _, rfl⟩
                      · have hne : ((s.sets.length : Int) != 2) = true := by simp; omega
                        have HS := hide (setsB_len hl)
                        clear hl h4 hB
                        go_wp2
                        go_ret
                        exact ⟨ret_bool (by rw [HS.out]; simp), _, rfl⟩

set_option maxHeartbeats 8000000 in
theorem l5Form_o (s : Scr) (v1 v2 v3 v4 : Value) (b ob : Nat) (s1 : 1 ≤ s.r) (s2 : s.r ≤ 6) (s3 : 2 ≤ s.wd) (s4 : s.wd ≤ 12) (w : World) (hn3 : s.tabs.length ≤ 1048576) (hB : Seg w b ob (scrA s v1 v2 v3 v4)) (h3 : BRead w v3 s.tabs) :
    Calls Try.prog 70 #[.pointer (some ⟨b, ob, none⟩)] w fun e w' => e = .returned (.bool (sformB s)) ∧ ∃ n, w' = w.drewN n := by
  have g0 := hB.at0 (scrA_0 s v1 v2 v3 v4)
  have g1 := hB.at 1 (scrA_1 s v1 v2 v3 v4)
  have g4 := hB.at 4 (scrA_4 s v1 v2 v3 v4)
  have g5 := hB.at 5 (scrA_5 s v1 v2 v3 v4)
  have g6 := hB.at 6 (scrA_6 s v1 v2 v3 v4)
  have g8 := hB.at 8 (scrA_8 s v1 v2 v3 v4)
  have g9 := hB.at 9 (scrA_9 s v1 v2 v3 v4)
  have g10 := hB.at 10 (scrA_10 s v1 v2 v3 v4)
  have g11 := hB.at 11 (scrA_11 s v1 v2 v3 v4)
  have g13 := hB.at 13 (scrA_13 s v1 v2 v3 v4)
  clear hB
  obtain ⟨a3, c3, rfl, _⟩ := h3
  have hw : IntKind.i64.wrap (s.wd - 1) = s.wd - 1 := wrap_small (by omega) (by omega)
  unfold sformB
  cases p1 : regionB s.top s.bot s.r
  · go_enter Try.func70, Try.ntmps70
    go_wp2_with fail
    go_quiet ((go_at_call 110; exact Calls.quiet_of_same (l5Region_calls s.top s.bot s.r s1 s2 _)))
    go_wp2
    go_ret
    exact ⟨rfl, _, rfl⟩
  · by_cases ht : (s.tabs.length : Int) = s.wd
    · have hne : ((s.tabs.length : Int) != s.wd) = false := by simp [ht]
      have p2 : Hid (tabsB s = true) := hide (by simp [tabsB, ht])
      clear ht
      go_enter Try.func70, Try.ntmps70
      go_wp2_with fail
      go_quiet ((go_at_call 110; exact Calls.quiet_of_same (l5Region_calls s.top s.bot s.r s1 s2 _)))
      go_wp2_with fail
      generalize hW : s.wrap = wr at *
      generalize hU : s.auto = au at *
      have HW := hide hW
      have HU := hide hU
      clear hW hU
      by_cases hx : s.x = s.wd - 1
      · have hxn : (s.x != s.wd - 1) = false := by simp [hx]
        have HX := hide hx
        clear hx
        cases wr <;> cases au
        case true.false =>
          go_quiet (fail)
          go_wp2
          go_ret
          exact ⟨ret_bool (by rw [p2.out]; simp [wrapB, orgB, HW.out, HU.out, HX.out]), _, by simp [World.drewN_drewN]; rfl⟩
        all_goals
          go_quiet (fail)
          go_wp2_with fail
          generalize hO : s.org = og at *
          have HO := hide hO
          clear hO
          cases og
          · go_quiet (fail)
            go_wp2
            go_ret
            exact ⟨ret_bool (by rw [p2.out]; simp [wrapB, orgB, HW.out, HU.out, HX.out, HO.out]), _, by simp [World.drewN_drewN]; rfl⟩
          · go_quiet ((go_at_call 50; refine (l1In_calls s.y s.top s.bot _).mono ?_; rintro e w' ⟨rfl, rfl⟩; exact ⟨rfl, _, by first | rfl | (simp only [World.drewN_drewN]; rfl)⟩))
            go_wp2
            go_ret
            exact ⟨ret_bool (by rw [p2.out]; simp [wrapB, orgB, HW.out, HU.out, HX.out, HO.out]), _, by simp [World.drewN_drewN]; rfl⟩
      · have hxn : (s.x != s.wd - 1) = true := by simpa using hx
        have HX := hide hx
        clear hx
        cases wr <;> cases au
        case true.false =>
          go_quiet (fail)
          go_wp2
          go_ret
          exact ⟨ret_bool (by rw [p2.out]; simp [wrapB, orgB, HW.out, HU.out, HX.out]), _, by simp [World.drewN_drewN]; rfl⟩
        case true.true =>
          go_quiet (fail)
          go_wp2
          go_ret
          exact ⟨ret_bool (by rw [p2.out]; simp [wrapB, orgB, HW.out, HU.out, HX.out]), _, by simp [World.drewN_drewN]; rfl⟩
        all_goals
          go_quiet (fail)
          go_wp2_with fail
          generalize hO : s.org = og at *
          have HO := hide hO
          clear hO
          cases og
          · go_quiet (fail)
            go_wp2
            go_ret
            exact ⟨ret_bool (by rw [p2.out]; simp [wrapB, orgB, HW.out, HU.out, HX.out, HO.out]), _, by simp [World.drewN_drewN]; rfl⟩
          · go_quiet ((go_at_call 50; refine (l1In_calls s.y s.top s.bot _).mono ?_; rintro e w' ⟨rfl, rfl⟩; exact ⟨rfl, _, by first | rfl | (simp only [World.drewN_drewN]; rfl)⟩))
            go_wp2
            go_ret
            exact ⟨ret_bool (by rw [p2.out]; simp [wrapB, orgB, HW.out, HU.out, HX.out, HO.out]), _, by simp [World.drewN_drewN]; rfl⟩
    · have hne : ((s.tabs.length : Int) != s.wd) = true := by simpa using ht
      have p2 : Hid (tabsB s = false) := hide (by simp [tabsB, ht])
      clear ht
      go_enter Try.func70, Try.ntmps70
      go_wp2_with fail
      go_quiet ((go_at_call 110; exact Calls.quiet_of_same (l5Region_calls s.top s.bot s.r s1 s2 _)))
      go_wp2
      go_ret
      exact ⟨ret_bool (by rw [p2.out]; rfl), _, rfl⟩

set_option maxHeartbeats 2000000 in
theorem l5Fault_o (s : Scr) (v1 v2 v3 v4 : Value) (b ob : Nat) (w : World) (hn1 : s.cs.length ≤ 1048576) (hn2 : s.bs.length ≤ 1048576) (hn3 : s.tabs.length ≤ 1048576) (hn4 : s.sets.length ≤ 1048576) (hB : Seg w b ob (scrA s v1 v2 v3 v4)) (h : SRead w s v1 v2 v3 v4) :
    Calls Try.prog 26 #[.pointer (some ⟨b, ob, none⟩)] w fun e w' => e = .returned (.int .i64 (scrCode s)) ∧ Below w.heap.size w w' := by
  go_enter Try.func26, Try.ntmps26
  go_wp2_with fail
  refine (l3Fault_o s.r s.wd s.cs s.bs v1 v2 b ob _ hn1 hn2 h.g1 h.g2 (hB.at0 rfl) (hB.at 1 rfl) (hB.at 2 rfl) (hB.at 3 rfl)).mono ?_
  rintro e w1 ⟨rfl, hb1⟩
  have hB1 := hB.belowb hb1
  by_cases hg : gridCode s.r s.wd s.cs s.bs = 0
  · obtain ⟨s1, s2, s3, s4, _, _⟩ := size_mul (gfine_of_code hg).size
    have HG := hide hg
    rw [hg]
    clear hg
    go_wp2_with fail
    refine (l5Ranges_o s v1 v2 v3 v4 b ob s1 s2 s3 s4 _ hn4 hB1 (h.g4.below hb1)).mono ?_
    rintro e w2 ⟨rfl, n2, hw2⟩
    have hb2 : Below w1.heap.size w1 w2 := by rw [hw2]; exact below_drewN (Below.refl _ _) n2
    have hB2 := hB1.belowb hb2
    have bel2 : Below w.heap.size w w2 := hb1.trans (hb2.mono hb1.size)
    clear hw2
    cases p1 : rangeB s
    · go_wp2
      go_ret
      exact ⟨by rw [scr_range HG.out p1]; rfl, bel2⟩
    · go_wp2_with fail
      refine (l5Form_o s v1 v2 v3 v4 b ob s1 s2 s3 s4 _ hn3 hB2 (h.g3.below bel2)).mono ?_
      rintro e w3 ⟨rfl, n3, hw3⟩
      have hb3 : Below w2.heap.size w2 w3 := by rw [hw3]; exact below_drewN (Below.refl _ _) n3
      have bel3 : Below w.heap.size w w3 := bel2.trans (hb3.mono bel2.size)
      clear hw3
      cases p2 : sformB s
      · go_wp2
        go_ret
        exact ⟨by rw [scr_form HG.out p1 p2]; rfl, bel3⟩
      · go_wp2
        go_ret
        exact ⟨by rw [scr_ok HG.out p1 p2]; rfl, bel3⟩
  · have hne : (gridCode s.r s.wd s.cs s.bs != 0) = true := by simpa using hg
    have HC := hide (scr_grid hg)
    clear hg
    generalize gridCode s.r s.wd s.cs s.bs = code at *
    go_wp2
    go_ret
    exact ⟨by rw [HC.out]; rfl, hb1⟩

end Go.Proofs.Ytknkbihjboadjaa

/- What the model's ResizeScreen answers. -/
namespace Go.Proofs.Ytknkbihjboadjaa
set_option maxRecDepth 20000
open Go.ChangeShapes Go.WideShapes Go.ChangeAt Go.RowKit
set_option linter.unusedVariables false
set_option linter.unusedSimpArgs false
set_option maxRecDepth 20000

theorem scr_tabs {s : Scr} (h : scrCode s = 0) : (s.tabs.length : Int) = s.wd := by
  unfold scrCode at h
  by_cases hg : gridCode s.r s.wd s.cs s.bs = 0
  · rw [if_pos hg] at h
    cases hr : rangeB s with
    | false => rw [hr] at h; simp at h
    | true =>
      cases hf : sformB s with
      | false => rw [hr, hf] at h; simp at h
      | true =>
        unfold sformB tabsB at hf
        simp only [Bool.and_eq_true, decide_eq_true_eq] at hf
        exact hf.2.1
  · rw [if_neg hg] at h; exact absurd h hg
theorem step_append_bools {P : Program} {ops : Array Oper} {o : Oper} {a : Act} {w : World} {K : Act → World → Prop} {Q : Exit → Act → World → Prop} {E : Prop}
    (hg : o.guard = none) (s x : Operand) (t : TypeId) (hop : o.op = Op.call { callee := Callee.builtin Builtin.append, args := #[s, x], argTypes := #[t, t] })
    (base : Nat) (e : TypeId) (i : TypeInfo) (z : Value) (bytes : Nat) (h1 : P.underlying t = some (.slice e)) (h2 : P.info? e = some i) (h3 : i.zero = some z) (h4 : i.size = 1) (h5 : i.bytes = bytes) (h6 : z.cells.size = 1)
    (v : Value) (n : Nat) (xs : List Bool) (hs : a.eval s = v) (hown : w.ownsRow base e 1 v n (boolsV xs))
    (ax : Option Addr) (ys : List Bool) (m c : Nat) (hx : a.eval x = .slice ax m c) (hm : m = ys.length) (hr : BRead w (.slice ax m c) ys)
    (b1 : n + m ≤ maxLen) (b2 : (n + m) * bytes ≤ 140737488355328) (hbase : base ≤ w.heap.size)
    (hK : ∀ v' w', w'.ownsRow base e 1 v' (n + m) (boolsV (xs ++ ys)) → w.grownBy w' v.ownBlock → K (a.put o.dst v') w') :
    if Region.wanted o (yielded ops a.tmps) = true then Oper.wp P o a w K Q else E := by
  have hw : Region.wanted o (yielded ops a.tmps) = true := by simp [Region.wanted, hg]
  rw [if_pos hw]
  obtain ⟨v', w', hrun, r1, r2⟩ := run_append_bools w base t o.type e i z bytes h1 h2 h3 h4 h5 h6 v n xs hown ax ys m c hm hr b1 b2 hbase
  unfold Oper.wp
  simp [execOp, hop, resolve, invoke, builtin, hs, hx, hrun, Result.andThen]
  exact hK v' w' r1 r2
theorem bread_pre {w : World} {a : Option Addr} {n c k : Nat} {xs : List Bool} (h : BRead w (.slice a n c) xs) (hk : k ≤ xs.length) : BRead w (.slice a k c) (xs.take k) := by
  obtain ⟨a', c', hv, h⟩ := h
  injection hv with e1 e2 e3
  subst e1 e3
  refine ⟨_, _, by rw [List.length_take, Nat.min_eq_left hk], ?_⟩
  rcases h with h | ⟨b, off, ha, hc⟩
  · left; rw [h]; simp
  · right
    refine ⟨b, off, ha, fun i hi => ?_⟩
    rw [List.length_take] at hi
    rw [hc i (by omega)]
    simp [List.getD_eq_getElem?_getD, List.getElem?_take, show i < k by omega]
theorem tabs_join {tb : List Bool} {m n k : Nat} (hk : min n m = k) (hm : tb.length = m) : tb.take k ++ tabsL (n - k) (fun i => stopB (k + i)) = tabsW tb n := by
  apply List.ext_getElem?
  intro i
  unfold tabsW
  by_cases h1 : i < k
  · rw [List.getElem?_append_left (by rw [List.length_take]; omega), List.getElem?_take, if_pos h1]
    have h2 : i < n := by omega
    simp [tabsL, h2, List.getD_eq_getElem?_getD, show i < tb.length by omega]
  · rw [List.getElem?_append_right (by rw [List.length_take]; omega), List.length_take, show min k tb.length = k by omega]
    by_cases h2 : i < n
    · simp [tabsL, h2, show i - k < n - k by omega, show k + (i - k) = i by omega, show ¬ i < tb.length by omega]
    · simp [tabsL, h2, show ¬ i - k < n - k by omega]
set_option maxHeartbeats 8000000 in
theorem specResizeScreen_calls (s : Scr) (v1 v2 v3 v4 : Value) (rows width : Int) (w : World) (hn1 : s.cs.length ≤ 1048576) (hn2 : s.bs.length ≤ 1048576) (hn3 : s.tabs.length ≤ 1048576) (hn4 : s.sets.length ≤ 1048576) (k1 : Capped v1) (k2 : Capped v2) (k3 : Capped v3) (h : SRead w s v1 v2 v3 v4) :
    Calls Try.prog 7 #[.agg (scrA s v1 v2 v3 v4), .int .i64 rows, .int .i64 width] w fun e w' => ∃ u1 u2 u3 u4, e = .returned (.agg (resA (rzRes s rows width).code (rzRes s rows width).s u1 u2 u3 u4)) ∧ SOwn w.heap.size w'.heap.size w' u1 u2 u3 u4 (rzRes s rows width).s ∧ Below w.heap.size w w' := by
  have bel0 : Below w.heap.size w ((w.alloc (.cells (scrA s v1 v2 v3 v4) 34)).alloc (.cells #[.int .i64 0, .int .i64 0, .int .i64 0, .slice none 0 0, .slice none 0 0, .int .i64 0, .int .i64 0, .bool false, .int .i64 0, .int .i64 0, .int .i64 0, .bool false, .bool false, .bool false, .slice none 0 0, .int .i64 0, .int .i64 0, .int .i64 0, .slice none 0 0, .int .i64 0, .int .i64 0] 36)) := (by repeat' (first | with_reducible exact Below.refl _ _ | with_reducible assumption | with_reducible refine Below.drew ?_ | with_reducible refine Below.alloc ?_ ?_ _ | with_reducible refine Below.setCell ?_ ?_ _ | (simp; done) | (simp; omega) | omega))
  have hA := (Blk.new w (scrA s v1 v2 v3 v4) 34).alloc (.cells #[.int .i64 0, .int .i64 0, .int .i64 0, .slice none 0 0, .slice none 0 0, .int .i64 0, .int .i64 0, .bool false, .int .i64 0, .int .i64 0, .int .i64 0, .bool false, .bool false, .bool false, .slice none 0 0, .int .i64 0, .int .i64 0, .int .i64 0, .slice none 0 0, .int .i64 0, .int .i64 0] 36)
  have hR : Blk ((w.alloc (.cells (scrA s v1 v2 v3 v4) 34)).alloc (.cells #[.int .i64 0, .int .i64 0, .int .i64 0, .slice none 0 0, .slice none 0 0, .int .i64 0, .int .i64 0, .bool false, .int .i64 0, .int .i64 0, .int .i64 0, .bool false, .bool false, .bool false, .slice none 0 0, .int .i64 0, .int .i64 0, .int .i64 0, .slice none 0 0, .int .i64 0, .int .i64 0] 36)) (w.heap.size + 1) (resA 0 scr0 (.slice none 0 0) (.slice none 0 0) (.slice none 0 0) (.slice none 0 0)) := Blk.new_at (by simp) _ _
  unfold rzRes
  by_cases hc : scrCode s = 0
  · rw [if_pos hc]
    cases hz : sizeB rows width with
    | false =>
      rw [if_neg (by simp)]
      go_enter Try.func7, Try.ntmps7
      go_wp2_with fail
      go_at_call 26
      refine (l5Fault_o s _ _ _ _ w.heap.size 0 _ hn1 hn2 hn3 hn4 hA.seg (h.below bel0)).mono ?_
      rintro e w1 ⟨rfl, hb⟩
      replace hA := hA.belowb hb
      replace hR := hR.belowb hb
      have bel1 := bel0.trans (hb.mono bel0.size)
      have z1 : w.heap.size + 2 ≤ w1.heap.size := by have := hb.size; simp at this; omega
      clear hb bel0
      rw [hc]
      go_wp2_with (first | fail | (go_at_call 28; refine (l3Size_calls _ _ _).mono ?_; rintro e w' ⟨rfl, hw⟩; rw [hw, hz]; clear hw w'))
      go_at_call 27
      refine (l5Bad_calls 3 _).mono ?_
      rintro e w2 ⟨rfl, hb⟩
      replace hR := hR.belowb hb
      have z2 : w1.heap.size ≤ w2.heap.size := hb.size
      have bel2 := bel1.trans (hb.mono bel1.size)
      clear hb bel1
      go_wp2_with (first | (refine wpList_store_blk rfl _ _ _ rfl (w.heap.size + 1) 0 (resA 0 scr0 (.slice none 0 0) (.slice none 0 0) (.slice none 0 0) (.slice none 0 0)) (resA 3 scr0 (.slice none 0 0) (.slice none 0 0) (.slice none 0 0) (.slice none 0 0)) (.agg (resA 3 scr0 (.slice none 0 0) (.slice none 0 0) (.slice none 0 0) (.slice none 0 0))) rfl rfl hR rfl (by kernel_rfl) rfl rfl ?_; (try simp only [Act.put, List.setIfInBounds_toArray, List.set_cons_zero, List.set_cons_succ]); clear hR; intro w9 hR hu))
      exact bodyPost_ret (results_blk hR _ _ rfl rfl Try.underlying36 rfl (by kernel_rfl)) rfl ⟨_, _, _, _, rfl, sown_zero _ _ (by have := hu.size; omega) _, bel2.trans (hu.below (by omega))⟩
    | true =>
      rw [if_pos rfl]
      have hG := rz_grid_code hc
      have hfine := gfine_of_code hG
      obtain ⟨n1, n2, hq, n8, n9, n10⟩ := hfine.short
      obtain ⟨R, W, R', W', Hb, N', M', eR, eW, rfl, rfl, p1, p2, p3, p4, p5, p6, p7, p8, p9, p10, p11, p12, e1, e2, e3, e4, e5⟩ := resize_nats hfine hz
      have eW' : s.wd.toNat = W := by omega
      have eR' : s.r.toNat = R := by omega
      have htl : s.tabs.length = W := by
        have := scr_tabs hc
        omega
      obtain ⟨G, hG'⟩ : ∃ G, rzGrid s (R' : Int) (W' : Int) = G := ⟨_, rfl⟩
      have e' : rzGrid s (R' : Int) (W' : Int) = ⟨0, (R' : Int), (W' : Int), mkL N' (fitF W W' (min R' R) (fun i => s.cs.getD i (0, 0)) (32, 0)), mkL M' (fitF W W' Hb (fun i => s.bs.getD i (0, 0)) (32, 0))⟩ := by
        unfold rzGrid
        rw [resizeRes_def, gres_ok hG hz]
        simp only [eW', eR', Int.toNat_natCast, e3, ← e4, ← e5]
      rw [hG'] at e'
      have HGL : mkL N' (fitF W W' (min R' R) (fun i => s.cs.getD i (0, 0)) (32, 0)) = G.cs := by rw [e']
      have HBL : mkL M' (fitF W W' Hb (fun i => s.bs.getD i (0, 0)) (32, 0)) = G.bs := by rw [e']
      have hfin : rzScr s (R' : Int) (W' : Int) = goTo { s with r := (R' : Int), wd := (W' : Int), cs := G.cs, bs := G.bs, top := 0, bot := (R' : Int) - 1, tabs := tabsW s.tabs W' } s.y s.x := by
        unfold rzScr rzStart
        rw [hG']
        rfl
      rw [hfin]
      have HRZ := fun (w1 : World) (b1 : Below w.heap.size w w1) => l3Resize_calls R W R' W' Hb N' M' s.r s.wd s.cs s.bs _ _ w1 (h.g1.below b1) (h.g2.below b1) k1 k2 eR eW p1 p2 p3 p4 p5 p6 p7 p8 p9 p10 p11 p12 n9 n10 e1 e2 e4 e5
      rw [HGL, HBL] at HRZ
      have hwr : IntKind.i64.wrap ((R' : Int) - 1) = (R' : Int) - 1 := wrap_small (by omega) (by omega)
      obtain ⟨k, hk⟩ : ∃ k, min W' W = k := ⟨_, rfl⟩
      have hm : min (W' : Int) s.wd = (k : Int) := by omega
      have hkw : k ≤ W' := by omega
      have hkl : k ≤ s.tabs.length := by omega
      have htk : (s.tabs.take k).length = k := by rw [List.length_take]; omega
      have hjoin := tabs_join (tb := s.tabs) (n := W') hk htl
      obtain ⟨b3, o3, c3, rfl⟩ : ∃ b3 o3 c3, v3 = .slice (some ⟨b3, o3, none⟩) s.tabs.length c3 := by
        obtain ⟨a3, c3, rfl, h3⟩ := h.g3
        rcases h3 with h3 | ⟨b3, o3, rfl, _⟩
        · rw [h3] at htl; simp at htl; omega
        · exact ⟨_, _, _, rfl⟩
      have hk3 : s.tabs.length ≤ c3 := k3 _ _ _ rfl
      have hkc : (k : Int) ≤ (c3 : Int) := by omega
      have hkc' : k ≤ c3 := by omega
      have hk0 : (0 : Int) ≤ (k : Int) := by omega
      have HM := hide hm
      have HT := hide htl
      have HK := hide hk
      have HL := hide htk
      have HJ := hide hjoin
      have HW := hide eW
      clear hfine eW' eR' htl e' HGL HBL hfin hG hG' e1 e2 e3 e4 e5 n1 n2 hq n8 n9 n10 eR hk hm htk hjoin k1 k2 k3 eW
      go_enter Try.func7, Try.ntmps7
      go_wp2_with fail
      go_at_call 26
      refine (l5Fault_o s _ _ _ _ w.heap.size 0 _ hn1 hn2 hn3 hn4 hA.seg (h.below bel0)).mono ?_
      rintro e w1 ⟨rfl, hb⟩
      replace hA := hA.belowb hb
      replace hR := hR.belowb hb
      have bel1 := bel0.trans (hb.mono bel0.size)
      have z1 : w.heap.size + 2 ≤ w1.heap.size := by have := hb.size; simp at this; omega
      clear hb bel0
      rw [hc]
      go_wp2_with (first | fail | (go_at_call 28; refine (l3Size_calls _ _ _).mono ?_; rintro e w' ⟨rfl, hw⟩; rw [hw, hz]; clear hw w') | (refine wpList_load_at rfl 34 _ rfl (w.heap.size) 0 rfl _ (scrA s v1 v2 (.slice (some ⟨b3, o3, none⟩) s.tabs.length c3) v4) hA rfl _ Try.underlying34 rfl (by kernel_rfl) ?_; (try simp only [Act.put, List.setIfInBounds_toArray, List.set_cons_zero, List.set_cons_succ])))
      go_at_call 29
      refine (l5Copy_calls s _ _ _ _ _ hn1 hn2 hn3 hn4 (h.below bel1)).mono ?_
      rintro e w2 ⟨u1, u2, u3, u4, rfl, ⟨g1, g2, g3, g4, q1, q2, q3, q4, q5, oc1, -, oc2, -, oT, oS⟩, hb⟩
      obtain ⟨b1, d1, rfl, _⟩ := own_room2 oc1
      obtain ⟨b2, d2, rfl, _⟩ := own_room2 oc2
      obtain ⟨b5, d5, rfl, _⟩ := id oT
      obtain ⟨b4, d4, rfl, _⟩ := id oS
      replace hA := hA.belowb hb
      replace hR := hR.belowb hb
      have bel2 := bel1.trans (hb.mono bel1.size)
      have z2 : w1.heap.size ≤ w2.heap.size := hb.size
      clear hb bel1 hc oc1 oc2 oT
      have f1 := scrA_4 s v1 v2 (.slice (some ⟨b3, o3, none⟩) s.tabs.length c3) v4
      have f2 := scrA_5 s v1 v2 (.slice (some ⟨b3, o3, none⟩) s.tabs.length c3) v4
      go_wp2_with (first | fail | (refine wpList_store_blk rfl _ _ _ rfl (w2.heap.size) 0 (scrA scr0 (.slice none 0 0) (.slice none 0 0) (.slice none 0 0) (.slice none 0 0)) (scrA s (.slice b1 s.cs.length d1) (.slice b2 s.bs.length d2) (.slice b5 s.tabs.length d5) (.slice b4 s.sets.length d4)) (.agg (scrA s (.slice b1 s.cs.length d1) (.slice b2 s.bs.length d2) (.slice b5 s.tabs.length d5) (.slice b4 s.sets.length d4))) rfl rfl (Blk.new w2 _ _) rfl (by kernel_rfl) rfl rfl ?_; (try simp only [Act.put, List.setIfInBounds_toArray, List.set_cons_zero, List.set_cons_succ]); intro w3 hB hu; replace hA := (hA.alloc (.cells #[.int .i64 0, .int .i64 0, .slice none 0 0, .slice none 0 0, .int .i64 0, .int .i64 0, .bool false, .int .i64 0, .int .i64 0, .int .i64 0, .bool false, .bool false, .bool false, .slice none 0 0, .int .i64 0, .int .i64 0, .int .i64 0, .slice none 0 0, .int .i64 0, .int .i64 0] 34)).upd hu (by omega); replace hR := (hR.alloc (.cells #[.int .i64 0, .int .i64 0, .slice none 0 0, .slice none 0 0, .int .i64 0, .int .i64 0, .bool false, .int .i64 0, .int .i64 0, .int .i64 0, .bool false, .bool false, .bool false, .slice none 0 0, .int .i64 0, .int .i64 0, .int .i64 0, .slice none 0 0, .int .i64 0, .int .i64 0] 34)).upd hu (by omega); have hS := oS.of_blocks (w' := w3) (fun q q1 q2 => (hu.block q (by omega)).trans (Below.heap_alloc _ _ _ (by omega))); have bel3 := (bel2.trans ((Below.refl _ w2).alloc (by omega) (.cells #[.int .i64 0, .int .i64 0, .slice none 0 0, .slice none 0 0, .int .i64 0, .int .i64 0, .bool false, .int .i64 0, .int .i64 0, .int .i64 0, .bool false, .bool false, .bool false, .slice none 0 0, .int .i64 0, .int .i64 0, .int .i64 0, .slice none 0 0, .int .i64 0, .int .i64 0] 34))).trans (hu.below (by omega)); have z3 : w3.heap.size = w2.heap.size + 1 := (by have := hu.size; simp at this; omega); have z3' : w2.heap.size + 1 ≤ w3.heap.size := (by omega); clear hu bel2 oS) | (refine wpList_load_at rfl 32 _ rfl (w.heap.size) 0 rfl _ (grdZ s v1 v2) hA (scrA_grdZ s v1 v2 _ v4) _ Try.underlying32 rfl (by kernel_rfl) ?_; (try simp only [Act.put, List.setIfInBounds_toArray, List.set_cons_zero, List.set_cons_succ])))
      go_at_call 30
      refine (HRZ w3 bel3).mono ?_
      clear HRZ
      rintro e w4 ⟨x5, x6, rfl, hg, hb⟩
      obtain ⟨a1, c1, a2, c2, rfl, rfl⟩ := hg.forms
      replace hA := hA.belowb hb
      replace hR := hR.belowb hb
      replace hB := hB.belowb hb
      replace hS := hS.below hb (by omega)
      have bel4 := bel3.trans (hb.mono (by omega))
      have z4 : w3.heap.size ≤ w4.heap.size := hb.size
      clear hb bel3
      go_wp2_with (first | fail | (refine wpList_store_blk rfl _ _ _ rfl (w2.heap.size) 0 (scrA s (.slice b1 s.cs.length d1) (.slice b2 s.bs.length d2) (.slice b5 s.tabs.length d5) (.slice b4 s.sets.length d4)) (scrA { s with r := (R' : Int), wd := (W' : Int), cs := G.cs, bs := G.bs } (.slice a1 G.cs.length c1) (.slice a2 G.bs.length c2) (.slice b5 s.tabs.length d5) (.slice b4 s.sets.length d4)) (.agg #[.int .i64 (R' : Int), .int .i64 (W' : Int), .slice a1 G.cs.length c1, .slice a2 G.bs.length c2]) rfl rfl hB rfl (by kernel_rfl) rfl rfl ?_; (try simp only [Act.put, List.setIfInBounds_toArray, List.set_cons_zero, List.set_cons_succ]); clear hB; intro w5 hB hu; replace hA := hA.upd hu (by omega); replace hR := hR.upd hu (by omega); replace hg := hg.of_blocks (w' := w5) (fun q q1 q2 => hu.block q (by omega)); replace hS := hS.of_blocks (w' := w5) (fun q q1 q2 => hu.block q (by omega)); have bel5 := bel4.trans (hu.below (by omega)); have z5 : w4.heap.size ≤ w5.heap.size := Nat.le_of_eq hu.size.symm; clear hu bel4) | (refine wpList_store_blk rfl _ _ _ rfl (w2.heap.size) 8 (scrA { s with r := (R' : Int), wd := (W' : Int), cs := G.cs, bs := G.bs } (.slice a1 G.cs.length c1) (.slice a2 G.bs.length c2) (.slice b5 s.tabs.length d5) (.slice b4 s.sets.length d4)) (scrA { s with r := (R' : Int), wd := (W' : Int), cs := G.cs, bs := G.bs, top := 0 } (.slice a1 G.cs.length c1) (.slice a2 G.bs.length c2) (.slice b5 s.tabs.length d5) (.slice b4 s.sets.length d4)) (.int .i64 0) rfl rfl hB rfl (by kernel_rfl) rfl rfl ?_; (try simp only [Act.put, List.setIfInBounds_toArray, List.set_cons_zero, List.set_cons_succ]); clear hB; intro w6 hB hu; replace hA := hA.upd hu (by omega); replace hR := hR.upd hu (by omega); replace hg := hg.of_blocks (w' := w6) (fun q q1 q2 => hu.block q (by omega)); replace hS := hS.of_blocks (w' := w6) (fun q q1 q2 => hu.block q (by omega)); have bel6 := bel5.trans (hu.below (by omega)); have z6 : w5.heap.size ≤ w6.heap.size := Nat.le_of_eq hu.size.symm; clear hu bel5) | (refine wpList_store_blk rfl _ _ _ rfl (w2.heap.size) 9 (scrA { s with r := (R' : Int), wd := (W' : Int), cs := G.cs, bs := G.bs, top := 0 } (.slice a1 G.cs.length c1) (.slice a2 G.bs.length c2) (.slice b5 s.tabs.length d5) (.slice b4 s.sets.length d4)) (scrA { s with r := (R' : Int), wd := (W' : Int), cs := G.cs, bs := G.bs, top := 0, bot := (R' : Int) - 1 } (.slice a1 G.cs.length c1) (.slice a2 G.bs.length c2) (.slice b5 s.tabs.length d5) (.slice b4 s.sets.length d4)) (.int .i64 ((R' : Int) - 1)) rfl rfl hB rfl (by kernel_rfl) rfl rfl ?_; (try simp only [Act.put, List.setIfInBounds_toArray, List.set_cons_zero, List.set_cons_succ]); clear hB; intro w7 hB hu; replace hA := hA.upd hu (by omega); replace hR := hR.upd hu (by omega); replace hg := hg.of_blocks (w' := w7) (fun q q1 q2 => hu.block q (by omega)); replace hS := hS.of_blocks (w' := w7) (fun q q1 q2 => hu.block q (by omega)); have bel7 := bel6.trans (hu.below (by omega)); have z7 : w6.heap.size ≤ w7.heap.size := Nat.le_of_eq hu.size.symm; clear hu bel6))
      have hT3 : BRead w7 (.slice (some ⟨b3, o3, none⟩) s.tabs.length c3) s.tabs := h.g3.below bel7
      have hmk : ∀ w', Below w7.heap.size w7 w' → (Below w7.heap.size w7 w' ∧ w'.cell? ⟨w.heap.size, 13, none⟩ = some (.slice (some ⟨b3, o3, none⟩) s.tabs.length c3) ∧ w'.cell? ⟨w.heap.size, 1, none⟩ = some (.int .i64 s.wd)) := fun w' hb => ⟨hb, (hA.belowb hb).at 13 (scrA_13 ..), (hA.belowb hb).at 1 (scrA_1 ..)⟩
      obtain ⟨ib, hb', hb0, hb1, hb2⟩ := info_parts info_boolO
      clear h
      refine till_region [19] (S := (fun w' => Below w7.heap.size w7 w' ∧ w'.cell? ⟨w.heap.size, 13, none⟩ = some (.slice (some ⟨b3, o3, none⟩) s.tabs.length c3) ∧ w'.cell? ⟨w.heap.size, 1, none⟩ = some (.int .i64 s.wd))) (by kernel_rfl) ?_ (fun hHeld => ?_)
      · (try dsimp only); exact hmk _ (Below.drew (Below.refl _ w7))
      refine till_take (i := 1) (oi := ⟨_, _, _, _, _, _⟩) (v := ?_) rfl (by kernel_rfl) (by kernel_rfl) (by kernel_rfl) (by kernel_rfl) (fun _ _ _ h => h) (Or.inl ⟨by rfl, ?_⟩) hHeld ?_
      rotate_left
      · (intro w hSw; (try dsimp only at hSw); go_simp; try (with_reducible rfl))
      try simp only [Act.put, List.setIfInBounds_toArray, List.set_cons_zero, List.set_cons_succ]
      refine till_take (i := 2) (oi := ⟨_, _, _, _, _, _⟩) (v := ?_) rfl (by kernel_rfl) (by kernel_rfl) (by kernel_rfl) (by kernel_rfl) (fun _ _ _ h => h) (Or.inl ⟨by rfl, ?_⟩) hHeld ?_
      rotate_left
      · (intro w hSw; (try dsimp only at hSw); go_simp; try (with_reducible rfl))
      try simp only [Act.put, List.setIfInBounds_toArray, List.set_cons_zero, List.set_cons_succ]
      refine till_take (i := 3) (oi := ⟨_, _, _, _, _, _⟩) (v := ?_) rfl (by kernel_rfl) (by kernel_rfl) (by kernel_rfl) (by kernel_rfl) (fun _ _ _ h => h) (Or.inl ⟨by rfl, ?_⟩) hHeld ?_
      rotate_left
      · (intro w hSw; (try dsimp only at hSw); go_simp; try (with_reducible rfl))
      try simp only [Act.put, List.setIfInBounds_toArray, List.set_cons_zero, List.set_cons_succ]
      refine till_take (i := 4) (oi := ⟨_, _, _, _, _, _⟩) (v := ?_) rfl (by kernel_rfl) (by kernel_rfl) (by kernel_rfl) (by kernel_rfl) (fun _ _ _ h => h) (Or.inl ⟨by rfl, ?_⟩) hHeld ?_
      rotate_left
      · (intro w hSw; (try dsimp only at hSw); go_simp; try (with_reducible rfl))
      try simp only [Act.put, List.setIfInBounds_toArray, List.set_cons_zero, List.set_cons_succ]
      refine till_take (i := 5) (oi := ⟨_, _, _, _, _, _⟩) (v := ?_) rfl (by kernel_rfl) (by kernel_rfl) (by kernel_rfl) (by kernel_rfl) (fun _ _ _ h => h) (Or.inl ⟨by rfl, ?_⟩) hHeld ?_
      rotate_left
      · (intro w hSw; (try dsimp only at hSw); go_simp; try (with_reducible rfl))
      try simp only [Act.put, List.setIfInBounds_toArray, List.set_cons_zero, List.set_cons_succ]
      refine till_take (i := 6) (oi := ⟨_, _, _, _, _, _⟩) (v := ?_) rfl (by kernel_rfl) (by kernel_rfl) (by kernel_rfl) (by kernel_rfl) (fun _ _ _ h => h) (Or.inl ⟨by rfl, ?_⟩) hHeld ?_
      rotate_left
      · (intro w hSw; (try dsimp only at hSw); go_simp; try (with_reducible rfl))
      try simp only [Act.put, List.setIfInBounds_toArray, List.set_cons_zero, List.set_cons_succ]
      refine till_take (i := 10) (oi := ⟨_, _, _, _, _, _⟩) (v := ?_) rfl (by kernel_rfl) (by kernel_rfl) (by kernel_rfl) (by kernel_rfl) (fun _ _ _ h => h) (Or.inl ⟨by rfl, ?_⟩) hHeld ?_
      rotate_left
      · (intro w hSw; (try dsimp only at hSw); go_simp; try (with_reducible rfl))
      try simp only [Act.put, List.setIfInBounds_toArray, List.set_cons_zero, List.set_cons_succ]
      refine till_take (i := 11) (oi := ⟨_, _, _, _, _, _⟩) (v := ?_) rfl (by kernel_rfl) (by kernel_rfl) (by kernel_rfl) (by kernel_rfl) (fun _ _ _ h => h) (Or.inl ⟨by rfl, ?_⟩) hHeld ?_
      rotate_left
      · (intro w hSw; (try dsimp only at hSw); go_simp; try (with_reducible rfl))
      try simp only [Act.put, List.setIfInBounds_toArray, List.set_cons_zero, List.set_cons_succ]
      refine till_take (i := 12) (oi := ⟨_, _, _, _, _, _⟩) (v := ?_) rfl (by kernel_rfl) (by kernel_rfl) (by kernel_rfl) (by kernel_rfl) (fun _ _ _ h => h) (Or.inl ⟨by rfl, ?_⟩) hHeld ?_
      rotate_left
      · (intro w hSw; (try dsimp only at hSw); go_simp; try (with_reducible rfl))
      try simp only [Act.put, List.setIfInBounds_toArray, List.set_cons_zero, List.set_cons_succ]
      refine till_take (i := 13) (oi := ⟨_, _, _, _, _, _⟩) (v := ?_) rfl (by kernel_rfl) (by kernel_rfl) (by kernel_rfl) (by kernel_rfl) (fun _ _ _ h => h) (Or.inl ⟨by rfl, ?_⟩) hHeld ?_
      rotate_left
      · (intro w hSw; (try dsimp only at hSw); go_simp; try (with_reducible rfl))
      try simp only [Act.put, List.setIfInBounds_toArray, List.set_cons_zero, List.set_cons_succ]
      refine till_take (i := 15) (oi := ⟨_, _, _, _, _, _⟩) (v := ?_) rfl (by kernel_rfl) (by kernel_rfl) (by kernel_rfl) (by kernel_rfl) (fun _ _ _ h => h) (Or.inl ⟨by rfl, ?_⟩) hHeld ?_
      rotate_left
      · (intro w hSw; (try dsimp only at hSw); go_simp; try (with_reducible rfl))
      try simp only [Act.put, List.setIfInBounds_toArray, List.set_cons_zero, List.set_cons_succ]
      refine till_ready (rs := [0, 7]) (by kernel_rfl) (by simp) ?_
      refine (EachTill.cons (o := ⟨_, _, _, _, _, _⟩) rfl (fun K hK => ?_) (EachTill.cons (o := ⟨_, _, _, _, _, _⟩) rfl (fun K hK => ?_) EachTill.nil))
      · skip
        go_simp
        refine hK.out _ _ ?_ ?_
        · (try dsimp only); exact hmk _ (hHeld.1.alloc hHeld.1.size _)
        clear hHeld hK K
        intro hHeld
        try simp only [Act.put, List.setIfInBounds_toArray, List.set_cons_zero, List.set_cons_succ]
        refine till_ready (rs := [7]) (by kernel_rfl) (by simp) ?_
        refine (EachTill.cons (o := ⟨_, _, _, _, _, _⟩) rfl (fun K hK => ?_) EachTill.nil)
        go_simp
        go_at_call 31
        refine (l1Min_calls _ _ _).mono ?_
        rintro e w' ⟨rfl, hw⟩
        rw [hw, HM.out]
        clear hw w'
        refine hK.out _ _ ?_ ?_
        · (try dsimp only); exact hHeld
        clear hHeld hK K
        intro hHeld
        try simp only [Act.put, List.setIfInBounds_toArray, List.set_cons_zero, List.set_cons_succ]
        refine till_take (i := 8) (oi := ⟨_, _, _, _, _, _⟩) (v := ?_) rfl (by kernel_rfl) (by kernel_rfl) (by kernel_rfl) (by kernel_rfl) (fun _ _ _ h => h) (Or.inl ⟨by rfl, ?_⟩) hHeld ?_
        rotate_left
        · (intro w hSw; (try dsimp only at hSw); go_simp; try (with_reducible rfl))
        try simp only [Act.put, List.setIfInBounds_toArray, List.set_cons_zero, List.set_cons_succ]
        refine till_ready (rs := [9]) (by kernel_rfl) (by simp) ?_
        refine (EachTill.cons (o := ⟨_, _, _, _, _, _⟩) rfl (fun K hK => ?_) EachTill.nil)
        have hV := hHeld.1
        have own0 : (w7.drew.alloc (.cells #[] 4)).ownsRow w7.heap.size 4 1 (.slice (some ⟨w7.heap.size, 0, none⟩) 0 0) 0 (boolsV []) := World.ownsRow_lit (base := w7.heap.size) (e := 4) (size := 1) w7.drew #[] 0 (Nat.le_refl _) (by simp) rfl
        refine step_append_bools rfl (.tmp 31) (.tmp 39) 25 rfl w7.heap.size 4 ib (.bool false) 1 Try.underlying25 hb' hb0 hb1 hb2 rfl _ 0 [] rfl own0 (some ⟨b3, o3, none⟩) (s.tabs.take k) k c3 rfl HL.out.symm (bread_pre (hT3.below hV) hkl) (by unfold maxLen; omega) (by omega) hV.size ?_
        intro vo w8 own1 gr
        replace hV : Below w7.heap.size w7 w8 := hV.grown gr hV.size (fun q hq => by have := (own0.lt q hq).1; omega)
        clear gr own0
        refine hK.out _ _ ?_ ?_
        · (try dsimp only); exact hmk _ hV
        clear hHeld hK K
        intro hHeld
        try simp only [Act.put, List.setIfInBounds_toArray, List.set_cons_zero, List.set_cons_succ]
        refine till_ready (rs := [14]) (by kernel_rfl) (by simp) ?_
        refine (EachTill.cons (o := ⟨_, _, _, _, _, _⟩) rfl (fun K hK => ?_) EachTill.nil)
        go_simp
        go_at_call 31
        refine (l1Min_calls _ _ _).mono ?_
        rintro e w' ⟨rfl, hw⟩
        rw [hw, HM.out]
        clear hw w'
        refine hK.out _ _ ?_ ?_
        · (try dsimp only); exact hmk _ hV
        clear hHeld hK K
        intro hHeld
        try simp only [Act.put, List.setIfInBounds_toArray, List.set_cons_zero, List.set_cons_succ]
        refine till_ready (rs := [16]) (by kernel_rfl) (by simp) ?_
        refine (EachTill.cons (o := ⟨_, _, _, _, _, _⟩) rfl (fun K hK => ?_) EachTill.nil)
        go_simp
        go_at_call 32
        refine (l5Tabs_calls k W' hkw (by omega) _).mono ?_
        rintro e w9 ⟨ut, rfl, own2, hb9⟩
        replace own1 := own_below own1 hb9
        replace hV := hV.trans (hb9.mono hV.size)
        have z9 : w8.heap.size ≤ w9.heap.size := hb9.size
        clear hb9
        obtain ⟨at2, ct2, rfl⟩ := own_formT own2
        refine hK.out _ _ ?_ ?_
        · (try dsimp only); exact hmk _ hV
        clear hHeld hK K
        intro hHeld
        try simp only [Act.put, List.setIfInBounds_toArray, List.set_cons_zero, List.set_cons_succ]
        refine till_ready (rs := [17]) (by kernel_rfl) (by simp) ?_
        refine (EachTill.cons (o := ⟨_, _, _, _, _, _⟩) rfl (fun K hK => ?_) EachTill.nil)
        have hr2 : BRead w9 (.slice at2 (W' - k) ct2) (tabsL (W' - k) (fun i => stopB (k + i))) := (own_bools own2 (Nat.le_refl _)).read
        refine step_append_bools rfl (.tmp 40) (.tmp 47) 25 rfl w7.heap.size 4 ib (.bool false) 1 Try.underlying25 hb' hb0 hb1 hb2 rfl _ (0 + k) ([] ++ s.tabs.take k) rfl own1 at2 _ (W' - k) ct2 rfl (tabsL_length _ _).symm hr2 (by unfold maxLen; omega) (by omega) hV.size ?_
        intro vp w10 own3 gr
        replace hV : Below w7.heap.size w7 w10 := hV.grown gr hV.size (fun q hq => by have := (own1.lt q hq).1; omega)
        rw [List.nil_append, HJ.out] at own3
        rw [show 0 + k + (W' - k) = W' by omega] at own3
        obtain ⟨at', ct, rfl⟩ := own_formT own3
        have hT : BoolsAt w7.heap.size w10.heap.size w10 (.slice at' W' ct) (tabsW s.tabs W') := own_bools own3 (Nat.le_refl _)
        have z10 : w7.heap.size ≤ w10.heap.size := hV.size
        clear gr own1 own2 own3 hr2
        refine hK.out _ _ ?_ ?_
        · (try dsimp only); exact hmk _ hV
        clear hHeld hK K
        intro hHeld
        try simp only [Act.put, List.setIfInBounds_toArray, List.set_cons_zero, List.set_cons_succ]
        refine till_take (i := 18) (oi := ⟨_, _, _, _, _, _⟩) (v := ?_) rfl (by kernel_rfl) (by kernel_rfl) (by kernel_rfl) (by kernel_rfl) (fun _ _ _ h => h) (Or.inl ⟨by rfl, ?_⟩) hHeld ?_
        rotate_left
        · (intro w hSw; (try dsimp only at hSw); go_simp; try (with_reducible rfl))
        try simp only [Act.put, List.setIfInBounds_toArray, List.set_cons_zero, List.set_cons_succ]
        refine till_ready (rs := [19]) (by kernel_rfl) (by simp) ?_
        refine (EachTill.last (o := ⟨_, _, _, _, _, _⟩) rfl rfl (fun K hK => ?_) EachTill.nil)
        have hB9 := hB.belowb hHeld.1
        have hW9 := hHeld
        refine wp_store_any _ _ _ rfl w2.heap.size 13 (scrA { s with r := (R' : Int), wd := (W' : Int), cs := G.cs, bs := G.bs, top := 0, bot := (R' : Int) - 1 } (.slice a1 G.cs.length c1) (.slice a2 G.bs.length c2) (.slice b5 s.tabs.length d5) (.slice b4 s.sets.length d4)) (scrA { s with r := (R' : Int), wd := (W' : Int), cs := G.cs, bs := G.bs, top := 0, bot := (R' : Int) - 1, tabs := tabsW s.tabs W' } (.slice a1 G.cs.length c1) (.slice a2 G.bs.length c2) (.slice at' W' ct) (.slice b4 s.sets.length d4)) (.slice at' W' ct) rfl rfl hB9 rfl (by kernel_rfl) rfl rfl ?_
        intro w11 hB' hu
        refine hK.out _ _ ?_ ?_
        · first | trivial | (dsimp only)
        clear hHeld hK K
        intro hHeld
        try simp only [Act.put, List.setIfInBounds_toArray, List.set_cons_zero, List.set_cons_succ]
        refine till_done (by kernel_rfl) ?_ _
        clear hHeld
        have hg11 := hg.of_blocks (w' := w11) (fun q q1 q2 => (hu.block q (by omega)).trans (hW9.1.block q (by omega)))
        have hS11 := hS.of_blocks (w' := w11) (fun q q1 q2 => (hu.block q (by omega)).trans (hW9.1.block q (by omega)))
        have hT11 := BoolsAt.of_blocks (w' := w11) hT (fun q q1 q2 => hu.block q (by omega))
        have hA11 := (hA.belowb hW9.1).upd hu (by omega)
        have hR11 := (hR.belowb hW9.1).upd hu (by omega)
        have bel11 := (bel7.trans (hW9.1.mono (by omega))).trans (hu.below (by omega))
        have z11 : w7.heap.size ≤ w11.heap.size := by have := hu.size; have := hW9.1.size; omega
        have z12 : w10.heap.size ≤ w11.heap.size := Nat.le_of_eq hu.size.symm
        clear hu hW9 hg hS hT hA hR bel7 hmk hT3
        have cA := hA11.cells
        go_wp2_with fail
        go_at_call 33
        obtain ⟨O, hO0⟩ : ∃ O : Nat → Prop, ∀ k, ¬ O k := ⟨fun _ => False, fun _ h => h⟩
        refine (l5Go_calls { s with r := (R' : Int), wd := (W' : Int), cs := G.cs, bs := G.bs, top := 0, bot := (R' : Int) - 1, tabs := tabsW s.tabs W' } _ _ _ _ w2.heap.size 0 O s.y s.x _ (by show (1 : Int) ≤ (R' : Int); omega) (by show (R' : Int) ≤ 6; omega) (by show (2 : Int) ≤ (W' : Int); omega) (by show (W' : Int) ≤ 12; omega) hB'.seg).mono ?_
        rintro e w12 ⟨⟨_, rfl⟩, hC, tt⟩
        replace hR11 := hR11.of_block (tt.block _ (by omega) (by omega) (hO0 _))
        replace hg11 := hg11.of_blocks (w' := w12) (fun q q1 q2 => tt.block q (by omega) (by omega) (hO0 _))
        replace hS11 := hS11.of_blocks (w' := w12) (fun q q1 q2 => tt.block q (by omega) (by omega) (hO0 _))
        replace hT11 := BoolsAt.of_blocks (w' := w12) hT11 (fun q q1 q2 => tt.block q (by omega) (by omega) (hO0 _))
        have bel12 := bel11.trans (tt.below (fun k _ => hO0 k) (by omega) (by omega))
        have z13 : w11.heap.size ≤ w12.heap.size := tt.size
        clear tt bel11 hA11 cA
        go_wp2_with (first | (refine wpList_load_seg rfl 34  _ rfl w2.heap.size 0 0 (scrA (goTo { s with r := (R' : Int), wd := (W' : Int), cs := G.cs, bs := G.bs, top := 0, bot := (R' : Int) - 1, tabs := tabsW s.tabs W' } s.y s.x) (.slice a1 G.cs.length c1) (.slice a2 G.bs.length c2) (.slice at' W' ct) (.slice b4 s.sets.length d4)) (scrA (goTo { s with r := (R' : Int), wd := (W' : Int), cs := G.cs, bs := G.bs, top := 0, bot := (R' : Int) - 1, tabs := tabsW s.tabs W' } s.y s.x) (.slice a1 G.cs.length c1) (.slice a2 G.bs.length c2) (.slice at' W' ct) (.slice b4 s.sets.length d4)) hC rfl rfl _ Try.underlying34 rfl (by kernel_rfl) ?_; (try simp only [Act.put, List.setIfInBounds_toArray, List.set_cons_zero, List.set_cons_succ])) | (refine wpList_build_at rfl 36 _ rfl (resA 0 (goTo { s with r := (R' : Int), wd := (W' : Int), cs := G.cs, bs := G.bs, top := 0, bot := (R' : Int) - 1, tabs := tabsW s.tabs W' } s.y s.x) (.slice a1 G.cs.length c1) (.slice a2 G.bs.length c2) (.slice at' W' ct) (.slice b4 s.sets.length d4)) (by first | rfl | kernel_rfl) ?_; (try simp only [Act.put, List.setIfInBounds_toArray, List.set_cons_zero, List.set_cons_succ])) | (refine wpList_store_blk rfl _ _ _ rfl (w.heap.size + 1) 0 (resA 0 scr0 (.slice none 0 0) (.slice none 0 0) (.slice none 0 0) (.slice none 0 0)) (resA 0 (goTo { s with r := (R' : Int), wd := (W' : Int), cs := G.cs, bs := G.bs, top := 0, bot := (R' : Int) - 1, tabs := tabsW s.tabs W' } s.y s.x) (.slice a1 G.cs.length c1) (.slice a2 G.bs.length c2) (.slice at' W' ct) (.slice b4 s.sets.length d4)) (.agg (resA 0 (goTo { s with r := (R' : Int), wd := (W' : Int), cs := G.cs, bs := G.bs, top := 0, bot := (R' : Int) - 1, tabs := tabsW s.tabs W' } s.y s.x) (.slice a1 G.cs.length c1) (.slice a2 G.bs.length c2) (.slice at' W' ct) (.slice b4 s.sets.length d4))) rfl rfl hR11 rfl (by kernel_rfl) rfl rfl ?_; (try simp only [Act.put, List.setIfInBounds_toArray, List.set_cons_zero, List.set_cons_succ]); intro w13 hR13 hu))
        exact bodyPost_ret (results_blk hR13 _ _ rfl rfl Try.underlying36 rfl (by kernel_rfl)) rfl ⟨_, _, _, _, rfl, ⟨w3.heap.size, w4.heap.size, w7.heap.size, w10.heap.size, g4, w2.heap.size, by omega, by have := hu.size; omega, by omega, by have := hu.size; omega, by omega, by have := hu.size; omega, by omega, by omega, by omega, hg11.of_blocks (fun q q1 q2 => hu.block q (by omega)), BoolsAt.of_blocks hT11 (fun q q1 q2 => hu.block q (by omega)), hS11.of_blocks (fun q q1 q2 => hu.block q (by omega))⟩, bel12.trans (hu.below (by omega))⟩
      · skip
        go_simp
        go_at_call 31
        refine (l1Min_calls _ _ _).mono ?_
        rintro e w' ⟨rfl, hw⟩
        rw [hw, HM.out]
        clear hw w'
        refine hK.out _ _ ?_ ?_
        · (try dsimp only); exact hHeld
        clear hHeld hK K
        intro hHeld
        try simp only [Act.put, List.setIfInBounds_toArray, List.set_cons_zero, List.set_cons_succ]
        refine till_take (i := 8) (oi := ⟨_, _, _, _, _, _⟩) (v := ?_) rfl (by kernel_rfl) (by kernel_rfl) (by kernel_rfl) (by kernel_rfl) (fun _ _ _ h => h) (Or.inl ⟨by rfl, ?_⟩) hHeld ?_
        rotate_left
        · (intro w hSw; (try dsimp only at hSw); go_simp; try (with_reducible rfl))
        try simp only [Act.put, List.setIfInBounds_toArray, List.set_cons_zero, List.set_cons_succ]
        refine till_ready (rs := [0]) (by kernel_rfl) (by simp) ?_
        refine (EachTill.cons (o := ⟨_, _, _, _, _, _⟩) rfl (fun K hK => ?_) EachTill.nil)
        go_simp
        refine hK.out _ _ ?_ ?_
        · (try dsimp only); exact hmk _ (hHeld.1.alloc hHeld.1.size _)
        clear hHeld hK K
        intro hHeld
        try simp only [Act.put, List.setIfInBounds_toArray, List.set_cons_zero, List.set_cons_succ]
        refine till_ready (rs := [9]) (by kernel_rfl) (by simp) ?_
        refine (EachTill.cons (o := ⟨_, _, _, _, _, _⟩) rfl (fun K hK => ?_) EachTill.nil)
        have hV := hHeld.1
        have own0 : (w7.drew.alloc (.cells #[] 4)).ownsRow w7.heap.size 4 1 (.slice (some ⟨w7.heap.size, 0, none⟩) 0 0) 0 (boolsV []) := World.ownsRow_lit (base := w7.heap.size) (e := 4) (size := 1) w7.drew #[] 0 (Nat.le_refl _) (by simp) rfl
        refine step_append_bools rfl (.tmp 31) (.tmp 39) 25 rfl w7.heap.size 4 ib (.bool false) 1 Try.underlying25 hb' hb0 hb1 hb2 rfl _ 0 [] rfl own0 (some ⟨b3, o3, none⟩) (s.tabs.take k) k c3 rfl HL.out.symm (bread_pre (hT3.below hV) hkl) (by unfold maxLen; omega) (by omega) hV.size ?_
        intro vo w8 own1 gr
        replace hV : Below w7.heap.size w7 w8 := hV.grown gr hV.size (fun q hq => by have := (own0.lt q hq).1; omega)
        clear gr own0
        refine hK.out _ _ ?_ ?_
        · (try dsimp only); exact hmk _ hV
        clear hHeld hK K
        intro hHeld
        try simp only [Act.put, List.setIfInBounds_toArray, List.set_cons_zero, List.set_cons_succ]
        refine till_ready (rs := [14]) (by kernel_rfl) (by simp) ?_
        refine (EachTill.cons (o := ⟨_, _, _, _, _, _⟩) rfl (fun K hK => ?_) EachTill.nil)
        go_simp
        go_at_call 31
        refine (l1Min_calls _ _ _).mono ?_
        rintro e w' ⟨rfl, hw⟩
        rw [hw, HM.out]
        clear hw w'
        refine hK.out _ _ ?_ ?_
        · (try dsimp only); exact hmk _ hV
        clear hHeld hK K
        intro hHeld
        try simp only [Act.put, List.setIfInBounds_toArray, List.set_cons_zero, List.set_cons_succ]
        refine till_ready (rs := [16]) (by kernel_rfl) (by simp) ?_
        refine (EachTill.cons (o := ⟨_, _, _, _, _, _⟩) rfl (fun K hK => ?_) EachTill.nil)
        go_simp
        go_at_call 32
        refine (l5Tabs_calls k W' hkw (by omega) _).mono ?_
        rintro e w9 ⟨ut, rfl, own2, hb9⟩
        replace own1 := own_below own1 hb9
        replace hV := hV.trans (hb9.mono hV.size)
        have z9 : w8.heap.size ≤ w9.heap.size := hb9.size
        clear hb9
        obtain ⟨at2, ct2, rfl⟩ := own_formT own2
        refine hK.out _ _ ?_ ?_
        · (try dsimp only); exact hmk _ hV
        clear hHeld hK K
        intro hHeld
        try simp only [Act.put, List.setIfInBounds_toArray, List.set_cons_zero, List.set_cons_succ]
        refine till_ready (rs := [17]) (by kernel_rfl) (by simp) ?_
        refine (EachTill.cons (o := ⟨_, _, _, _, _, _⟩) rfl (fun K hK => ?_) EachTill.nil)
        have hr2 : BRead w9 (.slice at2 (W' - k) ct2) (tabsL (W' - k) (fun i => stopB (k + i))) := (own_bools own2 (Nat.le_refl _)).read
        refine step_append_bools rfl (.tmp 40) (.tmp 47) 25 rfl w7.heap.size 4 ib (.bool false) 1 Try.underlying25 hb' hb0 hb1 hb2 rfl _ (0 + k) ([] ++ s.tabs.take k) rfl own1 at2 _ (W' - k) ct2 rfl (tabsL_length _ _).symm hr2 (by unfold maxLen; omega) (by omega) hV.size ?_
        intro vp w10 own3 gr
        replace hV : Below w7.heap.size w7 w10 := hV.grown gr hV.size (fun q hq => by have := (own1.lt q hq).1; omega)
        rw [List.nil_append, HJ.out] at own3
        rw [show 0 + k + (W' - k) = W' by omega] at own3
        obtain ⟨at', ct, rfl⟩ := own_formT own3
        have hT : BoolsAt w7.heap.size w10.heap.size w10 (.slice at' W' ct) (tabsW s.tabs W') := own_bools own3 (Nat.le_refl _)
        have z10 : w7.heap.size ≤ w10.heap.size := hV.size
        clear gr own1 own2 own3 hr2
        refine hK.out _ _ ?_ ?_
        · (try dsimp only); exact hmk _ hV
        clear hHeld hK K
        intro hHeld
        try simp only [Act.put, List.setIfInBounds_toArray, List.set_cons_zero, List.set_cons_succ]
        refine till_take (i := 18) (oi := ⟨_, _, _, _, _, _⟩) (v := ?_) rfl (by kernel_rfl) (by kernel_rfl) (by kernel_rfl) (by kernel_rfl) (fun _ _ _ h => h) (Or.inl ⟨by rfl, ?_⟩) hHeld ?_
        rotate_left
        · (intro w hSw; (try dsimp only at hSw); go_simp; try (with_reducible rfl))
        try simp only [Act.put, List.setIfInBounds_toArray, List.set_cons_zero, List.set_cons_succ]
        refine till_ready (rs := [19]) (by kernel_rfl) (by simp) ?_
        refine (EachTill.last (o := ⟨_, _, _, _, _, _⟩) rfl rfl (fun K hK => ?_) EachTill.nil)
        have hB9 := hB.belowb hHeld.1
        have hW9 := hHeld
        refine wp_store_any _ _ _ rfl w2.heap.size 13 (scrA { s with r := (R' : Int), wd := (W' : Int), cs := G.cs, bs := G.bs, top := 0, bot := (R' : Int) - 1 } (.slice a1 G.cs.length c1) (.slice a2 G.bs.length c2) (.slice b5 s.tabs.length d5) (.slice b4 s.sets.length d4)) (scrA { s with r := (R' : Int), wd := (W' : Int), cs := G.cs, bs := G.bs, top := 0, bot := (R' : Int) - 1, tabs := tabsW s.tabs W' } (.slice a1 G.cs.length c1) (.slice a2 G.bs.length c2) (.slice at' W' ct) (.slice b4 s.sets.length d4)) (.slice at' W' ct) rfl rfl hB9 rfl (by kernel_rfl) rfl rfl ?_
        intro w11 hB' hu
        refine hK.out _ _ ?_ ?_
        · first | trivial | (dsimp only)
        clear hHeld hK K
        intro hHeld
        try simp only [Act.put, List.setIfInBounds_toArray, List.set_cons_zero, List.set_cons_succ]
        refine till_done (by kernel_rfl) ?_ _
        clear hHeld
        have hg11 := hg.of_blocks (w' := w11) (fun q q1 q2 => (hu.block q (by omega)).trans (hW9.1.block q (by omega)))
        have hS11 := hS.of_blocks (w' := w11) (fun q q1 q2 => (hu.block q (by omega)).trans (hW9.1.block q (by omega)))
        have hT11 := BoolsAt.of_blocks (w' := w11) hT (fun q q1 q2 => hu.block q (by omega))
        have hA11 := (hA.belowb hW9.1).upd hu (by omega)
        have hR11 := (hR.belowb hW9.1).upd hu (by omega)
        have bel11 := (bel7.trans (hW9.1.mono (by omega))).trans (hu.below (by omega))
        have z11 : w7.heap.size ≤ w11.heap.size := by have := hu.size; have := hW9.1.size; omega
        have z12 : w10.heap.size ≤ w11.heap.size := Nat.le_of_eq hu.size.symm
        clear hu hW9 hg hS hT hA hR bel7 hmk hT3
        have cA := hA11.cells
        go_wp2_with fail
        go_at_call 33
        obtain ⟨O, hO0⟩ : ∃ O : Nat → Prop, ∀ k, ¬ O k := ⟨fun _ => False, fun _ h => h⟩
        refine (l5Go_calls { s with r := (R' : Int), wd := (W' : Int), cs := G.cs, bs := G.bs, top := 0, bot := (R' : Int) - 1, tabs := tabsW s.tabs W' } _ _ _ _ w2.heap.size 0 O s.y s.x _ (by show (1 : Int) ≤ (R' : Int); omega) (by show (R' : Int) ≤ 6; omega) (by show (2 : Int) ≤ (W' : Int); omega) (by show (W' : Int) ≤ 12; omega) hB'.seg).mono ?_
        rintro e w12 ⟨⟨_, rfl⟩, hC, tt⟩
        replace hR11 := hR11.of_block (tt.block _ (by omega) (by omega) (hO0 _))
        replace hg11 := hg11.of_blocks (w' := w12) (fun q q1 q2 => tt.block q (by omega) (by omega) (hO0 _))
        replace hS11 := hS11.of_blocks (w' := w12) (fun q q1 q2 => tt.block q (by omega) (by omega) (hO0 _))
        replace hT11 := BoolsAt.of_blocks (w' := w12) hT11 (fun q q1 q2 => tt.block q (by omega) (by omega) (hO0 _))
        have bel12 := bel11.trans (tt.below (fun k _ => hO0 k) (by omega) (by omega))
        have z13 : w11.heap.size ≤ w12.heap.size := tt.size
        clear tt bel11 hA11 cA
        go_wp2_with (first | (refine wpList_load_seg rfl 34  _ rfl w2.heap.size 0 0 (scrA (goTo { s with r := (R' : Int), wd := (W' : Int), cs := G.cs, bs := G.bs, top := 0, bot := (R' : Int) - 1, tabs := tabsW s.tabs W' } s.y s.x) (.slice a1 G.cs.length c1) (.slice a2 G.bs.length c2) (.slice at' W' ct) (.slice b4 s.sets.length d4)) (scrA (goTo { s with r := (R' : Int), wd := (W' : Int), cs := G.cs, bs := G.bs, top := 0, bot := (R' : Int) - 1, tabs := tabsW s.tabs W' } s.y s.x) (.slice a1 G.cs.length c1) (.slice a2 G.bs.length c2) (.slice at' W' ct) (.slice b4 s.sets.length d4)) hC rfl rfl _ Try.underlying34 rfl (by kernel_rfl) ?_; (try simp only [Act.put, List.setIfInBounds_toArray, List.set_cons_zero, List.set_cons_succ])) | (refine wpList_build_at rfl 36 _ rfl (resA 0 (goTo { s with r := (R' : Int), wd := (W' : Int), cs := G.cs, bs := G.bs, top := 0, bot := (R' : Int) - 1, tabs := tabsW s.tabs W' } s.y s.x) (.slice a1 G.cs.length c1) (.slice a2 G.bs.length c2) (.slice at' W' ct) (.slice b4 s.sets.length d4)) (by first | rfl | kernel_rfl) ?_; (try simp only [Act.put, List.setIfInBounds_toArray, List.set_cons_zero, List.set_cons_succ])) | (refine wpList_store_blk rfl _ _ _ rfl (w.heap.size + 1) 0 (resA 0 scr0 (.slice none 0 0) (.slice none 0 0) (.slice none 0 0) (.slice none 0 0)) (resA 0 (goTo { s with r := (R' : Int), wd := (W' : Int), cs := G.cs, bs := G.bs, top := 0, bot := (R' : Int) - 1, tabs := tabsW s.tabs W' } s.y s.x) (.slice a1 G.cs.length c1) (.slice a2 G.bs.length c2) (.slice at' W' ct) (.slice b4 s.sets.length d4)) (.agg (resA 0 (goTo { s with r := (R' : Int), wd := (W' : Int), cs := G.cs, bs := G.bs, top := 0, bot := (R' : Int) - 1, tabs := tabsW s.tabs W' } s.y s.x) (.slice a1 G.cs.length c1) (.slice a2 G.bs.length c2) (.slice at' W' ct) (.slice b4 s.sets.length d4))) rfl rfl hR11 rfl (by kernel_rfl) rfl rfl ?_; (try simp only [Act.put, List.setIfInBounds_toArray, List.set_cons_zero, List.set_cons_succ]); intro w13 hR13 hu))
        exact bodyPost_ret (results_blk hR13 _ _ rfl rfl Try.underlying36 rfl (by kernel_rfl)) rfl ⟨_, _, _, _, rfl, ⟨w3.heap.size, w4.heap.size, w7.heap.size, w10.heap.size, g4, w2.heap.size, by omega, by have := hu.size; omega, by omega, by have := hu.size; omega, by omega, by have := hu.size; omega, by omega, by omega, by omega, hg11.of_blocks (fun q q1 q2 => hu.block q (by omega)), BoolsAt.of_blocks hT11 (fun q q1 q2 => hu.block q (by omega)), hS11.of_blocks (fun q q1 q2 => hu.block q (by omega))⟩, bel12.trans (hu.below (by omega))⟩
  · rw [if_neg hc]
    obtain ⟨code, hcd⟩ : ∃ c, scrCode s = c := ⟨_, rfl⟩
    rw [hcd]
    have hne : (code != 0) = true := by rw [← hcd]; simpa using hc
    have HC := hide hcd
    clear hc hcd
    go_enter Try.func7, Try.ntmps7
    go_wp2_with fail
    go_at_call 26
    refine (l5Fault_o s _ _ _ _ w.heap.size 0 _ hn1 hn2 hn3 hn4 hA.seg (h.below bel0)).mono ?_
    rintro e w1 ⟨rfl, hb⟩
    replace hA := hA.belowb hb
    replace hR := hR.belowb hb
    have bel1 := bel0.trans (hb.mono bel0.size)
    have z1 : w.heap.size + 2 ≤ w1.heap.size := by have := hb.size; simp at this; omega
    clear hb bel0
    rw [HC.out]
    go_wp2_with fail
    go_at_call 27
    refine (l5Bad_calls code _).mono ?_
    rintro e w2 ⟨rfl, hb⟩
    replace hR := hR.belowb hb
    have z2 : w1.heap.size ≤ w2.heap.size := hb.size
    have bel2 := bel1.trans (hb.mono bel1.size)
    clear hb bel1
    go_wp2_with (first | (refine wpList_store_blk rfl _ _ _ rfl (w.heap.size + 1) 0 (resA 0 scr0 (.slice none 0 0) (.slice none 0 0) (.slice none 0 0) (.slice none 0 0)) (resA code scr0 (.slice none 0 0) (.slice none 0 0) (.slice none 0 0) (.slice none 0 0)) (.agg (resA code scr0 (.slice none 0 0) (.slice none 0 0) (.slice none 0 0) (.slice none 0 0))) rfl rfl hR rfl (by kernel_rfl) rfl rfl ?_; (try simp only [Act.put, List.setIfInBounds_toArray, List.set_cons_zero, List.set_cons_succ]); clear hR; intro w9 hR hu))
    exact bodyPost_ret (results_blk hR _ _ rfl rfl Try.underlying36 rfl (by kernel_rfl)) rfl ⟨_, _, _, _, rfl, sown_zero _ _ (by have := hu.size; omega) _, bel2.trans (hu.below (by omega))⟩
end Go.Proofs.Ytknkbihjboadjaa

/- Copies of a grid's lists with room for what they hold (toCellS, toGrid). -/
namespace Go.Proofs.Ytknkbihjboadjaa
set_option maxRecDepth 20000
open Go.ChangeShapes Go.WideShapes Go.ChangeAt Go.RowKit
set_option linter.unusedVariables false
set_option linter.unusedSimpArgs false
set_option maxRecDepth 20000

set_option maxHeartbeats 1000000 in
theorem toCellS_full (zs : List (Int × Int)) (v : Value) (w : World) (hn : zs.length ≤ 1048576) (h1 : PRead w v zs) :
    Calls Try.prog 77 #[v] w fun e w' => ∃ v', e = .returned v' ∧ Capped v' ∧ PairsAt w.heap.size w'.heap.size w' v' zs ∧ Below w.heap.size w w' := by
  obtain ⟨i0, hi, hz0, hz1, hz2⟩ := info_parts info_pair
  obtain ⟨a1, c1, rfl, h1⟩ := h1
  go_enter Try.func77, Try.ntmps77
  go_wp2_with (at_make; refine wpList_make_full _ rfl (.tmp 6) (.tmp 6) 30 rfl w.heap.size 99 i0 (.agg #[.int .i64 0, .int .i64 0]) 2 Try.underlying30 hi hz0 hz1 .i64 .i64 _ _ zs.length rfl rfl rfl rfl ?c1 ?c2 ?c3 ?_)
  case c1 => rw [hz2]; omega
  case c2 => unfold maxLen; omega
  case c3 => exact Nat.le_refl _
  intro w1 hown hgrow
  have hany := own_any2 hown
  have hlt1 : w.heap.size < w1.heap.size := (hown.lt w.heap.size rfl).2
  have hb1 : Below w.heap.size w w1 := (Below.refl _ _).grown hgrow (Nat.le_refl _) (fun k hk => by cases hk)
  have HA := hide hany
  clear hown hgrow hany
  go_wp2
  go_loopw [4] (fun i wr => ∃ k : Nat, k ≤ zs.length ∧ i = .int .i64 k ∧ Below w.heap.size w wr ∧ w.heap.size < wr.heap.size ∧
      (∀ j, j < zs.length * 2 → (∃ u, wr.cell? ⟨w.heap.size, 0 + j, none⟩ = some u) ∧ wr.frozen? ⟨w.heap.size, 0 + j, none⟩ = false) ∧ ∀ j, j < k → wr.cell? ⟨w.heap.size, 0 + j * 2, none⟩ = some (.int .i64 (zs.getD j (0, 0)).1) ∧ wr.cell? ⟨w.heap.size, 0 + j * 2 + 1, none⟩ = some (.int .i64 (zs.getD j (0, 0)).2)) (fun i _ => zs.length - (intOf i).toNat)
  case atStart => exact ⟨0, Nat.zero_le _, rfl, hb1, hlt1, HA.out, fun j hj => by omega⟩
  case round =>
    obtain ⟨k, hkk, rfl, hw, hsz, hf, hc⟩ := hrel
    by_cases hlt : k < zs.length
    · have hpos : zs ≠ [] := by intro h; rw [h] at hlt; simp at hlt
      rcases h1 with h1 | ⟨b1, o1, rfl, h1⟩
      · exact absurd h1 hpos
      obtain ⟨g1, g2⟩ := h1 k hlt
      replace g1 := cellb hw g1
      replace g2 := cellb hw g2
      have hltI : (k : Int) < (zs.length : Int) := by omega
      have HF := hide hf
      have HC := hide hc
      clear hf hc h1 hpos HA hb1 hlt1
      have HG : Hid ((zs.getD k (0, 0)) = ((zs.getD k (0, 0)).1, (zs.getD k (0, 0)).2)) := rfl
      generalize hcc : (zs.getD k (0, 0)).1 = c at *
      generalize hgg : (zs.getD k (0, 0)).2 = g at *
      clear hcc hgg
      go_wp2_with fail
      refine (toCell_calls c g _).mono ?_
      rintro e w2 ⟨rfl, hb2⟩
      have hs2 : w.heap.size < w2.heap.size := Nat.lt_of_lt_of_le hsz hb2.size
      have hw2 := hw.trans (hb2.mono (by omega))
      have HF2 : Hid (∀ j, j < zs.length * 2 → (∃ u, w2.cell? ⟨w.heap.size, 0 + j, none⟩ = some u) ∧ w2.frozen? ⟨w.heap.size, 0 + j, none⟩ = false) := fun j hj => by
        obtain ⟨⟨u, hu⟩, hfz⟩ := HF.out j hj
        exact ⟨⟨u, cellb hb2 hu⟩, by rw [hb2.frozen (p := ⟨w.heap.size, 0 + j, none⟩) hsz]; exact hfz⟩
      have HC2 : Hid (∀ j, j < k → w2.cell? ⟨w.heap.size, 0 + j * 2, none⟩ = some (.int .i64 (zs.getD j (0, 0)).1) ∧ w2.cell? ⟨w.heap.size, 0 + j * 2 + 1, none⟩ = some (.int .i64 (zs.getD j (0, 0)).2)) := fun j hj => ⟨cellb hb2 (HC.out j hj).1, cellb hb2 (HC.out j hj).2⟩
      obtain ⟨⟨u, k1⟩, f1⟩ := HF2.out (k * 2) (by omega)
      obtain ⟨⟨u', k2⟩, f2⟩ := HF2.out (k * 2 + 1) (by omega)
      have K1 := hide k1
      have K2 := hide k2
      rw [Nat.zero_add] at k1 f1 k2 f2
      clear g1 g2 HF HC hw hb2 hsz
      go_wp2
      go_roundw
      case rel =>
        obtain ⟨s1, s2, so⟩ := two_cells (x := .int .i64 c) (y := .int .i64 g) k1 k2
        refine ⟨k + 1, by omega, by go_num, (hw2.setCell (Nat.le_refl _) _).setCell (Nat.le_refl _) _, by simpa [World.setCell] using hs2, fun j hj => ⟨?_, ?_⟩, fun j hj => ?_⟩
        · rw [Nat.zero_add]
          by_cases e : j = k * 2
          · subst e; exact ⟨_, s1⟩
          · by_cases e' : j = k * 2 + 1
            · subst e'; exact ⟨_, s2⟩
            · rw [so j e e']; obtain ⟨u, hu⟩ := (HF2.out j hj).1; rw [Nat.zero_add] at hu; exact ⟨u, hu⟩
        · simp only [World.frozen?_setCell]; exact (HF2.out j hj).2
        · by_cases e : j = k
          · subst e; rw [Nat.zero_add, s1, s2, HG.out]; exact ⟨rfl, rfl⟩
          · rw [Nat.zero_add, so _ (by omega) (by omega), so _ (by omega) (by omega)]
            have := HC2.out j (by omega)
            rw [Nat.zero_add] at this
            exact this
      case measure => simp [intOf]; omega
    · have hk' : k = zs.length := by omega
      subst hk'
      go_wp2
      go_ret
      exact ⟨_, rfl, fun a n c e => (by cases e; exact Nat.le_refl _), ⟨_, _, rfl, .inr ⟨w.heap.size, 0, rfl, Nat.le_refl _, hsz, fun i hi => ⟨hc i hi, (hf (i * 2) (by omega)).2, (hf (i * 2 + 1) (by omega)).2⟩⟩⟩, hw⟩

set_option maxHeartbeats 1000000 in
theorem toGrid_full (r wd : Int) (cs bs : List (Int × Int)) (v1 v2 : Value) (w : World) (hn1 : cs.length ≤ 1048576) (hn2 : bs.length ≤ 1048576) (h1 : PRead w v1 cs) (h2 : PRead w v2 bs) :
    Calls Try.prog 34 #[.agg #[.int .i64 r, .int .i64 wd, v1, v2]] w fun e w' => ∃ x y, e = .returned (.agg #[.int .i64 r, .int .i64 wd, x, y]) ∧ Capped x ∧ Capped y ∧ GOwn w.heap.size w'.heap.size w' x y cs bs ∧ Below w.heap.size w w' := by
  have h1' := h1
  obtain ⟨a1, c1, rfl, _⟩ := h1'
  have h2' := h2
  obtain ⟨a2, c2, rfl, _⟩ := h2'
  go_enter Try.func34, Try.ntmps34
  go_wp2_with fail
  refine (toCellS_full cs _ _ hn1 (h1.below ?hb)).mono ?_
  case hb => exact (by repeat' (first | with_reducible exact Below.refl _ _ | with_reducible assumption | with_reducible refine Below.drew ?_ | with_reducible refine Below.alloc ?_ ?_ _ | with_reducible refine Below.setCell ?_ ?_ _ | (simp; done) | (simp; omega) | omega))
  rintro e w1 ⟨x, rfl, hcx, hx, hb1⟩
  have hW : Below w.heap.size w _ := Below.trans (b := _) ?hq (hb1.mono ?hq2)
  case hq => exact (by repeat' (first | with_reducible exact Below.refl _ _ | with_reducible assumption | with_reducible refine Below.drew ?_ | with_reducible refine Below.alloc ?_ ?_ _ | with_reducible refine Below.setCell ?_ ?_ _ | (simp; done) | (simp; omega) | omega))
  case hq2 => simp [World.setCell]; omega
  have hs1 : w.heap.size + 3 ≤ w1.heap.size := by have := hb1.size; simp [World.setCell] at this; omega
  have A3 : w1.cell? ⟨w.heap.size, 3, none⟩ = some (.slice a2 bs.length c2) := cellb hb1 (by simp [go_sem])
  have k0 : w1.cell? ⟨w.heap.size + 1, 0, none⟩ = some (.int .i64 0) := cellb hb1 (by simp [go_sem])
  have k1 : w1.cell? ⟨w.heap.size + 1, 1, none⟩ = some (.int .i64 0) := cellb hb1 (by simp [go_sem])
  have k2 : w1.cell? ⟨w.heap.size + 1, 2, none⟩ = some (.slice none 0 0) := cellb hb1 (by simp [go_sem])
  have k3 : w1.cell? ⟨w.heap.size + 1, 3, none⟩ = some (.slice none 0 0) := cellb hb1 (by simp [go_sem])
  have j0 : w1.cell? ⟨w.heap.size + 2, 0, none⟩ = some (.int .i64 r) := cellb hb1 (by simp [go_sem])
  have j1 : w1.cell? ⟨w.heap.size + 2, 1, none⟩ = some (.int .i64 wd) := cellb hb1 (by simp [go_sem])
  have j2 : w1.cell? ⟨w.heap.size + 2, 2, none⟩ = some (.slice none 0 0) := cellb hb1 (by simp [go_sem])
  have j3 : w1.cell? ⟨w.heap.size + 2, 3, none⟩ = some (.slice none 0 0) := cellb hb1 (by simp [go_sem])
  have fz : ∀ b o, b < w.heap.size + 3 → w.heap.size ≤ b → w1.frozen? ⟨b, o, none⟩ = false := fun b o hb hb' => by
    rw [hb1.frozen (p := ⟨b, o, none⟩) (by simp [World.setCell]; omega)]
    try simp only [World.frozen?_setCell]
    obtain rfl | rfl | rfl : b = w.heap.size ∨ b = w.heap.size + 1 ∨ b = w.heap.size + 2 := by omega
    all_goals simp [go_sem]
  have z0 := fz (w.heap.size + 1) 0 (by omega) (by omega)
  have z1 := fz (w.heap.size + 1) 1 (by omega) (by omega)
  have z2 := fz (w.heap.size + 1) 2 (by omega) (by omega)
  have z3 := fz (w.heap.size + 1) 3 (by omega) (by omega)
  have y2 := fz (w.heap.size + 2) 2 (by omega) (by omega)
  have y3 := fz (w.heap.size + 2) 3 (by omega) (by omega)
  obtain ⟨a3, c3, rfl, hx'⟩ := hx
  have hx : PairsAt (w.heap.size + 3) w1.heap.size w1 (.slice a3 cs.length c3) cs := PairsAt.mono ⟨a3, c3, rfl, hx'⟩ (by simp [World.setCell]) (Nat.le_refl _)
  clear hx' hb1 fz
  have t2 : Touch (w.heap.size + 2) 2 3 w1 (w1.setCell ⟨w.heap.size + 2, 2, none⟩ (.slice a3 cs.length c3)) := (Touch.refl _ _ _ _).setCell (by omega) (by omega) _
  have J2 : (w1.setCell ⟨w.heap.size + 2, 2, none⟩ (.slice a3 cs.length c3)).cell? ⟨w.heap.size + 2, 2, none⟩ = some (.slice a3 cs.length c3) := World.cell?_setCell_same _ _ _ j2
  go_wp2_with fail
  generalize (w1.setCell ⟨w.heap.size + 2, 2, none⟩ (.slice a3 cs.length c3)) = w2 at *
  have hW2 : Below w.heap.size w w2 := hW.trans (t2.below (by omega) (by omega))
  refine (toCellS_full bs _ _ hn2 (h2.below hW2)).mono ?_
  rintro e w3 ⟨y, rfl, hcy, hy, hb3⟩
  have hs2 : w1.heap.size ≤ w2.heap.size := t2.size
  have hs3 : w2.heap.size ≤ w3.heap.size := hb3.size
  have hW3 : Below w.heap.size w w3 := hW2.trans (hb3.mono (by omega))
  replace k0 := cellb hb3 (t2.cellAt k0 (by omega))
  replace k1 := cellb hb3 (t2.cellAt k1 (by omega))
  replace k2 := cellb hb3 (t2.cellAt k2 (by omega))
  replace k3 := cellb hb3 (t2.cellAt k3 (by omega))
  replace j0 := cellb hb3 (t2.cellAt j0 (by omega))
  replace j1 := cellb hb3 (t2.cellAt j1 (by omega))
  replace j3 := cellb hb3 (t2.cellAt j3 (by omega))
  replace J2 := cellb hb3 J2
  replace z0 : w3.frozen? ⟨w.heap.size + 1, 0, none⟩ = false := by rw [hb3.frozen (p := ⟨w.heap.size + 1, 0, none⟩) (by simp; omega)]; exact t2.frozenAt (by omega) z0
  replace z1 : w3.frozen? ⟨w.heap.size + 1, 1, none⟩ = false := by rw [hb3.frozen (p := ⟨w.heap.size + 1, 1, none⟩) (by simp; omega)]; exact t2.frozenAt (by omega) z1
  replace z2 : w3.frozen? ⟨w.heap.size + 1, 2, none⟩ = false := by rw [hb3.frozen (p := ⟨w.heap.size + 1, 2, none⟩) (by simp; omega)]; exact t2.frozenAt (by omega) z2
  replace z3 : w3.frozen? ⟨w.heap.size + 1, 3, none⟩ = false := by rw [hb3.frozen (p := ⟨w.heap.size + 1, 3, none⟩) (by simp; omega)]; exact t2.frozenAt (by omega) z3
  replace y3 : w3.frozen? ⟨w.heap.size + 2, 3, none⟩ = false := by rw [hb3.frozen (p := ⟨w.heap.size + 2, 3, none⟩) (by simp; omega)]; exact t2.frozenAt (by omega) y3
  replace hx := (hx.within (t2.within (lo := w.heap.size) (hi := w.heap.size + 3) (by omega) (by omega)) (Nat.le_refl _) (by omega)).below hb3 (by omega)
  obtain ⟨a4, c4, rfl, hy'⟩ := hy
  have hy : PairsAt w2.heap.size w3.heap.size w3 (.slice a4 bs.length c4) bs := ⟨a4, c4, rfl, hy'⟩
  clear hy' t2 hb3 hW hW2 A3 j2 y2
  have J3 : (w3.setCell ⟨w.heap.size + 2, 3, none⟩ (.slice a4 bs.length c4)).cell? ⟨w.heap.size + 2, 3, none⟩ = some (.slice a4 bs.length c4) := World.cell?_setCell_same _ _ _ j3
  have t3 : Touch (w.heap.size + 2) 3 4 w3 (w3.setCell ⟨w.heap.size + 2, 3, none⟩ (.slice a4 bs.length c4)) := (Touch.refl _ _ _ _).setCell (by omega) (by omega) _
  have HR := hide (res4 (w := w3.setCell ⟨w.heap.size + 2, 3, none⟩ (.slice a4 bs.length c4)) (r := w.heap.size + 1) (.int .i64 r) (.int .i64 wd) (.slice a3 cs.length c3) (.slice a4 bs.length c4) (t3.cellAt k0 (by omega)) (t3.cellAt k1 (by omega)) (t3.cellAt k2 (by omega)) (t3.cellAt k3 (by omega)))
  have T0 := hide t3
  clear t3
  go_wp2
  have hr := HR.out
  refine bodyPost_ret (v := .agg #[.int .i64 r, .int .i64 wd, .slice a3 cs.length c3, .slice a4 bs.length c4]) (by simp only [results, Try.results34]; simp [go_sem, hr.1, hr.2.1, hr.2.2.1, hr.2.2.2]) rfl ⟨_, _, rfl, hcx, hcy, ?_, ?_⟩
  · refine (GOwn.of hx hy (lo := w.heap.size + 3) (hi := w3.heap.size) (by omega) (by omega) (by omega) (by omega) (by omega)).of_blocks ?_ |>.mono (by omega) (by simp [World.setCell])
    intro i hi _
    simp only [World.setCell, Array.getElem?_modify]
    repeat rw [if_neg (by omega)]
  · exact (by repeat' (first | with_reducible exact Below.refl _ _ | with_reducible assumption | with_reducible refine Below.drew ?_ | with_reducible refine Below.alloc ?_ ?_ _ | with_reducible refine Below.setCell ?_ ?_ _ | (simp; done) | (simp; omega) | omega))


end Go.Proofs.Ytknkbihjboadjaa

/- toScreen of the laws, with room: what its lists may be cut to. -/
namespace Go.Proofs.Ytknkbihjboadjaa
set_option maxRecDepth 20000
open Go.ChangeShapes Go.WideShapes Go.ChangeAt Go.RowKit
set_option linter.unusedVariables false
set_option linter.unusedSimpArgs false
set_option maxRecDepth 20000

set_option maxHeartbeats 400000 in
theorem toBools_full (zs : List Bool) (v : Value) (w : World) (hn : zs.length ≤ 1048576) (h1 : BRead w v zs) :
    Calls Try.prog 35 #[v] w fun e w' => ∃ v', e = .returned v' ∧ Capped v' ∧ BoolsAt w.heap.size w'.heap.size w' v' zs ∧ Below w.heap.size w w' := by
  obtain ⟨i0, hi, hz0, hz1, hz2⟩ := info_parts info_toBools
  obtain ⟨a1, c1, rfl, h1⟩ := h1
  go_enter Try.func35, Try.ntmps35
  go_wp2_with (at_make; refine wpList_make_full _ rfl (.tmp 6) (.tmp 6) 25 rfl w.heap.size 4 i0 (.bool false) 1 Try.underlying25 hi hz0 hz1 .i64 .i64 _ _ zs.length rfl rfl rfl rfl ?c1 ?c2 ?c3 ?_)
  case c1 => rw [hz2]; omega
  case c2 => unfold maxLen; omega
  case c3 => exact Nat.le_refl _
  intro w1 hown hgrow
  have hany := own_any hown
  have hlt1 : w.heap.size < w1.heap.size := (hown.lt w.heap.size rfl).2
  have hb1 : Below w.heap.size w w1 := (Below.refl _ _).grown hgrow (Nat.le_refl _) (fun k hk => by cases hk)
  have HA := hide hany
  clear hown hgrow hany
  go_wp2
  go_loopw [4] (fun i wr => ∃ k : Nat, k ≤ zs.length ∧ i = .int .i64 k ∧ Below w.heap.size w wr ∧ w.heap.size < wr.heap.size ∧
      (∀ j, j < zs.length → (∃ u, wr.cell? ⟨w.heap.size, 0 + j, none⟩ = some u) ∧ wr.frozen? ⟨w.heap.size, 0 + j, none⟩ = false) ∧ ∀ j, j < k → wr.cell? ⟨w.heap.size, 0 + j, none⟩ = some (.bool (zs.getD j false))) (fun i _ => zs.length - (intOf i).toNat)
  case atStart => exact ⟨0, Nat.zero_le _, rfl, hb1, hlt1, HA.out, fun j hj => by omega⟩
  case round =>
    obtain ⟨k, hkk, rfl, hw, hsz, hf, hc⟩ := hrel
    by_cases hlt : k < zs.length
    · have hpos : zs ≠ [] := by intro h; rw [h] at hlt; simp at hlt
      rcases h1 with h1 | ⟨b1, o1, rfl, h1⟩
      · exact absurd h1 hpos
      have g0 := cellb hw (h1 k hlt)
      obtain ⟨⟨u, g1⟩, f1⟩ := hf k hlt
      have hltI : (k : Int) < (zs.length : Int) := by omega
      have HF := hide hf
      have HC := hide hc
      have G1 := hide g1
      rw [Nat.zero_add] at g1 f1
      clear hf hc h1 hpos HA hb1 hlt1
      go_wp2
      go_roundw
      case rel =>
        have e0 : (⟨w.heap.size, k, none⟩ : Addr) = ⟨w.heap.size, 0 + k, none⟩ := by rw [Nat.zero_add]
        refine ⟨k + 1, by omega, by go_num, hw.setCell (Nat.le_refl _) _, by simpa [World.setCell] using hsz, fun j hj => ⟨?_, ?_⟩, fun j hj => ?_⟩
        · by_cases e : j = k
          · subst e; rw [e0]; exact ⟨_, World.cell?_setCell_same _ _ _ G1.out⟩
          · obtain ⟨u', hu'⟩ := (HF.out j hj).1
            exact ⟨u', by rw [World.cell?_setCell_other _ _ _ _ (addr_ne (by omega))]; exact hu'⟩
        · rw [World.frozen?_setCell]; exact (HF.out j hj).2
        · by_cases e : j = k
          · subst e; rw [e0, World.cell?_setCell_same _ _ _ G1.out]; simp [hlt]
          · rw [World.cell?_setCell_other _ _ _ _ (addr_ne (by omega))]; exact HC.out j (by omega)
      case measure => simp [intOf]; omega
    · have hk' : k = zs.length := by omega
      subst hk'
      go_wp2
      go_ret
      exact ⟨_, rfl, Capped.of (Nat.le_refl _), ⟨_, _, rfl, .inr ⟨w.heap.size, 0, rfl, Nat.le_refl _, hsz, fun i hi => ⟨hc i hi, (hf i hi).2⟩⟩⟩, hw⟩
set_option maxHeartbeats 4000000 in
theorem toScreen_full (s : Scr) (v1 v2 v3 v4 : Value) (w : World) (hn1 : s.cs.length ≤ 1048576) (hn2 : s.bs.length ≤ 1048576) (hn3 : s.tabs.length ≤ 1048576) (hn4 : s.sets.length ≤ 1048576) (h : SRead w s v1 v2 v3 v4) :
    Calls Try.prog 8 #[.agg (scrA s v1 v2 v3 v4)] w fun e w' => ∃ u1 u2 u3 u4, e = .returned (.agg (scrA s u1 u2 u3 u4)) ∧ Capped u1 ∧ Capped u2 ∧ Capped u3 ∧ SOwn w.heap.size w'.heap.size w' u1 u2 u3 u4 s ∧ Below w.heap.size w w' := by
  have e0 := scrA_0 s v1 v2 v3 v4
  have e1 := scrA_1 s v1 v2 v3 v4
  have e2 := scrA_2 s v1 v2 v3 v4
  have e3 := scrA_3 s v1 v2 v3 v4
  have e4 := scrA_4 s v1 v2 v3 v4
  have e5 := scrA_5 s v1 v2 v3 v4
  have e6 := scrA_6 s v1 v2 v3 v4
  have e7 := scrA_7 s v1 v2 v3 v4
  have e8 := scrA_8 s v1 v2 v3 v4
  have e9 := scrA_9 s v1 v2 v3 v4
  have e10 := scrA_10 s v1 v2 v3 v4
  have e11 := scrA_11 s v1 v2 v3 v4
  have e12 := scrA_12 s v1 v2 v3 v4
  have e13 := scrA_13 s v1 v2 v3 v4
  have e14 := scrA_14 s v1 v2 v3 v4
  have e15 := scrA_15 s v1 v2 v3 v4
  have e16 := scrA_16 s v1 v2 v3 v4
  have e17 := scrA_17 s v1 v2 v3 v4
  have e18 := scrA_18 s v1 v2 v3 v4
  have e19 := scrA_19 s v1 v2 v3 v4
  have bel0 : Below w.heap.size w (((w.alloc (.cells (scrA s v1 v2 v3 v4) 28)).alloc (.cells #[.int .i64 0, .int .i64 0, .slice none 0 0, .slice none 0 0, .int .i64 0, .int .i64 0, .bool false, .int .i64 0, .int .i64 0, .int .i64 0, .bool false, .bool false, .bool false, .slice none 0 0, .int .i64 0, .int .i64 0, .int .i64 0, .slice none 0 0, .int .i64 0, .int .i64 0] 34)).alloc (.cells #[.int .i64 0, .int .i64 0, .slice none 0 0, .slice none 0 0, .int .i64 0, .int .i64 0, .bool false, .int .i64 0, .int .i64 0, .int .i64 0, .bool false, .bool false, .bool false, .slice none 0 0, .int .i64 0, .int .i64 0, .int .i64 0, .slice none 0 0, .int .i64 0, .int .i64 0] 34)) := (by repeat' (first | with_reducible exact Below.refl _ _ | with_reducible assumption | with_reducible refine Below.drew ?_ | with_reducible refine Below.alloc ?_ ?_ _ | with_reducible refine Below.setCell ?_ ?_ _ | (simp; done) | (simp; omega) | omega))
  have hA : Blk (((w.alloc (.cells (scrA s v1 v2 v3 v4) 28)).alloc (.cells #[.int .i64 0, .int .i64 0, .slice none 0 0, .slice none 0 0, .int .i64 0, .int .i64 0, .bool false, .int .i64 0, .int .i64 0, .int .i64 0, .bool false, .bool false, .bool false, .slice none 0 0, .int .i64 0, .int .i64 0, .int .i64 0, .slice none 0 0, .int .i64 0, .int .i64 0] 34)).alloc (.cells #[.int .i64 0, .int .i64 0, .slice none 0 0, .slice none 0 0, .int .i64 0, .int .i64 0, .bool false, .int .i64 0, .int .i64 0, .int .i64 0, .bool false, .bool false, .bool false, .slice none 0 0, .int .i64 0, .int .i64 0, .int .i64 0, .slice none 0 0, .int .i64 0, .int .i64 0] 34)) w.heap.size (scrA s v1 v2 v3 v4) := ((Blk.new w _ _).alloc _).alloc _
  have hR : Blk (((w.alloc (.cells (scrA s v1 v2 v3 v4) 28)).alloc (.cells #[.int .i64 0, .int .i64 0, .slice none 0 0, .slice none 0 0, .int .i64 0, .int .i64 0, .bool false, .int .i64 0, .int .i64 0, .int .i64 0, .bool false, .bool false, .bool false, .slice none 0 0, .int .i64 0, .int .i64 0, .int .i64 0, .slice none 0 0, .int .i64 0, .int .i64 0] 34)).alloc (.cells #[.int .i64 0, .int .i64 0, .slice none 0 0, .slice none 0 0, .int .i64 0, .int .i64 0, .bool false, .int .i64 0, .int .i64 0, .int .i64 0, .bool false, .bool false, .bool false, .slice none 0 0, .int .i64 0, .int .i64 0, .int .i64 0, .slice none 0 0, .int .i64 0, .int .i64 0] 34)) (w.heap.size + 1) (scrA scr0 (.slice none 0 0) (.slice none 0 0) (.slice none 0 0) (.slice none 0 0)) := Blk.alloc (Blk.new_at (by simp) _ _) _
  have hO : Blk (((w.alloc (.cells (scrA s v1 v2 v3 v4) 28)).alloc (.cells #[.int .i64 0, .int .i64 0, .slice none 0 0, .slice none 0 0, .int .i64 0, .int .i64 0, .bool false, .int .i64 0, .int .i64 0, .int .i64 0, .bool false, .bool false, .bool false, .slice none 0 0, .int .i64 0, .int .i64 0, .int .i64 0, .slice none 0 0, .int .i64 0, .int .i64 0] 34)).alloc (.cells #[.int .i64 0, .int .i64 0, .slice none 0 0, .slice none 0 0, .int .i64 0, .int .i64 0, .bool false, .int .i64 0, .int .i64 0, .int .i64 0, .bool false, .bool false, .bool false, .slice none 0 0, .int .i64 0, .int .i64 0, .int .i64 0, .slice none 0 0, .int .i64 0, .int .i64 0] 34)) (w.heap.size + 2) (scrA scr0 (.slice none 0 0) (.slice none 0 0) (.slice none 0 0) (.slice none 0 0)) := Blk.new_at (by simp) _ _
  have hs0 : (((w.alloc (.cells (scrA s v1 v2 v3 v4) 28)).alloc (.cells #[.int .i64 0, .int .i64 0, .slice none 0 0, .slice none 0 0, .int .i64 0, .int .i64 0, .bool false, .int .i64 0, .int .i64 0, .int .i64 0, .bool false, .bool false, .bool false, .slice none 0 0, .int .i64 0, .int .i64 0, .int .i64 0, .slice none 0 0, .int .i64 0, .int .i64 0] 34)).alloc (.cells #[.int .i64 0, .int .i64 0, .slice none 0 0, .slice none 0 0, .int .i64 0, .int .i64 0, .bool false, .int .i64 0, .int .i64 0, .int .i64 0, .bool false, .bool false, .bool false, .slice none 0 0, .int .i64 0, .int .i64 0, .int .i64 0, .slice none 0 0, .int .i64 0, .int .i64 0] 34)).heap.size = w.heap.size + 3 := by simp
  have cA := hA.cells
  go_enter Try.func8, Try.ntmps8
  go_wp2_with fail
  generalize (((w.alloc (.cells (scrA s v1 v2 v3 v4) 28)).alloc (.cells #[.int .i64 0, .int .i64 0, .slice none 0 0, .slice none 0 0, .int .i64 0, .int .i64 0, .bool false, .int .i64 0, .int .i64 0, .int .i64 0, .bool false, .bool false, .bool false, .slice none 0 0, .int .i64 0, .int .i64 0, .int .i64 0, .slice none 0 0, .int .i64 0, .int .i64 0] 34)).alloc (.cells #[.int .i64 0, .int .i64 0, .slice none 0 0, .slice none 0 0, .int .i64 0, .int .i64 0, .bool false, .int .i64 0, .int .i64 0, .int .i64 0, .bool false, .bool false, .bool false, .slice none 0 0, .int .i64 0, .int .i64 0, .int .i64 0, .slice none 0 0, .int .i64 0, .int .i64 0] 34)) = w1 at *
  refine (toGrid_full s.r s.wd s.cs s.bs _ _ _ hn1 hn2 (h.g1.below bel0) (h.g2.below bel0)).mono ?_
  rintro e w2 ⟨y1, y2, rfl, hk1, hk2, hG, hb⟩
  obtain ⟨x1, k1, x2, k2, rfl, rfl⟩ := hG.forms
  have HK1 := hide hk1
  have HK2 := hide hk2
  clear hk1 hk2
  replace hA := hA.belowb hb
  replace cA := hA.cells
  replace hR := hR.belowb hb
  replace hO := hO.belowb hb
  have bel := bel0.trans (hb.mono bel0.size)
  have hs2 : w1.heap.size ≤ w2.heap.size := hb.size
  clear hb bel0
  have hU := Upd.refl (w.heap.size + 2) w2
  go_wp2_with (first
    | (refine wpList_store_blk rfl _ _ _ rfl (w.heap.size + 2) 0 (scrA scr0 (.slice none 0 0) (.slice none 0 0) (.slice none 0 0) (.slice none 0 0)) (scrA ({ scr0 with r := s.r, wd := s.wd } : Scr) (.slice x1 s.cs.length k1) (.slice x2 s.bs.length k2) (.slice none 0 0) (.slice none 0 0)) (.agg #[.int .i64 s.r, .int .i64 s.wd, .slice x1 s.cs.length k1, .slice x2 s.bs.length k2]) rfl rfl hO rfl (by kernel_rfl) rfl rfl ?_; (try simp only [Act.put, List.setIfInBounds_toArray, List.set_cons_zero, List.set_cons_succ]); clear hO; intro w9 hO hu; replace hU := hU.trans hu; replace hA := hA.upd hu (by omega); replace cA := hA.cells; replace hR := hR.upd hu (by omega); clear hu)
    | (refine wpList_store_blk rfl _ _ _ rfl (w.heap.size + 2) 4 (scrA ({ scr0 with r := s.r, wd := s.wd } : Scr) (.slice x1 s.cs.length k1) (.slice x2 s.bs.length k2) (.slice none 0 0) (.slice none 0 0)) (scrA ({ scr0 with r := s.r, wd := s.wd, y := s.y } : Scr) (.slice x1 s.cs.length k1) (.slice x2 s.bs.length k2) (.slice none 0 0) (.slice none 0 0)) (.int .i64 s.y) rfl rfl hO rfl (by kernel_rfl) rfl rfl ?_; (try simp only [Act.put, List.setIfInBounds_toArray, List.set_cons_zero, List.set_cons_succ]); clear hO; intro w9 hO hu; replace hU := hU.trans hu; replace hA := hA.upd hu (by omega); replace cA := hA.cells; replace hR := hR.upd hu (by omega); clear hu)
    | (refine wpList_store_blk rfl _ _ _ rfl (w.heap.size + 2) 5 (scrA ({ scr0 with r := s.r, wd := s.wd, y := s.y } : Scr) (.slice x1 s.cs.length k1) (.slice x2 s.bs.length k2) (.slice none 0 0) (.slice none 0 0)) (scrA ({ scr0 with r := s.r, wd := s.wd, y := s.y, x := s.x } : Scr) (.slice x1 s.cs.length k1) (.slice x2 s.bs.length k2) (.slice none 0 0) (.slice none 0 0)) (.int .i64 s.x) rfl rfl hO rfl (by kernel_rfl) rfl rfl ?_; (try simp only [Act.put, List.setIfInBounds_toArray, List.set_cons_zero, List.set_cons_succ]); clear hO; intro w9 hO hu; replace hU := hU.trans hu; replace hA := hA.upd hu (by omega); replace cA := hA.cells; replace hR := hR.upd hu (by omega); clear hu)
    | (refine wpList_store_blk rfl _ _ _ rfl (w.heap.size + 2) 6 (scrA ({ scr0 with r := s.r, wd := s.wd, y := s.y, x := s.x } : Scr) (.slice x1 s.cs.length k1) (.slice x2 s.bs.length k2) (.slice none 0 0) (.slice none 0 0)) (scrA ({ scr0 with r := s.r, wd := s.wd, y := s.y, x := s.x, wrap := s.wrap } : Scr) (.slice x1 s.cs.length k1) (.slice x2 s.bs.length k2) (.slice none 0 0) (.slice none 0 0)) (.bool s.wrap) rfl rfl hO rfl (by kernel_rfl) rfl rfl ?_; (try simp only [Act.put, List.setIfInBounds_toArray, List.set_cons_zero, List.set_cons_succ]); clear hO; intro w9 hO hu; replace hU := hU.trans hu; replace hA := hA.upd hu (by omega); replace cA := hA.cells; replace hR := hR.upd hu (by omega); clear hu)
    | (refine wpList_store_blk rfl _ _ _ rfl (w.heap.size + 2) 7 (scrA ({ scr0 with r := s.r, wd := s.wd, y := s.y, x := s.x, wrap := s.wrap } : Scr) (.slice x1 s.cs.length k1) (.slice x2 s.bs.length k2) (.slice none 0 0) (.slice none 0 0)) (scrA ({ scr0 with r := s.r, wd := s.wd, y := s.y, x := s.x, wrap := s.wrap, attr := s.attr } : Scr) (.slice x1 s.cs.length k1) (.slice x2 s.bs.length k2) (.slice none 0 0) (.slice none 0 0)) (.int .i64 s.attr) rfl rfl hO rfl (by kernel_rfl) rfl rfl ?_; (try simp only [Act.put, List.setIfInBounds_toArray, List.set_cons_zero, List.set_cons_succ]); clear hO; intro w9 hO hu; replace hU := hU.trans hu; replace hA := hA.upd hu (by omega); replace cA := hA.cells; replace hR := hR.upd hu (by omega); clear hu)
    | (refine wpList_store_blk rfl _ _ _ rfl (w.heap.size + 2) 8 (scrA ({ scr0 with r := s.r, wd := s.wd, y := s.y, x := s.x, wrap := s.wrap, attr := s.attr } : Scr) (.slice x1 s.cs.length k1) (.slice x2 s.bs.length k2) (.slice none 0 0) (.slice none 0 0)) (scrA ({ scr0 with r := s.r, wd := s.wd, y := s.y, x := s.x, wrap := s.wrap, attr := s.attr, top := s.top } : Scr) (.slice x1 s.cs.length k1) (.slice x2 s.bs.length k2) (.slice none 0 0) (.slice none 0 0)) (.int .i64 s.top) rfl rfl hO rfl (by kernel_rfl) rfl rfl ?_; (try simp only [Act.put, List.setIfInBounds_toArray, List.set_cons_zero, List.set_cons_succ]); clear hO; intro w9 hO hu; replace hU := hU.trans hu; replace hA := hA.upd hu (by omega); replace cA := hA.cells; replace hR := hR.upd hu (by omega); clear hu)
    | (refine wpList_store_blk rfl _ _ _ rfl (w.heap.size + 2) 9 (scrA ({ scr0 with r := s.r, wd := s.wd, y := s.y, x := s.x, wrap := s.wrap, attr := s.attr, top := s.top } : Scr) (.slice x1 s.cs.length k1) (.slice x2 s.bs.length k2) (.slice none 0 0) (.slice none 0 0)) (scrA ({ scr0 with r := s.r, wd := s.wd, y := s.y, x := s.x, wrap := s.wrap, attr := s.attr, top := s.top, bot := s.bot } : Scr) (.slice x1 s.cs.length k1) (.slice x2 s.bs.length k2) (.slice none 0 0) (.slice none 0 0)) (.int .i64 s.bot) rfl rfl hO rfl (by kernel_rfl) rfl rfl ?_; (try simp only [Act.put, List.setIfInBounds_toArray, List.set_cons_zero, List.set_cons_succ]); clear hO; intro w9 hO hu; replace hU := hU.trans hu; replace hA := hA.upd hu (by omega); replace cA := hA.cells; replace hR := hR.upd hu (by omega); clear hu)
    | (refine wpList_store_blk rfl _ _ _ rfl (w.heap.size + 2) 10 (scrA ({ scr0 with r := s.r, wd := s.wd, y := s.y, x := s.x, wrap := s.wrap, attr := s.attr, top := s.top, bot := s.bot } : Scr) (.slice x1 s.cs.length k1) (.slice x2 s.bs.length k2) (.slice none 0 0) (.slice none 0 0)) (scrA ({ scr0 with r := s.r, wd := s.wd, y := s.y, x := s.x, wrap := s.wrap, attr := s.attr, top := s.top, bot := s.bot, org := s.org } : Scr) (.slice x1 s.cs.length k1) (.slice x2 s.bs.length k2) (.slice none 0 0) (.slice none 0 0)) (.bool s.org) rfl rfl hO rfl (by kernel_rfl) rfl rfl ?_; (try simp only [Act.put, List.setIfInBounds_toArray, List.set_cons_zero, List.set_cons_succ]); clear hO; intro w9 hO hu; replace hU := hU.trans hu; replace hA := hA.upd hu (by omega); replace cA := hA.cells; replace hR := hR.upd hu (by omega); clear hu)
    | (refine wpList_store_blk rfl _ _ _ rfl (w.heap.size + 2) 11 (scrA ({ scr0 with r := s.r, wd := s.wd, y := s.y, x := s.x, wrap := s.wrap, attr := s.attr, top := s.top, bot := s.bot, org := s.org } : Scr) (.slice x1 s.cs.length k1) (.slice x2 s.bs.length k2) (.slice none 0 0) (.slice none 0 0)) (scrA ({ scr0 with r := s.r, wd := s.wd, y := s.y, x := s.x, wrap := s.wrap, attr := s.attr, top := s.top, bot := s.bot, org := s.org, auto := s.auto } : Scr) (.slice x1 s.cs.length k1) (.slice x2 s.bs.length k2) (.slice none 0 0) (.slice none 0 0)) (.bool s.auto) rfl rfl hO rfl (by kernel_rfl) rfl rfl ?_; (try simp only [Act.put, List.setIfInBounds_toArray, List.set_cons_zero, List.set_cons_succ]); clear hO; intro w9 hO hu; replace hU := hU.trans hu; replace hA := hA.upd hu (by omega); replace cA := hA.cells; replace hR := hR.upd hu (by omega); clear hu)
    | (refine wpList_store_blk rfl _ _ _ rfl (w.heap.size + 2) 12 (scrA ({ scr0 with r := s.r, wd := s.wd, y := s.y, x := s.x, wrap := s.wrap, attr := s.attr, top := s.top, bot := s.bot, org := s.org, auto := s.auto } : Scr) (.slice x1 s.cs.length k1) (.slice x2 s.bs.length k2) (.slice none 0 0) (.slice none 0 0)) (scrA ({ scr0 with r := s.r, wd := s.wd, y := s.y, x := s.x, wrap := s.wrap, attr := s.attr, top := s.top, bot := s.bot, org := s.org, auto := s.auto, ins := s.ins } : Scr) (.slice x1 s.cs.length k1) (.slice x2 s.bs.length k2) (.slice none 0 0) (.slice none 0 0)) (.bool s.ins) rfl rfl hO rfl (by kernel_rfl) rfl rfl ?_; (try simp only [Act.put, List.setIfInBounds_toArray, List.set_cons_zero, List.set_cons_succ]); clear hO; intro w9 hO hu; replace hU := hU.trans hu; replace hA := hA.upd hu (by omega); replace cA := hA.cells; replace hR := hR.upd hu (by omega); clear hu))
  refine (toBools_full s.tabs _ _ hn3 (h.g3.below (bel.trans (hU.below (Nat.le_add_right _ _))))).mono ?_
  rintro e w3 ⟨y3, rfl, hk3, hT, hb⟩
  have HK3 := hide hk3
  clear hk3
  obtain ⟨x3, k3, hy3, hT'⟩ := hT
  subst hy3
  replace hA := hA.belowb hb
  replace cA := hA.cells
  replace hR := hR.belowb hb
  replace hO := hO.belowb hb
  have bel3 := (bel.trans (hU.below (Nat.le_add_right _ _))).trans (hb.mono (by have := hU.size; omega))
  have hs3 : w2.heap.size ≤ w3.heap.size := by have := hU.size; have := hb.size; omega
  replace hG : GOwn w1.heap.size w2.heap.size w3 _ _ s.cs s.bs := (hG.of_blocks (fun k k1 k2 => (hb.block k (by have := hU.size; omega)).trans (hU.block k (by omega))))
  have hT : BoolsAt w2.heap.size w3.heap.size w3 (.slice x3 s.tabs.length k3) s.tabs := BoolsAt.mono ⟨x3, k3, rfl, hT'⟩ (by have := hU.size; omega) (Nat.le_refl _)
  clear hb hU hT'
  have hU := Upd.refl (w.heap.size + 2) w3
  go_wp2_with (first
    | (refine wpList_store_blk rfl _ _ _ rfl (w.heap.size + 2) 13 (scrA ({ scr0 with r := s.r, wd := s.wd, y := s.y, x := s.x, wrap := s.wrap, attr := s.attr, top := s.top, bot := s.bot, org := s.org, auto := s.auto, ins := s.ins } : Scr) (.slice x1 s.cs.length k1) (.slice x2 s.bs.length k2) (.slice none 0 0) (.slice none 0 0)) (scrA ({ scr0 with r := s.r, wd := s.wd, y := s.y, x := s.x, wrap := s.wrap, attr := s.attr, top := s.top, bot := s.bot, org := s.org, auto := s.auto, ins := s.ins } : Scr) (.slice x1 s.cs.length k1) (.slice x2 s.bs.length k2) (.slice x3 s.tabs.length k3) (.slice none 0 0)) (.slice x3 s.tabs.length k3) rfl rfl hO rfl (by kernel_rfl) rfl rfl ?_; (try simp only [Act.put, List.setIfInBounds_toArray, List.set_cons_zero, List.set_cons_succ]); clear hO; intro w9 hO hu; replace hU := hU.trans hu; replace hA := hA.upd hu (by omega); replace cA := hA.cells; replace hR := hR.upd hu (by omega); clear hu)
    | (refine wpList_store_blk rfl _ _ _ rfl (w.heap.size + 2) 14 (scrA ({ scr0 with r := s.r, wd := s.wd, y := s.y, x := s.x, wrap := s.wrap, attr := s.attr, top := s.top, bot := s.bot, org := s.org, auto := s.auto, ins := s.ins } : Scr) (.slice x1 s.cs.length k1) (.slice x2 s.bs.length k2) (.slice x3 s.tabs.length k3) (.slice none 0 0)) (scrA ({ scr0 with r := s.r, wd := s.wd, y := s.y, x := s.x, wrap := s.wrap, attr := s.attr, top := s.top, bot := s.bot, org := s.org, auto := s.auto, ins := s.ins, ky := s.ky } : Scr) (.slice x1 s.cs.length k1) (.slice x2 s.bs.length k2) (.slice x3 s.tabs.length k3) (.slice none 0 0)) (.int .i64 s.ky) rfl rfl hO rfl (by kernel_rfl) rfl rfl ?_; (try simp only [Act.put, List.setIfInBounds_toArray, List.set_cons_zero, List.set_cons_succ]); clear hO; intro w9 hO hu; replace hU := hU.trans hu; replace hA := hA.upd hu (by omega); replace cA := hA.cells; replace hR := hR.upd hu (by omega); clear hu)
    | (refine wpList_store_blk rfl _ _ _ rfl (w.heap.size + 2) 15 (scrA ({ scr0 with r := s.r, wd := s.wd, y := s.y, x := s.x, wrap := s.wrap, attr := s.attr, top := s.top, bot := s.bot, org := s.org, auto := s.auto, ins := s.ins, ky := s.ky } : Scr) (.slice x1 s.cs.length k1) (.slice x2 s.bs.length k2) (.slice x3 s.tabs.length k3) (.slice none 0 0)) (scrA ({ scr0 with r := s.r, wd := s.wd, y := s.y, x := s.x, wrap := s.wrap, attr := s.attr, top := s.top, bot := s.bot, org := s.org, auto := s.auto, ins := s.ins, ky := s.ky, kx := s.kx } : Scr) (.slice x1 s.cs.length k1) (.slice x2 s.bs.length k2) (.slice x3 s.tabs.length k3) (.slice none 0 0)) (.int .i64 s.kx) rfl rfl hO rfl (by kernel_rfl) rfl rfl ?_; (try simp only [Act.put, List.setIfInBounds_toArray, List.set_cons_zero, List.set_cons_succ]); clear hO; intro w9 hO hu; replace hU := hU.trans hu; replace hA := hA.upd hu (by omega); replace cA := hA.cells; replace hR := hR.upd hu (by omega); clear hu)
    | (refine wpList_store_blk rfl _ _ _ rfl (w.heap.size + 2) 16 (scrA ({ scr0 with r := s.r, wd := s.wd, y := s.y, x := s.x, wrap := s.wrap, attr := s.attr, top := s.top, bot := s.bot, org := s.org, auto := s.auto, ins := s.ins, ky := s.ky, kx := s.kx } : Scr) (.slice x1 s.cs.length k1) (.slice x2 s.bs.length k2) (.slice x3 s.tabs.length k3) (.slice none 0 0)) (scrA ({ scr0 with r := s.r, wd := s.wd, y := s.y, x := s.x, wrap := s.wrap, attr := s.attr, top := s.top, bot := s.bot, org := s.org, auto := s.auto, ins := s.ins, ky := s.ky, kx := s.kx, ka := s.ka } : Scr) (.slice x1 s.cs.length k1) (.slice x2 s.bs.length k2) (.slice x3 s.tabs.length k3) (.slice none 0 0)) (.int .i64 s.ka) rfl rfl hO rfl (by kernel_rfl) rfl rfl ?_; (try simp only [Act.put, List.setIfInBounds_toArray, List.set_cons_zero, List.set_cons_succ]); clear hO; intro w9 hO hu; replace hU := hU.trans hu; replace hA := hA.upd hu (by omega); replace cA := hA.cells; replace hR := hR.upd hu (by omega); clear hu))
  refine (toInts_calls s.sets _ _ hn4 (h.g4.below (bel3.trans (hU.below (Nat.le_add_right _ _))))).mono ?_
  rintro e w4 ⟨y4, rfl, hI, hb⟩
  obtain ⟨x4, k4, hy4, hI'⟩ := hI
  subst hy4
  replace hA := hA.belowb hb
  replace cA := hA.cells
  replace hR := hR.belowb hb
  replace hO := hO.belowb hb
  have bel4 := (bel3.trans (hU.below (Nat.le_add_right _ _))).trans (hb.mono (by have := hU.size; omega))
  have hs4 : w3.heap.size ≤ w4.heap.size := by have := hU.size; have := hb.size; omega
  replace hG : GOwn w1.heap.size w2.heap.size w4 _ _ s.cs s.bs := (hG.of_blocks (fun k k1 k2 => (hb.block k (by have := hU.size; omega)).trans (hU.block k (by omega))))
  replace hT : BoolsAt w2.heap.size w3.heap.size w4 _ s.tabs := (hT.of_blocks (fun k k1 k2 => (hb.block k (by have := hU.size; omega)).trans (hU.block k (by omega))))
  have hI : IntsAt .i64 w3.heap.size w4.heap.size w4 (.slice x4 s.sets.length k4) s.sets := IntsAt.mono ⟨x4, k4, rfl, hI'⟩ (by have := hU.size; omega) (Nat.le_refl _)
  clear hb hU hI'
  have hU := Upd.refl (w.heap.size + 2) w4
  have hV := Upd.refl (w.heap.size + 1) w4
  clear hV
  go_wp2_with (first
    | (refine wpList_store_blk rfl _ _ _ rfl (w.heap.size + 2) 17 (scrA ({ scr0 with r := s.r, wd := s.wd, y := s.y, x := s.x, wrap := s.wrap, attr := s.attr, top := s.top, bot := s.bot, org := s.org, auto := s.auto, ins := s.ins, ky := s.ky, kx := s.kx, ka := s.ka } : Scr) (.slice x1 s.cs.length k1) (.slice x2 s.bs.length k2) (.slice x3 s.tabs.length k3) (.slice none 0 0)) (scrA ({ scr0 with r := s.r, wd := s.wd, y := s.y, x := s.x, wrap := s.wrap, attr := s.attr, top := s.top, bot := s.bot, org := s.org, auto := s.auto, ins := s.ins, ky := s.ky, kx := s.kx, ka := s.ka } : Scr) (.slice x1 s.cs.length k1) (.slice x2 s.bs.length k2) (.slice x3 s.tabs.length k3) (.slice x4 s.sets.length k4)) (.slice x4 s.sets.length k4) rfl rfl hO rfl (by kernel_rfl) rfl rfl ?_; (try simp only [Act.put, List.setIfInBounds_toArray, List.set_cons_zero, List.set_cons_succ]); clear hO; intro w9 hO hu; replace hU := hU.trans hu; replace hA := hA.upd hu (by omega); replace cA := hA.cells; replace hR := hR.upd hu (by omega); clear hu)
    | (refine wpList_store_blk rfl _ _ _ rfl (w.heap.size + 2) 18 (scrA ({ scr0 with r := s.r, wd := s.wd, y := s.y, x := s.x, wrap := s.wrap, attr := s.attr, top := s.top, bot := s.bot, org := s.org, auto := s.auto, ins := s.ins, ky := s.ky, kx := s.kx, ka := s.ka } : Scr) (.slice x1 s.cs.length k1) (.slice x2 s.bs.length k2) (.slice x3 s.tabs.length k3) (.slice x4 s.sets.length k4)) (scrA ({ scr0 with r := s.r, wd := s.wd, y := s.y, x := s.x, wrap := s.wrap, attr := s.attr, top := s.top, bot := s.bot, org := s.org, auto := s.auto, ins := s.ins, ky := s.ky, kx := s.kx, ka := s.ka, sh := s.sh } : Scr) (.slice x1 s.cs.length k1) (.slice x2 s.bs.length k2) (.slice x3 s.tabs.length k3) (.slice x4 s.sets.length k4)) (.int .i64 s.sh) rfl rfl hO rfl (by kernel_rfl) rfl rfl ?_; (try simp only [Act.put, List.setIfInBounds_toArray, List.set_cons_zero, List.set_cons_succ]); clear hO; intro w9 hO hu; replace hU := hU.trans hu; replace hA := hA.upd hu (by omega); replace cA := hA.cells; replace hR := hR.upd hu (by omega); clear hu)
    | (refine wpList_store_blk rfl _ _ _ rfl (w.heap.size + 2) 19 (scrA ({ scr0 with r := s.r, wd := s.wd, y := s.y, x := s.x, wrap := s.wrap, attr := s.attr, top := s.top, bot := s.bot, org := s.org, auto := s.auto, ins := s.ins, ky := s.ky, kx := s.kx, ka := s.ka, sh := s.sh } : Scr) (.slice x1 s.cs.length k1) (.slice x2 s.bs.length k2) (.slice x3 s.tabs.length k3) (.slice x4 s.sets.length k4)) (scrA ({ scr0 with r := s.r, wd := s.wd, y := s.y, x := s.x, wrap := s.wrap, attr := s.attr, top := s.top, bot := s.bot, org := s.org, auto := s.auto, ins := s.ins, ky := s.ky, kx := s.kx, ka := s.ka, sh := s.sh, bells := s.bells } : Scr) (.slice x1 s.cs.length k1) (.slice x2 s.bs.length k2) (.slice x3 s.tabs.length k3) (.slice x4 s.sets.length k4)) (.int .i64 s.bells) rfl rfl hO rfl (by kernel_rfl) rfl rfl ?_; (try simp only [Act.put, List.setIfInBounds_toArray, List.set_cons_zero, List.set_cons_succ]); clear hO; intro w9 hO hu; replace hU := hU.trans hu; replace hA := hA.upd hu (by omega); replace cA := hA.cells; replace hR := hR.upd hu (by omega); clear hu)
    | (refine wpList_load_at rfl 34 _ rfl (w.heap.size + 2) 0 rfl (scrA ({ scr0 with r := s.r, wd := s.wd, y := s.y, x := s.x, wrap := s.wrap, attr := s.attr, top := s.top, bot := s.bot, org := s.org, auto := s.auto, ins := s.ins, ky := s.ky, kx := s.kx, ka := s.ka, sh := s.sh, bells := s.bells } : Scr) (.slice x1 s.cs.length k1) (.slice x2 s.bs.length k2) (.slice x3 s.tabs.length k3) (.slice x4 s.sets.length k4)) (scrA s (.slice x1 s.cs.length k1) (.slice x2 s.bs.length k2) (.slice x3 s.tabs.length k3) (.slice x4 s.sets.length k4)) hO rfl _ Try.underlying34 rfl (by kernel_rfl) ?_; simp only [Act.put, List.setIfInBounds_toArray, List.set_cons_zero, List.set_cons_succ])
    | (refine wpList_store_blk rfl _ _ _ rfl (w.heap.size + 1) 0 (scrA scr0 (.slice none 0 0) (.slice none 0 0) (.slice none 0 0) (.slice none 0 0)) (scrA s (.slice x1 s.cs.length k1) (.slice x2 s.bs.length k2) (.slice x3 s.tabs.length k3) (.slice x4 s.sets.length k4)) (.agg (scrA s (.slice x1 s.cs.length k1) (.slice x2 s.bs.length k2) (.slice x3 s.tabs.length k3) (.slice x4 s.sets.length k4))) rfl rfl hR rfl (by kernel_rfl) rfl rfl ?_; (try simp only [Act.put, List.setIfInBounds_toArray, List.set_cons_zero, List.set_cons_succ]); clear hR hO hA cA; intro w9 hR hV))
  refine bodyPost_ret (results_blk hR _ _ rfl rfl Try.underlying34 rfl (by kernel_rfl)) rfl ⟨_, _, _, _, rfl, HK1.out, HK2.out, HK3.out, ?_, ?_⟩
  · have hblk : ∀ k, k ≠ w.heap.size + 2 → k ≠ w.heap.size + 1 → w9.heap[k]? = w4.heap[k]? := fun k n1 n2 => (hV.block k n2).trans (hU.block k n1)
    have hz : w9.heap.size = w4.heap.size := hV.size.trans hU.size
    refine ⟨w1.heap.size, w2.heap.size, w2.heap.size, w3.heap.size, w3.heap.size, w4.heap.size, by omega, by omega, by omega, by omega, by omega, by omega, by omega, by omega, by omega, ?_, ?_, ?_⟩
    · exact hG.of_blocks (fun k k1 k2 => hblk k (by omega) (by omega))
    · exact hT.of_blocks (fun k k1 k2 => hblk k (by omega) (by omega))
    · exact hI.of_blocks (fun k k1 k2 => hblk k (by omega) (by omega))
  · exact (bel4.trans (hU.below (Nat.le_add_right _ _))).trans (hV.below (Nat.le_add_right _ _))
end Go.Proofs.Ytknkbihjboadjaa

/- A grid that came in, opened: its numbers and its two lists of cells; a cell that came in. -/
namespace Go.Proofs.Ytknkbihjboadjaa
set_option maxRecDepth 20000
open Go.ChangeShapes Go.WideShapes Go.ChangeAt Go.RowKit Go.Joins
set_option linter.unusedVariables false
set_option linter.unusedSimpArgs false

theorem grid_cells : Try.prog.cellsOf 24 = 4 := by kernel_rfl
theorem cell_cells2 : Try.prog.cellsOf 158 = 2 := by kernel_rfl
theorem int_cells1 : Try.prog.cellsOf 2 = 1 := by kernel_rfl

set_option maxRecDepth 100000 in
theorem open_cells {H : Type} {enc : TypeId × Value → H} {W : World} {m0 : Nat} {x : Value} {d : DataW H} {p : List MemPlace}
    (h : DataW.trod enc Try.prog W 0 (fun _ => true) true m0 22 [x] = some (d, p)) : ∃ ps : List (Int × Int), PRead W x ps ∧ ps.length ≤ maxLen := by
  rcases Go.Deep.open_slice_pairs Try.underlying22 Try.underlying158 cell_cells2 rfl rfl int_cells1 int_cells1 h with ⟨e1, _⟩ | ⟨a, len, cap, mm, n, V0, V1, D0, D1, P0, P1, e1, _, hl, hm, hmm, _, hc⟩
  · simp at e1
    subst e1
    exact ⟨[], PRead.nil _ _ _, by simp⟩
  · simp at e1
    subst e1
    have hlm : len ≤ mm := by rw [hmm]; split <;> omega
    have each : ∀ i, i < len → ∃ q : Int × Int, V0 i = .int .i64 q.1 ∧ V1 i = .int .i64 q.2 := by
      intro i hi
      obtain ⟨_, _, t0, t1⟩ := hc i (by omega)
      obtain ⟨x, ex, _, _⟩ := DataW.trod_int Try.underlying2 t0
      obtain ⟨y, ey, _, _⟩ := DataW.trod_int Try.underlying2 t1
      simp at ex ey
      exact ⟨(x, y), ex, ey⟩
    obtain ⟨q, hq⟩ := Go.Deep.choose_lt each
    have hlen : ((List.range len).map q).length = len := by simp
    refine ⟨(List.range len).map q, ⟨_, _, by rw [hlen], ?_⟩, by omega⟩
    by_cases h0 : len = 0
    · left; subst h0; rfl
    · right
      obtain ⟨b, off, spot⟩ := a
      have hc0 := (hc 0 (by omega)).1
      have hspot : spot = none := by simpa [Addr.add] using World.cell?_spot hc0
      subst hspot
      refine ⟨b, off, rfl, fun i hi => ?_⟩
      rw [hlen] at hi
      have hg : ((List.range len).map q).getD i (0, 0) = q i := by simp [List.getD_eq_getElem?_getD, hi]
      obtain ⟨g0, g1, _, _⟩ := hc i (by omega)
      rw [hg, ← (hq i hi).1, ← (hq i hi).2]
      refine ⟨?_, ?_⟩
      · rw [show ((⟨b, off, none⟩ : Addr).add (i * 2)) = ⟨b, off + i * 2, none⟩ from by simp [Addr.add]] at g0; exact g0
      · rw [show ((⟨b, off, none⟩ : Addr).add (i * 2 + 1)) = ⟨b, off + i * 2 + 1, none⟩ from by simp [Addr.add]; omega] at g1; exact g1

set_option maxRecDepth 100000 in
theorem open_grid {H : Type} {enc : TypeId × Value → H} {W : World} {base : Nat} {v : Value} {d : DataW H} {p : List MemPlace}
    (hv : Value.okWide Try.prog W .any base 24 v) (h : DataW.Trod enc Try.prog W 0 (fun _ => true) true 24 v d p) :
    ∃ (r wd : Int) (x y : Value) (cs bs : List (Int × Int)), v = .agg #[.int .i64 r, .int .i64 wd, x, y] ∧ PRead W x cs ∧ PRead W y bs ∧ cs.length ≤ maxLen ∧ bs.length ≤ maxLen := by
  obtain ⟨v0, v1, v2, v3, y0, y1, y2, y3, m, rfl, _, _, hy0, hy1, hy2, hy3⟩ := open_agg4 Try.underlying24 (by kernel_rfl) grid_cells hv h
  obtain ⟨r, e0, _, _⟩ := DataW.trod_int Try.underlying2 hy0
  simp at e0
  subst e0
  obtain ⟨wd, e1, _, _⟩ := DataW.trod_int Try.underlying2 hy1
  simp at e1
  subst e1
  obtain ⟨cs, h2, h2'⟩ := open_cells hy2
  obtain ⟨bs, h3, h3'⟩ := open_cells hy3
  exact ⟨r, wd, _, _, cs, bs, rfl, h2, h3, h2', h3'⟩

set_option maxRecDepth 100000 in
theorem open_cell {H : Type} {enc : TypeId × Value → H} {W : World} {base : Nat} {v : Value} {d : DataW H} {p : List MemPlace}
    (hv : Value.okWide Try.prog W .any base 158 v) (h : DataW.Trod enc Try.prog W 0 (fun _ => true) true 158 v d p) :
    ∃ (c g : Int), v = .agg #[.int .i64 c, .int .i64 g] := by
  obtain ⟨v0, v1, y0, y1, m, rfl, _, _, hy0, hy1⟩ := open_agg2 Try.underlying158 (by kernel_rfl) cell_cells2 hv h
  obtain ⟨c, e0, _, _⟩ := DataW.trod_int Try.underlying2 hy0
  obtain ⟨g, e1, _, _⟩ := DataW.trod_int Try.underlying2 hy1
  simp at e0 e1
  subst e0
  subst e1
  exact ⟨c, g, rfl⟩

end Go.Proofs.Ytknkbihjboadjaa

/- A screen that came in, opened: its numbers and its lists. -/
namespace Go.Proofs.Ytknkbihjboadjaa
set_option maxRecDepth 20000
open Go.ChangeShapes Go.WideShapes Go.ChangeAt Go.RowKit Go.Joins Go.Deep
set_option linter.unusedVariables false
set_option linter.unusedSimpArgs false

theorem scr_int1 : Try.prog.cellsOf 2 = 1 := by kernel_rfl
theorem scr_bool1 : Try.prog.cellsOf 4 = 1 := by kernel_rfl
theorem scr_cells20 : Try.prog.cellsOf 28 = 20 := by kernel_rfl
theorem scr_grid4 : Try.prog.cellsOf 24 = 4 := by kernel_rfl
theorem scr_sl1 : Try.prog.cellsOf 25 = 1 := by kernel_rfl
theorem scr_sl2 : Try.prog.cellsOf 26 = 1 := by kernel_rfl
theorem array20 {α : Type} {cs : Array α} (h : cs.size = 20) : ∃ c0 c1 c2 c3 c4 c5 c6 c7 c8 c9 c10 c11 c12 c13 c14 c15 c16 c17 c18 c19, cs = #[c0, c1, c2, c3, c4, c5, c6, c7, c8, c9, c10, c11, c12, c13, c14, c15, c16, c17, c18, c19] := by
  obtain ⟨l⟩ := cs
  match l, h with
  | [c0, c1, c2, c3, c4, c5, c6, c7, c8, c9, c10, c11, c12, c13, c14, c15, c16, c17, c18, c19], _ => exact ⟨c0, c1, c2, c3, c4, c5, c6, c7, c8, c9, c10, c11, c12, c13, c14, c15, c16, c17, c18, c19, rfl⟩

theorem scr_ints {H : Type} {enc : TypeId × Value → H} {W : World} {m0 : Nat} {x : Value} {y : DataW H × List MemPlace}
    (h : DataW.trod enc Try.prog W 0 (fun _ => true) true m0 26 [x] = some y) : ∃ ns : List Int, ReadAt .i64 W x ns ∧ ns.length ≤ maxLen := by
  rcases open_ints Try.underlying26 Try.underlying2 scr_int1 h with ⟨hcs, _⟩ | ⟨a, l, c, zs, hcs, _, hl, hm, hz, _, hcell, hwz⟩
  · simp at hcs
    subst hcs
    exact ⟨[], ReadAt.nil _ _ _ _, by simp⟩
  · simp at hcs
    subst hcs
    exact read_take (by simpa using hz) hl hm hcell
theorem scr_bools {H : Type} {enc : TypeId × Value → H} {W : World} {m0 : Nat} {x : Value} {y : DataW H × List MemPlace}
    (h : DataW.trod enc Try.prog W 0 (fun _ => true) true m0 25 [x] = some y) : ∃ ns : List Bool, BRead W x ns ∧ ns.length ≤ maxLen := by
  rcases open_bools Try.underlying25 Try.underlying4 scr_bool1 h with ⟨hcs, _⟩ | ⟨a, l, c, B, hcs, _, hl, hm, _, hcell⟩
  · simp at hcs
    subst hcs
    exact ⟨[], BRead.nil _ _ _, by simp⟩
  · simp at hcs
    subst hcs
    have hz : ((List.range c).map B).length = c := by simp
    refine bread_take (zs := (List.range c).map B) hz hl hm (fun i hi => ?_)
    rw [hz] at hi
    rw [hcell i hi]
    simp [List.getD_eq_getElem?_getD, hi]

set_option maxRecDepth 100000 in
set_option maxHeartbeats 2000000 in
theorem open_screen {H : Type} {enc : TypeId × Value → H} {W : World} {base : Nat} {v : Value} {d : DataW H} {p : List MemPlace}
    (hv : Value.okWide Try.prog W .any base 28 v) (h : DataW.Trod enc Try.prog W 0 (fun _ => true) true 28 v d p) :
    ∃ (s : Scr) (v1 v2 v3 v4 : Value), v = .agg (scrA s v1 v2 v3 v4) ∧ SRead W s v1 v2 v3 v4 ∧ s.cs.length ≤ maxLen ∧ s.bs.length ≤ maxLen ∧ s.tabs.length ≤ maxLen ∧ s.sets.length ≤ maxLen := by
  obtain ⟨cs, rfl, hsz⟩ := okWide_struct Try.underlying28 hv
  obtain ⟨c0, c1, c2, c3, c4, c5, c6, c7, c8, c9, c10, c11, c12, c13, c14, c15, c16, c17, c18, c19, rfl⟩ := array20 (hsz.trans scr_cells20)
  obtain ⟨fuel, hf⟩ := h
  obtain ⟨xs, n, _, _, hl, hlen, hf⟩ := DataW.trod_struct Try.underlying28 hf
  have hlen' : xs.length = 17 := hlen
  have f0 : DataW.trod enc Try.prog W 0 (fun _ => true) true n 24 [c0, c1, c2, c3] = some (xs[0]'(by omega)) := by
    have g : DataW.trod enc Try.prog W 0 (fun _ => true) true n 24 ((([c0, c1, c2, c3, c4, c5, c6, c7, c8, c9, c10, c11, c12, c13, c14, c15, c16, c17, c18, c19] : List Value).drop 0).take (Try.prog.cellsOf 24)) = xs[0]? := hf 0 _ rfl
    rw [scr_grid4, List.getElem?_eq_getElem (by omega)] at g
    exact g
  have f1 : DataW.trod enc Try.prog W 0 (fun _ => true) true n 2 [c4] = some (xs[1]'(by omega)) := by
    have g : DataW.trod enc Try.prog W 0 (fun _ => true) true n 2 ((([c0, c1, c2, c3, c4, c5, c6, c7, c8, c9, c10, c11, c12, c13, c14, c15, c16, c17, c18, c19] : List Value).drop 4).take (Try.prog.cellsOf 2)) = xs[1]? := hf 1 _ rfl
    rw [scr_int1, List.getElem?_eq_getElem (by omega)] at g
    exact g
  have f2 : DataW.trod enc Try.prog W 0 (fun _ => true) true n 2 [c5] = some (xs[2]'(by omega)) := by
    have g : DataW.trod enc Try.prog W 0 (fun _ => true) true n 2 ((([c0, c1, c2, c3, c4, c5, c6, c7, c8, c9, c10, c11, c12, c13, c14, c15, c16, c17, c18, c19] : List Value).drop 5).take (Try.prog.cellsOf 2)) = xs[2]? := hf 2 _ rfl
    rw [scr_int1, List.getElem?_eq_getElem (by omega)] at g
    exact g
  have f3 : DataW.trod enc Try.prog W 0 (fun _ => true) true n 4 [c6] = some (xs[3]'(by omega)) := by
    have g : DataW.trod enc Try.prog W 0 (fun _ => true) true n 4 ((([c0, c1, c2, c3, c4, c5, c6, c7, c8, c9, c10, c11, c12, c13, c14, c15, c16, c17, c18, c19] : List Value).drop 6).take (Try.prog.cellsOf 4)) = xs[3]? := hf 3 _ rfl
    rw [scr_bool1, List.getElem?_eq_getElem (by omega)] at g
    exact g
  have f4 : DataW.trod enc Try.prog W 0 (fun _ => true) true n 2 [c7] = some (xs[4]'(by omega)) := by
    have g : DataW.trod enc Try.prog W 0 (fun _ => true) true n 2 ((([c0, c1, c2, c3, c4, c5, c6, c7, c8, c9, c10, c11, c12, c13, c14, c15, c16, c17, c18, c19] : List Value).drop 7).take (Try.prog.cellsOf 2)) = xs[4]? := hf 4 _ rfl
    rw [scr_int1, List.getElem?_eq_getElem (by omega)] at g
    exact g
  have f5 : DataW.trod enc Try.prog W 0 (fun _ => true) true n 2 [c8] = some (xs[5]'(by omega)) := by
    have g : DataW.trod enc Try.prog W 0 (fun _ => true) true n 2 ((([c0, c1, c2, c3, c4, c5, c6, c7, c8, c9, c10, c11, c12, c13, c14, c15, c16, c17, c18, c19] : List Value).drop 8).take (Try.prog.cellsOf 2)) = xs[5]? := hf 5 _ rfl
    rw [scr_int1, List.getElem?_eq_getElem (by omega)] at g
    exact g
  have f6 : DataW.trod enc Try.prog W 0 (fun _ => true) true n 2 [c9] = some (xs[6]'(by omega)) := by
    have g : DataW.trod enc Try.prog W 0 (fun _ => true) true n 2 ((([c0, c1, c2, c3, c4, c5, c6, c7, c8, c9, c10, c11, c12, c13, c14, c15, c16, c17, c18, c19] : List Value).drop 9).take (Try.prog.cellsOf 2)) = xs[6]? := hf 6 _ rfl
    rw [scr_int1, List.getElem?_eq_getElem (by omega)] at g
    exact g
  have f7 : DataW.trod enc Try.prog W 0 (fun _ => true) true n 4 [c10] = some (xs[7]'(by omega)) := by
    have g : DataW.trod enc Try.prog W 0 (fun _ => true) true n 4 ((([c0, c1, c2, c3, c4, c5, c6, c7, c8, c9, c10, c11, c12, c13, c14, c15, c16, c17, c18, c19] : List Value).drop 10).take (Try.prog.cellsOf 4)) = xs[7]? := hf 7 _ rfl
    rw [scr_bool1, List.getElem?_eq_getElem (by omega)] at g
    exact g
  have f8 : DataW.trod enc Try.prog W 0 (fun _ => true) true n 4 [c11] = some (xs[8]'(by omega)) := by
    have g : DataW.trod enc Try.prog W 0 (fun _ => true) true n 4 ((([c0, c1, c2, c3, c4, c5, c6, c7, c8, c9, c10, c11, c12, c13, c14, c15, c16, c17, c18, c19] : List Value).drop 11).take (Try.prog.cellsOf 4)) = xs[8]? := hf 8 _ rfl
    rw [scr_bool1, List.getElem?_eq_getElem (by omega)] at g
    exact g
  have f9 : DataW.trod enc Try.prog W 0 (fun _ => true) true n 4 [c12] = some (xs[9]'(by omega)) := by
    have g : DataW.trod enc Try.prog W 0 (fun _ => true) true n 4 ((([c0, c1, c2, c3, c4, c5, c6, c7, c8, c9, c10, c11, c12, c13, c14, c15, c16, c17, c18, c19] : List Value).drop 12).take (Try.prog.cellsOf 4)) = xs[9]? := hf 9 _ rfl
    rw [scr_bool1, List.getElem?_eq_getElem (by omega)] at g
    exact g
  have f10 : DataW.trod enc Try.prog W 0 (fun _ => true) true n 25 [c13] = some (xs[10]'(by omega)) := by
    have g : DataW.trod enc Try.prog W 0 (fun _ => true) true n 25 ((([c0, c1, c2, c3, c4, c5, c6, c7, c8, c9, c10, c11, c12, c13, c14, c15, c16, c17, c18, c19] : List Value).drop 13).take (Try.prog.cellsOf 25)) = xs[10]? := hf 10 _ rfl
    rw [scr_sl1, List.getElem?_eq_getElem (by omega)] at g
    exact g
  have f11 : DataW.trod enc Try.prog W 0 (fun _ => true) true n 2 [c14] = some (xs[11]'(by omega)) := by
    have g : DataW.trod enc Try.prog W 0 (fun _ => true) true n 2 ((([c0, c1, c2, c3, c4, c5, c6, c7, c8, c9, c10, c11, c12, c13, c14, c15, c16, c17, c18, c19] : List Value).drop 14).take (Try.prog.cellsOf 2)) = xs[11]? := hf 11 _ rfl
    rw [scr_int1, List.getElem?_eq_getElem (by omega)] at g
    exact g
  have f12 : DataW.trod enc Try.prog W 0 (fun _ => true) true n 2 [c15] = some (xs[12]'(by omega)) := by
    have g : DataW.trod enc Try.prog W 0 (fun _ => true) true n 2 ((([c0, c1, c2, c3, c4, c5, c6, c7, c8, c9, c10, c11, c12, c13, c14, c15, c16, c17, c18, c19] : List Value).drop 15).take (Try.prog.cellsOf 2)) = xs[12]? := hf 12 _ rfl
    rw [scr_int1, List.getElem?_eq_getElem (by omega)] at g
    exact g
  have f13 : DataW.trod enc Try.prog W 0 (fun _ => true) true n 2 [c16] = some (xs[13]'(by omega)) := by
    have g : DataW.trod enc Try.prog W 0 (fun _ => true) true n 2 ((([c0, c1, c2, c3, c4, c5, c6, c7, c8, c9, c10, c11, c12, c13, c14, c15, c16, c17, c18, c19] : List Value).drop 16).take (Try.prog.cellsOf 2)) = xs[13]? := hf 13 _ rfl
    rw [scr_int1, List.getElem?_eq_getElem (by omega)] at g
    exact g
  have f14 : DataW.trod enc Try.prog W 0 (fun _ => true) true n 26 [c17] = some (xs[14]'(by omega)) := by
    have g : DataW.trod enc Try.prog W 0 (fun _ => true) true n 26 ((([c0, c1, c2, c3, c4, c5, c6, c7, c8, c9, c10, c11, c12, c13, c14, c15, c16, c17, c18, c19] : List Value).drop 17).take (Try.prog.cellsOf 26)) = xs[14]? := hf 14 _ rfl
    rw [scr_sl2, List.getElem?_eq_getElem (by omega)] at g
    exact g
  have f15 : DataW.trod enc Try.prog W 0 (fun _ => true) true n 2 [c18] = some (xs[15]'(by omega)) := by
    have g : DataW.trod enc Try.prog W 0 (fun _ => true) true n 2 ((([c0, c1, c2, c3, c4, c5, c6, c7, c8, c9, c10, c11, c12, c13, c14, c15, c16, c17, c18, c19] : List Value).drop 18).take (Try.prog.cellsOf 2)) = xs[15]? := hf 15 _ rfl
    rw [scr_int1, List.getElem?_eq_getElem (by omega)] at g
    exact g
  have f16 : DataW.trod enc Try.prog W 0 (fun _ => true) true n 2 [c19] = some (xs[16]'(by omega)) := by
    have g : DataW.trod enc Try.prog W 0 (fun _ => true) true n 2 ((([c0, c1, c2, c3, c4, c5, c6, c7, c8, c9, c10, c11, c12, c13, c14, c15, c16, c17, c18, c19] : List Value).drop 19).take (Try.prog.cellsOf 2)) = xs[16]? := hf 16 _ rfl
    rw [scr_int1, List.getElem?_eq_getElem (by omega)] at g
    exact g
  clear hf
  have f0' : ∃ (r wd : Int) (cs bs : List (Int × Int)), c0 = .int .i64 r ∧ c1 = .int .i64 wd ∧ PRead W c2 cs ∧ PRead W c3 bs ∧ cs.length ≤ maxLen ∧ bs.length ≤ maxLen := by
    obtain ⟨y0, y1, y2, y3, m, _, _, g0, g1, g2, g3⟩ := trod_struct4 Try.underlying24 f0
    rw [int_cells1] at g0 g1
    obtain ⟨r, e0, _, _⟩ := DataW.trod_int Try.underlying2 g0
    obtain ⟨wd, e1, _, _⟩ := DataW.trod_int Try.underlying2 g1
    simp at e0 e1
    subst e0 e1
    rw [show Try.prog.cellsOf 22 = 1 from by kernel_rfl] at g2 g3
    obtain ⟨cs, q2, q2'⟩ := open_cells g2
    obtain ⟨bs, q3, q3'⟩ := open_cells g3
    exact ⟨r, wd, cs, bs, rfl, rfl, q2, q3, q2', q3'⟩
  obtain ⟨r, wd, cs, bs, rfl, rfl, h1, h2, h1', h2'⟩ := f0'
  obtain ⟨z4, e4, _, _⟩ := DataW.trod_int Try.underlying2 f1
  simp at e4
  subst e4
  obtain ⟨z5, e5, _, _⟩ := DataW.trod_int Try.underlying2 f2
  simp at e5
  subst e5
  obtain ⟨z6, e6, _⟩ := DataW.trod_bool Try.underlying4 f3
  simp at e6
  subst e6
  obtain ⟨z7, e7, _, _⟩ := DataW.trod_int Try.underlying2 f4
  simp at e7
  subst e7
  obtain ⟨z8, e8, _, _⟩ := DataW.trod_int Try.underlying2 f5
  simp at e8
  subst e8
  obtain ⟨z9, e9, _, _⟩ := DataW.trod_int Try.underlying2 f6
  simp at e9
  subst e9
  obtain ⟨z10, e10, _⟩ := DataW.trod_bool Try.underlying4 f7
  simp at e10
  subst e10
  obtain ⟨z11, e11, _⟩ := DataW.trod_bool Try.underlying4 f8
  simp at e11
  subst e11
  obtain ⟨z12, e12, _⟩ := DataW.trod_bool Try.underlying4 f9
  simp at e12
  subst e12
  obtain ⟨tabs, h3, h3'⟩ := scr_bools f10
  obtain ⟨z14, e14, _, _⟩ := DataW.trod_int Try.underlying2 f11
  simp at e14
  subst e14
  obtain ⟨z15, e15, _, _⟩ := DataW.trod_int Try.underlying2 f12
  simp at e15
  subst e15
  obtain ⟨z16, e16, _, _⟩ := DataW.trod_int Try.underlying2 f13
  simp at e16
  subst e16
  obtain ⟨sets, h4, h4'⟩ := scr_ints f14
  obtain ⟨z18, e18, _, _⟩ := DataW.trod_int Try.underlying2 f15
  simp at e18
  subst e18
  obtain ⟨z19, e19, _, _⟩ := DataW.trod_int Try.underlying2 f16
  simp at e19
  subst e19
  exact ⟨{ r := r, wd := wd, cs := cs, bs := bs, tabs := tabs, sets := sets, y := z4, x := z5, wrap := z6, attr := z7, top := z8, bot := z9, org := z10, auto := z11, ins := z12, ky := z14, kx := z15, ka := z16, sh := z18, bells := z19 }, c2, c3, c13, c17, rfl, ⟨h1, h2, h3, h4⟩, h1', h2', h3', h4'⟩

end Go.Proofs.Ytknkbihjboadjaa

namespace Go.Proofs.Ytknkbihjboadjaa
set_option maxRecDepth 20000
open Go.ChangeShapes Go.WideShapes Go.ChangeAt Go.RowKit Go.Joins
set_option linter.unusedVariables false
set_option linter.unusedSimpArgs false

set_option maxRecDepth 20000
theorem run_execLoad {P : Program} {ρ : Operand → Value} {op : Oper} {w : World} (ty : TypeId) (x : Operand) (ho : op.op = .load ty x) (g off : Nat) (hx : ρ x = .pointer (some ⟨g, off, none⟩)) (v : Value) (h : (loadVar ty ⟨g, off, none⟩).run P w = .ok v w) :
    (execOp ρ op).run P w = .ok (Next.value v) w := by
  unfold execOp
  simp only [ho, hx, Instr.loadAt, Instr.sureAddr, Sem.run_bind, Sem.run_pure, Result.andThen_ok, h]
theorem scr_one {w : World} {v1 v2 v3 v4 : Value} {s : Scr} (h : SRead w s v1 v2 v3 v4) : (Value.agg (scrA s v1 v2 v3 v4)).cells.toList.all (·.oneCell') = true := by
  obtain ⟨a1, c1, a2, c2, a3, c3, a4, c4, rfl, rfl, rfl, rfl⟩ := h.forms
  rfl
theorem rzRes_len (s : Scr) (rows width : Int) (h4 : s.sets.length ≤ 1048576) : (rzRes s rows width).s.cs.length ≤ 1048576 ∧ (rzRes s rows width).s.bs.length ≤ 1048576 ∧ (rzRes s rows width).s.tabs.length ≤ 1048576 ∧ (rzRes s rows width).s.sets.length ≤ 1048576 := by
  unfold rzRes
  split
  · rename_i hc
    split
    · rename_i hz
      have hG := rz_grid_code hc
      obtain ⟨R, W, R', W', Hb, N', M', eR, eW, rfl, rfl, p1, p2, p3, p4, p5, p6, p7, p8, p9, p10, p11, p12, e1, e2, e3, e4, e5⟩ := resize_nats (gfine_of_code hG) hz
      have eW' : s.wd.toNat = W := by omega
      have eR' : s.r.toNat = R := by omega
      have e' : rzGrid s (R' : Int) (W' : Int) = ⟨0, (R' : Int), (W' : Int), mkL N' (fitF W W' (min R' R) (fun i => s.cs.getD i (0, 0)) (32, 0)), mkL M' (fitF W W' Hb (fun i => s.bs.getD i (0, 0)) (32, 0))⟩ := by
        unfold rzGrid
        rw [resizeRes_def, gres_ok hG hz]
        simp only [eW', eR', Int.toNat_natCast, e3, ← e4, ← e5]
      refine ⟨?_, ?_, ?_, h4⟩
      · show (rzGrid s (R' : Int) (W' : Int)).cs.length ≤ _
        rw [e', mkL_length]; omega
      · show (rzGrid s (R' : Int) (W' : Int)).bs.length ≤ _
        rw [e', mkL_length]; omega
      · show (tabsW s.tabs (W' : Int).toNat).length ≤ _
        rw [tabsW_length, Int.toNat_natCast]; omega
    · simp [sbad, scr0]
  · simp [sbad, scr0]
theorem rz_spec {c : Int} {S s : Scr} {rows width : Int} (hC : (rzRes s rows width).code = c) (hS : (rzRes s rows width).s = S) (v1 v2 v3 v4 : Value) (w : World) (hn1 : s.cs.length ≤ 1048576) (hn2 : s.bs.length ≤ 1048576) (hn3 : s.tabs.length ≤ 1048576) (hn4 : s.sets.length ≤ 1048576) (k1 : Capped v1) (k2 : Capped v2) (k3 : Capped v3) (h : SRead w s v1 v2 v3 v4) :
    Calls Try.prog 7 #[.agg (scrA s v1 v2 v3 v4), .int .i64 rows, .int .i64 width] w fun e w' => ∃ u1 u2 u3 u4, e = .returned (.agg (resA c S u1 u2 u3 u4)) ∧ SOwn w.heap.size w'.heap.size w' u1 u2 u3 u4 S ∧ Below w.heap.size w w' := by
  subst hC hS
  exact specResizeScreen_calls s v1 v2 v3 v4 rows width w hn1 hn2 hn3 hn4 k1 k2 k3 h
theorem rz_impl {c : Int} {S s : Scr} {rows width : Int} (hC : (rzRes s rows width).code = c) (hS : (rzRes s rows width).s = S) (v1 v2 v3 v4 : Value) (w : World) (hn1 : s.cs.length ≤ 1048576) (hn2 : s.bs.length ≤ 1048576) (hn3 : s.tabs.length ≤ 1048576) (hn4 : s.sets.length ≤ 1048576) (h : SRead w s v1 v2 v3 v4) :
    Calls Try.prog 9 #[.agg (scrA s v1 v2 v3 v4), .int .i64 rows, .int .i64 width] w fun e w' => ∃ u1 u2 u3 u4, e = .returned (.agg (resA c S u1 u2 u3 u4)) ∧ SOwn w.heap.size w'.heap.size w' u1 u2 u3 u4 S ∧ Below w.heap.size w w' := by
  subst hC hS
  exact implResizeScreen_calls s v1 v2 v3 v4 rows width w hn1 hn2 hn3 hn4 h
set_option maxRecDepth 20000 in
set_option maxHeartbeats 8000000 in
theorem lawRZ_walk (s : Scr) (v1 v2 v3 v4 : Value) (rows : Int) (width : Int) (w : World) (hrs : SRead w s v1 v2 v3 v4) (hms1 : s.cs.length ≤ maxLen) (hms2 : s.bs.length ≤ maxLen) (hms3 : s.tabs.length ≤ maxLen) (hms4 : s.sets.length ≤ maxLen) :
    Calls Try.prog 3 #[.agg (scrA s v1 v2 v3 v4), .int .i64 rows, .int .i64 width] w fun e w' => e = .returned (.bool true) ∧ Below w.heap.size w w' := by
  by_cases hsum0 : (s.cs.length : Int) + s.bs.length + s.tabs.length + s.sets.length ≤ 1048576
  · skip
    obtain ⟨c, hC⟩ : ∃ c, (rzRes s rows width).code = c := ⟨_, rfl⟩
    obtain ⟨S, hS⟩ : ∃ S, (rzRes s rows width).s = S := ⟨_, rfl⟩
    obtain ⟨hS1, hS2, hS3, hS4⟩ := rzRes_len s rows width (show s.sets.length ≤ 1048576 by omega)
    rw [hS] at hS1 hS2 hS3 hS4
    have HC := hide hC
    have HS := hide hS
    clear hC hS
    have hne : ∀ y : Int, (y != y) = false := fun y => by simp
    have hgS : ¬ (1 + cntS S < 0) := by unfold cntS; omega
    have hgs : ¬ (1 + cntS s < 0) := by unfold cntS; omega
    have HRs := hide hrs
    have q0 : Below w.heap.size w (w.alloc (.cells (scrA s v1 v2 v3 v4) 28)) := (by repeat' (first | with_reducible exact Below.refl _ _ | with_reducible assumption | with_reducible refine Below.drew ?_ | with_reducible refine Below.alloc ?_ ?_ _ | with_reducible refine Below.setCell ?_ ?_ _ | (simp; done) | (simp; omega) | omega))
    have hAs := Blk.new w (scrA s v1 v2 v3 v4) 28
    go_enter Try.func3, Try.ntmps3
    go_wp2_with (first | fail | (refine wpList_load_at rfl 28 _ rfl (w.heap.size) 0 rfl _ (scrA s v1 v2 v3 v4) hAs rfl _ Try.underlying28 rfl (by kernel_rfl) ?_; (try simp only [Act.put, List.setIfInBounds_toArray, List.set_cons_zero, List.set_cons_succ])))
    go_at_call 6
    refine (szScreen_calls s v1 v2 v3 v4 1048576 (by omega) (by omega) _ (hrs.below q0) hms1 hms2 hms3 hms4).mono ?_
    rintro e w1 ⟨rfl, hb⟩
    replace hAs := hAs.belowb hb
    have z0 : w.heap.size + 1 ≤ w1.heap.size := by have := hb.size; simp at this; omega
    have b1 : Below w.heap.size w w1 := q0.trans (hb.mono q0.size)
    clear hb q0
    replace hrs := hrs.below b1
    rw [if_pos hsum0]
    have hge0 : ¬ ((1048576 - s.cs.length - s.bs.length - s.tabs.length - s.sets.length) < 0) := by omega
    have hns1 : s.cs.length ≤ 1048576 := by omega
    have hns2 : s.bs.length ≤ 1048576 := by omega
    have hns3 : s.tabs.length ≤ 1048576 := by omega
    have hns4 : s.sets.length ≤ 1048576 := by omega
    go_wp2_with (first | fail | (refine wpList_load_at rfl 28 _ rfl (w.heap.size) 0 rfl _ (scrA s v1 v2 v3 v4) hAs rfl _ Try.underlying28 rfl (by kernel_rfl) ?_; (try simp only [Act.put, List.setIfInBounds_toArray, List.set_cons_zero, List.set_cons_succ])))
    go_at_call 8
    refine (toScreen_full s v1 v2 v3 v4 _ hns1 hns2 hns3 hns4 hrs).mono ?_
    rintro e w2 ⟨p1, p2, p3, p4, rfl, k1, k2, k3, hp, hb⟩
    have z2 : w1.heap.size ≤ w2.heap.size := hb.size
    replace hAs := hAs.belowb hb
    replace hrs := hrs.below hb
    have b2 : Below w.heap.size w w2 := b1.trans (hb.mono (by omega))
    clear hb b1
    go_wp2_with fail
    go_at_call 7
    refine (rz_spec HC.out HS.out _ _ _ _ _ hns1 hns2 hns3 hns4 k1 k2 k3 hp.read).mono ?_
    rintro e w3 ⟨j1, j2, j3, j4, rfl, hj, hb⟩
    have z3 : w2.heap.size ≤ w3.heap.size := hb.size
    replace hAs := hAs.belowb hb
    replace hrs := hrs.below hb
    replace hp := hp.below hb (by omega)
    have b3 : Below w.heap.size w w3 := b2.trans (hb.mono (by omega))
    clear hb b2
    clear hp
    go_wp2_with (first | fail | (refine wpList_load_at rfl 28 _ rfl (w.heap.size) 0 rfl _ (scrA s v1 v2 v3 v4) hAs rfl _ Try.underlying28 rfl (by kernel_rfl) ?_; (try simp only [Act.put, List.setIfInBounds_toArray, List.set_cons_zero, List.set_cons_succ])) | (refine wpList_store_blk rfl _ _ _ rfl (w3.heap.size) 0 (resA 0 scr0 (.slice none 0 0) (.slice none 0 0) (.slice none 0 0) (.slice none 0 0)) (resA c S j1 j2 j3 j4) (.agg (resA c S j1 j2 j3 j4)) rfl rfl (Blk.new w3 _ _) rfl (by kernel_rfl) (res_one hj.read) rfl ?_; (try simp only [Act.put, List.setIfInBounds_toArray, List.set_cons_zero, List.set_cons_succ]); intro w4 hJ hu; have hb : Below w3.heap.size w3 w4 := ((Below.refl _ w3).alloc (Nat.le_refl _) _).trans (hu.below (Nat.le_refl _)); have z4 : w3.heap.size + 1 = w4.heap.size := (by have := hu.size; simp at this; omega); clear hu; replace hAs := hAs.belowb hb) | (refine wpList_load_at rfl 36 _ rfl (w3.heap.size) 0 rfl _ (resA c S j1 j2 j3 j4) hJ rfl _ Try.underlying36 rfl (by kernel_rfl) ?_; (try simp only [Act.put, List.setIfInBounds_toArray, List.set_cons_zero, List.set_cons_succ])))
    replace hrs := hrs.below hb
    replace hj := hj.below hb (by omega)
    have b4 : Below w.heap.size w w4 := b3.trans (hb.mono (by omega))
    clear hb b3
    go_wp2_with (first | fail | (refine wpList_load_at rfl 28 _ rfl (w.heap.size) 0 rfl _ (scrA s v1 v2 v3 v4) hAs rfl _ Try.underlying28 rfl (by kernel_rfl) ?_; (try simp only [Act.put, List.setIfInBounds_toArray, List.set_cons_zero, List.set_cons_succ])) | (refine wpList_load_at rfl 36 _ rfl (w3.heap.size) 0 rfl _ (resA c S j1 j2 j3 j4) hJ rfl _ Try.underlying36 rfl (by kernel_rfl) ?_; (try simp only [Act.put, List.setIfInBounds_toArray, List.set_cons_zero, List.set_cons_succ])))
    go_at_call 8
    refine (toScreen_calls s v1 v2 v3 v4 _ hns1 hns2 hns3 hns4 hrs).mono ?_
    rintro e w5 ⟨q1, q2, q3, q4, rfl, hq, hb⟩
    have z5 : w4.heap.size ≤ w5.heap.size := hb.size
    replace hAs := hAs.belowb hb
    replace hJ := hJ.belowb hb
    replace hrs := hrs.below hb
    replace hj := hj.below hb (by omega)
    have b5 : Below w.heap.size w w5 := b4.trans (hb.mono (by omega))
    clear hb b4
    go_wp2_with (first | fail | (refine wpList_load_at rfl 28 _ rfl (w.heap.size) 0 rfl _ (scrA s v1 v2 v3 v4) hAs rfl _ Try.underlying28 rfl (by kernel_rfl) ?_; (try simp only [Act.put, List.setIfInBounds_toArray, List.set_cons_zero, List.set_cons_succ])) | (refine wpList_load_at rfl 36 _ rfl (w3.heap.size) 0 rfl _ (resA c S j1 j2 j3 j4) hJ rfl _ Try.underlying36 rfl (by kernel_rfl) ?_; (try simp only [Act.put, List.setIfInBounds_toArray, List.set_cons_zero, List.set_cons_succ])) | (refine wpList_store_blk rfl _ _ _ rfl (w5.heap.size) 0 (scrA scr0 (.slice none 0 0) (.slice none 0 0) (.slice none 0 0) (.slice none 0 0)) (scrA s q1 q2 q3 q4) (.agg (scrA s q1 q2 q3 q4)) rfl rfl (Blk.new w5 _ _) rfl (by kernel_rfl) (scr_one hq.read) rfl ?_; (try simp only [Act.put, List.setIfInBounds_toArray, List.set_cons_zero, List.set_cons_succ]); intro w6 hX hu; have hb : Below w5.heap.size w5 w6 := ((Below.refl _ w5).alloc (Nat.le_refl _) _).trans (hu.below (Nat.le_refl _)); have z6 : w5.heap.size + 1 = w6.heap.size := (by have := hu.size; simp at this; omega); clear hu; replace hAs := hAs.belowb hb; replace hJ := hJ.belowb hb) | (refine wpList_load_at rfl 34 _ rfl (w5.heap.size) 0 rfl _ (scrA s q1 q2 q3 q4) hX rfl _ Try.underlying34 rfl (by kernel_rfl) ?_; (try simp only [Act.put, List.setIfInBounds_toArray, List.set_cons_zero, List.set_cons_succ])))
    replace hrs := hrs.below hb
    replace hj := hj.below hb (by omega)
    replace hq := hq.below hb (by omega)
    have b6 : Below w.heap.size w w6 := b5.trans (hb.mono (by omega))
    clear hb b5
    go_wp2_with (first | fail | (refine wpList_load_at rfl 28 _ rfl (w.heap.size) 0 rfl _ (scrA s v1 v2 v3 v4) hAs rfl _ Try.underlying28 rfl (by kernel_rfl) ?_; (try simp only [Act.put, List.setIfInBounds_toArray, List.set_cons_zero, List.set_cons_succ])) | (refine wpList_load_at rfl 36 _ rfl (w3.heap.size) 0 rfl _ (resA c S j1 j2 j3 j4) hJ rfl _ Try.underlying36 rfl (by kernel_rfl) ?_; (try simp only [Act.put, List.setIfInBounds_toArray, List.set_cons_zero, List.set_cons_succ])) | (refine wpList_load_at rfl 34 _ rfl (w5.heap.size) 0 rfl _ (scrA s q1 q2 q3 q4) hX rfl _ Try.underlying34 rfl (by kernel_rfl) ?_; (try simp only [Act.put, List.setIfInBounds_toArray, List.set_cons_zero, List.set_cons_succ])))
    go_at_call 9
    refine (rz_impl HC.out HS.out _ _ _ _ _ hns1 hns2 hns3 hns4 hq.read).mono ?_
    rintro e w7 ⟨g1, g2, g3, g4, rfl, hg, hb⟩
    have z7 : w6.heap.size ≤ w7.heap.size := hb.size
    replace hAs := hAs.belowb hb
    replace hJ := hJ.belowb hb
    replace hX := hX.belowb hb
    replace hrs := hrs.below hb
    replace hj := hj.below hb (by omega)
    replace hq := hq.below hb (by omega)
    have b7 : Below w.heap.size w w7 := b6.trans (hb.mono (by omega))
    clear hb b6
    go_wp2_with (first | fail | (refine wpList_load_at rfl 28 _ rfl (w.heap.size) 0 rfl _ (scrA s v1 v2 v3 v4) hAs rfl _ Try.underlying28 rfl (by kernel_rfl) ?_; (try simp only [Act.put, List.setIfInBounds_toArray, List.set_cons_zero, List.set_cons_succ])) | (refine wpList_load_at rfl 36 _ rfl (w3.heap.size) 0 rfl _ (resA c S j1 j2 j3 j4) hJ rfl _ Try.underlying36 rfl (by kernel_rfl) ?_; (try simp only [Act.put, List.setIfInBounds_toArray, List.set_cons_zero, List.set_cons_succ])) | (refine wpList_load_at rfl 34 _ rfl (w5.heap.size) 0 rfl _ (scrA s q1 q2 q3 q4) hX rfl _ Try.underlying34 rfl (by kernel_rfl) ?_; (try simp only [Act.put, List.setIfInBounds_toArray, List.set_cons_zero, List.set_cons_succ])) | (refine wpList_store_blk rfl _ _ _ rfl (w7.heap.size) 0 (resA 0 scr0 (.slice none 0 0) (.slice none 0 0) (.slice none 0 0) (.slice none 0 0)) (resA c S g1 g2 g3 g4) (.agg (resA c S g1 g2 g3 g4)) rfl rfl (Blk.new w7 _ _) rfl (by kernel_rfl) (res_one hg.read) rfl ?_; (try simp only [Act.put, List.setIfInBounds_toArray, List.set_cons_zero, List.set_cons_succ]); intro w8 hG hu; have hb : Below w7.heap.size w7 w8 := ((Below.refl _ w7).alloc (Nat.le_refl _) _).trans (hu.below (Nat.le_refl _)); have z8 : w7.heap.size + 1 = w8.heap.size := (by have := hu.size; simp at this; omega); clear hu; replace hAs := hAs.belowb hb; replace hJ := hJ.belowb hb; replace hX := hX.belowb hb) | (refine wpList_load_at rfl 36 _ rfl (w7.heap.size) 0 rfl _ (resA c S g1 g2 g3 g4) hG rfl _ Try.underlying36 rfl (by kernel_rfl) ?_; (try simp only [Act.put, List.setIfInBounds_toArray, List.set_cons_zero, List.set_cons_succ])))
    replace hrs := hrs.below hb
    replace hj := hj.below hb (by omega)
    replace hq := hq.below hb (by omega)
    replace hg := hg.below hb (by omega)
    have b8 : Below w.heap.size w w8 := b7.trans (hb.mono (by omega))
    clear hb b7
    go_at_call 10
    refine (eqScreenResult_calls c S _ _ _ _ _ _ _ _ _ hS1 hS2 hS3 hS4 hg.read hj.read).mono ?_
    rintro e w9 ⟨rfl, hb⟩
    have z9 : w8.heap.size ≤ w9.heap.size := hb.size
    replace hAs := hAs.belowb hb
    replace hJ := hJ.belowb hb
    replace hX := hX.belowb hb
    replace hG := hG.belowb hb
    replace hrs := hrs.below hb
    replace hj := hj.below hb (by omega)
    replace hq := hq.below hb (by omega)
    replace hg := hg.below hb (by omega)
    have b9 : Below w.heap.size w w9 := b8.trans (hb.mono (by omega))
    clear hb b8
    go_wp2_with fail
    have hd : Below w9.heap.size w9 w9.drew := Below.drew (Below.refl _ _)
    have ra := hrs.below hd
    have rx := hq.read.below hd
    refine wp_region_held_drew (S := (fun w' => Below w9.heap.size w9 w' ∧ Blk w' (w.heap.size) (scrA s v1 v2 v3 v4) ∧ Blk w' (w5.heap.size) (scrA s q1 q2 q3 q4))) (by kernel_rfl) ?_ (fun hHeld => ?_)
    · (try dsimp only); exact ⟨hd, hAs, hX⟩
    refine wpAnyH_take (i := 0) (oi := ⟨_, _, _, _, _, _⟩) (v := .agg (scrA s q1 q2 q3 q4)) rfl (by kernel_rfl) (by kernel_rfl) (by kernel_rfl) (fun _ _ _ h => h) (Or.inl ⟨by rfl, ?_⟩) hHeld ?_
    · intro w hSw
      (try dsimp only at hSw)
      have hx := run_loadVar_at (P := Try.prog) (o := 0) (ty := 34) (vs := (scrA s q1 q2 q3 q4)) hSw.2.2 rfl Try.underlying34 rfl (by kernel_rfl)
      exact run_execLoad _ _ rfl _ _ rfl _ hx
    try simp only [Act.put, List.setIfInBounds_toArray, List.set_cons_zero, List.set_cons_succ]
    refine wpAnyH_take (i := 1) (oi := ⟨_, _, _, _, _, _⟩) (v := .agg (scrA s v1 v2 v3 v4)) rfl (by kernel_rfl) (by kernel_rfl) (by kernel_rfl) (fun _ _ _ h => h) (Or.inl ⟨by rfl, ?_⟩) hHeld ?_
    · intro w hSw
      (try dsimp only at hSw)
      have hx := run_loadVar_at (P := Try.prog) (o := 0) (ty := 28) (vs := (scrA s v1 v2 v3 v4)) hSw.2.1 rfl Try.underlying28 rfl (by kernel_rfl)
      exact run_execLoad _ _ rfl _ _ rfl _ hx
    try simp only [Act.put, List.setIfInBounds_toArray, List.set_cons_zero, List.set_cons_succ]
    refine wpAnyH_ready (rs := [2]) (by kernel_rfl) (by simp) ?_
    refine AllReadyH.cons (o := ⟨_, _, _, _, _, _⟩) rfl (fun K hK => ?_) AllReadyH.nil
    go_simp
    go_at_call 8
    refine (toScreen_calls s v1 v2 v3 v4 _ hns1 hns2 hns3 hns4 ra).mono ?_
    rintro e y10_1 ⟨y1, y2, y3, y4, rfl, hya, hb1⟩
    have r1 := hya.read
    replace rx := rx.below hb1
    clear hya
    try go_wp2_with fail
    refine hK.out _ _ ?_ ?_
    · (try dsimp only); exact ⟨hHeld.1.trans (hb1.mono hHeld.1.size), hHeld.2.1.belowb hb1, hHeld.2.2.belowb hb1⟩
    clear hHeld hK K
    intro hHeld
    try simp only [Act.put, List.setIfInBounds_toArray, List.set_cons_zero, List.set_cons_succ]
    refine wpAnyH_ready (rs := [3]) (by kernel_rfl) (by simp) ?_
    refine AllReadyH.cons (o := ⟨_, _, _, _, _, _⟩) rfl (fun K hK => ?_) AllReadyH.nil
    go_simp
    go_at_call 11
    refine (eqScreen_calls s _ _ _ _ _ _ _ _ _ hns1 hns2 hns3 hns4 rx r1).mono ?_
    rintro e w10 ⟨rfl, hb3⟩
    try go_wp2_with fail
    refine hK.out _ _ ?_ ?_
    · (try dsimp only); exact ⟨hHeld.1.trans (hb3.mono hHeld.1.size), hHeld.2.1.belowb hb3, hHeld.2.2.belowb hb3⟩
    clear hHeld hK K
    intro hHeld
    try simp only [Act.put, List.setIfInBounds_toArray, List.set_cons_zero, List.set_cons_succ]
    refine wpAnyH_take (i := 4) (oi := ⟨_, _, _, _, _, _⟩) (v := ?_) rfl (by kernel_rfl) (by kernel_rfl) (by kernel_rfl) (fun _ _ _ h => h) (Or.inl ⟨by rfl, ?_⟩) hHeld ?_
    rotate_left
    · (intro w hSw; (try dsimp only at hSw); go_simp; try (with_reducible rfl))
    try simp only [Act.put, List.setIfInBounds_toArray, List.set_cons_zero, List.set_cons_succ]
    refine wpAnyH_done (by kernel_rfl) ?_ _
    have hb := hHeld.1
    clear hHeld ra rx r1 hb1 hb3 hd
    have z10 : w9.heap.size ≤ w10.heap.size := hb.size
    replace hAs := hAs.belowb hb
    replace hJ := hJ.belowb hb
    replace hX := hX.belowb hb
    replace hG := hG.belowb hb
    replace hrs := hrs.below hb
    replace hj := hj.below hb (by omega)
    replace hq := hq.below hb (by omega)
    replace hg := hg.below hb (by omega)
    have b10 : Below w.heap.size w w10 := b9.trans (hb.mono (by omega))
    clear hb b9
    go_wp2_with (first | fail | (refine wpList_load_at rfl 28 _ rfl (w.heap.size) 0 rfl _ (scrA s v1 v2 v3 v4) hAs rfl _ Try.underlying28 rfl (by kernel_rfl) ?_; (try simp only [Act.put, List.setIfInBounds_toArray, List.set_cons_zero, List.set_cons_succ])) | (refine wpList_load_at rfl 36 _ rfl (w3.heap.size) 0 rfl _ (resA c S j1 j2 j3 j4) hJ rfl _ Try.underlying36 rfl (by kernel_rfl) ?_; (try simp only [Act.put, List.setIfInBounds_toArray, List.set_cons_zero, List.set_cons_succ])) | (refine wpList_load_at rfl 34 _ rfl (w5.heap.size) 0 rfl _ (scrA s q1 q2 q3 q4) hX rfl _ Try.underlying34 rfl (by kernel_rfl) ?_; (try simp only [Act.put, List.setIfInBounds_toArray, List.set_cons_zero, List.set_cons_succ])) | (refine wpList_load_at rfl 36 _ rfl (w7.heap.size) 0 rfl _ (resA c S g1 g2 g3 g4) hG rfl _ Try.underlying36 rfl (by kernel_rfl) ?_; (try simp only [Act.put, List.setIfInBounds_toArray, List.set_cons_zero, List.set_cons_succ])))
    go_at_call 12
    refine (markScreen_calls s 1 w4.heap.size w5.heap.size _ _ _ _ _ hns1 hns2 hns3 hns4 (by omega) (by omega) (by omega) hq).mono ?_
    rintro e w11 ⟨rfl, hm, hb⟩
    have z11 : w10.heap.size ≤ w11.heap.size := hb.size
    replace hAs := hAs.within hb (by omega)
    replace hJ := hJ.within hb (by omega)
    replace hX := hX.within hb (by omega)
    replace hG := hG.within hb (by omega)
    replace hj := hj.within hb (by omega) (by omega)
    replace hg := hg.within hb (by omega) (by omega)
    have b11 : Below w.heap.size w w11 := b10.trans (hb.below (by omega) (by omega))
    clear hb hq b10
    replace hrs := HRs.out.below b11
    clear hm
    go_wp2_with (first | fail | (refine wpList_load_at rfl 28 _ rfl (w.heap.size) 0 rfl _ (scrA s v1 v2 v3 v4) hAs rfl _ Try.underlying28 rfl (by kernel_rfl) ?_; (try simp only [Act.put, List.setIfInBounds_toArray, List.set_cons_zero, List.set_cons_succ])) | (refine wpList_load_at rfl 36 _ rfl (w3.heap.size) 0 rfl _ (resA c S j1 j2 j3 j4) hJ rfl _ Try.underlying36 rfl (by kernel_rfl) ?_; (try simp only [Act.put, List.setIfInBounds_toArray, List.set_cons_zero, List.set_cons_succ])) | (refine wpList_load_at rfl 34 _ rfl (w5.heap.size) 0 rfl _ (scrA s q1 q2 q3 q4) hX rfl _ Try.underlying34 rfl (by kernel_rfl) ?_; (try simp only [Act.put, List.setIfInBounds_toArray, List.set_cons_zero, List.set_cons_succ])) | (refine wpList_load_at rfl 36 _ rfl (w7.heap.size) 0 rfl _ (resA c S g1 g2 g3 g4) hG rfl _ Try.underlying36 rfl (by kernel_rfl) ?_; (try simp only [Act.put, List.setIfInBounds_toArray, List.set_cons_zero, List.set_cons_succ])))
    go_at_call 10
    refine (eqScreenResult_calls c S _ _ _ _ _ _ _ _ _ hS1 hS2 hS3 hS4 hg.read hj.read).mono ?_
    rintro e w12 ⟨rfl, hb⟩
    have z12 : w11.heap.size ≤ w12.heap.size := hb.size
    replace hAs := hAs.belowb hb
    replace hJ := hJ.belowb hb
    replace hX := hX.belowb hb
    replace hG := hG.belowb hb
    replace hrs := hrs.below hb
    replace hj := hj.below hb (by omega)
    replace hg := hg.below hb (by omega)
    have b12 : Below w.heap.size w w12 := b11.trans (hb.mono (by omega))
    clear hb b11
    go_wp2_with (first | fail | (refine wpList_load_at rfl 28 _ rfl (w.heap.size) 0 rfl _ (scrA s v1 v2 v3 v4) hAs rfl _ Try.underlying28 rfl (by kernel_rfl) ?_; (try simp only [Act.put, List.setIfInBounds_toArray, List.set_cons_zero, List.set_cons_succ])) | (refine wpList_load_at rfl 36 _ rfl (w3.heap.size) 0 rfl _ (resA c S j1 j2 j3 j4) hJ rfl _ Try.underlying36 rfl (by kernel_rfl) ?_; (try simp only [Act.put, List.setIfInBounds_toArray, List.set_cons_zero, List.set_cons_succ])) | (refine wpList_load_at rfl 34 _ rfl (w5.heap.size) 0 rfl _ (scrA s q1 q2 q3 q4) hX rfl _ Try.underlying34 rfl (by kernel_rfl) ?_; (try simp only [Act.put, List.setIfInBounds_toArray, List.set_cons_zero, List.set_cons_succ])) | (refine wpList_load_at rfl 36 _ rfl (w7.heap.size) 0 rfl _ (resA c S g1 g2 g3 g4) hG rfl _ Try.underlying36 rfl (by kernel_rfl) ?_; (try simp only [Act.put, List.setIfInBounds_toArray, List.set_cons_zero, List.set_cons_succ])))
    go_at_call 13
    refine (markScreenResult_calls c S 1 w6.heap.size w7.heap.size _ _ _ _ _ hS1 hS2 hS3 hS4 (by omega) (by omega) (by omega) hg).mono ?_
    rintro e w13 ⟨rfl, hm, hb⟩
    have z13 : w12.heap.size ≤ w13.heap.size := hb.size
    replace hAs := hAs.within hb (by omega)
    replace hJ := hJ.within hb (by omega)
    replace hX := hX.within hb (by omega)
    replace hG := hG.within hb (by omega)
    replace hj := hj.within hb (by omega) (by omega)
    have b13 : Below w.heap.size w w13 := b12.trans (hb.below (by omega) (by omega))
    clear hb hg b12
    replace hrs := HRs.out.below b13
    have hg := hm
    clear hm
    go_wp2_with (first | fail | (refine wpList_load_at rfl 28 _ rfl (w.heap.size) 0 rfl _ (scrA s v1 v2 v3 v4) hAs rfl _ Try.underlying28 rfl (by kernel_rfl) ?_; (try simp only [Act.put, List.setIfInBounds_toArray, List.set_cons_zero, List.set_cons_succ])) | (refine wpList_load_at rfl 36 _ rfl (w3.heap.size) 0 rfl _ (resA c S j1 j2 j3 j4) hJ rfl _ Try.underlying36 rfl (by kernel_rfl) ?_; (try simp only [Act.put, List.setIfInBounds_toArray, List.set_cons_zero, List.set_cons_succ])) | (refine wpList_load_at rfl 34 _ rfl (w5.heap.size) 0 rfl _ (scrA s q1 q2 q3 q4) hX rfl _ Try.underlying34 rfl (by kernel_rfl) ?_; (try simp only [Act.put, List.setIfInBounds_toArray, List.set_cons_zero, List.set_cons_succ])) | (refine wpList_load_at rfl 36 _ rfl (w7.heap.size) 0 rfl _ (resA c S g1 g2 g3 g4) hG rfl _ Try.underlying36 rfl (by kernel_rfl) ?_; (try simp only [Act.put, List.setIfInBounds_toArray, List.set_cons_zero, List.set_cons_succ])))
    go_at_call 14
    refine (heldScreenResult_calls c S 1 _ _ _ _ _ hS1 hS2 hS3 hS4 (by omega) (by omega) hg.read).mono ?_
    rintro e w14 ⟨rfl, hb⟩
    have z14 : w13.heap.size ≤ w14.heap.size := hb.size
    replace hAs := hAs.belowb hb
    replace hJ := hJ.belowb hb
    replace hX := hX.belowb hb
    replace hG := hG.belowb hb
    replace hrs := hrs.below hb
    replace hj := hj.below hb (by omega)
    replace hg := hg.below hb (by omega)
    have b14 : Below w.heap.size w w14 := b13.trans (hb.mono (by omega))
    clear hb b13
    go_wp2_with (first | fail | (refine wpList_load_at rfl 28 _ rfl (w.heap.size) 0 rfl _ (scrA s v1 v2 v3 v4) hAs rfl _ Try.underlying28 rfl (by kernel_rfl) ?_; (try simp only [Act.put, List.setIfInBounds_toArray, List.set_cons_zero, List.set_cons_succ])) | (refine wpList_load_at rfl 36 _ rfl (w3.heap.size) 0 rfl _ (resA c S j1 j2 j3 j4) hJ rfl _ Try.underlying36 rfl (by kernel_rfl) ?_; (try simp only [Act.put, List.setIfInBounds_toArray, List.set_cons_zero, List.set_cons_succ])) | (refine wpList_load_at rfl 34 _ rfl (w5.heap.size) 0 rfl _ (scrA s q1 q2 q3 q4) hX rfl _ Try.underlying34 rfl (by kernel_rfl) ?_; (try simp only [Act.put, List.setIfInBounds_toArray, List.set_cons_zero, List.set_cons_succ])) | (refine wpList_load_at rfl 36 _ rfl (w7.heap.size) 0 rfl _ (resA c S g1 g2 g3 g4) hG rfl _ Try.underlying36 rfl (by kernel_rfl) ?_; (try simp only [Act.put, List.setIfInBounds_toArray, List.set_cons_zero, List.set_cons_succ])))
    go_at_call 8
    refine (toScreen_calls s v1 v2 v3 v4 _ hns1 hns2 hns3 hns4 hrs).mono ?_
    rintro e w15 ⟨y1, y2, y3, y4, rfl, hq', hb⟩
    have z15 : w14.heap.size ≤ w15.heap.size := hb.size
    replace hAs := hAs.belowb hb
    replace hJ := hJ.belowb hb
    replace hX := hX.belowb hb
    replace hG := hG.belowb hb
    replace hrs := hrs.below hb
    replace hj := hj.below hb (by omega)
    replace hg := hg.below hb (by omega)
    have b15 : Below w.heap.size w w15 := b14.trans (hb.mono (by omega))
    clear hb b14
    go_wp2_with fail
    go_at_call 9
    refine (rz_impl HC.out HS.out _ _ _ _ _ hns1 hns2 hns3 hns4 hq'.read).mono ?_
    rintro e w16 ⟨u1, u2, u3, u4, rfl, hu, hb⟩
    have z16 : w15.heap.size ≤ w16.heap.size := hb.size
    replace hAs := hAs.belowb hb
    replace hJ := hJ.belowb hb
    replace hX := hX.belowb hb
    replace hG := hG.belowb hb
    replace hrs := hrs.below hb
    replace hj := hj.below hb (by omega)
    replace hg := hg.below hb (by omega)
    replace hq' := hq'.below hb (by omega)
    have b16 : Below w.heap.size w w16 := b15.trans (hb.mono (by omega))
    clear hb b15
    clear hq'
    go_wp2_with (first | fail | (refine wpList_load_at rfl 28 _ rfl (w.heap.size) 0 rfl _ (scrA s v1 v2 v3 v4) hAs rfl _ Try.underlying28 rfl (by kernel_rfl) ?_; (try simp only [Act.put, List.setIfInBounds_toArray, List.set_cons_zero, List.set_cons_succ])) | (refine wpList_load_at rfl 36 _ rfl (w3.heap.size) 0 rfl _ (resA c S j1 j2 j3 j4) hJ rfl _ Try.underlying36 rfl (by kernel_rfl) ?_; (try simp only [Act.put, List.setIfInBounds_toArray, List.set_cons_zero, List.set_cons_succ])) | (refine wpList_load_at rfl 34 _ rfl (w5.heap.size) 0 rfl _ (scrA s q1 q2 q3 q4) hX rfl _ Try.underlying34 rfl (by kernel_rfl) ?_; (try simp only [Act.put, List.setIfInBounds_toArray, List.set_cons_zero, List.set_cons_succ])) | (refine wpList_load_at rfl 36 _ rfl (w7.heap.size) 0 rfl _ (resA c S g1 g2 g3 g4) hG rfl _ Try.underlying36 rfl (by kernel_rfl) ?_; (try simp only [Act.put, List.setIfInBounds_toArray, List.set_cons_zero, List.set_cons_succ])) | (refine wpList_store_blk rfl _ _ _ rfl (w16.heap.size) 0 (resA 0 scr0 (.slice none 0 0) (.slice none 0 0) (.slice none 0 0) (.slice none 0 0)) (resA c S u1 u2 u3 u4) (.agg (resA c S u1 u2 u3 u4)) rfl rfl (Blk.new w16 _ _) rfl (by kernel_rfl) (res_one hu.read) rfl ?_; (try simp only [Act.put, List.setIfInBounds_toArray, List.set_cons_zero, List.set_cons_succ]); intro w17 hU hu; have hb : Below w16.heap.size w16 w17 := ((Below.refl _ w16).alloc (Nat.le_refl _) _).trans (hu.below (Nat.le_refl _)); have z17 : w16.heap.size + 1 = w17.heap.size := (by have := hu.size; simp at this; omega); clear hu; replace hAs := hAs.belowb hb; replace hJ := hJ.belowb hb; replace hX := hX.belowb hb; replace hG := hG.belowb hb) | (refine wpList_load_at rfl 36 _ rfl (w16.heap.size) 0 rfl _ (resA c S u1 u2 u3 u4) hU rfl _ Try.underlying36 rfl (by kernel_rfl) ?_; (try simp only [Act.put, List.setIfInBounds_toArray, List.set_cons_zero, List.set_cons_succ])))
    replace hrs := hrs.below hb
    replace hj := hj.below hb (by omega)
    replace hg := hg.below hb (by omega)
    replace hu := hu.below hb (by omega)
    have b17 : Below w.heap.size w w17 := b16.trans (hb.mono (by omega))
    clear hb b16
    go_at_call 10
    refine (eqScreenResult_calls c S _ _ _ _ _ _ _ _ _ hS1 hS2 hS3 hS4 hu.read hj.read).mono ?_
    rintro e w18 ⟨rfl, hb⟩
    have z18 : w17.heap.size ≤ w18.heap.size := hb.size
    replace hAs := hAs.belowb hb
    replace hJ := hJ.belowb hb
    replace hX := hX.belowb hb
    replace hG := hG.belowb hb
    replace hU := hU.belowb hb
    replace hrs := hrs.below hb
    replace hj := hj.below hb (by omega)
    replace hg := hg.below hb (by omega)
    replace hu := hu.below hb (by omega)
    have b18 : Below w.heap.size w w18 := b17.trans (hb.mono (by omega))
    clear hb b17
    go_wp2_with (first | fail | (refine wpList_load_at rfl 28 _ rfl (w.heap.size) 0 rfl _ (scrA s v1 v2 v3 v4) hAs rfl _ Try.underlying28 rfl (by kernel_rfl) ?_; (try simp only [Act.put, List.setIfInBounds_toArray, List.set_cons_zero, List.set_cons_succ])) | (refine wpList_load_at rfl 36 _ rfl (w3.heap.size) 0 rfl _ (resA c S j1 j2 j3 j4) hJ rfl _ Try.underlying36 rfl (by kernel_rfl) ?_; (try simp only [Act.put, List.setIfInBounds_toArray, List.set_cons_zero, List.set_cons_succ])) | (refine wpList_load_at rfl 34 _ rfl (w5.heap.size) 0 rfl _ (scrA s q1 q2 q3 q4) hX rfl _ Try.underlying34 rfl (by kernel_rfl) ?_; (try simp only [Act.put, List.setIfInBounds_toArray, List.set_cons_zero, List.set_cons_succ])) | (refine wpList_load_at rfl 36 _ rfl (w7.heap.size) 0 rfl _ (resA c S g1 g2 g3 g4) hG rfl _ Try.underlying36 rfl (by kernel_rfl) ?_; (try simp only [Act.put, List.setIfInBounds_toArray, List.set_cons_zero, List.set_cons_succ])) | (refine wpList_load_at rfl 36 _ rfl (w16.heap.size) 0 rfl _ (resA c S u1 u2 u3 u4) hU rfl _ Try.underlying36 rfl (by kernel_rfl) ?_; (try simp only [Act.put, List.setIfInBounds_toArray, List.set_cons_zero, List.set_cons_succ])))
    go_at_call 14
    refine (heldScreenResult_calls c S 1 _ _ _ _ _ hS1 hS2 hS3 hS4 (by omega) (by omega) hg.read).mono ?_
    rintro e w19 ⟨rfl, hb⟩
    have z19 : w18.heap.size ≤ w19.heap.size := hb.size
    replace hAs := hAs.belowb hb
    replace hJ := hJ.belowb hb
    replace hX := hX.belowb hb
    replace hG := hG.belowb hb
    replace hU := hU.belowb hb
    replace hrs := hrs.below hb
    replace hj := hj.below hb (by omega)
    replace hg := hg.below hb (by omega)
    replace hu := hu.below hb (by omega)
    have b19 : Below w.heap.size w w19 := b18.trans (hb.mono (by omega))
    clear hb b18
    go_wp2
    go_ret
    exact ⟨rfl, b19⟩
  · have q0 : Below w.heap.size w (w.alloc (.cells (scrA s v1 v2 v3 v4) 28)) := (by repeat' (first | with_reducible exact Below.refl _ _ | with_reducible assumption | with_reducible refine Below.drew ?_ | with_reducible refine Below.alloc ?_ ?_ _ | with_reducible refine Below.setCell ?_ ?_ _ | (simp; done) | (simp; omega) | omega))
    have hAs := Blk.new w (scrA s v1 v2 v3 v4) 28
    go_enter Try.func3, Try.ntmps3
    go_wp2_with (first | fail | (refine wpList_load_at rfl 28 _ rfl (w.heap.size) 0 rfl _ (scrA s v1 v2 v3 v4) hAs rfl _ Try.underlying28 rfl (by kernel_rfl) ?_; (try simp only [Act.put, List.setIfInBounds_toArray, List.set_cons_zero, List.set_cons_succ])))
    go_at_call 6
    refine (szScreen_calls s v1 v2 v3 v4 1048576 (by omega) (by omega) _ (hrs.below q0) hms1 hms2 hms3 hms4).mono ?_
    rintro e w1 ⟨rfl, hb⟩
    replace hAs := hAs.belowb hb
    have b1 : Below w.heap.size w w1 := q0.trans (hb.mono q0.size)
    clear hb q0
    rw [if_neg (by omega)]
    go_wp2
    go_ret
    exact ⟨rfl, b1⟩

theorem lawRZ_laid : laidOutB Try.prog = true := by kernel_rfl
theorem lawRZ_own : ownKnob Try.prog.godebug = none := by kernel_rfl
set_option maxRecDepth 100000 in
theorem lawRZ_lifted (os : Os) (started : os.Started) (H : Type) (enc : TypeId × Value → H) :
    ReturnsInHanded {} Try.checked os 3 .any (Rows.fnExactResizeScreenSpec.pre6 enc Try.prog Try.f3 Rows.fnExactResizeScreenRow.domain false) (Rows.fnExactResizeScreenSpec.post enc Try.prog Try.f3 false true false false) := by
  refine returnsInHanded_of_change (C := Try.checked) lawRZ_own started (by kernel_rfl) Try.func3
    (ChangeSpec.witness6 (enc := enc) (C := Try.checked) false ⟨#[], #[.agg #[.int .i64 0, .int .i64 0, .slice none 0 0, .slice none 0 0, .int .i64 0, .int .i64 0, .bool false, .int .i64 0, .int .i64 0, .int .i64 0, .bool false, .bool false, .bool false, .slice none 0 0, .int .i64 0, .int .i64 0, .int .i64 0, .slice none 0 0, .int .i64 0, .int .i64 0], .int .i64 0, .int .i64 0], []⟩ 8 (by kernel_rfl) (by kernel_rfl) (by kernel_rfl) (by kernel_rfl)) ?_
  intro W base args ds gs before hval0 hW hcnd _
  have hval : ∀ (j : Nat) t v, Try.f3.params[j]? = some t → args[j]? = some v → Value.okWide Try.prog W .any base t v := hval0
  have hW' := hW
  obtain ⟨p, q, hA0, hV, rfl, hfz, hnd⟩ := hW
  have hA : DataW.TrodAll enc Try.prog W 0 (fun _ => true) true Try.f3.params.toList args.toList ds p := hA0
  rw [Try.params3] at hA hval
  obtain ⟨z0, z1, z2, d0, d1, d2, p0, p1, p2, rfl, rfl, rfl, h0, h1, h2⟩ := trodAll_three hA
  obtain ⟨rfl, rfl⟩ := trodVars_none hV
  have k0 := h0
  have lt0 : ∀ x ∈ p0, x.block < W.heap.size := by obtain ⟨m, hm⟩ := k0; exact DataW.trod_lt m _ _ _ hm
  obtain ⟨s, v1, v2, v3, v4, rfl, hrs, hms1, hms2, hms3, hms4⟩ := open_screen (hval 0 28 z0 rfl rfl) h0
  obtain ⟨rows, rfl, rfl, rfl, wi0⟩ := open_int Try.underlying2 (hval 1 2 z1 rfl rfl) h1
  obtain ⟨width, rfl, rfl, rfl, wi1⟩ := open_int Try.underlying2 (hval 2 2 z2 rfl rfl) h2
  clear hA0 hval0

  refine (lawRZ_walk s v1 v2 v3 v4 rows width W hrs hms1 hms2 hms3 hms4).mono fun e W' ⟨he, bel⟩ => ?_
  subst he
  exact ⟨_, rfl, _, _, _, [], _, [], hW', trodAll_mk1 (shut_bool Try.underlying4 _), trodAll_mk3 (Below.trod lawRZ_laid (by kernel_rfl) (of_decide_eq_true (by kernel_rfl)) k0 bel lt0) (shut_int Try.underlying2 wi0) (shut_int Try.underlying2 wi1), rfl, bel.frame _, fun h => by cases h⟩

theorem lawRZ_over : Rows.fnExactResizeScreenRow.holds Try.pinned (OpenSpec.ofChange Rows.fnExactResizeScreenSpec) :=
  OpenClaim.holds_of_wide 3 Try.f3 rfl rfl rfl rfl rfl rfl rfl ⟨rfl, rfl, rfl, rfl, rfl⟩ rfl rfl rfl rfl rfl (by kernel_rfl) Try.func3 (by kernel_rfl)
    (of_decide_eq_true (by kernel_rfl)) (by unfold Func.isWrapper; first | (rw [if_pos (by decide +kernel)]; kernel_rfl) | (rw [if_neg (by decide +kernel)]; exact ⟨rfl, rfl⟩))
    (fun os started H enc _ => lawRZ_lifted os started H enc)

theorem lawRZ_proved : Rows.FnExactResizeScreenSaid := lawRZ_over
#print axioms lawRZ_proved
end Go.Proofs.Ytknkbihjboadjaa
