/-
  For every screen the law FnExactDumpScreen returns true: impl.DumpScreen answers at each screen what the model's DumpScreen answers, code and bytes; its bytes are memory of its own, and it turns no argument (the law itself passes screens of more than 1048576 cells, tab stops and tables together by). The library's table of powers of ten (internal/strconv) reads as its text lays it: the card ties that.
-/
import Derived.Test.YtknkbihjboadjaaDoorDumpHow
import Derived.Test.YtknkbihjboadjaaDoorDumpWhere
import Derived.Test.YtknkbihjboadjaaDoorRows
import Derived.Test.YtknkbihjboadjaaDoorPairMem
import Derived.WalkKit
import Derived.ProofKit
import Derived.OpenShut
import Derived.Below
import Derived.OwnWalk
import Derived.Laws.OwnMore
import Derived.WalkSpells
import Derived.Deep.QuietTactic
import Derived.BigQuiet
import Derived.Deep.RegionHeld3
import Derived.Test.YtknkbihjboadjaaDoorGridMem
import Derived.Test.YtknkbihjboadjaaDoorMem
import Derived.Test.YtknkbihjboadjaaDoorBoolMem
import Derived.Test.YtknkbihjboadjaaDoorScrMem
import Derived.Test.YtknkbihjboadjaaDoorCapped
import Derived.Deep.SlicePairs
import Derived.Lib.SmallJoins
import Derived.ChangeSlices
import Derived.Deep.Grids
import Derived.Test.YtknkbihjboadjaaDoorCards
import Derived.Test.YtknkbihjboadjaaDoorTie
import Derived.Deep.RegionHeld
import Derived.ShutString
import Derived.ChangeOld
import Derived.LaidMore
import Derived.LaidLaws
import Derived.LaidSub
import Derived.Lib.LaidTab
import Derived.Stop.Joined
import Derived.SevenTiedAt
/- DumpScreen of the program. -/
namespace Go.Proofs.YtknkbihjboadjaaDoor
set_option maxRecDepth 20000
open Go.ChangeShapes Go.WideShapes Go.ChangeAt Go.RowKit
set_option linter.unusedVariables false
set_option linter.unusedSimpArgs false
set_option maxRecDepth 20000

set_option maxHeartbeats 4000000 in
theorem implDumpScreen_calls (s : Scr) (v1 v2 v3 v4 : Value) (w : World) (hn1 : s.cs.length ≤ 1048576) (hn2 : s.bs.length ≤ 1048576) (hn3 : s.tabs.length ≤ 1048576) (hn4 : s.sets.length ≤ 1048576) (htab : TabAt w.heap.size w) (h : SRead w s v1 v2 v3 v4) :
    Calls Tryd.prog 9 #[.agg (scrA s v1 v2 v3 v4)] w fun e w' => ∃ v, e = .returned (.agg #[.int .i64 (scrCode s), v]) ∧ IntsAt .u8 w.heap.size w'.heap.size w' v (dsBytes s) ∧ Below w.heap.size w w' := by
  have bel0 : Below w.heap.size w ((w.alloc (.cells (scrA s v1 v2 v3 v4) 38)).alloc (.cells #[.int .i64 0, .slice none 0 0] 32)) := (by repeat' (first | with_reducible exact Below.refl _ _ | with_reducible assumption | with_reducible refine Below.drew ?_ | with_reducible refine Below.alloc ?_ ?_ _ | with_reducible refine Below.setCell ?_ ?_ _ | (simp; done) | (simp; omega) | omega))
  have hA := (Blk.new w (scrA s v1 v2 v3 v4) 38).alloc (.cells #[.int .i64 0, .slice none 0 0] 32)
  have hR := Blk.new_at (w := w.alloc (.cells (scrA s v1 v2 v3 v4) 38)) (b := w.heap.size + 1) (by simp) #[.int .i64 0, .slice none 0 0] 32
  unfold dsBytes
  by_cases hc : scrCode s = 0
  · rw [if_pos hc]
    go_enter Tryd.func9, Tryd.ntmps9
    go_wp2_with (first | fail | (refine wpList_load_at rfl 38 _ rfl (w.heap.size) 0 rfl _ (scrA s v1 v2 v3 v4) hA rfl _ Tryd.underlying38 rfl (by kernel_rfl) ?_; (try simp only [Act.put, List.setIfInBounds_toArray, List.set_cons_zero, List.set_cons_succ])))
    go_at_call 27
    refine (implScreenFault_calls s _ _ _ _ _ hn1 hn2 hn3 hn4 (h.below bel0)).mono ?_
    rintro e w1 ⟨rfl, hb⟩
    replace hA := hA.belowb hb
    replace hR := hR.belowb hb
    have bel1 := bel0.trans (hb.mono bel0.size)
    have z1 : w.heap.size + 2 ≤ w1.heap.size := by have := hb.size; simp at this; omega
    clear hb bel0
    rw [hc]
    have hSF := sfine_of hc
    have hF := hSF.g
    obtain ⟨R, m, eR, eW, n1, n2, n3, n4, n5, n6, n7, n8, n9, n10⟩ := hF.nats
    have hdiv : (s.cs.length : Int) / s.wd = (R : Int) := by rw [n5, eW, Int.natCast_mul]; exact Int.mul_ediv_cancel _ (by omega)
    have hRt : s.r.toNat = R := by omega
    have hdl : dumpL s = rowsB s 0 R ++ tabTo s s.wd.toNat ++ whereL s ++ howL s := by unfold dumpL; rw [hRt]
    have l1 := rowsB_len hF R (by omega)
    have l2 := tabTo_len s s.wd.toNat (by omega)
    have l3 := whereL_len hSF
    have l4 := howL_len hSF
    have l2' : (tabTo s s.wd.toNat).length ≤ 300 := by omega
    have hRr : 0 + (R : Int) ≤ s.r := by omega
    have hwd1 : 1 ≤ s.wd := by omega
    have hwd2 : s.wd ≤ 1000 := by omega
    have HT := hide (htab.on bel1)
    have HF := hide hF
    have HSF := hide hSF
    have HDV := hide hdiv
    have HDL := hide hdl
    have HRR := hide hRr
    clear hF hSF htab hdiv hdl hRr hRt eR eW n5 n6 n7 n9 n10 l2
    go_wp2_with (first | fail | (refine wpList_load_at rfl 36 _ rfl (w.heap.size) 0 rfl _ (grdR s v1 v2) hA (scrA_grdR s v1 v2 v3 v4) _ Tryd.underlying36 rfl (by kernel_rfl) ?_; (try simp only [Act.put, List.setIfInBounds_toArray, List.set_cons_zero, List.set_cons_succ])))
    go_at_call 28
    refine (sheetsOf_calls s.r s.wd s.cs s.bs _ _ _ hn1 hn2 (h.g1.below bel1) (h.g2.below bel1)).mono ?_
    rintro e w2 ⟨xx, yy, mm, rfl, hm1, hm2, hox, hlt, hoy, hb2⟩
    obtain ⟨bx, cap, rfl, hcap, _, hbx1, hbx2, hrow⟩ := own_row hox n8
    obtain ⟨ay, cy, rfl, _⟩ := own_room2 hoy
    replace hA := hA.belowb hb2
    replace hR := hR.belowb hb2
    have bel2 := bel1.trans (hb2.mono bel1.size)
    have z2 : w1.heap.size ≤ w2.heap.size := hb2.size
    have HT2 := hide (HT.out.on (hb2.mono (by omega)))
    have HRW := hide hrow.read
    clear hb2 bel1 hox hoy hlt hm1 hm2 hrow HT
    obtain ⟨w4, hw4⟩ : ∃ W4, Hid (((w2.alloc (.cells #[.int .i64 s.wd, .slice (some ⟨bx, 0, none⟩) s.cs.length cap] 60)).alloc (.cells #[.int .i64 s.wd, .slice ay s.bs.length cy] 60)) = W4) := ⟨_, hide rfl⟩
    have hb4 : Below w2.heap.size w2 ((w2.alloc (.cells #[.int .i64 s.wd, .slice (some ⟨bx, 0, none⟩) s.cs.length cap] 60)).alloc (.cells #[.int .i64 s.wd, .slice ay s.bs.length cy] 60)) := ((Below.refl _ w2).alloc (Nat.le_refl _) _).alloc (by simp) _
    have hB : Blk ((w2.alloc (.cells #[.int .i64 s.wd, .slice (some ⟨bx, 0, none⟩) s.cs.length cap] 60)).alloc (.cells #[.int .i64 s.wd, .slice ay s.bs.length cy] 60)) w2.heap.size #[.int .i64 s.wd, .slice (some ⟨bx, 0, none⟩) s.cs.length cap] := (Blk.new w2 _ _).alloc _
    have zz : ((w2.alloc (.cells #[.int .i64 s.wd, .slice (some ⟨bx, 0, none⟩) s.cs.length cap] 60)).alloc (.cells #[.int .i64 s.wd, .slice ay s.bs.length cy] 60)).heap.size = w2.heap.size + 2 := by simp
    rw [hw4.out] at hb4 hB zz
    have bel4 := bel2.trans (hb4.mono (by omega))
    replace hA := hA.belowb hb4
    replace hR := hR.belowb hb4
    have HT4 := hide (HT2.out.on (hb4.mono (by omega)))
    have HRW4 := hide (HRW.out.below (B := w2.heap.size) hb4 hbx2)
    clear hb4 HT2 HRW bel2
    go_wp2_with fail
    rw [hw4.out]
    refine wp_region_held_drew (S := (fun w' => Below w4.heap.size w4 w' ∧ Blk w' w2.heap.size #[.int .i64 s.wd, .slice (some ⟨bx, 0, none⟩) s.cs.length cap])) (by kernel_rfl) ?_ (fun hHeld => ?_)
    · (try dsimp only); exact ⟨Below.drew (Below.refl _ w4), hB⟩
    refine wpAnyH_take (i := 0) (oi := ⟨_, _, _, _, _, _⟩) (v := .agg #[.int .i64 s.wd, .slice (some ⟨bx, 0, none⟩) s.cs.length cap]) rfl (by kernel_rfl) (by kernel_rfl) (by kernel_rfl) (fun _ _ _ h => h) (Or.inl ⟨by rfl, ?_⟩) hHeld ?_
    · intro w hSw
      (try dsimp only at hSw)
      exact run_exLd _ _ rfl _ _ rfl _ (run_loadVar_at (P := Tryd.prog) (o := 0) (vs := #[.int .i64 s.wd, .slice (some ⟨bx, 0, none⟩) s.cs.length cap]) hSw.2 rfl Tryd.underlying60 rfl (by kernel_rfl))
    try simp only [Act.put, List.setIfInBounds_toArray, List.set_cons_zero, List.set_cons_succ]
    refine wpAnyH_take (i := 1) (oi := ⟨_, _, _, _, _, _⟩) (v := .agg #[.int .i64 s.wd, .slice (some ⟨bx, 0, none⟩) s.cs.length cap]) rfl (by kernel_rfl) (by kernel_rfl) (by kernel_rfl) (fun _ _ _ h => h) (Or.inl ⟨by rfl, ?_⟩) hHeld ?_
    · intro w hSw
      (try dsimp only at hSw)
      exact run_exLd _ _ rfl _ _ rfl _ (run_loadVar_at (P := Tryd.prog) (o := 0) (vs := #[.int .i64 s.wd, .slice (some ⟨bx, 0, none⟩) s.cs.length cap]) hSw.2 rfl Tryd.underlying60 rfl (by kernel_rfl))
    try simp only [Act.put, List.setIfInBounds_toArray, List.set_cons_zero, List.set_cons_succ]
    refine wpAnyH_ready (rs := [2]) (by kernel_rfl) (by simp) ?_
    refine (AllReadyH.cons (o := ⟨_, _, _, _, _, _⟩) rfl (fun K hK => ?_) AllReadyH.nil)
    go_simp
    go_at_call 30
    refine (height_calls s.wd hwd1 hwd2 _ s.cs.length cap hn1 _).mono ?_
    rintro e w5 ⟨rfl, hb5'⟩
    rw [HDV.out]
    have hb5 : Below w4.heap.size w4 w5 := hHeld.1.trans (hb5'.mono hHeld.1.size)
    clear hb5'
    refine hK.out _ _ ?_ ?_
    · (try dsimp only); exact ⟨hb5, hB.belowb hb5⟩
    clear hHeld hK K
    intro hHeld
    try simp only [Act.put, List.setIfInBounds_toArray, List.set_cons_zero, List.set_cons_succ]
    refine wpAnyH_ready (rs := [3]) (by kernel_rfl) (by simp) ?_
    refine (AllReadyH.cons (o := ⟨_, _, _, _, _, _⟩) rfl (fun K hK => ?_) AllReadyH.nil)
    go_simp
    go_at_call 29
    have zz5 := hb5.size
    refine (putRows_calls s 0 R bx cap w.heap.size _ HF.out (by omega) HRR.out hcap (HRW4.out.below (B := w4.heap.size) hb5 (by omega)) (HT4.out.on (hb5.mono (by omega))) (by omega) (by omega)).mono ?_
    rintro e w6 ⟨v6, rfl, own6, hb6'⟩
    replace own6 := own_lower own6 zz5
    have hb6 : Below w4.heap.size w4 w6 := hb5.trans (hb6'.mono zz5)
    clear hb6' hb5
    refine hK.out _ _ ?_ ?_
    · (try dsimp only); exact ⟨hb6, hB.belowb hb6⟩
    clear hHeld hK K
    intro hHeld
    try simp only [Act.put, List.setIfInBounds_toArray, List.set_cons_zero, List.set_cons_succ]
    refine wpAnyH_take (i := 4) (oi := ⟨_, _, _, _, _, _⟩) (v := ?_) rfl (by kernel_rfl) (by kernel_rfl) (by kernel_rfl) (fun _ _ _ h => h) (Or.inl ⟨by rfl, ?_⟩) hHeld ?_
    rotate_left
    · (intro w hSw; (try dsimp only at hSw); go_simp; try (with_reducible rfl))
    try simp only [Act.put, List.setIfInBounds_toArray, List.set_cons_zero, List.set_cons_succ]
    refine wpAnyH_done (by kernel_rfl) ?_ _
    clear hHeld
    replace hA := hA.belowb hb6
    replace hR := hR.belowb hb6
    have bel6 := bel4.trans (hb6.mono (by omega))
    have HSR : ∀ w', Below w4.heap.size w4 w' → SRead w' s v1 v2 v3 v4 := fun w' hb => h.below (bel4.trans (hb.mono (by omega)))
    have HTB : ∀ w', Below w4.heap.size w4 w' → TabAt w4.heap.size w' := fun w' hb => TabAt.upto HT4.out (hb.mono (by omega)) (by omega)
    have z6 := hb6.size
    have hw4s : w.heap.size + 2 ≤ w4.heap.size := by omega
    clear hB HRW4 HT4 hbx1 hbx2
    go_wp2_with (first | fail | (refine wpList_load_at rfl 38 _ rfl (w.heap.size) 0 rfl _ (scrA s v1 v2 v3 v4) hA rfl _ Tryd.underlying38 rfl (by kernel_rfl) ?_; (try simp only [Act.put, List.setIfInBounds_toArray, List.set_cons_zero, List.set_cons_succ])))
    go_at_call 32
    refine (appendTabs_calls s v1 v2 v3 v4 w4.heap.size _ _ _ _ HSF.out (by omega) (by omega) own6 (HTB _ hb6) (fun w' hb => HSR w' (hb6.trans hb))).mono ?_
    rintro e w7 ⟨v7, rfl, own7, hb7', -⟩
    have hb7 : Below w4.heap.size w4 w7 := hb6.trans hb7'
    replace hA := hA.below hb7' (by omega)
    replace hR := hR.below hb7' (by omega)
    have z7 := hb7.size
    clear hb7' own6 hb6
    go_wp2_with (first | fail | (refine wpList_load_at rfl 38 _ rfl (w.heap.size) 0 rfl _ (scrA s v1 v2 v3 v4) hA rfl _ Tryd.underlying38 rfl (by kernel_rfl) ?_; (try simp only [Act.put, List.setIfInBounds_toArray, List.set_cons_zero, List.set_cons_succ])))
    go_at_call 33
    refine (appendWhere_calls s v1 v2 v3 v4 w4.heap.size _ _ _ _ HSF.out (by omega) (by omega) own7 (HTB _ hb7) (fun w' hb => HSR w' (hb7.trans hb))).mono ?_
    rintro e w8 ⟨v8, rfl, own8, hb8'⟩
    have hb8 : Below w4.heap.size w4 w8 := hb7.trans hb8'
    replace hA := hA.below hb8' (by omega)
    replace hR := hR.below hb8' (by omega)
    have z8 := hb8.size
    clear hb8' own7 hb7
    go_wp2_with (first | fail | (refine wpList_load_at rfl 38 _ rfl (w.heap.size) 0 rfl _ (scrA s v1 v2 v3 v4) hA rfl _ Tryd.underlying38 rfl (by kernel_rfl) ?_; (try simp only [Act.put, List.setIfInBounds_toArray, List.set_cons_zero, List.set_cons_succ])))
    go_at_call 34
    refine (appendHow_calls s v1 v2 v3 v4 w4.heap.size _ _ _ _ HSF.out (by omega) (by omega) own8 (HTB _ hb8) (fun w' hb => HSR w' (hb8.trans hb))).mono ?_
    rintro e w9 ⟨v9, rfl, own9, hb9'⟩
    have hb9 : Below w4.heap.size w4 w9 := hb8.trans hb9'
    replace hA := hA.below hb9' (by omega)
    replace hR := hR.below hb9' (by omega)
    have z9 := hb9.size
    clear hb9' own8 hb8
    have e9 : (rowsB s 0 R).length + (tabTo s s.wd.toNat).length + (whereL s).length + (howL s).length = (dumpL s).length := by rw [HDL.out]; simp only [List.length_append]
    have e8 : (rowsB s 0 R).map (Value.int .u8) ++ (tabTo s s.wd.toNat).map (Value.int .u8) ++ (whereL s).map (Value.int .u8) ++ (howL s).map (Value.int .u8) = (dumpL s).map (Value.int .u8) := by rw [HDL.out]; simp only [List.map_append]
    rw [e9, e8] at own9
    have hX := OwnX.of own9
    obtain ⟨av, cv, rfl⟩ := hX.form
    have hI := hX.ints
    have bel9 := bel4.trans (hb9.mono (by omega))
    clear own9 hX e8 e9 l1 l2' l3 l4 HDL
    go_wp2_with (first | (refine wpList_build_at rfl 32 _ rfl #[.int .i64 0, .slice av (dumpL s).length cv] (by first | rfl | kernel_rfl) ?_; (try simp only [Act.put, List.setIfInBounds_toArray, List.set_cons_zero, List.set_cons_succ])) | (refine wpList_store_blk rfl _ _ _ rfl (w.heap.size + 1) 0 #[.int .i64 0, .slice none 0 0] #[.int .i64 0, .slice av (dumpL s).length cv] (.agg #[.int .i64 0, .slice av (dumpL s).length cv]) rfl rfl hR rfl (by kernel_rfl) rfl rfl ?_; (try simp only [Act.put, List.setIfInBounds_toArray, List.set_cons_zero, List.set_cons_succ]); clear hR; intro w10 hR hu))
    exact bodyPost_ret (results_blk hR _ _ rfl rfl Tryd.underlying32 rfl (by kernel_rfl)) rfl ⟨_, by rw [hc], (hI.of_blocks (fun q q1 q2 => hu.block q (by omega))).mono (by omega) (by have := hu.size; omega), bel9.trans (hu.below (by omega))⟩
  · rw [if_neg hc]
    obtain ⟨code, hcd⟩ : ∃ c, scrCode s = c := ⟨_, rfl⟩
    rw [hcd]
    have hne : (code != 0) = true := by rw [← hcd]; simpa using hc
    have HC := hide hcd
    clear hc hcd
    go_enter Tryd.func9, Tryd.ntmps9
    go_wp2_with (first | fail | (refine wpList_load_at rfl 38 _ rfl (w.heap.size) 0 rfl _ (scrA s v1 v2 v3 v4) hA rfl _ Tryd.underlying38 rfl (by kernel_rfl) ?_; (try simp only [Act.put, List.setIfInBounds_toArray, List.set_cons_zero, List.set_cons_succ])))
    go_at_call 27
    refine (implScreenFault_calls s _ _ _ _ _ hn1 hn2 hn3 hn4 (h.below bel0)).mono ?_
    rintro e w1 ⟨rfl, hb⟩
    replace hA := hA.belowb hb
    replace hR := hR.belowb hb
    have bel1 := bel0.trans (hb.mono bel0.size)
    have z1 : w.heap.size + 2 ≤ w1.heap.size := by have := hb.size; simp at this; omega
    clear hb bel0
    rw [HC.out]
    go_wp2_with (first | (refine wpList_build_at rfl 32 _ rfl #[.int .i64 code, .slice none 0 0] (by first | rfl | kernel_rfl) ?_; (try simp only [Act.put, List.setIfInBounds_toArray, List.set_cons_zero, List.set_cons_succ])) | (refine wpList_store_blk rfl _ _ _ rfl (w.heap.size + 1) 0 #[.int .i64 0, .slice none 0 0] #[.int .i64 code, .slice none 0 0] (.agg #[.int .i64 code, .slice none 0 0]) rfl rfl hR rfl (by kernel_rfl) rfl rfl ?_; (try simp only [Act.put, List.setIfInBounds_toArray, List.set_cons_zero, List.set_cons_succ]); clear hR; intro w9 hR hu))
    exact bodyPost_ret (results_blk hR _ _ rfl rfl Tryd.underlying32 rfl (by kernel_rfl)) rfl ⟨.slice none 0 0, rfl, (⟨none, 0, rfl, .inl rfl⟩ : IntsAt .u8 _ _ _ (.slice none 0 0) []), bel1.trans (hu.below (by omega))⟩
end Go.Proofs.YtknkbihjboadjaaDoor

/- toCell, toCellS, eqCell, eqCellS, markCellS, heldCellS, walked. -/
namespace Go.Proofs.YtknkbihjboadjaaDoor
set_option maxRecDepth 20000
open Go.ChangeShapes Go.WideShapes Go.ChangeAt Go.RowKit
set_option linter.unusedVariables false
set_option linter.unusedSimpArgs false

set_option maxHeartbeats 400000 in
theorem toCell_calls (c g : Int) (w : World) :
    Calls Tryd.prog 83 #[.agg #[.int .i64 c, .int .i64 g]] w fun e w' => e = .returned (.agg #[.int .i64 c, .int .i64 g]) ∧ Below w.heap.size w w' := by
  go_enter Tryd.func83, Tryd.ntmps83
  go_wp2
  exact bodyPost_ret (v := .agg #[.int .i64 c, .int .i64 g]) (by simp [results, Tryd.results83, go_sem]) rfl ⟨rfl, (by repeat' (first | with_reducible exact Below.refl _ _ | with_reducible assumption | with_reducible refine Below.drew ?_ | with_reducible refine Below.alloc ?_ ?_ _ | with_reducible refine Below.setCell ?_ ?_ _ | (simp; done) | (simp; omega) | omega))⟩

set_option maxHeartbeats 400000 in
theorem eqCell_calls (c g : Int) (w : World) :
    Calls Tryd.prog 89 #[.agg #[.int .i64 c, .int .i64 g], .agg #[.int .i64 c, .int .i64 g]] w fun e w' => e = .returned (.bool true) ∧ Below w.heap.size w w' := by
  have h1 : (c != c) = false := by simp
  have h2 : (g != g) = false := by simp
  go_enter Tryd.func89, Tryd.ntmps89
  go_wp2
  go_ret
  exact ⟨rfl, (by repeat' (first | with_reducible exact Below.refl _ _ | with_reducible assumption | with_reducible refine Below.drew ?_ | with_reducible refine Below.alloc ?_ ?_ _ | with_reducible refine Below.setCell ?_ ?_ _ | (simp; done) | (simp; omega) | omega))⟩

theorem keepP {W w1 w2 : World} {p0 p1 q0 q1 : Addr} {u0 u1 v0 v1 : Value} (h : Below W.heap.size W w1 ∧ w1.cell? p0 = some u0 ∧ w1.cell? p1 = some u1 ∧ w1.cell? q0 = some v0 ∧ w1.cell? q1 = some v1) (hb : Below w1.heap.size w1 w2) :
    Below W.heap.size W w2 ∧ w2.cell? p0 = some u0 ∧ w2.cell? p1 = some u1 ∧ w2.cell? q0 = some v0 ∧ w2.cell? q1 = some v1 := by
  obtain ⟨h0, h1, h2, h3, h4⟩ := h
  have cb : ∀ {p : Addr} {u : Value}, w1.cell? p = some u → w2.cell? p = some u := fun {p u} hc => by
    obtain ⟨b, o, s⟩ := p
    have := World.cell?_spot hc
    simp at this
    subst this
    exact cellb hb hc
  exact ⟨h0.trans (hb.mono h0.size), cb h1, cb h2, cb h3, cb h4⟩

set_option maxHeartbeats 1000000 in
theorem eqCellS_calls (xs : List (Int × Int)) (v1 v2 : Value) (w : World) (hn : xs.length ≤ 1000000000) (h1 : PRead w v1 xs) (h2 : PRead w v2 xs) :
    Calls Tryd.prog 71 #[v1, v2] w fun e w' => e = .returned (.bool true) ∧ Below w.heap.size w w' := by
  obtain ⟨a1, c1, rfl, h1⟩ := h1
  obtain ⟨a2, c2, rfl, h2⟩ := h2
  have hne : ((xs.length : Int) != (xs.length : Int)) = false := by simp
  go_enter Tryd.func71, Tryd.ntmps71
  go_wp2
  go_loopw [5] (fun i wr => ∃ k : Nat, k ≤ xs.length ∧ i = .int .i64 k ∧ Below w.heap.size w wr) (fun i _ => xs.length - (intOf i).toNat)
  case atStart => exact ⟨0, Nat.zero_le _, rfl, Below.refl _ _⟩
  case round =>
    obtain ⟨k, hk, rfl, hw⟩ := hrel
    by_cases hlt : k < xs.length
    · have hpos : xs ≠ [] := by intro h; rw [h] at hlt; simp at hlt
      rcases h1 with h1 | ⟨b1, o1, rfl, h1⟩
      · exact absurd h1 hpos
      rcases h2 with h2 | ⟨b2, o2, rfl, h2⟩
      · exact absurd h2 hpos
      obtain ⟨g1, g2⟩ := h1 k hlt
      obtain ⟨g3, g4⟩ := h2 k hlt
      replace g1 := cellb hw g1
      replace g2 := cellb hw g2
      replace g3 := cellb hw g3
      replace g4 := cellb hw g4
      clear h1 h2 hpos
      have hltI : (k : Int) < (xs.length : Int) := by omega
      generalize (xs.getD k (0, 0)).1 = c at *
      generalize (xs.getD k (0, 0)).2 = g at *
      go_wp2_with fail
      go_region_held3 (fun w' => Below wr.heap.size wr w' ∧ w'.cell? ⟨b1, o1 + k * 2, none⟩ = some (.int .i64 c) ∧ w'.cell? ⟨b1, o1 + k * 2 + 1, none⟩ = some (.int .i64 g) ∧ w'.cell? ⟨b2, o2 + k * 2, none⟩ = some (.int .i64 c) ∧ w'.cell? ⟨b2, o2 + k * 2 + 1, none⟩ = some (.int .i64 g))
        (first
          | exact ⟨Below.drew (Below.refl _ wr), g1, g2, g3, g4⟩
          | exact keepP (by assumption) (by assumption))
        (first | (go_at_call 89; refine (eqCell_calls c g _).mono ?_; rintro e w9 ⟨rfl, hb9⟩))
      go_wp2
      go_roundw
      case rel => exact ⟨k + 1, by omega, by go_num, hw.trans ((‹Below wr.heap.size wr _ ∧ _›.1).mono hw.size)⟩
      case measure => simp [intOf]; omega
    · go_wp2
      go_ret
      exact ⟨rfl, hw⟩

/-- The pairs that a mark lays. -/
def marksP (k0 : Int) : Nat → List (Int × Int)
  | 0 => []
  | n + 1 => marksP k0 n ++ [((k0 + 2 * n : Int), (k0 + 2 * n + 1 : Int))]
theorem marksP_length (k0 : Int) (n : Nat) : (marksP k0 n).length = n := by
  induction n with
  | zero => rfl
  | succ n ih => simp [marksP, ih]
theorem marksP_get (k0 : Int) (n i : Nat) (h : i < n) : (marksP k0 n).getD i (0, 0) = ((k0 + 2 * i : Int), (k0 + 2 * i + 1 : Int)) := by
  induction n with
  | zero => omega
  | succ n ih =>
    simp only [marksP]
    by_cases e : i < n
    · have := ih e
      simp only [List.getD_eq_getElem?_getD] at this ⊢
      rw [List.getElem?_append_left (by rw [marksP_length]; omega)]
      exact this
    · obtain rfl : i = n := by omega
      simp [List.getElem?_append_right, marksP_length]
theorem marksP_at (k0 : Int) (n : Nat) : ∀ i, i < (marksP k0 n).length → (marksP k0 n).getD i (0, 0) = ((k0 + 2 * i : Int), (k0 + 2 * i + 1 : Int)) := fun i hi => marksP_get _ _ _ (by rwa [marksP_length] at hi)

/-- A pair stored into two cells that are there. -/
theorem two_cells {w : World} {b o : Nat} {x y u u' : Value} (h1 : w.cell? ⟨b, o, none⟩ = some u) (h2 : w.cell? ⟨b, o + 1, none⟩ = some u') :
    ((w.setCell ⟨b, o, none⟩ x).setCell ⟨b, o + 1, none⟩ y).cell? ⟨b, o, none⟩ = some x ∧ ((w.setCell ⟨b, o, none⟩ x).setCell ⟨b, o + 1, none⟩ y).cell? ⟨b, o + 1, none⟩ = some y ∧
    ∀ q, q ≠ o → q ≠ o + 1 → ((w.setCell ⟨b, o, none⟩ x).setCell ⟨b, o + 1, none⟩ y).cell? ⟨b, q, none⟩ = w.cell? ⟨b, q, none⟩ := by
  have g3 : (w.setCell ⟨b, o, none⟩ x).cell? ⟨b, o + 1, none⟩ = some u' := by rw [World.cell?_setCell_other _ _ _ _ (addr_ne (by omega))]; exact h2
  refine ⟨?_, World.cell?_setCell_same _ _ _ g3, fun q e1 e2 => ?_⟩
  · rw [World.cell?_setCell_other _ _ _ _ (addr_ne (by omega))]; exact World.cell?_setCell_same _ _ _ h1
  · rw [World.cell?_setCell_other _ _ _ _ (addr_ne (by omega)), World.cell?_setCell_other _ _ _ _ (addr_ne (by omega))]
theorem own_any2 {w : World} {base n cap g : Nat} {e : TypeId} {xs : List Value} (h : w.ownsRow base e 2 (.slice (some ⟨g, 0, none⟩) n cap) n xs) : ∀ j, j < n * 2 → (∃ u, w.cell? ⟨g, 0 + j, none⟩ = some u) ∧ w.frozen? ⟨g, 0 + j, none⟩ = false := by
  intro j hj
  have hl := h.1
  refine ⟨⟨xs[j]'(by omega), ?_⟩, ?_⟩
  · rw [Nat.zero_add, h.cellAt j (by omega)]
    exact List.getElem?_eq_getElem (by omega)
  · rw [Nat.zero_add]; exact h.frozenAt j

set_option maxHeartbeats 1000000 in
theorem markCellS_calls (xs : List (Int × Int)) (k0 : Int) (lo hi : Nat) (v : Value) (w : World) (hn : xs.length ≤ 1000000000) (hk : 0 ≤ k0) (hk0 : k0 ≤ 1000000000) (h1 : PairsAt lo hi w v xs) :
    Calls Tryd.prog 72 #[v, .int .i64 k0] w fun e w' => e = .returned (.int .i64 (k0 + 2 * xs.length)) ∧ PairsAt lo hi w' v (marksP k0 xs.length) ∧ Within lo hi w w' := by
  obtain ⟨a1, c1, rfl, h1⟩ := h1
  by_cases hnil : xs = []
  · subst hnil
    go_enter Tryd.func72, Tryd.ntmps72
    go_wp2
    go_loop [1, 5] (fun t i => t = .int .i64 k0 ∧ i = .int .i64 0) (fun _ i => 0)
    case atStart => exact ⟨rfl, rfl⟩
    case round =>
      obtain ⟨rfl, rfl⟩ := hrel
      go_wp2
      go_ret
      exact ⟨rfl, PairsAt.nil _ _ _ _ _, Within.refl _ _ _⟩
  · rcases h1 with h1 | ⟨b, off, rfl, hl, hh, h1⟩
    · exact absurd h1 hnil
    go_enter Tryd.func72, Tryd.ntmps72
    go_wp2
    go_loopw [1, 5] (fun t i wr => ∃ k : Nat, k ≤ xs.length ∧ i = .int .i64 k ∧ t = .int .i64 (k0 + 2 * k) ∧ Within lo hi w wr ∧
        (∀ j, j < xs.length → (wr.frozen? ⟨b, off + j * 2, none⟩ = false ∧ wr.frozen? ⟨b, off + j * 2 + 1, none⟩ = false) ∧ (∃ u, wr.cell? ⟨b, off + j * 2, none⟩ = some u) ∧ ∃ u, wr.cell? ⟨b, off + j * 2 + 1, none⟩ = some u) ∧ ∀ j, j < k → wr.cell? ⟨b, off + j * 2, none⟩ = some (.int .i64 (k0 + 2 * j)) ∧ wr.cell? ⟨b, off + j * 2 + 1, none⟩ = some (.int .i64 (k0 + 2 * j + 1))) (fun _ i _ => xs.length - (intOf i).toNat)
    case atStart => exact ⟨0, Nat.zero_le _, rfl, by simp, Within.refl _ _ _, fun j hj => ⟨(h1 j hj).2, ⟨_, (h1 j hj).1.1⟩, ⟨_, (h1 j hj).1.2⟩⟩, fun j hj => by omega⟩
    case round =>
      obtain ⟨k, hkk, rfl, rfl, hw, hf, hc⟩ := hrel
      by_cases hlt : k < xs.length
      · obtain ⟨⟨f1, f2⟩, ⟨u, g1⟩, ⟨u', g2⟩⟩ := hf k hlt
        have hltI : (k : Int) < (xs.length : Int) := by omega
        have HF := hide hf
        have HC := hide hc
        clear hf hc h1
        have g3 : (wr.setCell ⟨b, off + k * 2, none⟩ (.int .i64 (k0 + 2 * k))).cell? ⟨b, off + k * 2 + 1, none⟩ = some u' := by rw [World.cell?_setCell_other _ _ _ _ (addr_ne (by omega))]; exact g2
        go_wp2
        go_roundw
        case rel =>
          have same2 : ((wr.setCell ⟨b, off + k * 2, none⟩ (.int .i64 (k0 + 2 * k))).setCell ⟨b, off + k * 2 + 1, none⟩ (.int .i64 (k0 + 2 * k + 1))).cell? ⟨b, off + k * 2 + 1, none⟩ = some (.int .i64 (k0 + 2 * k + 1)) := World.cell?_setCell_same _ _ _ g3
          have same1 : ((wr.setCell ⟨b, off + k * 2, none⟩ (.int .i64 (k0 + 2 * k))).setCell ⟨b, off + k * 2 + 1, none⟩ (.int .i64 (k0 + 2 * k + 1))).cell? ⟨b, off + k * 2, none⟩ = some (.int .i64 (k0 + 2 * k)) := by
            rw [World.cell?_setCell_other _ _ _ _ (addr_ne (by omega))]; exact World.cell?_setCell_same _ _ _ g1
          have other : ∀ o, o ≠ off + k * 2 → o ≠ off + k * 2 + 1 → ((wr.setCell ⟨b, off + k * 2, none⟩ (.int .i64 (k0 + 2 * k))).setCell ⟨b, off + k * 2 + 1, none⟩ (.int .i64 (k0 + 2 * k + 1))).cell? ⟨b, o, none⟩ = wr.cell? ⟨b, o, none⟩ := fun o h1 h2 => by
            rw [World.cell?_setCell_other _ _ _ _ (addr_ne (by omega)), World.cell?_setCell_other _ _ _ _ (addr_ne (by omega))]
          refine ⟨k + 1, by omega, by go_num, by go_num, (hw.setCell hl hh _).setCell hl hh _, fun j hj => ?_, fun j hj => ?_⟩
          · simp only [World.frozen?_setCell]
            refine ⟨(HF.out j hj).1, ?_⟩
            by_cases e : j = k
            · subst e; exact ⟨⟨_, same1⟩, ⟨_, same2⟩⟩
            · rw [other _ (by omega) (by omega), other _ (by omega) (by omega)]; exact (HF.out j hj).2
          · by_cases e : j = k
            · subst e; exact ⟨same1, same2⟩
            · rw [other _ (by omega) (by omega), other _ (by omega) (by omega)]; exact HC.out j (by omega)
        case measure => simp [intOf]; omega
      · have hk' : k = xs.length := by omega
        subst hk'
        go_wp2
        go_ret
        refine ⟨rfl, ⟨_, _, by rw [marksP_length], .inr ⟨b, off, rfl, hl, hh, fun i hi => ?_⟩⟩, hw⟩
        rw [marksP_length] at hi
        rw [marksP_get _ _ _ hi]
        exact ⟨hc i hi, (hf i hi).1⟩

theorem info_pair : (Tryd.prog.info? 65).map (fun i => (i.zero, i.size, i.bytes)) = some (some (.agg #[.int .i64 0, .int .i64 0]), 2, 16) := by kernel_rfl

set_option maxHeartbeats 1000000 in
theorem toCellS_calls (zs : List (Int × Int)) (v : Value) (w : World) (hn : zs.length ≤ 1048576) (h1 : PRead w v zs) :
    Calls Tryd.prog 58 #[v] w fun e w' => ∃ v', e = .returned v' ∧ PairsAt w.heap.size w'.heap.size w' v' zs ∧ Below w.heap.size w w' := by
  obtain ⟨i0, hi, hz0, hz1, hz2⟩ := info_parts info_pair
  obtain ⟨a1, c1, rfl, h1⟩ := h1
  go_enter Tryd.func58, Tryd.ntmps58
  go_wp2_with (at_make; refine wpList_make_full _ rfl (.tmp 6) (.tmp 6) 34 rfl w.heap.size 65 i0 (.agg #[.int .i64 0, .int .i64 0]) 2 Tryd.underlying34 hi hz0 hz1 .i64 .i64 _ _ zs.length rfl rfl rfl rfl ?c1 ?c2 ?c3 ?_)
  case c1 => rw [hz2]; omega
  case c2 => unfold maxLen; omega
  case c3 => exact Nat.le_refl _
  intro w1 hown hgrow
  have hany := own_any2 hown
  have hlt1 : w.heap.size < w1.heap.size := (hown.lt w.heap.size rfl).2
  have hb1 : Below w.heap.size w w1 := (Below.refl _ _).grown hgrow (Nat.le_refl _) (fun k hk => by cases hk)
  have HA := hide hany
  clear hown hgrow hany
  go_wp2
  go_loopw [4] (fun i wr => ∃ k : Nat, k ≤ zs.length ∧ i = .int .i64 k ∧ Below w.heap.size w wr ∧ w.heap.size < wr.heap.size ∧
      (∀ j, j < zs.length * 2 → (∃ u, wr.cell? ⟨w.heap.size, 0 + j, none⟩ = some u) ∧ wr.frozen? ⟨w.heap.size, 0 + j, none⟩ = false) ∧ ∀ j, j < k → wr.cell? ⟨w.heap.size, 0 + j * 2, none⟩ = some (.int .i64 (zs.getD j (0, 0)).1) ∧ wr.cell? ⟨w.heap.size, 0 + j * 2 + 1, none⟩ = some (.int .i64 (zs.getD j (0, 0)).2)) (fun i _ => zs.length - (intOf i).toNat)
  case atStart => exact ⟨0, Nat.zero_le _, rfl, hb1, hlt1, HA.out, fun j hj => by omega⟩
  case round =>
    obtain ⟨k, hkk, rfl, hw, hsz, hf, hc⟩ := hrel
    by_cases hlt : k < zs.length
    · have hpos : zs ≠ [] := by intro h; rw [h] at hlt; simp at hlt
      rcases h1 with h1 | ⟨b1, o1, rfl, h1⟩
      · exact absurd h1 hpos
      obtain ⟨g1, g2⟩ := h1 k hlt
      replace g1 := cellb hw g1
      replace g2 := cellb hw g2
      have hltI : (k : Int) < (zs.length : Int) := by omega
      have HF := hide hf
      have HC := hide hc
      clear hf hc h1 hpos HA hb1 hlt1
      have HG : Hid ((zs.getD k (0, 0)) = ((zs.getD k (0, 0)).1, (zs.getD k (0, 0)).2)) := rfl
      generalize hcc : (zs.getD k (0, 0)).1 = c at *
      generalize hgg : (zs.getD k (0, 0)).2 = g at *
      clear hcc hgg
      go_wp2_with fail
      refine (toCell_calls c g _).mono ?_
      rintro e w2 ⟨rfl, hb2⟩
      have hs2 : w.heap.size < w2.heap.size := Nat.lt_of_lt_of_le hsz hb2.size
      have hw2 := hw.trans (hb2.mono (by omega))
      have HF2 : Hid (∀ j, j < zs.length * 2 → (∃ u, w2.cell? ⟨w.heap.size, 0 + j, none⟩ = some u) ∧ w2.frozen? ⟨w.heap.size, 0 + j, none⟩ = false) := fun j hj => by
        obtain ⟨⟨u, hu⟩, hfz⟩ := HF.out j hj
        exact ⟨⟨u, cellb hb2 hu⟩, by rw [hb2.frozen (p := ⟨w.heap.size, 0 + j, none⟩) hsz]; exact hfz⟩
      have HC2 : Hid (∀ j, j < k → w2.cell? ⟨w.heap.size, 0 + j * 2, none⟩ = some (.int .i64 (zs.getD j (0, 0)).1) ∧ w2.cell? ⟨w.heap.size, 0 + j * 2 + 1, none⟩ = some (.int .i64 (zs.getD j (0, 0)).2)) := fun j hj => ⟨cellb hb2 (HC.out j hj).1, cellb hb2 (HC.out j hj).2⟩
      obtain ⟨⟨u, k1⟩, f1⟩ := HF2.out (k * 2) (by omega)
      obtain ⟨⟨u', k2⟩, f2⟩ := HF2.out (k * 2 + 1) (by omega)
      have K1 := hide k1
      have K2 := hide k2
      rw [Nat.zero_add] at k1 f1 k2 f2
      clear g1 g2 HF HC hw hb2 hsz
      go_wp2
      go_roundw
      case rel =>
        obtain ⟨s1, s2, so⟩ := two_cells (x := .int .i64 c) (y := .int .i64 g) k1 k2
        refine ⟨k + 1, by omega, by go_num, (hw2.setCell (Nat.le_refl _) _).setCell (Nat.le_refl _) _, by simpa [World.setCell] using hs2, fun j hj => ⟨?_, ?_⟩, fun j hj => ?_⟩
        · rw [Nat.zero_add]
          by_cases e : j = k * 2
          · subst e; exact ⟨_, s1⟩
          · by_cases e' : j = k * 2 + 1
            · subst e'; exact ⟨_, s2⟩
            · rw [so j e e']; obtain ⟨u, hu⟩ := (HF2.out j hj).1; rw [Nat.zero_add] at hu; exact ⟨u, hu⟩
        · simp only [World.frozen?_setCell]; exact (HF2.out j hj).2
        · by_cases e : j = k
          · subst e; rw [Nat.zero_add, s1, s2, HG.out]; exact ⟨rfl, rfl⟩
          · rw [Nat.zero_add, so _ (by omega) (by omega), so _ (by omega) (by omega)]
            have := HC2.out j (by omega)
            rw [Nat.zero_add] at this
            exact this
      case measure => simp [intOf]; omega
    · have hk' : k = zs.length := by omega
      subst hk'
      go_wp2
      go_ret
      exact ⟨_, rfl, ⟨_, _, rfl, .inr ⟨w.heap.size, 0, rfl, Nat.le_refl _, hsz, fun i hi => ⟨hc i hi, (hf (i * 2) (by omega)).2, (hf (i * 2 + 1) (by omega)).2⟩⟩⟩, hw⟩

end Go.Proofs.YtknkbihjboadjaaDoor

/- The laws' functions on grids and on their results: szGrid, toGrid, eqGrid, markGrid, heldGrid, eqGridResult, markGridResult, heldGridResult. -/
namespace Go.Proofs.YtknkbihjboadjaaDoor
set_option maxRecDepth 20000
open Go.ChangeShapes Go.WideShapes Go.ChangeAt Go.RowKit
set_option linter.unusedVariables false
set_option linter.unusedSimpArgs false

set_option maxHeartbeats 400000 in
theorem szCellS_calls (n : Nat) (L : Int) (hL : 0 ≤ L) (hL2 : L ≤ 1048576) (a : Option Addr) (cap : Nat) (w : World) (hn : n ≤ maxLen) :
    Calls Tryd.prog 51 #[.slice a n cap, .int .i64 L] w fun e w' => e = .returned (.int .i64 (if (n : Int) ≤ L then L - n else -1)) ∧ w' = w := by
  unfold maxLen at hn
  by_cases h : (n : Int) ≤ L
  · rw [if_pos h]
    have hge : ¬ ((L - (n : Int)) < 0) := by omega
    go_enter Tryd.func51, Tryd.ntmps51
    go_wp2
    go_ret
    exact ⟨rfl, rfl⟩
  · rw [if_neg h]
    have hge : ((L - (n : Int)) < 0) := by omega
    go_enter Tryd.func51, Tryd.ntmps51
    go_wp2
    go_ret
    exact ⟨rfl, rfl⟩
set_option maxHeartbeats 400000 in
theorem szGrid_calls (r wd : Int) (n m : Nat) (a1 a2 : Option Addr) (c1 c2 : Nat) (L : Int) (hL : 0 ≤ L) (hL2 : L ≤ 1048576) (w : World) (hn : n ≤ maxLen) (hm : m ≤ maxLen) :
    Calls Tryd.prog 19 #[.agg #[.int .i64 r, .int .i64 wd, .slice a1 n c1, .slice a2 m c2], .int .i64 L] w fun e w' => e = .returned (.int .i64 (if (n : Int) + m ≤ L then L - n - m else -1)) ∧ Below w.heap.size w w' := by
  have hn' := hn
  unfold maxLen at hn'
  have hm' := hm
  unfold maxLen at hm'
  go_enter Tryd.func19, Tryd.ntmps19
  go_wp2_with fail
  refine (szCellS_calls n L hL hL2 a1 c1 _ hn).mono ?_
  rintro e w1 ⟨rfl, rfl⟩
  by_cases h : (n : Int) ≤ L
  · rw [if_pos h]
    have hge : ¬ ((L - (n : Int)) < 0) := by omega
    go_wp2_with fail
    refine (szCellS_calls m (L - n) (by omega) (by omega) a2 c2 _ hm).mono ?_
    rintro e w1 ⟨rfl, rfl⟩
    by_cases h2 : (m : Int) ≤ L - n
    · rw [if_pos h2]
      have hge2 : ¬ ((L - (n : Int) - m) < 0) := by omega
      go_wp2
      go_ret
      exact ⟨by first | rfl | (rw [if_pos (show (n : Int) + m ≤ L by omega)]; rfl), (by repeat' (first | with_reducible exact Below.refl _ _ | with_reducible assumption | with_reducible refine Below.drew ?_ | with_reducible refine Below.alloc ?_ ?_ _ | with_reducible refine Below.setCell ?_ ?_ _ | (simp; done) | (simp; omega) | omega))⟩
    · rw [if_neg h2]
      go_wp2
      go_ret
      exact ⟨by first | rfl | (rw [if_neg (show ¬ (n : Int) + m ≤ L by omega)]; rfl), (by repeat' (first | with_reducible exact Below.refl _ _ | with_reducible assumption | with_reducible refine Below.drew ?_ | with_reducible refine Below.alloc ?_ ?_ _ | with_reducible refine Below.setCell ?_ ?_ _ | (simp; done) | (simp; omega) | omega))⟩
  · rw [if_neg h]
    go_wp2
    go_ret
    exact ⟨by first | rfl | (rw [if_neg (show ¬ (n : Int) + m ≤ L by omega)]; rfl), (by repeat' (first | with_reducible exact Below.refl _ _ | with_reducible assumption | with_reducible refine Below.drew ?_ | with_reducible refine Below.alloc ?_ ?_ _ | with_reducible refine Below.setCell ?_ ?_ _ | (simp; done) | (simp; omega) | omega))⟩

set_option maxHeartbeats 1000000 in
theorem toGrid_calls (r wd : Int) (cs bs : List (Int × Int)) (v1 v2 : Value) (w : World) (hn1 : cs.length ≤ 1048576) (hn2 : bs.length ≤ 1048576) (h1 : PRead w v1 cs) (h2 : PRead w v2 bs) :
    Calls Tryd.prog 24 #[.agg #[.int .i64 r, .int .i64 wd, v1, v2]] w fun e w' => ∃ x y, e = .returned (.agg #[.int .i64 r, .int .i64 wd, x, y]) ∧ GOwn w.heap.size w'.heap.size w' x y cs bs ∧ Below w.heap.size w w' := by
  have h1' := h1
  obtain ⟨a1, c1, rfl, _⟩ := h1'
  have h2' := h2
  obtain ⟨a2, c2, rfl, _⟩ := h2'
  go_enter Tryd.func24, Tryd.ntmps24
  go_wp2_with fail
  refine (toCellS_calls cs _ _ hn1 (h1.below ?hb)).mono ?_
  case hb => exact (by repeat' (first | with_reducible exact Below.refl _ _ | with_reducible assumption | with_reducible refine Below.drew ?_ | with_reducible refine Below.alloc ?_ ?_ _ | with_reducible refine Below.setCell ?_ ?_ _ | (simp; done) | (simp; omega) | omega))
  rintro e w1 ⟨x, rfl, hx, hb1⟩
  have hW : Below w.heap.size w _ := Below.trans (b := _) ?hq (hb1.mono ?hq2)
  case hq => exact (by repeat' (first | with_reducible exact Below.refl _ _ | with_reducible assumption | with_reducible refine Below.drew ?_ | with_reducible refine Below.alloc ?_ ?_ _ | with_reducible refine Below.setCell ?_ ?_ _ | (simp; done) | (simp; omega) | omega))
  case hq2 => simp [World.setCell]; omega
  have hs1 : w.heap.size + 3 ≤ w1.heap.size := by have := hb1.size; simp [World.setCell] at this; omega
  have A3 : w1.cell? ⟨w.heap.size, 3, none⟩ = some (.slice a2 bs.length c2) := cellb hb1 (by simp [go_sem])
  have k0 : w1.cell? ⟨w.heap.size + 1, 0, none⟩ = some (.int .i64 0) := cellb hb1 (by simp [go_sem])
  have k1 : w1.cell? ⟨w.heap.size + 1, 1, none⟩ = some (.int .i64 0) := cellb hb1 (by simp [go_sem])
  have k2 : w1.cell? ⟨w.heap.size + 1, 2, none⟩ = some (.slice none 0 0) := cellb hb1 (by simp [go_sem])
  have k3 : w1.cell? ⟨w.heap.size + 1, 3, none⟩ = some (.slice none 0 0) := cellb hb1 (by simp [go_sem])
  have j0 : w1.cell? ⟨w.heap.size + 2, 0, none⟩ = some (.int .i64 r) := cellb hb1 (by simp [go_sem])
  have j1 : w1.cell? ⟨w.heap.size + 2, 1, none⟩ = some (.int .i64 wd) := cellb hb1 (by simp [go_sem])
  have j2 : w1.cell? ⟨w.heap.size + 2, 2, none⟩ = some (.slice none 0 0) := cellb hb1 (by simp [go_sem])
  have j3 : w1.cell? ⟨w.heap.size + 2, 3, none⟩ = some (.slice none 0 0) := cellb hb1 (by simp [go_sem])
  have fz : ∀ b o, b < w.heap.size + 3 → w.heap.size ≤ b → w1.frozen? ⟨b, o, none⟩ = false := fun b o hb hb' => by
    rw [hb1.frozen (p := ⟨b, o, none⟩) (by simp [World.setCell]; omega)]
    try simp only [World.frozen?_setCell]
    obtain rfl | rfl | rfl : b = w.heap.size ∨ b = w.heap.size + 1 ∨ b = w.heap.size + 2 := by omega
    all_goals simp [go_sem]
  have z0 := fz (w.heap.size + 1) 0 (by omega) (by omega)
  have z1 := fz (w.heap.size + 1) 1 (by omega) (by omega)
  have z2 := fz (w.heap.size + 1) 2 (by omega) (by omega)
  have z3 := fz (w.heap.size + 1) 3 (by omega) (by omega)
  have y2 := fz (w.heap.size + 2) 2 (by omega) (by omega)
  have y3 := fz (w.heap.size + 2) 3 (by omega) (by omega)
  obtain ⟨a3, c3, rfl, hx'⟩ := hx
  have hx : PairsAt (w.heap.size + 3) w1.heap.size w1 (.slice a3 cs.length c3) cs := PairsAt.mono ⟨a3, c3, rfl, hx'⟩ (by simp [World.setCell]) (Nat.le_refl _)
  clear hx' hb1 fz
  have t2 : Touch (w.heap.size + 2) 2 3 w1 (w1.setCell ⟨w.heap.size + 2, 2, none⟩ (.slice a3 cs.length c3)) := (Touch.refl _ _ _ _).setCell (by omega) (by omega) _
  have J2 : (w1.setCell ⟨w.heap.size + 2, 2, none⟩ (.slice a3 cs.length c3)).cell? ⟨w.heap.size + 2, 2, none⟩ = some (.slice a3 cs.length c3) := World.cell?_setCell_same _ _ _ j2
  go_wp2_with fail
  generalize (w1.setCell ⟨w.heap.size + 2, 2, none⟩ (.slice a3 cs.length c3)) = w2 at *
  have hW2 : Below w.heap.size w w2 := hW.trans (t2.below (by omega) (by omega))
  refine (toCellS_calls bs _ _ hn2 (h2.below hW2)).mono ?_
  rintro e w3 ⟨y, rfl, hy, hb3⟩
  have hs2 : w1.heap.size ≤ w2.heap.size := t2.size
  have hs3 : w2.heap.size ≤ w3.heap.size := hb3.size
  have hW3 : Below w.heap.size w w3 := hW2.trans (hb3.mono (by omega))
  replace k0 := cellb hb3 (t2.cellAt k0 (by omega))
  replace k1 := cellb hb3 (t2.cellAt k1 (by omega))
  replace k2 := cellb hb3 (t2.cellAt k2 (by omega))
  replace k3 := cellb hb3 (t2.cellAt k3 (by omega))
  replace j0 := cellb hb3 (t2.cellAt j0 (by omega))
  replace j1 := cellb hb3 (t2.cellAt j1 (by omega))
  replace j3 := cellb hb3 (t2.cellAt j3 (by omega))
  replace J2 := cellb hb3 J2
  replace z0 : w3.frozen? ⟨w.heap.size + 1, 0, none⟩ = false := by rw [hb3.frozen (p := ⟨w.heap.size + 1, 0, none⟩) (by simp; omega)]; exact t2.frozenAt (by omega) z0
  replace z1 : w3.frozen? ⟨w.heap.size + 1, 1, none⟩ = false := by rw [hb3.frozen (p := ⟨w.heap.size + 1, 1, none⟩) (by simp; omega)]; exact t2.frozenAt (by omega) z1
  replace z2 : w3.frozen? ⟨w.heap.size + 1, 2, none⟩ = false := by rw [hb3.frozen (p := ⟨w.heap.size + 1, 2, none⟩) (by simp; omega)]; exact t2.frozenAt (by omega) z2
  replace z3 : w3.frozen? ⟨w.heap.size + 1, 3, none⟩ = false := by rw [hb3.frozen (p := ⟨w.heap.size + 1, 3, none⟩) (by simp; omega)]; exact t2.frozenAt (by omega) z3
  replace y3 : w3.frozen? ⟨w.heap.size + 2, 3, none⟩ = false := by rw [hb3.frozen (p := ⟨w.heap.size + 2, 3, none⟩) (by simp; omega)]; exact t2.frozenAt (by omega) y3
  replace hx := (hx.within (t2.within (lo := w.heap.size) (hi := w.heap.size + 3) (by omega) (by omega)) (Nat.le_refl _) (by omega)).below hb3 (by omega)
  obtain ⟨a4, c4, rfl, hy'⟩ := hy
  have hy : PairsAt w2.heap.size w3.heap.size w3 (.slice a4 bs.length c4) bs := ⟨a4, c4, rfl, hy'⟩
  clear hy' t2 hb3 hW hW2 A3 j2 y2
  have J3 : (w3.setCell ⟨w.heap.size + 2, 3, none⟩ (.slice a4 bs.length c4)).cell? ⟨w.heap.size + 2, 3, none⟩ = some (.slice a4 bs.length c4) := World.cell?_setCell_same _ _ _ j3
  have t3 : Touch (w.heap.size + 2) 3 4 w3 (w3.setCell ⟨w.heap.size + 2, 3, none⟩ (.slice a4 bs.length c4)) := (Touch.refl _ _ _ _).setCell (by omega) (by omega) _
  have HR := hide (res4 (w := w3.setCell ⟨w.heap.size + 2, 3, none⟩ (.slice a4 bs.length c4)) (r := w.heap.size + 1) (.int .i64 r) (.int .i64 wd) (.slice a3 cs.length c3) (.slice a4 bs.length c4) (t3.cellAt k0 (by omega)) (t3.cellAt k1 (by omega)) (t3.cellAt k2 (by omega)) (t3.cellAt k3 (by omega)))
  have T0 := hide t3
  clear t3
  go_wp2
  have hr := HR.out
  refine bodyPost_ret (v := .agg #[.int .i64 r, .int .i64 wd, .slice a3 cs.length c3, .slice a4 bs.length c4]) (by simp only [results, Tryd.results24]; simp [go_sem, hr.1, hr.2.1, hr.2.2.1, hr.2.2.2]) rfl ⟨_, _, rfl, ?_, ?_⟩
  · refine (GOwn.of hx hy (lo := w.heap.size + 3) (hi := w3.heap.size) (by omega) (by omega) (by omega) (by omega) (by omega)).of_blocks ?_ |>.mono (by omega) (by simp [World.setCell])
    intro i hi _
    simp only [World.setCell, Array.getElem?_modify]
    repeat rw [if_neg (by omega)]
  · exact (by repeat' (first | with_reducible exact Below.refl _ _ | with_reducible assumption | with_reducible refine Below.drew ?_ | with_reducible refine Below.alloc ?_ ?_ _ | with_reducible refine Below.setCell ?_ ?_ _ | (simp; done) | (simp; omega) | omega))

set_option maxHeartbeats 400000 in
theorem eqGrid_calls (r wd : Int) (cs bs : List (Int × Int)) (u1 u2 v1 v2 : Value) (w : World) (hn1 : cs.length ≤ 1000000000) (hn2 : bs.length ≤ 1000000000) (h1 : PRead w u1 cs) (h2 : PRead w u2 bs) (h3 : PRead w v1 cs) (h4 : PRead w v2 bs) :
    Calls Tryd.prog 36 #[.agg #[.int .i64 r, .int .i64 wd, u1, u2], .agg #[.int .i64 r, .int .i64 wd, v1, v2]] w fun e w' => e = .returned (.bool true) ∧ Below w.heap.size w w' := by
  have h1' := h1
  obtain ⟨a1, c1, rfl, _⟩ := h1'
  have h2' := h2
  obtain ⟨a2, c2, rfl, _⟩ := h2'
  have h3' := h3
  obtain ⟨a3, c3, rfl, _⟩ := h3'
  have h4' := h4
  obtain ⟨a4, c4, rfl, _⟩ := h4'
  have hne1 : (r != r) = false := by simp
  have hne2 : (wd != wd) = false := by simp
  go_enter Tryd.func36, Tryd.ntmps36
  go_wp2_with fail
  have hb : Below w.heap.size w ((w.alloc (.cells #[.int .i64 r, .int .i64 wd, .slice a1 cs.length c1, .slice a2 bs.length c2] 36)).alloc (.cells #[.int .i64 r, .int .i64 wd, .slice a3 cs.length c3, .slice a4 bs.length c4] 36)) := (by repeat' (first | with_reducible exact Below.refl _ _ | with_reducible assumption | with_reducible refine Below.drew ?_ | with_reducible refine Below.alloc ?_ ?_ _ | with_reducible refine Below.setCell ?_ ?_ _ | (simp; done) | (simp; omega) | omega))
  refine (eqCellS_calls cs _ _ _ hn1 (h1.below hb) (h3.below hb)).mono ?_
  rintro e w1 ⟨rfl, hb1⟩
  have A3 : w1.cell? ⟨w.heap.size, 3, none⟩ = some (.slice a2 bs.length c2) := cellb hb1 (by simp)
  have B3 : w1.cell? ⟨w.heap.size + 1, 3, none⟩ = some (.slice a4 bs.length c4) := cellb hb1 (by simp)
  have hb2 := hb.trans (hb1.mono hb.size)
  clear hb1 hb
  go_wp2_with fail
  refine (eqCellS_calls bs _ _ _ hn2 (h2.below hb2) (h4.below hb2)).mono ?_
  rintro e w2 ⟨rfl, hb3⟩
  go_wp2
  go_ret
  exact ⟨rfl, hb2.trans (hb3.mono hb2.size)⟩

set_option maxHeartbeats 400000 in
theorem markGrid_calls (r wd : Int) (cs bs : List (Int × Int)) (k0 : Int) (lo hi : Nat) (x y : Value) (w : World) (hn1 : cs.length ≤ 1048576) (hn2 : bs.length ≤ 1048576) (hk : 0 ≤ k0) (hk0 : k0 ≤ 1000) (hh : hi ≤ w.heap.size) (h : GOwn lo hi w x y cs bs) :
    Calls Tryd.prog 39 #[.agg #[.int .i64 r, .int .i64 wd, x, y], .int .i64 k0] w fun e w' => e = .returned (.int .i64 (k0 + 2 * cs.length + 2 * bs.length)) ∧ GOwn lo hi w' x y (marksP k0 cs.length) (marksP (k0 + 2 * cs.length) bs.length) ∧ Within lo hi w w' := by
  obtain ⟨l1, g1, l2, g2, e1, e2, e3, e4, e5, p1, p2⟩ := h.ex
  obtain ⟨a1, c1, a2, c2, rfl, rfl⟩ := h.forms
  have E5 := hide e5
  clear e5 h
  go_enter Tryd.func39, Tryd.ntmps39
  go_wp2_with fail
  have hb : Below w.heap.size w (w.alloc (.cells #[.int .i64 r, .int .i64 wd, .slice a1 cs.length c1, .slice a2 bs.length c2] 36)) := (by repeat' (first | with_reducible exact Below.refl _ _ | with_reducible assumption | with_reducible refine Below.drew ?_ | with_reducible refine Below.alloc ?_ ?_ _ | with_reducible refine Below.setCell ?_ ?_ _ | (simp; done) | (simp; omega) | omega))
  refine (markCellS_calls cs k0 l1 g1 _ _ (by omega) hk (by omega) (p1.below hb (by omega))).mono ?_
  rintro e w1 ⟨rfl, hm1, hw1⟩
  have A3 : w1.cell? ⟨w.heap.size, 3, none⟩ = some (.slice a2 bs.length c2) := hw1.cell (by simp) (by omega) (by simp)
  have p3 := (p2.below hb (by omega)).within hw1 (by simp; omega) (by have := E5.out; omega)
  have hs1 : w.heap.size + 1 ≤ w1.heap.size := by have := hw1.size; simp at this; omega
  go_wp2_with fail
  refine (markCellS_calls bs (k0 + 2 * cs.length) l2 g2 _ _ (by omega) (by omega) (by omega) p3).mono ?_
  rintro e w2 ⟨rfl, hm2, hw2⟩
  have hm1' := hm1.within hw2 (by omega) (by have := E5.out; omega)
  have hs2 := hw2.size
  go_wp2
  go_ret
  refine ⟨rfl, GOwn.of hm1' hm2 (by omega) (by omega) (by omega) (by omega) E5.out, (Within.of_below hb (Nat.le_refl _)).trans ((within_mono hw1 (by omega) (by omega)).trans (within_mono hw2 (by omega) (by omega)))⟩



end Go.Proofs.YtknkbihjboadjaaDoor

/- The copies of an argument: toInt64S, toByteS, walked. -/
namespace Go.Proofs.YtknkbihjboadjaaDoor
set_option maxRecDepth 20000
open Go.ChangeShapes Go.WideShapes Go.ChangeAt Go.RowKit
set_option linter.unusedVariables false
set_option linter.unusedSimpArgs false

theorem info_toInts : (Tryd.prog.info? 2).map (fun i => (i.zero, i.size, i.bytes)) = some (some (.int .i64 0), 1, 8) := by kernel_rfl

set_option maxHeartbeats 400000 in
theorem toInts_calls (zs : List Int) (v : Value) (w : World) (hn : zs.length ≤ 1048576) (h1 : ReadAt .i64 w v zs) :
    Calls Tryd.prog 26 #[v] w fun e w' => ∃ v', e = .returned v' ∧ IntsAt .i64 w.heap.size w'.heap.size w' v' zs ∧ Below w.heap.size w w' := by
  obtain ⟨i0, hi, hz0, hz1, hz2⟩ := info_parts info_toInts
  obtain ⟨a1, c1, rfl, h1⟩ := h1
  go_enter Tryd.func26, Tryd.ntmps26
  go_wp2_with (at_make; refine wpList_make_full _ rfl (.tmp 6) (.tmp 6) 26 rfl w.heap.size 2 i0 (.int .i64 0) 1 Tryd.underlying26 hi hz0 hz1 .i64 .i64 _ _ zs.length rfl rfl rfl rfl ?c1 ?c2 ?c3 ?_)
  case c1 => rw [hz2]; omega
  case c2 => unfold maxLen; omega
  case c3 => exact Nat.le_refl _
  intro w1 hown hgrow
  have hany := own_any hown
  have hlt1 : w.heap.size < w1.heap.size := (hown.lt w.heap.size rfl).2
  have hb1 : Below w.heap.size w w1 := (Below.refl _ _).grown hgrow (Nat.le_refl _) (fun k hk => by cases hk)
  have HA := hide hany
  clear hown hgrow hany
  go_wp2
  go_loopw [4] (fun i wr => ∃ k : Nat, k ≤ zs.length ∧ i = .int .i64 k ∧ Below w.heap.size w wr ∧ w.heap.size < wr.heap.size ∧
      (∀ j, j < zs.length → (∃ u, wr.cell? ⟨w.heap.size, 0 + j, none⟩ = some u) ∧ wr.frozen? ⟨w.heap.size, 0 + j, none⟩ = false) ∧ ∀ j, j < k → wr.cell? ⟨w.heap.size, 0 + j, none⟩ = some (.int .i64 (zs.getD j 0))) (fun i _ => zs.length - (intOf i).toNat)
  case atStart => exact ⟨0, Nat.zero_le _, rfl, hb1, hlt1, HA.out, fun j hj => by omega⟩
  case round =>
    obtain ⟨k, hkk, rfl, hw, hsz, hf, hc⟩ := hrel
    by_cases hlt : k < zs.length
    · have hpos : zs ≠ [] := by intro h; rw [h] at hlt; simp at hlt
      rcases h1 with h1 | ⟨b1, o1, rfl, h1⟩
      · exact absurd h1 hpos
      have g0 := cellb hw (h1 k hlt)
      obtain ⟨⟨u, g1⟩, f1⟩ := hf k hlt
      have hltI : (k : Int) < (zs.length : Int) := by omega
      have HF := hide hf
      have HC := hide hc
      have G1 := hide g1
      rw [Nat.zero_add] at g1 f1
      clear hf hc h1 hpos HA hb1 hlt1
      go_wp2
      go_roundw
      case rel =>
        have e0 : (⟨w.heap.size, k, none⟩ : Addr) = ⟨w.heap.size, 0 + k, none⟩ := by rw [Nat.zero_add]
        refine ⟨k + 1, by omega, by go_num, hw.setCell (Nat.le_refl _) _, by simpa [World.setCell] using hsz, fun j hj => ⟨?_, ?_⟩, fun j hj => ?_⟩
        · by_cases e : j = k
          · subst e; rw [e0]; exact ⟨_, World.cell?_setCell_same _ _ _ G1.out⟩
          · obtain ⟨u', hu'⟩ := (HF.out j hj).1
            exact ⟨u', by rw [World.cell?_setCell_other _ _ _ _ (addr_ne (by omega))]; exact hu'⟩
        · rw [World.frozen?_setCell]; exact (HF.out j hj).2
        · by_cases e : j = k
          · subst e; rw [e0, World.cell?_setCell_same _ _ _ G1.out]; simp [hlt]
          · rw [World.cell?_setCell_other _ _ _ _ (addr_ne (by omega))]; exact HC.out j (by omega)
      case measure => simp [intOf]; omega
    · have hk' : k = zs.length := by omega
      subst hk'
      go_wp2
      go_ret
      exact ⟨_, rfl, ⟨_, _, rfl, .inr ⟨w.heap.size, 0, rfl, Nat.le_refl _, hsz, fun i hi => ⟨hc i hi, (hf i hi).2⟩⟩⟩, hw⟩

end Go.Proofs.YtknkbihjboadjaaDoor

/- szBoolS, toBoolS, eqBoolS, markBoolS, heldBoolS, walked. -/
namespace Go.Proofs.YtknkbihjboadjaaDoor
set_option maxRecDepth 20000
open Go.ChangeShapes Go.WideShapes Go.ChangeAt Go.RowKit
set_option linter.unusedVariables false
set_option linter.unusedSimpArgs false

set_option maxHeartbeats 400000 in
theorem szBools_calls (n : Nat) (L : Int) (hL : 0 ≤ L) (hL2 : L ≤ 1048576) (a : Option Addr) (cap : Nat) (w : World) (hn : n ≤ maxLen) :
    Calls Tryd.prog 20 #[.slice a n cap, .int .i64 L] w fun e w' => e = .returned (.int .i64 (if (n : Int) ≤ L then L - n else -1)) ∧ w' = w := by
  unfold maxLen at hn
  by_cases h : (n : Int) ≤ L
  · rw [if_pos h]
    have hge : ¬ ((L - (n : Int)) < 0) := by omega
    go_enter Tryd.func20, Tryd.ntmps20
    go_wp2
    go_ret
    exact ⟨rfl, rfl⟩
  · rw [if_neg h]
    have hge : ((L - (n : Int)) < 0) := by omega
    go_enter Tryd.func20, Tryd.ntmps20
    go_wp2
    go_ret
    exact ⟨rfl, rfl⟩

theorem info_toBools : (Tryd.prog.info? 4).map (fun i => (i.zero, i.size, i.bytes)) = some (some (.bool false), 1, 1) := by kernel_rfl

set_option maxHeartbeats 400000 in
theorem toBools_calls (zs : List Bool) (v : Value) (w : World) (hn : zs.length ≤ 1048576) (h1 : BRead w v zs) :
    Calls Tryd.prog 25 #[v] w fun e w' => ∃ v', e = .returned v' ∧ BoolsAt w.heap.size w'.heap.size w' v' zs ∧ Below w.heap.size w w' := by
  obtain ⟨i0, hi, hz0, hz1, hz2⟩ := info_parts info_toBools
  obtain ⟨a1, c1, rfl, h1⟩ := h1
  go_enter Tryd.func25, Tryd.ntmps25
  go_wp2_with (at_make; refine wpList_make_full _ rfl (.tmp 6) (.tmp 6) 25 rfl w.heap.size 4 i0 (.bool false) 1 Tryd.underlying25 hi hz0 hz1 .i64 .i64 _ _ zs.length rfl rfl rfl rfl ?c1 ?c2 ?c3 ?_)
  case c1 => rw [hz2]; omega
  case c2 => unfold maxLen; omega
  case c3 => exact Nat.le_refl _
  intro w1 hown hgrow
  have hany := own_any hown
  have hlt1 : w.heap.size < w1.heap.size := (hown.lt w.heap.size rfl).2
  have hb1 : Below w.heap.size w w1 := (Below.refl _ _).grown hgrow (Nat.le_refl _) (fun k hk => by cases hk)
  have HA := hide hany
  clear hown hgrow hany
  go_wp2
  go_loopw [4] (fun i wr => ∃ k : Nat, k ≤ zs.length ∧ i = .int .i64 k ∧ Below w.heap.size w wr ∧ w.heap.size < wr.heap.size ∧
      (∀ j, j < zs.length → (∃ u, wr.cell? ⟨w.heap.size, 0 + j, none⟩ = some u) ∧ wr.frozen? ⟨w.heap.size, 0 + j, none⟩ = false) ∧ ∀ j, j < k → wr.cell? ⟨w.heap.size, 0 + j, none⟩ = some (.bool (zs.getD j false))) (fun i _ => zs.length - (intOf i).toNat)
  case atStart => exact ⟨0, Nat.zero_le _, rfl, hb1, hlt1, HA.out, fun j hj => by omega⟩
  case round =>
    obtain ⟨k, hkk, rfl, hw, hsz, hf, hc⟩ := hrel
    by_cases hlt : k < zs.length
    · have hpos : zs ≠ [] := by intro h; rw [h] at hlt; simp at hlt
      rcases h1 with h1 | ⟨b1, o1, rfl, h1⟩
      · exact absurd h1 hpos
      have g0 := cellb hw (h1 k hlt)
      obtain ⟨⟨u, g1⟩, f1⟩ := hf k hlt
      have hltI : (k : Int) < (zs.length : Int) := by omega
      have HF := hide hf
      have HC := hide hc
      have G1 := hide g1
      rw [Nat.zero_add] at g1 f1
      clear hf hc h1 hpos HA hb1 hlt1
      go_wp2
      go_roundw
      case rel =>
        have e0 : (⟨w.heap.size, k, none⟩ : Addr) = ⟨w.heap.size, 0 + k, none⟩ := by rw [Nat.zero_add]
        refine ⟨k + 1, by omega, by go_num, hw.setCell (Nat.le_refl _) _, by simpa [World.setCell] using hsz, fun j hj => ⟨?_, ?_⟩, fun j hj => ?_⟩
        · by_cases e : j = k
          · subst e; rw [e0]; exact ⟨_, World.cell?_setCell_same _ _ _ G1.out⟩
          · obtain ⟨u', hu'⟩ := (HF.out j hj).1
            exact ⟨u', by rw [World.cell?_setCell_other _ _ _ _ (addr_ne (by omega))]; exact hu'⟩
        · rw [World.frozen?_setCell]; exact (HF.out j hj).2
        · by_cases e : j = k
          · subst e; rw [e0, World.cell?_setCell_same _ _ _ G1.out]; simp [hlt]
          · rw [World.cell?_setCell_other _ _ _ _ (addr_ne (by omega))]; exact HC.out j (by omega)
      case measure => simp [intOf]; omega
    · have hk' : k = zs.length := by omega
      subst hk'
      go_wp2
      go_ret
      exact ⟨_, rfl, ⟨_, _, rfl, .inr ⟨w.heap.size, 0, rfl, Nat.le_refl _, hsz, fun i hi => ⟨hc i hi, (hf i hi).2⟩⟩⟩, hw⟩

set_option maxHeartbeats 400000 in
theorem eqBools_calls (xs : List Bool) (v1 v2 : Value) (w : World) (hn : xs.length ≤ 1000000000) (h1 : BRead w v1 xs) (h2 : BRead w v2 xs) :
    Calls Tryd.prog 37 #[v1, v2] w fun e w' => e = .returned (.bool true) ∧ ∃ n, w' = w.drewN n := by
  obtain ⟨a1, c1, rfl, h1⟩ := h1
  obtain ⟨a2, c2, rfl, h2⟩ := h2
  have hne : ((xs.length : Int) != (xs.length : Int)) = false := by simp
  go_enter Tryd.func37, Tryd.ntmps37
  go_wp2
  go_loopw [5] (fun i wr => ∃ k : Nat, k ≤ xs.length ∧ i = .int .i64 k ∧ ∃ n, wr = w.drewN n) (fun i _ => xs.length - (intOf i).toNat)
  case atStart => exact ⟨0, Nat.zero_le _, rfl, 0, rfl⟩
  case round =>
    obtain ⟨k, hk, rfl, n, rfl⟩ := hrel
    by_cases hlt : k < xs.length
    · have hpos : xs ≠ [] := by intro h; rw [h] at hlt; simp at hlt
      rcases h1 with h1 | ⟨b1, o1, rfl, h1⟩
      · exact absurd h1 hpos
      rcases h2 with h2 | ⟨b2, o2, rfl, h2⟩
      · exact absurd h2 hpos
      have g1 := h1 k hlt
      have g2 := h2 k hlt
      clear h1 h2 hpos
      have hltI : (k : Int) < (xs.length : Int) := by omega
      go_wp2_with fail
      go_quiet (fail)
      have hne2 : ((xs.getD k false) != xs.getD k false) = false := by simp
      go_wp2
      go_roundw
      case rel => exact ⟨k + 1, by omega, by go_num, _, rfl⟩
      case measure => simp [intOf]; omega
    · go_wp2
      go_ret
      exact ⟨rfl, _, rfl⟩

theorem eqBools_below (xs : List Bool) (v1 v2 : Value) (w : World) (hn : xs.length ≤ 1000000000) (h1 : BRead w v1 xs) (h2 : BRead w v2 xs) :
    Calls Tryd.prog 37 #[v1, v2] w fun e w' => e = .returned (.bool true) ∧ Below w.heap.size w w' :=
  (eqBools_calls xs v1 v2 w hn h1 h2).mono fun e w' ⟨he, n, hw⟩ => ⟨he, by rw [hw]; exact below_drewN (Below.refl _ _) n⟩

set_option maxHeartbeats 400000 in
theorem szSets_calls (n : Nat) (L : Int) (hL : 0 ≤ L) (hL2 : L ≤ 1048576) (a : Option Addr) (cap : Nat) (w : World) (hn : n ≤ maxLen) :
    Calls Tryd.prog 21 #[.slice a n cap, .int .i64 L] w fun e w' => e = .returned (.int .i64 (if (n : Int) ≤ L then L - n else -1)) ∧ w' = w := by
  unfold maxLen at hn
  by_cases h : (n : Int) ≤ L
  · rw [if_pos h]
    have hge : ¬ ((L - (n : Int)) < 0) := by omega
    go_enter Tryd.func21, Tryd.ntmps21
    go_wp2
    go_ret
    exact ⟨rfl, rfl⟩
  · rw [if_neg h]
    have hge : ((L - (n : Int)) < 0) := by omega
    go_enter Tryd.func21, Tryd.ntmps21
    go_wp2
    go_ret
    exact ⟨rfl, rfl⟩

end Go.Proofs.YtknkbihjboadjaaDoor

/- eqInt64S, markInt64S, heldInt64S, walked. -/
namespace Go.Proofs.YtknkbihjboadjaaDoor
set_option maxRecDepth 20000
open Go.ChangeShapes Go.WideShapes Go.ChangeAt Go.RowKit
set_option linter.unusedVariables false
set_option linter.unusedSimpArgs false

set_option maxHeartbeats 400000 in
theorem eqInts_calls (xs : List Int) (v1 v2 : Value) (w : World) (hn : xs.length ≤ 1000000000) (h1 : ReadAt .i64 w v1 xs) (h2 : ReadAt .i64 w v2 xs) :
    Calls Tryd.prog 38 #[v1, v2] w fun e w' => e = .returned (.bool true) ∧ ∃ n, w' = w.drewN n := by
  obtain ⟨a1, c1, rfl, h1⟩ := h1
  obtain ⟨a2, c2, rfl, h2⟩ := h2
  have hne : ((xs.length : Int) != (xs.length : Int)) = false := by simp
  go_enter Tryd.func38, Tryd.ntmps38
  go_wp2
  go_loopw [5] (fun i wr => ∃ k : Nat, k ≤ xs.length ∧ i = .int .i64 k ∧ ∃ n, wr = w.drewN n) (fun i _ => xs.length - (intOf i).toNat)
  case atStart => exact ⟨0, Nat.zero_le _, rfl, 0, rfl⟩
  case round =>
    obtain ⟨k, hk, rfl, n, rfl⟩ := hrel
    by_cases hlt : k < xs.length
    · have hpos : xs ≠ [] := by intro h; rw [h] at hlt; simp at hlt
      rcases h1 with h1 | ⟨b1, o1, rfl, h1⟩
      · exact absurd h1 hpos
      rcases h2 with h2 | ⟨b2, o2, rfl, h2⟩
      · exact absurd h2 hpos
      have g1 := h1 k hlt
      have g2 := h2 k hlt
      clear h1 h2 hpos
      have hltI : (k : Int) < (xs.length : Int) := by omega
      go_wp2_with fail
      go_quiet (fail)
      have hne2 : ((xs.getD k 0 : Int) != xs.getD k 0) = false := by simp
      go_wp2
      go_roundw
      case rel => exact ⟨k + 1, by omega, by go_num, _, rfl⟩
      case measure => simp [intOf]; omega
    · go_wp2
      go_ret
      exact ⟨rfl, _, rfl⟩

set_option maxHeartbeats 400000 in
theorem markInts_calls (xs : List Int) (k0 : Int) (lo hi : Nat) (v : Value) (w : World) (hn : xs.length ≤ 1000000000) (hk : 0 ≤ k0) (hk0 : k0 ≤ 1000000000) (h1 : IntsAt .i64 lo hi w v xs) :
    Calls Tryd.prog 41 #[v, .int .i64 k0] w fun e w' => e = .returned (.int .i64 (k0 + xs.length)) ∧ IntsAt .i64 lo hi w' v (marks k0 xs.length) ∧ Within lo hi w w' := by
  obtain ⟨a1, c1, rfl, h1⟩ := h1
  by_cases hnil : xs = []
  · subst hnil
    go_enter Tryd.func41, Tryd.ntmps41
    go_wp2
    go_loop [1, 5] (fun t i => t = .int .i64 k0 ∧ i = .int .i64 0) (fun _ i => 0)
    case atStart => exact ⟨rfl, rfl⟩
    case round =>
      obtain ⟨rfl, rfl⟩ := hrel
      go_wp2
      go_ret
      exact ⟨rfl, IntsAt.nil _ _ _ _ _ _, Within.refl _ _ _⟩
  · rcases h1 with h1 | ⟨b, off, rfl, hl, hh, h1⟩
    · exact absurd h1 hnil
    go_enter Tryd.func41, Tryd.ntmps41
    go_wp2
    go_loopw [1, 5] (fun t i wr => ∃ k : Nat, k ≤ xs.length ∧ i = .int .i64 k ∧ t = .int .i64 (k0 + k) ∧ Within lo hi w wr ∧
        (∀ j, j < xs.length → wr.frozen? ⟨b, off + j, none⟩ = false) ∧ (∀ j, j < xs.length → ∃ u, wr.cell? ⟨b, off + j, none⟩ = some u) ∧ ∀ j, j < k → wr.cell? ⟨b, off + j, none⟩ = some (.int .i64 (k0 + j))) (fun _ i _ => xs.length - (intOf i).toNat)
    case atStart => exact ⟨0, Nat.zero_le _, rfl, by simp, Within.refl _ _ _, fun j hj => (h1 j hj).2, fun j hj => ⟨_, (h1 j hj).1⟩, fun j hj => by omega⟩
    case round =>
      obtain ⟨k, hkk, rfl, rfl, hw, hf, hu, hc⟩ := hrel
      by_cases hlt : k < xs.length
      · have f1 := hf k hlt
        obtain ⟨u, g1⟩ := hu k hlt
        have hltI : (k : Int) < (xs.length : Int) := by omega
        have HF : Hid (∀ j, j < xs.length → wr.frozen? ⟨b, off + j, none⟩ = false) := hf
        have HU : Hid (∀ j, j < xs.length → ∃ u, wr.cell? ⟨b, off + j, none⟩ = some u) := hu
        have HC : Hid (∀ j, j < k → wr.cell? ⟨b, off + j, none⟩ = some (.int .i64 (k0 + j))) := hc
        clear hf hu hc h1
        go_wp2
        go_roundw
        case rel =>
          refine ⟨k + 1, by omega, by go_num, by go_num, hw.setCell hl hh _, fun j hj => ?_, fun j hj => ?_, fun j hj => ?_⟩
          · rw [World.frozen?_setCell]; exact HF.out j hj
          · by_cases e : j = k
            · subst e; exact ⟨_, World.cell?_setCell_same _ _ _ g1⟩
            · obtain ⟨u', hu'⟩ := HU.out j hj
              exact ⟨u', by rw [World.cell?_setCell_other _ _ _ _ (addr_ne (by omega))]; exact hu'⟩
          · by_cases e : j = k
            · subst e; rw [World.cell?_setCell_same _ _ _ g1]
            · rw [World.cell?_setCell_other _ _ _ _ (addr_ne (by omega))]; exact HC.out j (by omega)
        case measure => simp [intOf]; omega
      · have hk' : k = xs.length := by omega
        subst hk'
        go_wp2
        go_ret
        refine ⟨rfl, ⟨_, _, by rw [marks_length], .inr ⟨b, off, rfl, hl, hh, fun i hi => ?_⟩⟩, hw⟩
        rw [marks_length] at hi
        rw [marks_get _ _ _ hi]
        exact ⟨hc i hi, hf i hi⟩

theorem eqInts_below (xs : List Int) (v1 v2 : Value) (w : World) (hn : xs.length ≤ 1000000000) (h1 : ReadAt .i64 w v1 xs) (h2 : ReadAt .i64 w v2 xs) :
    Calls Tryd.prog 38 #[v1, v2] w fun e w' => e = .returned (.bool true) ∧ Below w.heap.size w w' :=
  (eqInts_calls xs v1 v2 w hn h1 h2).mono fun e w' ⟨he, n, hw⟩ => ⟨he, by rw [hw]; exact below_drewN (Below.refl _ _) n⟩

end Go.Proofs.YtknkbihjboadjaaDoor

/- The laws' functions on screens: szScreen, toScreen, eqScreen. -/
namespace Go.Proofs.YtknkbihjboadjaaDoor
set_option maxRecDepth 20000
open Go.ChangeShapes Go.WideShapes Go.ChangeAt Go.RowKit
set_option linter.unusedVariables false
set_option linter.unusedSimpArgs false
set_option maxRecDepth 20000

def scr0 : Scr := ⟨0, 0, [], [], 0, 0, false, 0, 0, 0, false, false, false, [], 0, 0, 0, [], 0, 0⟩

set_option maxHeartbeats 1000000 in
theorem szScreen_calls (s : Scr) (v1 v2 v3 v4 : Value) (L : Int) (hL : 0 ≤ L) (hL2 : L ≤ 1048576) (w : World) (h : SRead w s v1 v2 v3 v4) (hn : s.cs.length ≤ maxLen) (hm : s.bs.length ≤ maxLen) (ht : s.tabs.length ≤ maxLen) (hs : s.sets.length ≤ maxLen) :
    Calls Tryd.prog 6 #[.agg (scrA s v1 v2 v3 v4), .int .i64 L] w fun e w' => e = .returned (.int .i64 (if (s.cs.length : Int) + s.bs.length + s.tabs.length + s.sets.length ≤ L then L - s.cs.length - s.bs.length - s.tabs.length - s.sets.length else -1)) ∧ Below w.heap.size w w' := by
  have e0 := scrA_0 s v1 v2 v3 v4
  have e1 := scrA_1 s v1 v2 v3 v4
  have e2 := scrA_2 s v1 v2 v3 v4
  have e3 := scrA_3 s v1 v2 v3 v4
  have e13 := scrA_13 s v1 v2 v3 v4
  have e17 := scrA_17 s v1 v2 v3 v4
  obtain ⟨a1, c1, a2, c2, a3, c3, a4, c4, rfl, rfl, rfl, rfl⟩ := h.forms
  clear h
  have bel0 : Below w.heap.size w (w.alloc (.cells (scrA s (.slice a1 s.cs.length c1) (.slice a2 s.bs.length c2) (.slice a3 s.tabs.length c3) (.slice a4 s.sets.length c4)) 28)) := (Below.refl _ w).alloc (Nat.le_refl _) _
  have B0 := Blk.new w (scrA s (.slice a1 s.cs.length c1) (.slice a2 s.bs.length c2) (.slice a3 s.tabs.length c3) (.slice a4 s.sets.length c4)) 28
  go_enter Tryd.func6, Tryd.ntmps6
  go_wp2_with fail
  refine (szGrid_calls s.r s.wd s.cs.length s.bs.length a1 a2 c1 c2 L hL hL2 _ hn hm).mono ?_
  rintro e w1 ⟨rfl, hb1⟩
  have B1 := B0.belowb hb1
  have bel1 : Below w.heap.size w w1 := bel0.trans (hb1.mono bel0.size)
  have hc1 := B1.cells
  clear hb1 bel0 B0
  by_cases h1 : (s.cs.length : Int) + s.bs.length ≤ L
  · rw [if_pos h1]
    have hge : ¬ ((L - (s.cs.length : Int) - s.bs.length) < 0) := by omega
    go_wp2_with fail
    refine (szBools_calls s.tabs.length (L - s.cs.length - s.bs.length) (by omega) (by omega) a3 c3 _ ht).mono ?_
    rintro e w' ⟨rfl, hw⟩
    rw [hw]
    clear hw w'
    by_cases h2 : (s.tabs.length : Int) ≤ L - s.cs.length - s.bs.length
    · rw [if_pos h2]
      have hge2 : ¬ ((L - (s.cs.length : Int) - s.bs.length - s.tabs.length) < 0) := by omega
      go_wp2_with fail
      refine (szSets_calls s.sets.length (L - s.cs.length - s.bs.length - s.tabs.length) (by omega) (by omega) a4 c4 _ hs).mono ?_
      rintro e w' ⟨rfl, hw⟩
      rw [hw]
      clear hw w'
      by_cases h3 : (s.sets.length : Int) ≤ L - s.cs.length - s.bs.length - s.tabs.length
      · rw [if_pos h3]
        have hge3 : ¬ ((L - (s.cs.length : Int) - s.bs.length - s.tabs.length - s.sets.length) < 0) := by omega
        go_wp2
        go_ret
        exact ⟨by first | rfl | (rw [if_pos (show (s.cs.length : Int) + s.bs.length + s.tabs.length + s.sets.length ≤ L by omega)]; rfl), bel1⟩
      · rw [if_neg h3]
        go_wp2
        go_ret
        exact ⟨by first | rfl | (rw [if_neg (show ¬ (s.cs.length : Int) + s.bs.length + s.tabs.length + s.sets.length ≤ L by omega)]; rfl), bel1⟩
    · rw [if_neg h2]
      go_wp2
      go_ret
      exact ⟨by first | rfl | (rw [if_neg (show ¬ (s.cs.length : Int) + s.bs.length + s.tabs.length + s.sets.length ≤ L by omega)]; rfl), bel1⟩
  · rw [if_neg h1]
    go_wp2
    go_ret
    exact ⟨by first | rfl | (rw [if_neg (show ¬ (s.cs.length : Int) + s.bs.length + s.tabs.length + s.sets.length ≤ L by omega)]; rfl), bel1⟩

set_option maxHeartbeats 4000000 in
theorem toScreen_calls (s : Scr) (v1 v2 v3 v4 : Value) (w : World) (hn1 : s.cs.length ≤ 1048576) (hn2 : s.bs.length ≤ 1048576) (hn3 : s.tabs.length ≤ 1048576) (hn4 : s.sets.length ≤ 1048576) (h : SRead w s v1 v2 v3 v4) :
    Calls Tryd.prog 8 #[.agg (scrA s v1 v2 v3 v4)] w fun e w' => ∃ u1 u2 u3 u4, e = .returned (.agg (scrA s u1 u2 u3 u4)) ∧ SOwn w.heap.size w'.heap.size w' u1 u2 u3 u4 s ∧ Below w.heap.size w w' := by
  have e0 := scrA_0 s v1 v2 v3 v4
  have e1 := scrA_1 s v1 v2 v3 v4
  have e2 := scrA_2 s v1 v2 v3 v4
  have e3 := scrA_3 s v1 v2 v3 v4
  have e4 := scrA_4 s v1 v2 v3 v4
  have e5 := scrA_5 s v1 v2 v3 v4
  have e6 := scrA_6 s v1 v2 v3 v4
  have e7 := scrA_7 s v1 v2 v3 v4
  have e8 := scrA_8 s v1 v2 v3 v4
  have e9 := scrA_9 s v1 v2 v3 v4
  have e10 := scrA_10 s v1 v2 v3 v4
  have e11 := scrA_11 s v1 v2 v3 v4
  have e12 := scrA_12 s v1 v2 v3 v4
  have e13 := scrA_13 s v1 v2 v3 v4
  have e14 := scrA_14 s v1 v2 v3 v4
  have e15 := scrA_15 s v1 v2 v3 v4
  have e16 := scrA_16 s v1 v2 v3 v4
  have e17 := scrA_17 s v1 v2 v3 v4
  have e18 := scrA_18 s v1 v2 v3 v4
  have e19 := scrA_19 s v1 v2 v3 v4
  have bel0 : Below w.heap.size w (((w.alloc (.cells (scrA s v1 v2 v3 v4) 28)).alloc (.cells #[.int .i64 0, .int .i64 0, .slice none 0 0, .slice none 0 0, .int .i64 0, .int .i64 0, .bool false, .int .i64 0, .int .i64 0, .int .i64 0, .bool false, .bool false, .bool false, .slice none 0 0, .int .i64 0, .int .i64 0, .int .i64 0, .slice none 0 0, .int .i64 0, .int .i64 0] 38)).alloc (.cells #[.int .i64 0, .int .i64 0, .slice none 0 0, .slice none 0 0, .int .i64 0, .int .i64 0, .bool false, .int .i64 0, .int .i64 0, .int .i64 0, .bool false, .bool false, .bool false, .slice none 0 0, .int .i64 0, .int .i64 0, .int .i64 0, .slice none 0 0, .int .i64 0, .int .i64 0] 38)) := (by repeat' (first | with_reducible exact Below.refl _ _ | with_reducible assumption | with_reducible refine Below.drew ?_ | with_reducible refine Below.alloc ?_ ?_ _ | with_reducible refine Below.setCell ?_ ?_ _ | (simp; done) | (simp; omega) | omega))
  have hA : Blk (((w.alloc (.cells (scrA s v1 v2 v3 v4) 28)).alloc (.cells #[.int .i64 0, .int .i64 0, .slice none 0 0, .slice none 0 0, .int .i64 0, .int .i64 0, .bool false, .int .i64 0, .int .i64 0, .int .i64 0, .bool false, .bool false, .bool false, .slice none 0 0, .int .i64 0, .int .i64 0, .int .i64 0, .slice none 0 0, .int .i64 0, .int .i64 0] 38)).alloc (.cells #[.int .i64 0, .int .i64 0, .slice none 0 0, .slice none 0 0, .int .i64 0, .int .i64 0, .bool false, .int .i64 0, .int .i64 0, .int .i64 0, .bool false, .bool false, .bool false, .slice none 0 0, .int .i64 0, .int .i64 0, .int .i64 0, .slice none 0 0, .int .i64 0, .int .i64 0] 38)) w.heap.size (scrA s v1 v2 v3 v4) := ((Blk.new w _ _).alloc _).alloc _
  have hR : Blk (((w.alloc (.cells (scrA s v1 v2 v3 v4) 28)).alloc (.cells #[.int .i64 0, .int .i64 0, .slice none 0 0, .slice none 0 0, .int .i64 0, .int .i64 0, .bool false, .int .i64 0, .int .i64 0, .int .i64 0, .bool false, .bool false, .bool false, .slice none 0 0, .int .i64 0, .int .i64 0, .int .i64 0, .slice none 0 0, .int .i64 0, .int .i64 0] 38)).alloc (.cells #[.int .i64 0, .int .i64 0, .slice none 0 0, .slice none 0 0, .int .i64 0, .int .i64 0, .bool false, .int .i64 0, .int .i64 0, .int .i64 0, .bool false, .bool false, .bool false, .slice none 0 0, .int .i64 0, .int .i64 0, .int .i64 0, .slice none 0 0, .int .i64 0, .int .i64 0] 38)) (w.heap.size + 1) (scrA scr0 (.slice none 0 0) (.slice none 0 0) (.slice none 0 0) (.slice none 0 0)) := Blk.alloc (Blk.new_at (by simp) _ _) _
  have hO : Blk (((w.alloc (.cells (scrA s v1 v2 v3 v4) 28)).alloc (.cells #[.int .i64 0, .int .i64 0, .slice none 0 0, .slice none 0 0, .int .i64 0, .int .i64 0, .bool false, .int .i64 0, .int .i64 0, .int .i64 0, .bool false, .bool false, .bool false, .slice none 0 0, .int .i64 0, .int .i64 0, .int .i64 0, .slice none 0 0, .int .i64 0, .int .i64 0] 38)).alloc (.cells #[.int .i64 0, .int .i64 0, .slice none 0 0, .slice none 0 0, .int .i64 0, .int .i64 0, .bool false, .int .i64 0, .int .i64 0, .int .i64 0, .bool false, .bool false, .bool false, .slice none 0 0, .int .i64 0, .int .i64 0, .int .i64 0, .slice none 0 0, .int .i64 0, .int .i64 0] 38)) (w.heap.size + 2) (scrA scr0 (.slice none 0 0) (.slice none 0 0) (.slice none 0 0) (.slice none 0 0)) := Blk.new_at (by simp) _ _
  have hs0 : (((w.alloc (.cells (scrA s v1 v2 v3 v4) 28)).alloc (.cells #[.int .i64 0, .int .i64 0, .slice none 0 0, .slice none 0 0, .int .i64 0, .int .i64 0, .bool false, .int .i64 0, .int .i64 0, .int .i64 0, .bool false, .bool false, .bool false, .slice none 0 0, .int .i64 0, .int .i64 0, .int .i64 0, .slice none 0 0, .int .i64 0, .int .i64 0] 38)).alloc (.cells #[.int .i64 0, .int .i64 0, .slice none 0 0, .slice none 0 0, .int .i64 0, .int .i64 0, .bool false, .int .i64 0, .int .i64 0, .int .i64 0, .bool false, .bool false, .bool false, .slice none 0 0, .int .i64 0, .int .i64 0, .int .i64 0, .slice none 0 0, .int .i64 0, .int .i64 0] 38)).heap.size = w.heap.size + 3 := by simp
  have cA := hA.cells
  go_enter Tryd.func8, Tryd.ntmps8
  go_wp2_with fail
  generalize (((w.alloc (.cells (scrA s v1 v2 v3 v4) 28)).alloc (.cells #[.int .i64 0, .int .i64 0, .slice none 0 0, .slice none 0 0, .int .i64 0, .int .i64 0, .bool false, .int .i64 0, .int .i64 0, .int .i64 0, .bool false, .bool false, .bool false, .slice none 0 0, .int .i64 0, .int .i64 0, .int .i64 0, .slice none 0 0, .int .i64 0, .int .i64 0] 38)).alloc (.cells #[.int .i64 0, .int .i64 0, .slice none 0 0, .slice none 0 0, .int .i64 0, .int .i64 0, .bool false, .int .i64 0, .int .i64 0, .int .i64 0, .bool false, .bool false, .bool false, .slice none 0 0, .int .i64 0, .int .i64 0, .int .i64 0, .slice none 0 0, .int .i64 0, .int .i64 0] 38)) = w1 at *
  refine (toGrid_calls s.r s.wd s.cs s.bs _ _ _ hn1 hn2 (h.g1.below bel0) (h.g2.below bel0)).mono ?_
  rintro e w2 ⟨y1, y2, rfl, hG, hb⟩
  obtain ⟨x1, k1, x2, k2, rfl, rfl⟩ := hG.forms
  replace hA := hA.belowb hb
  replace cA := hA.cells
  replace hR := hR.belowb hb
  replace hO := hO.belowb hb
  have bel := bel0.trans (hb.mono bel0.size)
  have hs2 : w1.heap.size ≤ w2.heap.size := hb.size
  clear hb bel0
  have hU := Upd.refl (w.heap.size + 2) w2
  go_wp2_with (first
    | (refine wpList_store_blk rfl _ _ _ rfl (w.heap.size + 2) 0 (scrA scr0 (.slice none 0 0) (.slice none 0 0) (.slice none 0 0) (.slice none 0 0)) (scrA ({ scr0 with r := s.r, wd := s.wd } : Scr) (.slice x1 s.cs.length k1) (.slice x2 s.bs.length k2) (.slice none 0 0) (.slice none 0 0)) (.agg #[.int .i64 s.r, .int .i64 s.wd, .slice x1 s.cs.length k1, .slice x2 s.bs.length k2]) rfl rfl hO rfl (by kernel_rfl) rfl rfl ?_; (try simp only [Act.put, List.setIfInBounds_toArray, List.set_cons_zero, List.set_cons_succ]); clear hO; intro w9 hO hu; replace hU := hU.trans hu; replace hA := hA.upd hu (by omega); replace cA := hA.cells; replace hR := hR.upd hu (by omega); clear hu)
    | (refine wpList_store_blk rfl _ _ _ rfl (w.heap.size + 2) 4 (scrA ({ scr0 with r := s.r, wd := s.wd } : Scr) (.slice x1 s.cs.length k1) (.slice x2 s.bs.length k2) (.slice none 0 0) (.slice none 0 0)) (scrA ({ scr0 with r := s.r, wd := s.wd, y := s.y } : Scr) (.slice x1 s.cs.length k1) (.slice x2 s.bs.length k2) (.slice none 0 0) (.slice none 0 0)) (.int .i64 s.y) rfl rfl hO rfl (by kernel_rfl) rfl rfl ?_; (try simp only [Act.put, List.setIfInBounds_toArray, List.set_cons_zero, List.set_cons_succ]); clear hO; intro w9 hO hu; replace hU := hU.trans hu; replace hA := hA.upd hu (by omega); replace cA := hA.cells; replace hR := hR.upd hu (by omega); clear hu)
    | (refine wpList_store_blk rfl _ _ _ rfl (w.heap.size + 2) 5 (scrA ({ scr0 with r := s.r, wd := s.wd, y := s.y } : Scr) (.slice x1 s.cs.length k1) (.slice x2 s.bs.length k2) (.slice none 0 0) (.slice none 0 0)) (scrA ({ scr0 with r := s.r, wd := s.wd, y := s.y, x := s.x } : Scr) (.slice x1 s.cs.length k1) (.slice x2 s.bs.length k2) (.slice none 0 0) (.slice none 0 0)) (.int .i64 s.x) rfl rfl hO rfl (by kernel_rfl) rfl rfl ?_; (try simp only [Act.put, List.setIfInBounds_toArray, List.set_cons_zero, List.set_cons_succ]); clear hO; intro w9 hO hu; replace hU := hU.trans hu; replace hA := hA.upd hu (by omega); replace cA := hA.cells; replace hR := hR.upd hu (by omega); clear hu)
    | (refine wpList_store_blk rfl _ _ _ rfl (w.heap.size + 2) 6 (scrA ({ scr0 with r := s.r, wd := s.wd, y := s.y, x := s.x } : Scr) (.slice x1 s.cs.length k1) (.slice x2 s.bs.length k2) (.slice none 0 0) (.slice none 0 0)) (scrA ({ scr0 with r := s.r, wd := s.wd, y := s.y, x := s.x, wrap := s.wrap } : Scr) (.slice x1 s.cs.length k1) (.slice x2 s.bs.length k2) (.slice none 0 0) (.slice none 0 0)) (.bool s.wrap) rfl rfl hO rfl (by kernel_rfl) rfl rfl ?_; (try simp only [Act.put, List.setIfInBounds_toArray, List.set_cons_zero, List.set_cons_succ]); clear hO; intro w9 hO hu; replace hU := hU.trans hu; replace hA := hA.upd hu (by omega); replace cA := hA.cells; replace hR := hR.upd hu (by omega); clear hu)
    | (refine wpList_store_blk rfl _ _ _ rfl (w.heap.size + 2) 7 (scrA ({ scr0 with r := s.r, wd := s.wd, y := s.y, x := s.x, wrap := s.wrap } : Scr) (.slice x1 s.cs.length k1) (.slice x2 s.bs.length k2) (.slice none 0 0) (.slice none 0 0)) (scrA ({ scr0 with r := s.r, wd := s.wd, y := s.y, x := s.x, wrap := s.wrap, attr := s.attr } : Scr) (.slice x1 s.cs.length k1) (.slice x2 s.bs.length k2) (.slice none 0 0) (.slice none 0 0)) (.int .i64 s.attr) rfl rfl hO rfl (by kernel_rfl) rfl rfl ?_; (try simp only [Act.put, List.setIfInBounds_toArray, List.set_cons_zero, List.set_cons_succ]); clear hO; intro w9 hO hu; replace hU := hU.trans hu; replace hA := hA.upd hu (by omega); replace cA := hA.cells; replace hR := hR.upd hu (by omega); clear hu)
    | (refine wpList_store_blk rfl _ _ _ rfl (w.heap.size + 2) 8 (scrA ({ scr0 with r := s.r, wd := s.wd, y := s.y, x := s.x, wrap := s.wrap, attr := s.attr } : Scr) (.slice x1 s.cs.length k1) (.slice x2 s.bs.length k2) (.slice none 0 0) (.slice none 0 0)) (scrA ({ scr0 with r := s.r, wd := s.wd, y := s.y, x := s.x, wrap := s.wrap, attr := s.attr, top := s.top } : Scr) (.slice x1 s.cs.length k1) (.slice x2 s.bs.length k2) (.slice none 0 0) (.slice none 0 0)) (.int .i64 s.top) rfl rfl hO rfl (by kernel_rfl) rfl rfl ?_; (try simp only [Act.put, List.setIfInBounds_toArray, List.set_cons_zero, List.set_cons_succ]); clear hO; intro w9 hO hu; replace hU := hU.trans hu; replace hA := hA.upd hu (by omega); replace cA := hA.cells; replace hR := hR.upd hu (by omega); clear hu)
    | (refine wpList_store_blk rfl _ _ _ rfl (w.heap.size + 2) 9 (scrA ({ scr0 with r := s.r, wd := s.wd, y := s.y, x := s.x, wrap := s.wrap, attr := s.attr, top := s.top } : Scr) (.slice x1 s.cs.length k1) (.slice x2 s.bs.length k2) (.slice none 0 0) (.slice none 0 0)) (scrA ({ scr0 with r := s.r, wd := s.wd, y := s.y, x := s.x, wrap := s.wrap, attr := s.attr, top := s.top, bot := s.bot } : Scr) (.slice x1 s.cs.length k1) (.slice x2 s.bs.length k2) (.slice none 0 0) (.slice none 0 0)) (.int .i64 s.bot) rfl rfl hO rfl (by kernel_rfl) rfl rfl ?_; (try simp only [Act.put, List.setIfInBounds_toArray, List.set_cons_zero, List.set_cons_succ]); clear hO; intro w9 hO hu; replace hU := hU.trans hu; replace hA := hA.upd hu (by omega); replace cA := hA.cells; replace hR := hR.upd hu (by omega); clear hu)
    | (refine wpList_store_blk rfl _ _ _ rfl (w.heap.size + 2) 10 (scrA ({ scr0 with r := s.r, wd := s.wd, y := s.y, x := s.x, wrap := s.wrap, attr := s.attr, top := s.top, bot := s.bot } : Scr) (.slice x1 s.cs.length k1) (.slice x2 s.bs.length k2) (.slice none 0 0) (.slice none 0 0)) (scrA ({ scr0 with r := s.r, wd := s.wd, y := s.y, x := s.x, wrap := s.wrap, attr := s.attr, top := s.top, bot := s.bot, org := s.org } : Scr) (.slice x1 s.cs.length k1) (.slice x2 s.bs.length k2) (.slice none 0 0) (.slice none 0 0)) (.bool s.org) rfl rfl hO rfl (by kernel_rfl) rfl rfl ?_; (try simp only [Act.put, List.setIfInBounds_toArray, List.set_cons_zero, List.set_cons_succ]); clear hO; intro w9 hO hu; replace hU := hU.trans hu; replace hA := hA.upd hu (by omega); replace cA := hA.cells; replace hR := hR.upd hu (by omega); clear hu)
    | (refine wpList_store_blk rfl _ _ _ rfl (w.heap.size + 2) 11 (scrA ({ scr0 with r := s.r, wd := s.wd, y := s.y, x := s.x, wrap := s.wrap, attr := s.attr, top := s.top, bot := s.bot, org := s.org } : Scr) (.slice x1 s.cs.length k1) (.slice x2 s.bs.length k2) (.slice none 0 0) (.slice none 0 0)) (scrA ({ scr0 with r := s.r, wd := s.wd, y := s.y, x := s.x, wrap := s.wrap, attr := s.attr, top := s.top, bot := s.bot, org := s.org, auto := s.auto } : Scr) (.slice x1 s.cs.length k1) (.slice x2 s.bs.length k2) (.slice none 0 0) (.slice none 0 0)) (.bool s.auto) rfl rfl hO rfl (by kernel_rfl) rfl rfl ?_; (try simp only [Act.put, List.setIfInBounds_toArray, List.set_cons_zero, List.set_cons_succ]); clear hO; intro w9 hO hu; replace hU := hU.trans hu; replace hA := hA.upd hu (by omega); replace cA := hA.cells; replace hR := hR.upd hu (by omega); clear hu)
    | (refine wpList_store_blk rfl _ _ _ rfl (w.heap.size + 2) 12 (scrA ({ scr0 with r := s.r, wd := s.wd, y := s.y, x := s.x, wrap := s.wrap, attr := s.attr, top := s.top, bot := s.bot, org := s.org, auto := s.auto } : Scr) (.slice x1 s.cs.length k1) (.slice x2 s.bs.length k2) (.slice none 0 0) (.slice none 0 0)) (scrA ({ scr0 with r := s.r, wd := s.wd, y := s.y, x := s.x, wrap := s.wrap, attr := s.attr, top := s.top, bot := s.bot, org := s.org, auto := s.auto, ins := s.ins } : Scr) (.slice x1 s.cs.length k1) (.slice x2 s.bs.length k2) (.slice none 0 0) (.slice none 0 0)) (.bool s.ins) rfl rfl hO rfl (by kernel_rfl) rfl rfl ?_; (try simp only [Act.put, List.setIfInBounds_toArray, List.set_cons_zero, List.set_cons_succ]); clear hO; intro w9 hO hu; replace hU := hU.trans hu; replace hA := hA.upd hu (by omega); replace cA := hA.cells; replace hR := hR.upd hu (by omega); clear hu))
  refine (toBools_calls s.tabs _ _ hn3 (h.g3.below (bel.trans (hU.below (Nat.le_add_right _ _))))).mono ?_
  rintro e w3 ⟨y3, rfl, hT, hb⟩
  obtain ⟨x3, k3, hy3, hT'⟩ := hT
  subst hy3
  replace hA := hA.belowb hb
  replace cA := hA.cells
  replace hR := hR.belowb hb
  replace hO := hO.belowb hb
  have bel3 := (bel.trans (hU.below (Nat.le_add_right _ _))).trans (hb.mono (by have := hU.size; omega))
  have hs3 : w2.heap.size ≤ w3.heap.size := by have := hU.size; have := hb.size; omega
  replace hG : GOwn w1.heap.size w2.heap.size w3 _ _ s.cs s.bs := (hG.of_blocks (fun k k1 k2 => (hb.block k (by have := hU.size; omega)).trans (hU.block k (by omega))))
  have hT : BoolsAt w2.heap.size w3.heap.size w3 (.slice x3 s.tabs.length k3) s.tabs := BoolsAt.mono ⟨x3, k3, rfl, hT'⟩ (by have := hU.size; omega) (Nat.le_refl _)
  clear hb hU hT'
  have hU := Upd.refl (w.heap.size + 2) w3
  go_wp2_with (first
    | (refine wpList_store_blk rfl _ _ _ rfl (w.heap.size + 2) 13 (scrA ({ scr0 with r := s.r, wd := s.wd, y := s.y, x := s.x, wrap := s.wrap, attr := s.attr, top := s.top, bot := s.bot, org := s.org, auto := s.auto, ins := s.ins } : Scr) (.slice x1 s.cs.length k1) (.slice x2 s.bs.length k2) (.slice none 0 0) (.slice none 0 0)) (scrA ({ scr0 with r := s.r, wd := s.wd, y := s.y, x := s.x, wrap := s.wrap, attr := s.attr, top := s.top, bot := s.bot, org := s.org, auto := s.auto, ins := s.ins } : Scr) (.slice x1 s.cs.length k1) (.slice x2 s.bs.length k2) (.slice x3 s.tabs.length k3) (.slice none 0 0)) (.slice x3 s.tabs.length k3) rfl rfl hO rfl (by kernel_rfl) rfl rfl ?_; (try simp only [Act.put, List.setIfInBounds_toArray, List.set_cons_zero, List.set_cons_succ]); clear hO; intro w9 hO hu; replace hU := hU.trans hu; replace hA := hA.upd hu (by omega); replace cA := hA.cells; replace hR := hR.upd hu (by omega); clear hu)
    | (refine wpList_store_blk rfl _ _ _ rfl (w.heap.size + 2) 14 (scrA ({ scr0 with r := s.r, wd := s.wd, y := s.y, x := s.x, wrap := s.wrap, attr := s.attr, top := s.top, bot := s.bot, org := s.org, auto := s.auto, ins := s.ins } : Scr) (.slice x1 s.cs.length k1) (.slice x2 s.bs.length k2) (.slice x3 s.tabs.length k3) (.slice none 0 0)) (scrA ({ scr0 with r := s.r, wd := s.wd, y := s.y, x := s.x, wrap := s.wrap, attr := s.attr, top := s.top, bot := s.bot, org := s.org, auto := s.auto, ins := s.ins, ky := s.ky } : Scr) (.slice x1 s.cs.length k1) (.slice x2 s.bs.length k2) (.slice x3 s.tabs.length k3) (.slice none 0 0)) (.int .i64 s.ky) rfl rfl hO rfl (by kernel_rfl) rfl rfl ?_; (try simp only [Act.put, List.setIfInBounds_toArray, List.set_cons_zero, List.set_cons_succ]); clear hO; intro w9 hO hu; replace hU := hU.trans hu; replace hA := hA.upd hu (by omega); replace cA := hA.cells; replace hR := hR.upd hu (by omega); clear hu)
    | (refine wpList_store_blk rfl _ _ _ rfl (w.heap.size + 2) 15 (scrA ({ scr0 with r := s.r, wd := s.wd, y := s.y, x := s.x, wrap := s.wrap, attr := s.attr, top := s.top, bot := s.bot, org := s.org, auto := s.auto, ins := s.ins, ky := s.ky } : Scr) (.slice x1 s.cs.length k1) (.slice x2 s.bs.length k2) (.slice x3 s.tabs.length k3) (.slice none 0 0)) (scrA ({ scr0 with r := s.r, wd := s.wd, y := s.y, x := s.x, wrap := s.wrap, attr := s.attr, top := s.top, bot := s.bot, org := s.org, auto := s.auto, ins := s.ins, ky := s.ky, kx := s.kx } : Scr) (.slice x1 s.cs.length k1) (.slice x2 s.bs.length k2) (.slice x3 s.tabs.length k3) (.slice none 0 0)) (.int .i64 s.kx) rfl rfl hO rfl (by kernel_rfl) rfl rfl ?_; (try simp only [Act.put, List.setIfInBounds_toArray, List.set_cons_zero, List.set_cons_succ]); clear hO; intro w9 hO hu; replace hU := hU.trans hu; replace hA := hA.upd hu (by omega); replace cA := hA.cells; replace hR := hR.upd hu (by omega); clear hu)
    | (refine wpList_store_blk rfl _ _ _ rfl (w.heap.size + 2) 16 (scrA ({ scr0 with r := s.r, wd := s.wd, y := s.y, x := s.x, wrap := s.wrap, attr := s.attr, top := s.top, bot := s.bot, org := s.org, auto := s.auto, ins := s.ins, ky := s.ky, kx := s.kx } : Scr) (.slice x1 s.cs.length k1) (.slice x2 s.bs.length k2) (.slice x3 s.tabs.length k3) (.slice none 0 0)) (scrA ({ scr0 with r := s.r, wd := s.wd, y := s.y, x := s.x, wrap := s.wrap, attr := s.attr, top := s.top, bot := s.bot, org := s.org, auto := s.auto, ins := s.ins, ky := s.ky, kx := s.kx, ka := s.ka } : Scr) (.slice x1 s.cs.length k1) (.slice x2 s.bs.length k2) (.slice x3 s.tabs.length k3) (.slice none 0 0)) (.int .i64 s.ka) rfl rfl hO rfl (by kernel_rfl) rfl rfl ?_; (try simp only [Act.put, List.setIfInBounds_toArray, List.set_cons_zero, List.set_cons_succ]); clear hO; intro w9 hO hu; replace hU := hU.trans hu; replace hA := hA.upd hu (by omega); replace cA := hA.cells; replace hR := hR.upd hu (by omega); clear hu))
  refine (toInts_calls s.sets _ _ hn4 (h.g4.below (bel3.trans (hU.below (Nat.le_add_right _ _))))).mono ?_
  rintro e w4 ⟨y4, rfl, hI, hb⟩
  obtain ⟨x4, k4, hy4, hI'⟩ := hI
  subst hy4
  replace hA := hA.belowb hb
  replace cA := hA.cells
  replace hR := hR.belowb hb
  replace hO := hO.belowb hb
  have bel4 := (bel3.trans (hU.below (Nat.le_add_right _ _))).trans (hb.mono (by have := hU.size; omega))
  have hs4 : w3.heap.size ≤ w4.heap.size := by have := hU.size; have := hb.size; omega
  replace hG : GOwn w1.heap.size w2.heap.size w4 _ _ s.cs s.bs := (hG.of_blocks (fun k k1 k2 => (hb.block k (by have := hU.size; omega)).trans (hU.block k (by omega))))
  replace hT : BoolsAt w2.heap.size w3.heap.size w4 _ s.tabs := (hT.of_blocks (fun k k1 k2 => (hb.block k (by have := hU.size; omega)).trans (hU.block k (by omega))))
  have hI : IntsAt .i64 w3.heap.size w4.heap.size w4 (.slice x4 s.sets.length k4) s.sets := IntsAt.mono ⟨x4, k4, rfl, hI'⟩ (by have := hU.size; omega) (Nat.le_refl _)
  clear hb hU hI'
  have hU := Upd.refl (w.heap.size + 2) w4
  have hV := Upd.refl (w.heap.size + 1) w4
  clear hV
  go_wp2_with (first
    | (refine wpList_store_blk rfl _ _ _ rfl (w.heap.size + 2) 17 (scrA ({ scr0 with r := s.r, wd := s.wd, y := s.y, x := s.x, wrap := s.wrap, attr := s.attr, top := s.top, bot := s.bot, org := s.org, auto := s.auto, ins := s.ins, ky := s.ky, kx := s.kx, ka := s.ka } : Scr) (.slice x1 s.cs.length k1) (.slice x2 s.bs.length k2) (.slice x3 s.tabs.length k3) (.slice none 0 0)) (scrA ({ scr0 with r := s.r, wd := s.wd, y := s.y, x := s.x, wrap := s.wrap, attr := s.attr, top := s.top, bot := s.bot, org := s.org, auto := s.auto, ins := s.ins, ky := s.ky, kx := s.kx, ka := s.ka } : Scr) (.slice x1 s.cs.length k1) (.slice x2 s.bs.length k2) (.slice x3 s.tabs.length k3) (.slice x4 s.sets.length k4)) (.slice x4 s.sets.length k4) rfl rfl hO rfl (by kernel_rfl) rfl rfl ?_; (try simp only [Act.put, List.setIfInBounds_toArray, List.set_cons_zero, List.set_cons_succ]); clear hO; intro w9 hO hu; replace hU := hU.trans hu; replace hA := hA.upd hu (by omega); replace cA := hA.cells; replace hR := hR.upd hu (by omega); clear hu)
    | (refine wpList_store_blk rfl _ _ _ rfl (w.heap.size + 2) 18 (scrA ({ scr0 with r := s.r, wd := s.wd, y := s.y, x := s.x, wrap := s.wrap, attr := s.attr, top := s.top, bot := s.bot, org := s.org, auto := s.auto, ins := s.ins, ky := s.ky, kx := s.kx, ka := s.ka } : Scr) (.slice x1 s.cs.length k1) (.slice x2 s.bs.length k2) (.slice x3 s.tabs.length k3) (.slice x4 s.sets.length k4)) (scrA ({ scr0 with r := s.r, wd := s.wd, y := s.y, x := s.x, wrap := s.wrap, attr := s.attr, top := s.top, bot := s.bot, org := s.org, auto := s.auto, ins := s.ins, ky := s.ky, kx := s.kx, ka := s.ka, sh := s.sh } : Scr) (.slice x1 s.cs.length k1) (.slice x2 s.bs.length k2) (.slice x3 s.tabs.length k3) (.slice x4 s.sets.length k4)) (.int .i64 s.sh) rfl rfl hO rfl (by kernel_rfl) rfl rfl ?_; (try simp only [Act.put, List.setIfInBounds_toArray, List.set_cons_zero, List.set_cons_succ]); clear hO; intro w9 hO hu; replace hU := hU.trans hu; replace hA := hA.upd hu (by omega); replace cA := hA.cells; replace hR := hR.upd hu (by omega); clear hu)
    | (refine wpList_store_blk rfl _ _ _ rfl (w.heap.size + 2) 19 (scrA ({ scr0 with r := s.r, wd := s.wd, y := s.y, x := s.x, wrap := s.wrap, attr := s.attr, top := s.top, bot := s.bot, org := s.org, auto := s.auto, ins := s.ins, ky := s.ky, kx := s.kx, ka := s.ka, sh := s.sh } : Scr) (.slice x1 s.cs.length k1) (.slice x2 s.bs.length k2) (.slice x3 s.tabs.length k3) (.slice x4 s.sets.length k4)) (scrA ({ scr0 with r := s.r, wd := s.wd, y := s.y, x := s.x, wrap := s.wrap, attr := s.attr, top := s.top, bot := s.bot, org := s.org, auto := s.auto, ins := s.ins, ky := s.ky, kx := s.kx, ka := s.ka, sh := s.sh, bells := s.bells } : Scr) (.slice x1 s.cs.length k1) (.slice x2 s.bs.length k2) (.slice x3 s.tabs.length k3) (.slice x4 s.sets.length k4)) (.int .i64 s.bells) rfl rfl hO rfl (by kernel_rfl) rfl rfl ?_; (try simp only [Act.put, List.setIfInBounds_toArray, List.set_cons_zero, List.set_cons_succ]); clear hO; intro w9 hO hu; replace hU := hU.trans hu; replace hA := hA.upd hu (by omega); replace cA := hA.cells; replace hR := hR.upd hu (by omega); clear hu)
    | (refine wpList_load_at rfl 38 _ rfl (w.heap.size + 2) 0 rfl (scrA ({ scr0 with r := s.r, wd := s.wd, y := s.y, x := s.x, wrap := s.wrap, attr := s.attr, top := s.top, bot := s.bot, org := s.org, auto := s.auto, ins := s.ins, ky := s.ky, kx := s.kx, ka := s.ka, sh := s.sh, bells := s.bells } : Scr) (.slice x1 s.cs.length k1) (.slice x2 s.bs.length k2) (.slice x3 s.tabs.length k3) (.slice x4 s.sets.length k4)) (scrA s (.slice x1 s.cs.length k1) (.slice x2 s.bs.length k2) (.slice x3 s.tabs.length k3) (.slice x4 s.sets.length k4)) hO rfl _ Tryd.underlying38 rfl (by kernel_rfl) ?_; simp only [Act.put, List.setIfInBounds_toArray, List.set_cons_zero, List.set_cons_succ])
    | (refine wpList_store_blk rfl _ _ _ rfl (w.heap.size + 1) 0 (scrA scr0 (.slice none 0 0) (.slice none 0 0) (.slice none 0 0) (.slice none 0 0)) (scrA s (.slice x1 s.cs.length k1) (.slice x2 s.bs.length k2) (.slice x3 s.tabs.length k3) (.slice x4 s.sets.length k4)) (.agg (scrA s (.slice x1 s.cs.length k1) (.slice x2 s.bs.length k2) (.slice x3 s.tabs.length k3) (.slice x4 s.sets.length k4))) rfl rfl hR rfl (by kernel_rfl) rfl rfl ?_; (try simp only [Act.put, List.setIfInBounds_toArray, List.set_cons_zero, List.set_cons_succ]); clear hR hO hA cA; intro w9 hR hV))
  refine bodyPost_ret (results_blk hR _ _ rfl rfl Tryd.underlying38 rfl (by kernel_rfl)) rfl ⟨_, _, _, _, rfl, ?_, ?_⟩
  · have hblk : ∀ k, k ≠ w.heap.size + 2 → k ≠ w.heap.size + 1 → w9.heap[k]? = w4.heap[k]? := fun k n1 n2 => (hV.block k n2).trans (hU.block k n1)
    have hz : w9.heap.size = w4.heap.size := hV.size.trans hU.size
    refine ⟨w1.heap.size, w2.heap.size, w2.heap.size, w3.heap.size, w3.heap.size, w4.heap.size, by omega, by omega, by omega, by omega, by omega, by omega, by omega, by omega, by omega, ?_, ?_, ?_⟩
    · exact hG.of_blocks (fun k k1 k2 => hblk k (by omega) (by omega))
    · exact hT.of_blocks (fun k k1 k2 => hblk k (by omega) (by omega))
    · exact hI.of_blocks (fun k k1 k2 => hblk k (by omega) (by omega))
  · exact (bel4.trans (hU.below (Nat.le_add_right _ _))).trans (hV.below (Nat.le_add_right _ _))

set_option maxHeartbeats 2000000 in
theorem eqScreen_calls (s : Scr) (u1 u2 u3 u4 v1 v2 v3 v4 : Value) (w : World) (hn1 : s.cs.length ≤ 1048576) (hn2 : s.bs.length ≤ 1048576) (hn3 : s.tabs.length ≤ 1048576) (hn4 : s.sets.length ≤ 1048576) (h : SRead w s u1 u2 u3 u4) (h' : SRead w s v1 v2 v3 v4) :
    Calls Tryd.prog 11 #[.agg (scrA s u1 u2 u3 u4), .agg (scrA s v1 v2 v3 v4)] w fun e w' => e = .returned (.bool true) ∧ Below w.heap.size w w' := by
  have e0 := scrA_0 s u1 u2 u3 u4
  have f0 := scrA_0 s v1 v2 v3 v4
  have e1 := scrA_1 s u1 u2 u3 u4
  have f1 := scrA_1 s v1 v2 v3 v4
  have e2 := scrA_2 s u1 u2 u3 u4
  have f2 := scrA_2 s v1 v2 v3 v4
  have e3 := scrA_3 s u1 u2 u3 u4
  have f3 := scrA_3 s v1 v2 v3 v4
  have e4 := scrA_4 s u1 u2 u3 u4
  have f4 := scrA_4 s v1 v2 v3 v4
  have e5 := scrA_5 s u1 u2 u3 u4
  have f5 := scrA_5 s v1 v2 v3 v4
  have e6 := scrA_6 s u1 u2 u3 u4
  have f6 := scrA_6 s v1 v2 v3 v4
  have e7 := scrA_7 s u1 u2 u3 u4
  have f7 := scrA_7 s v1 v2 v3 v4
  have e8 := scrA_8 s u1 u2 u3 u4
  have f8 := scrA_8 s v1 v2 v3 v4
  have e9 := scrA_9 s u1 u2 u3 u4
  have f9 := scrA_9 s v1 v2 v3 v4
  have e10 := scrA_10 s u1 u2 u3 u4
  have f10 := scrA_10 s v1 v2 v3 v4
  have e11 := scrA_11 s u1 u2 u3 u4
  have f11 := scrA_11 s v1 v2 v3 v4
  have e12 := scrA_12 s u1 u2 u3 u4
  have f12 := scrA_12 s v1 v2 v3 v4
  have e13 := scrA_13 s u1 u2 u3 u4
  have f13 := scrA_13 s v1 v2 v3 v4
  have e14 := scrA_14 s u1 u2 u3 u4
  have f14 := scrA_14 s v1 v2 v3 v4
  have e15 := scrA_15 s u1 u2 u3 u4
  have f15 := scrA_15 s v1 v2 v3 v4
  have e16 := scrA_16 s u1 u2 u3 u4
  have f16 := scrA_16 s v1 v2 v3 v4
  have e17 := scrA_17 s u1 u2 u3 u4
  have f17 := scrA_17 s v1 v2 v3 v4
  have e18 := scrA_18 s u1 u2 u3 u4
  have f18 := scrA_18 s v1 v2 v3 v4
  have e19 := scrA_19 s u1 u2 u3 u4
  have f19 := scrA_19 s v1 v2 v3 v4
  have hne : ∀ x : Int, (x != x) = false := fun x => by simp
  have hnb : ∀ x : Bool, (x != x) = false := fun x => by simp
  have bel0 : Below w.heap.size w ((w.alloc (.cells (scrA s u1 u2 u3 u4) 38)).alloc (.cells (scrA s v1 v2 v3 v4) 38)) := (by repeat' (first | with_reducible exact Below.refl _ _ | with_reducible assumption | with_reducible refine Below.drew ?_ | with_reducible refine Below.alloc ?_ ?_ _ | with_reducible refine Below.setCell ?_ ?_ _ | (simp; done) | (simp; omega) | omega))
  have hA := (Blk.new w (scrA s u1 u2 u3 u4) 38).alloc (.cells (scrA s v1 v2 v3 v4) 38)
  have hB := Blk.new_at (w := w.alloc (.cells (scrA s u1 u2 u3 u4) 38)) (b := w.heap.size + 1) (by simp) (scrA s v1 v2 v3 v4) 38
  go_enter Tryd.func11, Tryd.ntmps11
  go_wp2_with fail
  refine (eqGrid_calls s.r s.wd s.cs s.bs _ _ _ _ _ (by omega) (by omega) (h.g1.below bel0) (h.g2.below bel0) (h'.g1.below bel0) (h'.g2.below bel0)).mono ?_
  rintro e w1 ⟨rfl, hb⟩
  replace hA := hA.belowb hb
  replace hB := hB.belowb hb
  have bel1 := bel0.trans (hb.mono bel0.size)
  clear hb
  have cA := hA.cells
  have cB := hB.cells
  go_wp2_with fail
  refine (eqBools_below s.tabs _ _ _ (by omega) (h.g3.below bel1) (h'.g3.below bel1)).mono ?_
  rintro e w2 ⟨rfl, hb⟩
  replace hA := hA.belowb hb
  replace hB := hB.belowb hb
  have bel2 := bel1.trans (hb.mono bel1.size)
  clear hb
  clear cA cB
  have cA := hA.cells
  have cB := hB.cells
  go_wp2_with fail
  refine (eqInts_below s.sets _ _ _ (by omega) (h.g4.below bel2) (h'.g4.below bel2)).mono ?_
  rintro e w3 ⟨rfl, hb⟩
  replace hA := hA.belowb hb
  replace hB := hB.belowb hb
  have bel3 := bel2.trans (hb.mono bel2.size)
  clear hb
  clear cA cB
  have cA := hA.cells
  have cB := hB.cells
  go_wp2
  go_ret
  exact ⟨rfl, bel3⟩

end Go.Proofs.YtknkbihjboadjaaDoor

/- Copies of a grid's lists with room for what they hold (toCellS, toGrid). -/
namespace Go.Proofs.YtknkbihjboadjaaDoor
set_option maxRecDepth 20000
open Go.ChangeShapes Go.WideShapes Go.ChangeAt Go.RowKit
set_option linter.unusedVariables false
set_option linter.unusedSimpArgs false
set_option maxRecDepth 20000

set_option maxHeartbeats 1000000 in
theorem toCellS_full (zs : List (Int × Int)) (v : Value) (w : World) (hn : zs.length ≤ 1048576) (h1 : PRead w v zs) :
    Calls Tryd.prog 58 #[v] w fun e w' => ∃ v', e = .returned v' ∧ Capped v' ∧ PairsAt w.heap.size w'.heap.size w' v' zs ∧ Below w.heap.size w w' := by
  obtain ⟨i0, hi, hz0, hz1, hz2⟩ := info_parts info_pair
  obtain ⟨a1, c1, rfl, h1⟩ := h1
  go_enter Tryd.func58, Tryd.ntmps58
  go_wp2_with (at_make; refine wpList_make_full _ rfl (.tmp 6) (.tmp 6) 34 rfl w.heap.size 65 i0 (.agg #[.int .i64 0, .int .i64 0]) 2 Tryd.underlying34 hi hz0 hz1 .i64 .i64 _ _ zs.length rfl rfl rfl rfl ?c1 ?c2 ?c3 ?_)
  case c1 => rw [hz2]; omega
  case c2 => unfold maxLen; omega
  case c3 => exact Nat.le_refl _
  intro w1 hown hgrow
  have hany := own_any2 hown
  have hlt1 : w.heap.size < w1.heap.size := (hown.lt w.heap.size rfl).2
  have hb1 : Below w.heap.size w w1 := (Below.refl _ _).grown hgrow (Nat.le_refl _) (fun k hk => by cases hk)
  have HA := hide hany
  clear hown hgrow hany
  go_wp2
  go_loopw [4] (fun i wr => ∃ k : Nat, k ≤ zs.length ∧ i = .int .i64 k ∧ Below w.heap.size w wr ∧ w.heap.size < wr.heap.size ∧
      (∀ j, j < zs.length * 2 → (∃ u, wr.cell? ⟨w.heap.size, 0 + j, none⟩ = some u) ∧ wr.frozen? ⟨w.heap.size, 0 + j, none⟩ = false) ∧ ∀ j, j < k → wr.cell? ⟨w.heap.size, 0 + j * 2, none⟩ = some (.int .i64 (zs.getD j (0, 0)).1) ∧ wr.cell? ⟨w.heap.size, 0 + j * 2 + 1, none⟩ = some (.int .i64 (zs.getD j (0, 0)).2)) (fun i _ => zs.length - (intOf i).toNat)
  case atStart => exact ⟨0, Nat.zero_le _, rfl, hb1, hlt1, HA.out, fun j hj => by omega⟩
  case round =>
    obtain ⟨k, hkk, rfl, hw, hsz, hf, hc⟩ := hrel
    by_cases hlt : k < zs.length
    · have hpos : zs ≠ [] := by intro h; rw [h] at hlt; simp at hlt
      rcases h1 with h1 | ⟨b1, o1, rfl, h1⟩
      · exact absurd h1 hpos
      obtain ⟨g1, g2⟩ := h1 k hlt
      replace g1 := cellb hw g1
      replace g2 := cellb hw g2
      have hltI : (k : Int) < (zs.length : Int) := by omega
      have HF := hide hf
      have HC := hide hc
      clear hf hc h1 hpos HA hb1 hlt1
      have HG : Hid ((zs.getD k (0, 0)) = ((zs.getD k (0, 0)).1, (zs.getD k (0, 0)).2)) := rfl
      generalize hcc : (zs.getD k (0, 0)).1 = c at *
      generalize hgg : (zs.getD k (0, 0)).2 = g at *
      clear hcc hgg
      go_wp2_with fail
      refine (toCell_calls c g _).mono ?_
      rintro e w2 ⟨rfl, hb2⟩
      have hs2 : w.heap.size < w2.heap.size := Nat.lt_of_lt_of_le hsz hb2.size
      have hw2 := hw.trans (hb2.mono (by omega))
      have HF2 : Hid (∀ j, j < zs.length * 2 → (∃ u, w2.cell? ⟨w.heap.size, 0 + j, none⟩ = some u) ∧ w2.frozen? ⟨w.heap.size, 0 + j, none⟩ = false) := fun j hj => by
        obtain ⟨⟨u, hu⟩, hfz⟩ := HF.out j hj
        exact ⟨⟨u, cellb hb2 hu⟩, by rw [hb2.frozen (p := ⟨w.heap.size, 0 + j, none⟩) hsz]; exact hfz⟩
      have HC2 : Hid (∀ j, j < k → w2.cell? ⟨w.heap.size, 0 + j * 2, none⟩ = some (.int .i64 (zs.getD j (0, 0)).1) ∧ w2.cell? ⟨w.heap.size, 0 + j * 2 + 1, none⟩ = some (.int .i64 (zs.getD j (0, 0)).2)) := fun j hj => ⟨cellb hb2 (HC.out j hj).1, cellb hb2 (HC.out j hj).2⟩
      obtain ⟨⟨u, k1⟩, f1⟩ := HF2.out (k * 2) (by omega)
      obtain ⟨⟨u', k2⟩, f2⟩ := HF2.out (k * 2 + 1) (by omega)
      have K1 := hide k1
      have K2 := hide k2
      rw [Nat.zero_add] at k1 f1 k2 f2
      clear g1 g2 HF HC hw hb2 hsz
      go_wp2
      go_roundw
      case rel =>
        obtain ⟨s1, s2, so⟩ := two_cells (x := .int .i64 c) (y := .int .i64 g) k1 k2
        refine ⟨k + 1, by omega, by go_num, (hw2.setCell (Nat.le_refl _) _).setCell (Nat.le_refl _) _, by simpa [World.setCell] using hs2, fun j hj => ⟨?_, ?_⟩, fun j hj => ?_⟩
        · rw [Nat.zero_add]
          by_cases e : j = k * 2
          · subst e; exact ⟨_, s1⟩
          · by_cases e' : j = k * 2 + 1
            · subst e'; exact ⟨_, s2⟩
            · rw [so j e e']; obtain ⟨u, hu⟩ := (HF2.out j hj).1; rw [Nat.zero_add] at hu; exact ⟨u, hu⟩
        · simp only [World.frozen?_setCell]; exact (HF2.out j hj).2
        · by_cases e : j = k
          · subst e; rw [Nat.zero_add, s1, s2, HG.out]; exact ⟨rfl, rfl⟩
          · rw [Nat.zero_add, so _ (by omega) (by omega), so _ (by omega) (by omega)]
            have := HC2.out j (by omega)
            rw [Nat.zero_add] at this
            exact this
      case measure => simp [intOf]; omega
    · have hk' : k = zs.length := by omega
      subst hk'
      go_wp2
      go_ret
      exact ⟨_, rfl, fun a n c e => (by cases e; exact Nat.le_refl _), ⟨_, _, rfl, .inr ⟨w.heap.size, 0, rfl, Nat.le_refl _, hsz, fun i hi => ⟨hc i hi, (hf (i * 2) (by omega)).2, (hf (i * 2 + 1) (by omega)).2⟩⟩⟩, hw⟩

set_option maxHeartbeats 1000000 in
theorem toGrid_full (r wd : Int) (cs bs : List (Int × Int)) (v1 v2 : Value) (w : World) (hn1 : cs.length ≤ 1048576) (hn2 : bs.length ≤ 1048576) (h1 : PRead w v1 cs) (h2 : PRead w v2 bs) :
    Calls Tryd.prog 24 #[.agg #[.int .i64 r, .int .i64 wd, v1, v2]] w fun e w' => ∃ x y, e = .returned (.agg #[.int .i64 r, .int .i64 wd, x, y]) ∧ Capped x ∧ Capped y ∧ GOwn w.heap.size w'.heap.size w' x y cs bs ∧ Below w.heap.size w w' := by
  have h1' := h1
  obtain ⟨a1, c1, rfl, _⟩ := h1'
  have h2' := h2
  obtain ⟨a2, c2, rfl, _⟩ := h2'
  go_enter Tryd.func24, Tryd.ntmps24
  go_wp2_with fail
  refine (toCellS_full cs _ _ hn1 (h1.below ?hb)).mono ?_
  case hb => exact (by repeat' (first | with_reducible exact Below.refl _ _ | with_reducible assumption | with_reducible refine Below.drew ?_ | with_reducible refine Below.alloc ?_ ?_ _ | with_reducible refine Below.setCell ?_ ?_ _ | (simp; done) | (simp; omega) | omega))
  rintro e w1 ⟨x, rfl, hcx, hx, hb1⟩
  have hW : Below w.heap.size w _ := Below.trans (b := _) ?hq (hb1.mono ?hq2)
  case hq => exact (by repeat' (first | with_reducible exact Below.refl _ _ | with_reducible assumption | with_reducible refine Below.drew ?_ | with_reducible refine Below.alloc ?_ ?_ _ | with_reducible refine Below.setCell ?_ ?_ _ | (simp; done) | (simp; omega) | omega))
  case hq2 => simp [World.setCell]; omega
  have hs1 : w.heap.size + 3 ≤ w1.heap.size := by have := hb1.size; simp [World.setCell] at this; omega
  have A3 : w1.cell? ⟨w.heap.size, 3, none⟩ = some (.slice a2 bs.length c2) := cellb hb1 (by simp [go_sem])
  have k0 : w1.cell? ⟨w.heap.size + 1, 0, none⟩ = some (.int .i64 0) := cellb hb1 (by simp [go_sem])
  have k1 : w1.cell? ⟨w.heap.size + 1, 1, none⟩ = some (.int .i64 0) := cellb hb1 (by simp [go_sem])
  have k2 : w1.cell? ⟨w.heap.size + 1, 2, none⟩ = some (.slice none 0 0) := cellb hb1 (by simp [go_sem])
  have k3 : w1.cell? ⟨w.heap.size + 1, 3, none⟩ = some (.slice none 0 0) := cellb hb1 (by simp [go_sem])
  have j0 : w1.cell? ⟨w.heap.size + 2, 0, none⟩ = some (.int .i64 r) := cellb hb1 (by simp [go_sem])
  have j1 : w1.cell? ⟨w.heap.size + 2, 1, none⟩ = some (.int .i64 wd) := cellb hb1 (by simp [go_sem])
  have j2 : w1.cell? ⟨w.heap.size + 2, 2, none⟩ = some (.slice none 0 0) := cellb hb1 (by simp [go_sem])
  have j3 : w1.cell? ⟨w.heap.size + 2, 3, none⟩ = some (.slice none 0 0) := cellb hb1 (by simp [go_sem])
  have fz : ∀ b o, b < w.heap.size + 3 → w.heap.size ≤ b → w1.frozen? ⟨b, o, none⟩ = false := fun b o hb hb' => by
    rw [hb1.frozen (p := ⟨b, o, none⟩) (by simp [World.setCell]; omega)]
    try simp only [World.frozen?_setCell]
    obtain rfl | rfl | rfl : b = w.heap.size ∨ b = w.heap.size + 1 ∨ b = w.heap.size + 2 := by omega
    all_goals simp [go_sem]
  have z0 := fz (w.heap.size + 1) 0 (by omega) (by omega)
  have z1 := fz (w.heap.size + 1) 1 (by omega) (by omega)
  have z2 := fz (w.heap.size + 1) 2 (by omega) (by omega)
  have z3 := fz (w.heap.size + 1) 3 (by omega) (by omega)
  have y2 := fz (w.heap.size + 2) 2 (by omega) (by omega)
  have y3 := fz (w.heap.size + 2) 3 (by omega) (by omega)
  obtain ⟨a3, c3, rfl, hx'⟩ := hx
  have hx : PairsAt (w.heap.size + 3) w1.heap.size w1 (.slice a3 cs.length c3) cs := PairsAt.mono ⟨a3, c3, rfl, hx'⟩ (by simp [World.setCell]) (Nat.le_refl _)
  clear hx' hb1 fz
  have t2 : Touch (w.heap.size + 2) 2 3 w1 (w1.setCell ⟨w.heap.size + 2, 2, none⟩ (.slice a3 cs.length c3)) := (Touch.refl _ _ _ _).setCell (by omega) (by omega) _
  have J2 : (w1.setCell ⟨w.heap.size + 2, 2, none⟩ (.slice a3 cs.length c3)).cell? ⟨w.heap.size + 2, 2, none⟩ = some (.slice a3 cs.length c3) := World.cell?_setCell_same _ _ _ j2
  go_wp2_with fail
  generalize (w1.setCell ⟨w.heap.size + 2, 2, none⟩ (.slice a3 cs.length c3)) = w2 at *
  have hW2 : Below w.heap.size w w2 := hW.trans (t2.below (by omega) (by omega))
  refine (toCellS_full bs _ _ hn2 (h2.below hW2)).mono ?_
  rintro e w3 ⟨y, rfl, hcy, hy, hb3⟩
  have hs2 : w1.heap.size ≤ w2.heap.size := t2.size
  have hs3 : w2.heap.size ≤ w3.heap.size := hb3.size
  have hW3 : Below w.heap.size w w3 := hW2.trans (hb3.mono (by omega))
  replace k0 := cellb hb3 (t2.cellAt k0 (by omega))
  replace k1 := cellb hb3 (t2.cellAt k1 (by omega))
  replace k2 := cellb hb3 (t2.cellAt k2 (by omega))
  replace k3 := cellb hb3 (t2.cellAt k3 (by omega))
  replace j0 := cellb hb3 (t2.cellAt j0 (by omega))
  replace j1 := cellb hb3 (t2.cellAt j1 (by omega))
  replace j3 := cellb hb3 (t2.cellAt j3 (by omega))
  replace J2 := cellb hb3 J2
  replace z0 : w3.frozen? ⟨w.heap.size + 1, 0, none⟩ = false := by rw [hb3.frozen (p := ⟨w.heap.size + 1, 0, none⟩) (by simp; omega)]; exact t2.frozenAt (by omega) z0
  replace z1 : w3.frozen? ⟨w.heap.size + 1, 1, none⟩ = false := by rw [hb3.frozen (p := ⟨w.heap.size + 1, 1, none⟩) (by simp; omega)]; exact t2.frozenAt (by omega) z1
  replace z2 : w3.frozen? ⟨w.heap.size + 1, 2, none⟩ = false := by rw [hb3.frozen (p := ⟨w.heap.size + 1, 2, none⟩) (by simp; omega)]; exact t2.frozenAt (by omega) z2
  replace z3 : w3.frozen? ⟨w.heap.size + 1, 3, none⟩ = false := by rw [hb3.frozen (p := ⟨w.heap.size + 1, 3, none⟩) (by simp; omega)]; exact t2.frozenAt (by omega) z3
  replace y3 : w3.frozen? ⟨w.heap.size + 2, 3, none⟩ = false := by rw [hb3.frozen (p := ⟨w.heap.size + 2, 3, none⟩) (by simp; omega)]; exact t2.frozenAt (by omega) y3
  replace hx := (hx.within (t2.within (lo := w.heap.size) (hi := w.heap.size + 3) (by omega) (by omega)) (Nat.le_refl _) (by omega)).below hb3 (by omega)
  obtain ⟨a4, c4, rfl, hy'⟩ := hy
  have hy : PairsAt w2.heap.size w3.heap.size w3 (.slice a4 bs.length c4) bs := ⟨a4, c4, rfl, hy'⟩
  clear hy' t2 hb3 hW hW2 A3 j2 y2
  have J3 : (w3.setCell ⟨w.heap.size + 2, 3, none⟩ (.slice a4 bs.length c4)).cell? ⟨w.heap.size + 2, 3, none⟩ = some (.slice a4 bs.length c4) := World.cell?_setCell_same _ _ _ j3
  have t3 : Touch (w.heap.size + 2) 3 4 w3 (w3.setCell ⟨w.heap.size + 2, 3, none⟩ (.slice a4 bs.length c4)) := (Touch.refl _ _ _ _).setCell (by omega) (by omega) _
  have HR := hide (res4 (w := w3.setCell ⟨w.heap.size + 2, 3, none⟩ (.slice a4 bs.length c4)) (r := w.heap.size + 1) (.int .i64 r) (.int .i64 wd) (.slice a3 cs.length c3) (.slice a4 bs.length c4) (t3.cellAt k0 (by omega)) (t3.cellAt k1 (by omega)) (t3.cellAt k2 (by omega)) (t3.cellAt k3 (by omega)))
  have T0 := hide t3
  clear t3
  go_wp2
  have hr := HR.out
  refine bodyPost_ret (v := .agg #[.int .i64 r, .int .i64 wd, .slice a3 cs.length c3, .slice a4 bs.length c4]) (by simp only [results, Tryd.results24]; simp [go_sem, hr.1, hr.2.1, hr.2.2.1, hr.2.2.2]) rfl ⟨_, _, rfl, hcx, hcy, ?_, ?_⟩
  · refine (GOwn.of hx hy (lo := w.heap.size + 3) (hi := w3.heap.size) (by omega) (by omega) (by omega) (by omega) (by omega)).of_blocks ?_ |>.mono (by omega) (by simp [World.setCell])
    intro i hi _
    simp only [World.setCell, Array.getElem?_modify]
    repeat rw [if_neg (by omega)]
  · exact (by repeat' (first | with_reducible exact Below.refl _ _ | with_reducible assumption | with_reducible refine Below.drew ?_ | with_reducible refine Below.alloc ?_ ?_ _ | with_reducible refine Below.setCell ?_ ?_ _ | (simp; done) | (simp; omega) | omega))


end Go.Proofs.YtknkbihjboadjaaDoor

/- toScreen of the laws, with room: what its lists may be cut to. -/
namespace Go.Proofs.YtknkbihjboadjaaDoor
set_option maxRecDepth 20000
open Go.ChangeShapes Go.WideShapes Go.ChangeAt Go.RowKit
set_option linter.unusedVariables false
set_option linter.unusedSimpArgs false
set_option maxRecDepth 20000

set_option maxHeartbeats 400000 in
theorem toBools_full (zs : List Bool) (v : Value) (w : World) (hn : zs.length ≤ 1048576) (h1 : BRead w v zs) :
    Calls Tryd.prog 25 #[v] w fun e w' => ∃ v', e = .returned v' ∧ Capped v' ∧ BoolsAt w.heap.size w'.heap.size w' v' zs ∧ Below w.heap.size w w' := by
  obtain ⟨i0, hi, hz0, hz1, hz2⟩ := info_parts info_toBools
  obtain ⟨a1, c1, rfl, h1⟩ := h1
  go_enter Tryd.func25, Tryd.ntmps25
  go_wp2_with (at_make; refine wpList_make_full _ rfl (.tmp 6) (.tmp 6) 25 rfl w.heap.size 4 i0 (.bool false) 1 Tryd.underlying25 hi hz0 hz1 .i64 .i64 _ _ zs.length rfl rfl rfl rfl ?c1 ?c2 ?c3 ?_)
  case c1 => rw [hz2]; omega
  case c2 => unfold maxLen; omega
  case c3 => exact Nat.le_refl _
  intro w1 hown hgrow
  have hany := own_any hown
  have hlt1 : w.heap.size < w1.heap.size := (hown.lt w.heap.size rfl).2
  have hb1 : Below w.heap.size w w1 := (Below.refl _ _).grown hgrow (Nat.le_refl _) (fun k hk => by cases hk)
  have HA := hide hany
  clear hown hgrow hany
  go_wp2
  go_loopw [4] (fun i wr => ∃ k : Nat, k ≤ zs.length ∧ i = .int .i64 k ∧ Below w.heap.size w wr ∧ w.heap.size < wr.heap.size ∧
      (∀ j, j < zs.length → (∃ u, wr.cell? ⟨w.heap.size, 0 + j, none⟩ = some u) ∧ wr.frozen? ⟨w.heap.size, 0 + j, none⟩ = false) ∧ ∀ j, j < k → wr.cell? ⟨w.heap.size, 0 + j, none⟩ = some (.bool (zs.getD j false))) (fun i _ => zs.length - (intOf i).toNat)
  case atStart => exact ⟨0, Nat.zero_le _, rfl, hb1, hlt1, HA.out, fun j hj => by omega⟩
  case round =>
    obtain ⟨k, hkk, rfl, hw, hsz, hf, hc⟩ := hrel
    by_cases hlt : k < zs.length
    · have hpos : zs ≠ [] := by intro h; rw [h] at hlt; simp at hlt
      rcases h1 with h1 | ⟨b1, o1, rfl, h1⟩
      · exact absurd h1 hpos
      have g0 := cellb hw (h1 k hlt)
      obtain ⟨⟨u, g1⟩, f1⟩ := hf k hlt
      have hltI : (k : Int) < (zs.length : Int) := by omega
      have HF := hide hf
      have HC := hide hc
      have G1 := hide g1
      rw [Nat.zero_add] at g1 f1
      clear hf hc h1 hpos HA hb1 hlt1
      go_wp2
      go_roundw
      case rel =>
        have e0 : (⟨w.heap.size, k, none⟩ : Addr) = ⟨w.heap.size, 0 + k, none⟩ := by rw [Nat.zero_add]
        refine ⟨k + 1, by omega, by go_num, hw.setCell (Nat.le_refl _) _, by simpa [World.setCell] using hsz, fun j hj => ⟨?_, ?_⟩, fun j hj => ?_⟩
        · by_cases e : j = k
          · subst e; rw [e0]; exact ⟨_, World.cell?_setCell_same _ _ _ G1.out⟩
          · obtain ⟨u', hu'⟩ := (HF.out j hj).1
            exact ⟨u', by rw [World.cell?_setCell_other _ _ _ _ (addr_ne (by omega))]; exact hu'⟩
        · rw [World.frozen?_setCell]; exact (HF.out j hj).2
        · by_cases e : j = k
          · subst e; rw [e0, World.cell?_setCell_same _ _ _ G1.out]; simp [hlt]
          · rw [World.cell?_setCell_other _ _ _ _ (addr_ne (by omega))]; exact HC.out j (by omega)
      case measure => simp [intOf]; omega
    · have hk' : k = zs.length := by omega
      subst hk'
      go_wp2
      go_ret
      exact ⟨_, rfl, Capped.of (Nat.le_refl _), ⟨_, _, rfl, .inr ⟨w.heap.size, 0, rfl, Nat.le_refl _, hsz, fun i hi => ⟨hc i hi, (hf i hi).2⟩⟩⟩, hw⟩
set_option maxHeartbeats 4000000 in
theorem toScreen_full (s : Scr) (v1 v2 v3 v4 : Value) (w : World) (hn1 : s.cs.length ≤ 1048576) (hn2 : s.bs.length ≤ 1048576) (hn3 : s.tabs.length ≤ 1048576) (hn4 : s.sets.length ≤ 1048576) (h : SRead w s v1 v2 v3 v4) :
    Calls Tryd.prog 8 #[.agg (scrA s v1 v2 v3 v4)] w fun e w' => ∃ u1 u2 u3 u4, e = .returned (.agg (scrA s u1 u2 u3 u4)) ∧ Capped u1 ∧ Capped u2 ∧ Capped u3 ∧ SOwn w.heap.size w'.heap.size w' u1 u2 u3 u4 s ∧ Below w.heap.size w w' := by
  have e0 := scrA_0 s v1 v2 v3 v4
  have e1 := scrA_1 s v1 v2 v3 v4
  have e2 := scrA_2 s v1 v2 v3 v4
  have e3 := scrA_3 s v1 v2 v3 v4
  have e4 := scrA_4 s v1 v2 v3 v4
  have e5 := scrA_5 s v1 v2 v3 v4
  have e6 := scrA_6 s v1 v2 v3 v4
  have e7 := scrA_7 s v1 v2 v3 v4
  have e8 := scrA_8 s v1 v2 v3 v4
  have e9 := scrA_9 s v1 v2 v3 v4
  have e10 := scrA_10 s v1 v2 v3 v4
  have e11 := scrA_11 s v1 v2 v3 v4
  have e12 := scrA_12 s v1 v2 v3 v4
  have e13 := scrA_13 s v1 v2 v3 v4
  have e14 := scrA_14 s v1 v2 v3 v4
  have e15 := scrA_15 s v1 v2 v3 v4
  have e16 := scrA_16 s v1 v2 v3 v4
  have e17 := scrA_17 s v1 v2 v3 v4
  have e18 := scrA_18 s v1 v2 v3 v4
  have e19 := scrA_19 s v1 v2 v3 v4
  have bel0 : Below w.heap.size w (((w.alloc (.cells (scrA s v1 v2 v3 v4) 28)).alloc (.cells #[.int .i64 0, .int .i64 0, .slice none 0 0, .slice none 0 0, .int .i64 0, .int .i64 0, .bool false, .int .i64 0, .int .i64 0, .int .i64 0, .bool false, .bool false, .bool false, .slice none 0 0, .int .i64 0, .int .i64 0, .int .i64 0, .slice none 0 0, .int .i64 0, .int .i64 0] 38)).alloc (.cells #[.int .i64 0, .int .i64 0, .slice none 0 0, .slice none 0 0, .int .i64 0, .int .i64 0, .bool false, .int .i64 0, .int .i64 0, .int .i64 0, .bool false, .bool false, .bool false, .slice none 0 0, .int .i64 0, .int .i64 0, .int .i64 0, .slice none 0 0, .int .i64 0, .int .i64 0] 38)) := (by repeat' (first | with_reducible exact Below.refl _ _ | with_reducible assumption | with_reducible refine Below.drew ?_ | with_reducible refine Below.alloc ?_ ?_ _ | with_reducible refine Below.setCell ?_ ?_ _ | (simp; done) | (simp; omega) | omega))
  have hA : Blk (((w.alloc (.cells (scrA s v1 v2 v3 v4) 28)).alloc (.cells #[.int .i64 0, .int .i64 0, .slice none 0 0, .slice none 0 0, .int .i64 0, .int .i64 0, .bool false, .int .i64 0, .int .i64 0, .int .i64 0, .bool false, .bool false, .bool false, .slice none 0 0, .int .i64 0, .int .i64 0, .int .i64 0, .slice none 0 0, .int .i64 0, .int .i64 0] 38)).alloc (.cells #[.int .i64 0, .int .i64 0, .slice none 0 0, .slice none 0 0, .int .i64 0, .int .i64 0, .bool false, .int .i64 0, .int .i64 0, .int .i64 0, .bool false, .bool false, .bool false, .slice none 0 0, .int .i64 0, .int .i64 0, .int .i64 0, .slice none 0 0, .int .i64 0, .int .i64 0] 38)) w.heap.size (scrA s v1 v2 v3 v4) := ((Blk.new w _ _).alloc _).alloc _
  have hR : Blk (((w.alloc (.cells (scrA s v1 v2 v3 v4) 28)).alloc (.cells #[.int .i64 0, .int .i64 0, .slice none 0 0, .slice none 0 0, .int .i64 0, .int .i64 0, .bool false, .int .i64 0, .int .i64 0, .int .i64 0, .bool false, .bool false, .bool false, .slice none 0 0, .int .i64 0, .int .i64 0, .int .i64 0, .slice none 0 0, .int .i64 0, .int .i64 0] 38)).alloc (.cells #[.int .i64 0, .int .i64 0, .slice none 0 0, .slice none 0 0, .int .i64 0, .int .i64 0, .bool false, .int .i64 0, .int .i64 0, .int .i64 0, .bool false, .bool false, .bool false, .slice none 0 0, .int .i64 0, .int .i64 0, .int .i64 0, .slice none 0 0, .int .i64 0, .int .i64 0] 38)) (w.heap.size + 1) (scrA scr0 (.slice none 0 0) (.slice none 0 0) (.slice none 0 0) (.slice none 0 0)) := Blk.alloc (Blk.new_at (by simp) _ _) _
  have hO : Blk (((w.alloc (.cells (scrA s v1 v2 v3 v4) 28)).alloc (.cells #[.int .i64 0, .int .i64 0, .slice none 0 0, .slice none 0 0, .int .i64 0, .int .i64 0, .bool false, .int .i64 0, .int .i64 0, .int .i64 0, .bool false, .bool false, .bool false, .slice none 0 0, .int .i64 0, .int .i64 0, .int .i64 0, .slice none 0 0, .int .i64 0, .int .i64 0] 38)).alloc (.cells #[.int .i64 0, .int .i64 0, .slice none 0 0, .slice none 0 0, .int .i64 0, .int .i64 0, .bool false, .int .i64 0, .int .i64 0, .int .i64 0, .bool false, .bool false, .bool false, .slice none 0 0, .int .i64 0, .int .i64 0, .int .i64 0, .slice none 0 0, .int .i64 0, .int .i64 0] 38)) (w.heap.size + 2) (scrA scr0 (.slice none 0 0) (.slice none 0 0) (.slice none 0 0) (.slice none 0 0)) := Blk.new_at (by simp) _ _
  have hs0 : (((w.alloc (.cells (scrA s v1 v2 v3 v4) 28)).alloc (.cells #[.int .i64 0, .int .i64 0, .slice none 0 0, .slice none 0 0, .int .i64 0, .int .i64 0, .bool false, .int .i64 0, .int .i64 0, .int .i64 0, .bool false, .bool false, .bool false, .slice none 0 0, .int .i64 0, .int .i64 0, .int .i64 0, .slice none 0 0, .int .i64 0, .int .i64 0] 38)).alloc (.cells #[.int .i64 0, .int .i64 0, .slice none 0 0, .slice none 0 0, .int .i64 0, .int .i64 0, .bool false, .int .i64 0, .int .i64 0, .int .i64 0, .bool false, .bool false, .bool false, .slice none 0 0, .int .i64 0, .int .i64 0, .int .i64 0, .slice none 0 0, .int .i64 0, .int .i64 0] 38)).heap.size = w.heap.size + 3 := by simp
  have cA := hA.cells
  go_enter Tryd.func8, Tryd.ntmps8
  go_wp2_with fail
  generalize (((w.alloc (.cells (scrA s v1 v2 v3 v4) 28)).alloc (.cells #[.int .i64 0, .int .i64 0, .slice none 0 0, .slice none 0 0, .int .i64 0, .int .i64 0, .bool false, .int .i64 0, .int .i64 0, .int .i64 0, .bool false, .bool false, .bool false, .slice none 0 0, .int .i64 0, .int .i64 0, .int .i64 0, .slice none 0 0, .int .i64 0, .int .i64 0] 38)).alloc (.cells #[.int .i64 0, .int .i64 0, .slice none 0 0, .slice none 0 0, .int .i64 0, .int .i64 0, .bool false, .int .i64 0, .int .i64 0, .int .i64 0, .bool false, .bool false, .bool false, .slice none 0 0, .int .i64 0, .int .i64 0, .int .i64 0, .slice none 0 0, .int .i64 0, .int .i64 0] 38)) = w1 at *
  refine (toGrid_full s.r s.wd s.cs s.bs _ _ _ hn1 hn2 (h.g1.below bel0) (h.g2.below bel0)).mono ?_
  rintro e w2 ⟨y1, y2, rfl, hk1, hk2, hG, hb⟩
  obtain ⟨x1, k1, x2, k2, rfl, rfl⟩ := hG.forms
  have HK1 := hide hk1
  have HK2 := hide hk2
  clear hk1 hk2
  replace hA := hA.belowb hb
  replace cA := hA.cells
  replace hR := hR.belowb hb
  replace hO := hO.belowb hb
  have bel := bel0.trans (hb.mono bel0.size)
  have hs2 : w1.heap.size ≤ w2.heap.size := hb.size
  clear hb bel0
  have hU := Upd.refl (w.heap.size + 2) w2
  go_wp2_with (first
    | (refine wpList_store_blk rfl _ _ _ rfl (w.heap.size + 2) 0 (scrA scr0 (.slice none 0 0) (.slice none 0 0) (.slice none 0 0) (.slice none 0 0)) (scrA ({ scr0 with r := s.r, wd := s.wd } : Scr) (.slice x1 s.cs.length k1) (.slice x2 s.bs.length k2) (.slice none 0 0) (.slice none 0 0)) (.agg #[.int .i64 s.r, .int .i64 s.wd, .slice x1 s.cs.length k1, .slice x2 s.bs.length k2]) rfl rfl hO rfl (by kernel_rfl) rfl rfl ?_; (try simp only [Act.put, List.setIfInBounds_toArray, List.set_cons_zero, List.set_cons_succ]); clear hO; intro w9 hO hu; replace hU := hU.trans hu; replace hA := hA.upd hu (by omega); replace cA := hA.cells; replace hR := hR.upd hu (by omega); clear hu)
    | (refine wpList_store_blk rfl _ _ _ rfl (w.heap.size + 2) 4 (scrA ({ scr0 with r := s.r, wd := s.wd } : Scr) (.slice x1 s.cs.length k1) (.slice x2 s.bs.length k2) (.slice none 0 0) (.slice none 0 0)) (scrA ({ scr0 with r := s.r, wd := s.wd, y := s.y } : Scr) (.slice x1 s.cs.length k1) (.slice x2 s.bs.length k2) (.slice none 0 0) (.slice none 0 0)) (.int .i64 s.y) rfl rfl hO rfl (by kernel_rfl) rfl rfl ?_; (try simp only [Act.put, List.setIfInBounds_toArray, List.set_cons_zero, List.set_cons_succ]); clear hO; intro w9 hO hu; replace hU := hU.trans hu; replace hA := hA.upd hu (by omega); replace cA := hA.cells; replace hR := hR.upd hu (by omega); clear hu)
    | (refine wpList_store_blk rfl _ _ _ rfl (w.heap.size + 2) 5 (scrA ({ scr0 with r := s.r, wd := s.wd, y := s.y } : Scr) (.slice x1 s.cs.length k1) (.slice x2 s.bs.length k2) (.slice none 0 0) (.slice none 0 0)) (scrA ({ scr0 with r := s.r, wd := s.wd, y := s.y, x := s.x } : Scr) (.slice x1 s.cs.length k1) (.slice x2 s.bs.length k2) (.slice none 0 0) (.slice none 0 0)) (.int .i64 s.x) rfl rfl hO rfl (by kernel_rfl) rfl rfl ?_; (try simp only [Act.put, List.setIfInBounds_toArray, List.set_cons_zero, List.set_cons_succ]); clear hO; intro w9 hO hu; replace hU := hU.trans hu; replace hA := hA.upd hu (by omega); replace cA := hA.cells; replace hR := hR.upd hu (by omega); clear hu)
    | (refine wpList_store_blk rfl _ _ _ rfl (w.heap.size + 2) 6 (scrA ({ scr0 with r := s.r, wd := s.wd, y := s.y, x := s.x } : Scr) (.slice x1 s.cs.length k1) (.slice x2 s.bs.length k2) (.slice none 0 0) (.slice none 0 0)) (scrA ({ scr0 with r := s.r, wd := s.wd, y := s.y, x := s.x, wrap := s.wrap } : Scr) (.slice x1 s.cs.length k1) (.slice x2 s.bs.length k2) (.slice none 0 0) (.slice none 0 0)) (.bool s.wrap) rfl rfl hO rfl (by kernel_rfl) rfl rfl ?_; (try simp only [Act.put, List.setIfInBounds_toArray, List.set_cons_zero, List.set_cons_succ]); clear hO; intro w9 hO hu; replace hU := hU.trans hu; replace hA := hA.upd hu (by omega); replace cA := hA.cells; replace hR := hR.upd hu (by omega); clear hu)
    | (refine wpList_store_blk rfl _ _ _ rfl (w.heap.size + 2) 7 (scrA ({ scr0 with r := s.r, wd := s.wd, y := s.y, x := s.x, wrap := s.wrap } : Scr) (.slice x1 s.cs.length k1) (.slice x2 s.bs.length k2) (.slice none 0 0) (.slice none 0 0)) (scrA ({ scr0 with r := s.r, wd := s.wd, y := s.y, x := s.x, wrap := s.wrap, attr := s.attr } : Scr) (.slice x1 s.cs.length k1) (.slice x2 s.bs.length k2) (.slice none 0 0) (.slice none 0 0)) (.int .i64 s.attr) rfl rfl hO rfl (by kernel_rfl) rfl rfl ?_; (try simp only [Act.put, List.setIfInBounds_toArray, List.set_cons_zero, List.set_cons_succ]); clear hO; intro w9 hO hu; replace hU := hU.trans hu; replace hA := hA.upd hu (by omega); replace cA := hA.cells; replace hR := hR.upd hu (by omega); clear hu)
    | (refine wpList_store_blk rfl _ _ _ rfl (w.heap.size + 2) 8 (scrA ({ scr0 with r := s.r, wd := s.wd, y := s.y, x := s.x, wrap := s.wrap, attr := s.attr } : Scr) (.slice x1 s.cs.length k1) (.slice x2 s.bs.length k2) (.slice none 0 0) (.slice none 0 0)) (scrA ({ scr0 with r := s.r, wd := s.wd, y := s.y, x := s.x, wrap := s.wrap, attr := s.attr, top := s.top } : Scr) (.slice x1 s.cs.length k1) (.slice x2 s.bs.length k2) (.slice none 0 0) (.slice none 0 0)) (.int .i64 s.top) rfl rfl hO rfl (by kernel_rfl) rfl rfl ?_; (try simp only [Act.put, List.setIfInBounds_toArray, List.set_cons_zero, List.set_cons_succ]); clear hO; intro w9 hO hu; replace hU := hU.trans hu; replace hA := hA.upd hu (by omega); replace cA := hA.cells; replace hR := hR.upd hu (by omega); clear hu)
    | (refine wpList_store_blk rfl _ _ _ rfl (w.heap.size + 2) 9 (scrA ({ scr0 with r := s.r, wd := s.wd, y := s.y, x := s.x, wrap := s.wrap, attr := s.attr, top := s.top } : Scr) (.slice x1 s.cs.length k1) (.slice x2 s.bs.length k2) (.slice none 0 0) (.slice none 0 0)) (scrA ({ scr0 with r := s.r, wd := s.wd, y := s.y, x := s.x, wrap := s.wrap, attr := s.attr, top := s.top, bot := s.bot } : Scr) (.slice x1 s.cs.length k1) (.slice x2 s.bs.length k2) (.slice none 0 0) (.slice none 0 0)) (.int .i64 s.bot) rfl rfl hO rfl (by kernel_rfl) rfl rfl ?_; (try simp only [Act.put, List.setIfInBounds_toArray, List.set_cons_zero, List.set_cons_succ]); clear hO; intro w9 hO hu; replace hU := hU.trans hu; replace hA := hA.upd hu (by omega); replace cA := hA.cells; replace hR := hR.upd hu (by omega); clear hu)
    | (refine wpList_store_blk rfl _ _ _ rfl (w.heap.size + 2) 10 (scrA ({ scr0 with r := s.r, wd := s.wd, y := s.y, x := s.x, wrap := s.wrap, attr := s.attr, top := s.top, bot := s.bot } : Scr) (.slice x1 s.cs.length k1) (.slice x2 s.bs.length k2) (.slice none 0 0) (.slice none 0 0)) (scrA ({ scr0 with r := s.r, wd := s.wd, y := s.y, x := s.x, wrap := s.wrap, attr := s.attr, top := s.top, bot := s.bot, org := s.org } : Scr) (.slice x1 s.cs.length k1) (.slice x2 s.bs.length k2) (.slice none 0 0) (.slice none 0 0)) (.bool s.org) rfl rfl hO rfl (by kernel_rfl) rfl rfl ?_; (try simp only [Act.put, List.setIfInBounds_toArray, List.set_cons_zero, List.set_cons_succ]); clear hO; intro w9 hO hu; replace hU := hU.trans hu; replace hA := hA.upd hu (by omega); replace cA := hA.cells; replace hR := hR.upd hu (by omega); clear hu)
    | (refine wpList_store_blk rfl _ _ _ rfl (w.heap.size + 2) 11 (scrA ({ scr0 with r := s.r, wd := s.wd, y := s.y, x := s.x, wrap := s.wrap, attr := s.attr, top := s.top, bot := s.bot, org := s.org } : Scr) (.slice x1 s.cs.length k1) (.slice x2 s.bs.length k2) (.slice none 0 0) (.slice none 0 0)) (scrA ({ scr0 with r := s.r, wd := s.wd, y := s.y, x := s.x, wrap := s.wrap, attr := s.attr, top := s.top, bot := s.bot, org := s.org, auto := s.auto } : Scr) (.slice x1 s.cs.length k1) (.slice x2 s.bs.length k2) (.slice none 0 0) (.slice none 0 0)) (.bool s.auto) rfl rfl hO rfl (by kernel_rfl) rfl rfl ?_; (try simp only [Act.put, List.setIfInBounds_toArray, List.set_cons_zero, List.set_cons_succ]); clear hO; intro w9 hO hu; replace hU := hU.trans hu; replace hA := hA.upd hu (by omega); replace cA := hA.cells; replace hR := hR.upd hu (by omega); clear hu)
    | (refine wpList_store_blk rfl _ _ _ rfl (w.heap.size + 2) 12 (scrA ({ scr0 with r := s.r, wd := s.wd, y := s.y, x := s.x, wrap := s.wrap, attr := s.attr, top := s.top, bot := s.bot, org := s.org, auto := s.auto } : Scr) (.slice x1 s.cs.length k1) (.slice x2 s.bs.length k2) (.slice none 0 0) (.slice none 0 0)) (scrA ({ scr0 with r := s.r, wd := s.wd, y := s.y, x := s.x, wrap := s.wrap, attr := s.attr, top := s.top, bot := s.bot, org := s.org, auto := s.auto, ins := s.ins } : Scr) (.slice x1 s.cs.length k1) (.slice x2 s.bs.length k2) (.slice none 0 0) (.slice none 0 0)) (.bool s.ins) rfl rfl hO rfl (by kernel_rfl) rfl rfl ?_; (try simp only [Act.put, List.setIfInBounds_toArray, List.set_cons_zero, List.set_cons_succ]); clear hO; intro w9 hO hu; replace hU := hU.trans hu; replace hA := hA.upd hu (by omega); replace cA := hA.cells; replace hR := hR.upd hu (by omega); clear hu))
  refine (toBools_full s.tabs _ _ hn3 (h.g3.below (bel.trans (hU.below (Nat.le_add_right _ _))))).mono ?_
  rintro e w3 ⟨y3, rfl, hk3, hT, hb⟩
  have HK3 := hide hk3
  clear hk3
  obtain ⟨x3, k3, hy3, hT'⟩ := hT
  subst hy3
  replace hA := hA.belowb hb
  replace cA := hA.cells
  replace hR := hR.belowb hb
  replace hO := hO.belowb hb
  have bel3 := (bel.trans (hU.below (Nat.le_add_right _ _))).trans (hb.mono (by have := hU.size; omega))
  have hs3 : w2.heap.size ≤ w3.heap.size := by have := hU.size; have := hb.size; omega
  replace hG : GOwn w1.heap.size w2.heap.size w3 _ _ s.cs s.bs := (hG.of_blocks (fun k k1 k2 => (hb.block k (by have := hU.size; omega)).trans (hU.block k (by omega))))
  have hT : BoolsAt w2.heap.size w3.heap.size w3 (.slice x3 s.tabs.length k3) s.tabs := BoolsAt.mono ⟨x3, k3, rfl, hT'⟩ (by have := hU.size; omega) (Nat.le_refl _)
  clear hb hU hT'
  have hU := Upd.refl (w.heap.size + 2) w3
  go_wp2_with (first
    | (refine wpList_store_blk rfl _ _ _ rfl (w.heap.size + 2) 13 (scrA ({ scr0 with r := s.r, wd := s.wd, y := s.y, x := s.x, wrap := s.wrap, attr := s.attr, top := s.top, bot := s.bot, org := s.org, auto := s.auto, ins := s.ins } : Scr) (.slice x1 s.cs.length k1) (.slice x2 s.bs.length k2) (.slice none 0 0) (.slice none 0 0)) (scrA ({ scr0 with r := s.r, wd := s.wd, y := s.y, x := s.x, wrap := s.wrap, attr := s.attr, top := s.top, bot := s.bot, org := s.org, auto := s.auto, ins := s.ins } : Scr) (.slice x1 s.cs.length k1) (.slice x2 s.bs.length k2) (.slice x3 s.tabs.length k3) (.slice none 0 0)) (.slice x3 s.tabs.length k3) rfl rfl hO rfl (by kernel_rfl) rfl rfl ?_; (try simp only [Act.put, List.setIfInBounds_toArray, List.set_cons_zero, List.set_cons_succ]); clear hO; intro w9 hO hu; replace hU := hU.trans hu; replace hA := hA.upd hu (by omega); replace cA := hA.cells; replace hR := hR.upd hu (by omega); clear hu)
    | (refine wpList_store_blk rfl _ _ _ rfl (w.heap.size + 2) 14 (scrA ({ scr0 with r := s.r, wd := s.wd, y := s.y, x := s.x, wrap := s.wrap, attr := s.attr, top := s.top, bot := s.bot, org := s.org, auto := s.auto, ins := s.ins } : Scr) (.slice x1 s.cs.length k1) (.slice x2 s.bs.length k2) (.slice x3 s.tabs.length k3) (.slice none 0 0)) (scrA ({ scr0 with r := s.r, wd := s.wd, y := s.y, x := s.x, wrap := s.wrap, attr := s.attr, top := s.top, bot := s.bot, org := s.org, auto := s.auto, ins := s.ins, ky := s.ky } : Scr) (.slice x1 s.cs.length k1) (.slice x2 s.bs.length k2) (.slice x3 s.tabs.length k3) (.slice none 0 0)) (.int .i64 s.ky) rfl rfl hO rfl (by kernel_rfl) rfl rfl ?_; (try simp only [Act.put, List.setIfInBounds_toArray, List.set_cons_zero, List.set_cons_succ]); clear hO; intro w9 hO hu; replace hU := hU.trans hu; replace hA := hA.upd hu (by omega); replace cA := hA.cells; replace hR := hR.upd hu (by omega); clear hu)
    | (refine wpList_store_blk rfl _ _ _ rfl (w.heap.size + 2) 15 (scrA ({ scr0 with r := s.r, wd := s.wd, y := s.y, x := s.x, wrap := s.wrap, attr := s.attr, top := s.top, bot := s.bot, org := s.org, auto := s.auto, ins := s.ins, ky := s.ky } : Scr) (.slice x1 s.cs.length k1) (.slice x2 s.bs.length k2) (.slice x3 s.tabs.length k3) (.slice none 0 0)) (scrA ({ scr0 with r := s.r, wd := s.wd, y := s.y, x := s.x, wrap := s.wrap, attr := s.attr, top := s.top, bot := s.bot, org := s.org, auto := s.auto, ins := s.ins, ky := s.ky, kx := s.kx } : Scr) (.slice x1 s.cs.length k1) (.slice x2 s.bs.length k2) (.slice x3 s.tabs.length k3) (.slice none 0 0)) (.int .i64 s.kx) rfl rfl hO rfl (by kernel_rfl) rfl rfl ?_; (try simp only [Act.put, List.setIfInBounds_toArray, List.set_cons_zero, List.set_cons_succ]); clear hO; intro w9 hO hu; replace hU := hU.trans hu; replace hA := hA.upd hu (by omega); replace cA := hA.cells; replace hR := hR.upd hu (by omega); clear hu)
    | (refine wpList_store_blk rfl _ _ _ rfl (w.heap.size + 2) 16 (scrA ({ scr0 with r := s.r, wd := s.wd, y := s.y, x := s.x, wrap := s.wrap, attr := s.attr, top := s.top, bot := s.bot, org := s.org, auto := s.auto, ins := s.ins, ky := s.ky, kx := s.kx } : Scr) (.slice x1 s.cs.length k1) (.slice x2 s.bs.length k2) (.slice x3 s.tabs.length k3) (.slice none 0 0)) (scrA ({ scr0 with r := s.r, wd := s.wd, y := s.y, x := s.x, wrap := s.wrap, attr := s.attr, top := s.top, bot := s.bot, org := s.org, auto := s.auto, ins := s.ins, ky := s.ky, kx := s.kx, ka := s.ka } : Scr) (.slice x1 s.cs.length k1) (.slice x2 s.bs.length k2) (.slice x3 s.tabs.length k3) (.slice none 0 0)) (.int .i64 s.ka) rfl rfl hO rfl (by kernel_rfl) rfl rfl ?_; (try simp only [Act.put, List.setIfInBounds_toArray, List.set_cons_zero, List.set_cons_succ]); clear hO; intro w9 hO hu; replace hU := hU.trans hu; replace hA := hA.upd hu (by omega); replace cA := hA.cells; replace hR := hR.upd hu (by omega); clear hu))
  refine (toInts_calls s.sets _ _ hn4 (h.g4.below (bel3.trans (hU.below (Nat.le_add_right _ _))))).mono ?_
  rintro e w4 ⟨y4, rfl, hI, hb⟩
  obtain ⟨x4, k4, hy4, hI'⟩ := hI
  subst hy4
  replace hA := hA.belowb hb
  replace cA := hA.cells
  replace hR := hR.belowb hb
  replace hO := hO.belowb hb
  have bel4 := (bel3.trans (hU.below (Nat.le_add_right _ _))).trans (hb.mono (by have := hU.size; omega))
  have hs4 : w3.heap.size ≤ w4.heap.size := by have := hU.size; have := hb.size; omega
  replace hG : GOwn w1.heap.size w2.heap.size w4 _ _ s.cs s.bs := (hG.of_blocks (fun k k1 k2 => (hb.block k (by have := hU.size; omega)).trans (hU.block k (by omega))))
  replace hT : BoolsAt w2.heap.size w3.heap.size w4 _ s.tabs := (hT.of_blocks (fun k k1 k2 => (hb.block k (by have := hU.size; omega)).trans (hU.block k (by omega))))
  have hI : IntsAt .i64 w3.heap.size w4.heap.size w4 (.slice x4 s.sets.length k4) s.sets := IntsAt.mono ⟨x4, k4, rfl, hI'⟩ (by have := hU.size; omega) (Nat.le_refl _)
  clear hb hU hI'
  have hU := Upd.refl (w.heap.size + 2) w4
  have hV := Upd.refl (w.heap.size + 1) w4
  clear hV
  go_wp2_with (first
    | (refine wpList_store_blk rfl _ _ _ rfl (w.heap.size + 2) 17 (scrA ({ scr0 with r := s.r, wd := s.wd, y := s.y, x := s.x, wrap := s.wrap, attr := s.attr, top := s.top, bot := s.bot, org := s.org, auto := s.auto, ins := s.ins, ky := s.ky, kx := s.kx, ka := s.ka } : Scr) (.slice x1 s.cs.length k1) (.slice x2 s.bs.length k2) (.slice x3 s.tabs.length k3) (.slice none 0 0)) (scrA ({ scr0 with r := s.r, wd := s.wd, y := s.y, x := s.x, wrap := s.wrap, attr := s.attr, top := s.top, bot := s.bot, org := s.org, auto := s.auto, ins := s.ins, ky := s.ky, kx := s.kx, ka := s.ka } : Scr) (.slice x1 s.cs.length k1) (.slice x2 s.bs.length k2) (.slice x3 s.tabs.length k3) (.slice x4 s.sets.length k4)) (.slice x4 s.sets.length k4) rfl rfl hO rfl (by kernel_rfl) rfl rfl ?_; (try simp only [Act.put, List.setIfInBounds_toArray, List.set_cons_zero, List.set_cons_succ]); clear hO; intro w9 hO hu; replace hU := hU.trans hu; replace hA := hA.upd hu (by omega); replace cA := hA.cells; replace hR := hR.upd hu (by omega); clear hu)
    | (refine wpList_store_blk rfl _ _ _ rfl (w.heap.size + 2) 18 (scrA ({ scr0 with r := s.r, wd := s.wd, y := s.y, x := s.x, wrap := s.wrap, attr := s.attr, top := s.top, bot := s.bot, org := s.org, auto := s.auto, ins := s.ins, ky := s.ky, kx := s.kx, ka := s.ka } : Scr) (.slice x1 s.cs.length k1) (.slice x2 s.bs.length k2) (.slice x3 s.tabs.length k3) (.slice x4 s.sets.length k4)) (scrA ({ scr0 with r := s.r, wd := s.wd, y := s.y, x := s.x, wrap := s.wrap, attr := s.attr, top := s.top, bot := s.bot, org := s.org, auto := s.auto, ins := s.ins, ky := s.ky, kx := s.kx, ka := s.ka, sh := s.sh } : Scr) (.slice x1 s.cs.length k1) (.slice x2 s.bs.length k2) (.slice x3 s.tabs.length k3) (.slice x4 s.sets.length k4)) (.int .i64 s.sh) rfl rfl hO rfl (by kernel_rfl) rfl rfl ?_; (try simp only [Act.put, List.setIfInBounds_toArray, List.set_cons_zero, List.set_cons_succ]); clear hO; intro w9 hO hu; replace hU := hU.trans hu; replace hA := hA.upd hu (by omega); replace cA := hA.cells; replace hR := hR.upd hu (by omega); clear hu)
    | (refine wpList_store_blk rfl _ _ _ rfl (w.heap.size + 2) 19 (scrA ({ scr0 with r := s.r, wd := s.wd, y := s.y, x := s.x, wrap := s.wrap, attr := s.attr, top := s.top, bot := s.bot, org := s.org, auto := s.auto, ins := s.ins, ky := s.ky, kx := s.kx, ka := s.ka, sh := s.sh } : Scr) (.slice x1 s.cs.length k1) (.slice x2 s.bs.length k2) (.slice x3 s.tabs.length k3) (.slice x4 s.sets.length k4)) (scrA ({ scr0 with r := s.r, wd := s.wd, y := s.y, x := s.x, wrap := s.wrap, attr := s.attr, top := s.top, bot := s.bot, org := s.org, auto := s.auto, ins := s.ins, ky := s.ky, kx := s.kx, ka := s.ka, sh := s.sh, bells := s.bells } : Scr) (.slice x1 s.cs.length k1) (.slice x2 s.bs.length k2) (.slice x3 s.tabs.length k3) (.slice x4 s.sets.length k4)) (.int .i64 s.bells) rfl rfl hO rfl (by kernel_rfl) rfl rfl ?_; (try simp only [Act.put, List.setIfInBounds_toArray, List.set_cons_zero, List.set_cons_succ]); clear hO; intro w9 hO hu; replace hU := hU.trans hu; replace hA := hA.upd hu (by omega); replace cA := hA.cells; replace hR := hR.upd hu (by omega); clear hu)
    | (refine wpList_load_at rfl 38 _ rfl (w.heap.size + 2) 0 rfl (scrA ({ scr0 with r := s.r, wd := s.wd, y := s.y, x := s.x, wrap := s.wrap, attr := s.attr, top := s.top, bot := s.bot, org := s.org, auto := s.auto, ins := s.ins, ky := s.ky, kx := s.kx, ka := s.ka, sh := s.sh, bells := s.bells } : Scr) (.slice x1 s.cs.length k1) (.slice x2 s.bs.length k2) (.slice x3 s.tabs.length k3) (.slice x4 s.sets.length k4)) (scrA s (.slice x1 s.cs.length k1) (.slice x2 s.bs.length k2) (.slice x3 s.tabs.length k3) (.slice x4 s.sets.length k4)) hO rfl _ Tryd.underlying38 rfl (by kernel_rfl) ?_; simp only [Act.put, List.setIfInBounds_toArray, List.set_cons_zero, List.set_cons_succ])
    | (refine wpList_store_blk rfl _ _ _ rfl (w.heap.size + 1) 0 (scrA scr0 (.slice none 0 0) (.slice none 0 0) (.slice none 0 0) (.slice none 0 0)) (scrA s (.slice x1 s.cs.length k1) (.slice x2 s.bs.length k2) (.slice x3 s.tabs.length k3) (.slice x4 s.sets.length k4)) (.agg (scrA s (.slice x1 s.cs.length k1) (.slice x2 s.bs.length k2) (.slice x3 s.tabs.length k3) (.slice x4 s.sets.length k4))) rfl rfl hR rfl (by kernel_rfl) rfl rfl ?_; (try simp only [Act.put, List.setIfInBounds_toArray, List.set_cons_zero, List.set_cons_succ]); clear hR hO hA cA; intro w9 hR hV))
  refine bodyPost_ret (results_blk hR _ _ rfl rfl Tryd.underlying38 rfl (by kernel_rfl)) rfl ⟨_, _, _, _, rfl, HK1.out, HK2.out, HK3.out, ?_, ?_⟩
  · have hblk : ∀ k, k ≠ w.heap.size + 2 → k ≠ w.heap.size + 1 → w9.heap[k]? = w4.heap[k]? := fun k n1 n2 => (hV.block k n2).trans (hU.block k n1)
    have hz : w9.heap.size = w4.heap.size := hV.size.trans hU.size
    refine ⟨w1.heap.size, w2.heap.size, w2.heap.size, w3.heap.size, w3.heap.size, w4.heap.size, by omega, by omega, by omega, by omega, by omega, by omega, by omega, by omega, by omega, ?_, ?_, ?_⟩
    · exact hG.of_blocks (fun k k1 k2 => hblk k (by omega) (by omega))
    · exact hT.of_blocks (fun k k1 k2 => hblk k (by omega) (by omega))
    · exact hI.of_blocks (fun k k1 k2 => hblk k (by omega) (by omega))
  · exact (bel4.trans (hU.below (Nat.le_add_right _ _))).trans (hV.below (Nat.le_add_right _ _))
end Go.Proofs.YtknkbihjboadjaaDoor

/- A grid that came in, opened: its numbers and its two lists of cells; a cell that came in. -/
namespace Go.Proofs.YtknkbihjboadjaaDoor
set_option maxRecDepth 20000
open Go.ChangeShapes Go.WideShapes Go.ChangeAt Go.RowKit Go.Joins
set_option linter.unusedVariables false
set_option linter.unusedSimpArgs false

theorem grid_cells : Tryd.prog.cellsOf 24 = 4 := by kernel_rfl
theorem cell_cells2 : Tryd.prog.cellsOf 103 = 2 := by kernel_rfl
theorem int_cells1 : Tryd.prog.cellsOf 2 = 1 := by kernel_rfl

set_option maxRecDepth 100000 in
theorem open_cells {H : Type} {enc : TypeId × Value → H} {W : World} {m0 : Nat} {x : Value} {d : DataW H} {p : List MemPlace}
    (h : DataW.trod enc Tryd.prog W 0 (fun _ => true) true m0 22 [x] = some (d, p)) : ∃ ps : List (Int × Int), PRead W x ps ∧ ps.length ≤ maxLen := by
  rcases Go.Deep.open_slice_pairs Tryd.underlying22 Tryd.underlying103 cell_cells2 rfl rfl int_cells1 int_cells1 h with ⟨e1, _⟩ | ⟨a, len, cap, mm, n, V0, V1, D0, D1, P0, P1, e1, _, hl, hm, hmm, _, hc⟩
  · simp at e1
    subst e1
    exact ⟨[], PRead.nil _ _ _, by simp⟩
  · simp at e1
    subst e1
    have hlm : len ≤ mm := by rw [hmm]; split <;> omega
    have each : ∀ i, i < len → ∃ q : Int × Int, V0 i = .int .i64 q.1 ∧ V1 i = .int .i64 q.2 := by
      intro i hi
      obtain ⟨_, _, t0, t1⟩ := hc i (by omega)
      obtain ⟨x, ex, _, _⟩ := DataW.trod_int Tryd.underlying2 t0
      obtain ⟨y, ey, _, _⟩ := DataW.trod_int Tryd.underlying2 t1
      simp at ex ey
      exact ⟨(x, y), ex, ey⟩
    obtain ⟨q, hq⟩ := Go.Deep.choose_lt each
    have hlen : ((List.range len).map q).length = len := by simp
    refine ⟨(List.range len).map q, ⟨_, _, by rw [hlen], ?_⟩, by omega⟩
    by_cases h0 : len = 0
    · left; subst h0; rfl
    · right
      obtain ⟨b, off, spot⟩ := a
      have hc0 := (hc 0 (by omega)).1
      have hspot : spot = none := by simpa [Addr.add] using World.cell?_spot hc0
      subst hspot
      refine ⟨b, off, rfl, fun i hi => ?_⟩
      rw [hlen] at hi
      have hg : ((List.range len).map q).getD i (0, 0) = q i := by simp [List.getD_eq_getElem?_getD, hi]
      obtain ⟨g0, g1, _, _⟩ := hc i (by omega)
      rw [hg, ← (hq i hi).1, ← (hq i hi).2]
      refine ⟨?_, ?_⟩
      · rw [show ((⟨b, off, none⟩ : Addr).add (i * 2)) = ⟨b, off + i * 2, none⟩ from by simp [Addr.add]] at g0; exact g0
      · rw [show ((⟨b, off, none⟩ : Addr).add (i * 2 + 1)) = ⟨b, off + i * 2 + 1, none⟩ from by simp [Addr.add]; omega] at g1; exact g1

set_option maxRecDepth 100000 in
theorem open_grid {H : Type} {enc : TypeId × Value → H} {W : World} {base : Nat} {v : Value} {d : DataW H} {p : List MemPlace}
    (hv : Value.okWide Tryd.prog W .any base 24 v) (h : DataW.Trod enc Tryd.prog W 0 (fun _ => true) true 24 v d p) :
    ∃ (r wd : Int) (x y : Value) (cs bs : List (Int × Int)), v = .agg #[.int .i64 r, .int .i64 wd, x, y] ∧ PRead W x cs ∧ PRead W y bs ∧ cs.length ≤ maxLen ∧ bs.length ≤ maxLen := by
  obtain ⟨v0, v1, v2, v3, y0, y1, y2, y3, m, rfl, _, _, hy0, hy1, hy2, hy3⟩ := open_agg4 Tryd.underlying24 (by kernel_rfl) grid_cells hv h
  obtain ⟨r, e0, _, _⟩ := DataW.trod_int Tryd.underlying2 hy0
  simp at e0
  subst e0
  obtain ⟨wd, e1, _, _⟩ := DataW.trod_int Tryd.underlying2 hy1
  simp at e1
  subst e1
  obtain ⟨cs, h2, h2'⟩ := open_cells hy2
  obtain ⟨bs, h3, h3'⟩ := open_cells hy3
  exact ⟨r, wd, _, _, cs, bs, rfl, h2, h3, h2', h3'⟩

set_option maxRecDepth 100000 in
theorem open_cell {H : Type} {enc : TypeId × Value → H} {W : World} {base : Nat} {v : Value} {d : DataW H} {p : List MemPlace}
    (hv : Value.okWide Tryd.prog W .any base 103 v) (h : DataW.Trod enc Tryd.prog W 0 (fun _ => true) true 103 v d p) :
    ∃ (c g : Int), v = .agg #[.int .i64 c, .int .i64 g] := by
  obtain ⟨v0, v1, y0, y1, m, rfl, _, _, hy0, hy1⟩ := open_agg2 Tryd.underlying103 (by kernel_rfl) cell_cells2 hv h
  obtain ⟨c, e0, _, _⟩ := DataW.trod_int Tryd.underlying2 hy0
  obtain ⟨g, e1, _, _⟩ := DataW.trod_int Tryd.underlying2 hy1
  simp at e0 e1
  subst e0
  subst e1
  exact ⟨c, g, rfl⟩

end Go.Proofs.YtknkbihjboadjaaDoor

/- A screen that came in, opened: its numbers and its lists. -/
namespace Go.Proofs.YtknkbihjboadjaaDoor
set_option maxRecDepth 20000
open Go.ChangeShapes Go.WideShapes Go.ChangeAt Go.RowKit Go.Joins Go.Deep
set_option linter.unusedVariables false
set_option linter.unusedSimpArgs false

theorem scr_int1 : Tryd.prog.cellsOf 2 = 1 := by kernel_rfl
theorem scr_bool1 : Tryd.prog.cellsOf 4 = 1 := by kernel_rfl
theorem scr_cells20 : Tryd.prog.cellsOf 28 = 20 := by kernel_rfl
theorem scr_grid4 : Tryd.prog.cellsOf 24 = 4 := by kernel_rfl
theorem scr_sl1 : Tryd.prog.cellsOf 25 = 1 := by kernel_rfl
theorem scr_sl2 : Tryd.prog.cellsOf 26 = 1 := by kernel_rfl
theorem array20 {α : Type} {cs : Array α} (h : cs.size = 20) : ∃ c0 c1 c2 c3 c4 c5 c6 c7 c8 c9 c10 c11 c12 c13 c14 c15 c16 c17 c18 c19, cs = #[c0, c1, c2, c3, c4, c5, c6, c7, c8, c9, c10, c11, c12, c13, c14, c15, c16, c17, c18, c19] := by
  obtain ⟨l⟩ := cs
  match l, h with
  | [c0, c1, c2, c3, c4, c5, c6, c7, c8, c9, c10, c11, c12, c13, c14, c15, c16, c17, c18, c19], _ => exact ⟨c0, c1, c2, c3, c4, c5, c6, c7, c8, c9, c10, c11, c12, c13, c14, c15, c16, c17, c18, c19, rfl⟩

theorem scr_ints {H : Type} {enc : TypeId × Value → H} {W : World} {m0 : Nat} {x : Value} {y : DataW H × List MemPlace}
    (h : DataW.trod enc Tryd.prog W 0 (fun _ => true) true m0 26 [x] = some y) : ∃ ns : List Int, ReadAt .i64 W x ns ∧ ns.length ≤ maxLen := by
  rcases open_ints Tryd.underlying26 Tryd.underlying2 scr_int1 h with ⟨hcs, _⟩ | ⟨a, l, c, zs, hcs, _, hl, hm, hz, _, hcell, hwz⟩
  · simp at hcs
    subst hcs
    exact ⟨[], ReadAt.nil _ _ _ _, by simp⟩
  · simp at hcs
    subst hcs
    exact read_take (by simpa using hz) hl hm hcell
theorem scr_bools {H : Type} {enc : TypeId × Value → H} {W : World} {m0 : Nat} {x : Value} {y : DataW H × List MemPlace}
    (h : DataW.trod enc Tryd.prog W 0 (fun _ => true) true m0 25 [x] = some y) : ∃ ns : List Bool, BRead W x ns ∧ ns.length ≤ maxLen := by
  rcases open_bools Tryd.underlying25 Tryd.underlying4 scr_bool1 h with ⟨hcs, _⟩ | ⟨a, l, c, B, hcs, _, hl, hm, _, hcell⟩
  · simp at hcs
    subst hcs
    exact ⟨[], BRead.nil _ _ _, by simp⟩
  · simp at hcs
    subst hcs
    have hz : ((List.range c).map B).length = c := by simp
    refine bread_take (zs := (List.range c).map B) hz hl hm (fun i hi => ?_)
    rw [hz] at hi
    rw [hcell i hi]
    simp [List.getD_eq_getElem?_getD, hi]

set_option maxRecDepth 100000 in
set_option maxHeartbeats 2000000 in
theorem open_screen {H : Type} {enc : TypeId × Value → H} {W : World} {base : Nat} {v : Value} {d : DataW H} {p : List MemPlace}
    (hv : Value.okWide Tryd.prog W .any base 28 v) (h : DataW.Trod enc Tryd.prog W 0 (fun _ => true) true 28 v d p) :
    ∃ (s : Scr) (v1 v2 v3 v4 : Value), v = .agg (scrA s v1 v2 v3 v4) ∧ SRead W s v1 v2 v3 v4 ∧ s.cs.length ≤ maxLen ∧ s.bs.length ≤ maxLen ∧ s.tabs.length ≤ maxLen ∧ s.sets.length ≤ maxLen := by
  obtain ⟨cs, rfl, hsz⟩ := okWide_struct Tryd.underlying28 hv
  obtain ⟨c0, c1, c2, c3, c4, c5, c6, c7, c8, c9, c10, c11, c12, c13, c14, c15, c16, c17, c18, c19, rfl⟩ := array20 (hsz.trans scr_cells20)
  obtain ⟨fuel, hf⟩ := h
  obtain ⟨xs, n, _, _, hl, hlen, hf⟩ := DataW.trod_struct Tryd.underlying28 hf
  have hlen' : xs.length = 17 := hlen
  have f0 : DataW.trod enc Tryd.prog W 0 (fun _ => true) true n 24 [c0, c1, c2, c3] = some (xs[0]'(by omega)) := by
    have g : DataW.trod enc Tryd.prog W 0 (fun _ => true) true n 24 ((([c0, c1, c2, c3, c4, c5, c6, c7, c8, c9, c10, c11, c12, c13, c14, c15, c16, c17, c18, c19] : List Value).drop 0).take (Tryd.prog.cellsOf 24)) = xs[0]? := hf 0 _ rfl
    rw [scr_grid4, List.getElem?_eq_getElem (by omega)] at g
    exact g
  have f1 : DataW.trod enc Tryd.prog W 0 (fun _ => true) true n 2 [c4] = some (xs[1]'(by omega)) := by
    have g : DataW.trod enc Tryd.prog W 0 (fun _ => true) true n 2 ((([c0, c1, c2, c3, c4, c5, c6, c7, c8, c9, c10, c11, c12, c13, c14, c15, c16, c17, c18, c19] : List Value).drop 4).take (Tryd.prog.cellsOf 2)) = xs[1]? := hf 1 _ rfl
    rw [scr_int1, List.getElem?_eq_getElem (by omega)] at g
    exact g
  have f2 : DataW.trod enc Tryd.prog W 0 (fun _ => true) true n 2 [c5] = some (xs[2]'(by omega)) := by
    have g : DataW.trod enc Tryd.prog W 0 (fun _ => true) true n 2 ((([c0, c1, c2, c3, c4, c5, c6, c7, c8, c9, c10, c11, c12, c13, c14, c15, c16, c17, c18, c19] : List Value).drop 5).take (Tryd.prog.cellsOf 2)) = xs[2]? := hf 2 _ rfl
    rw [scr_int1, List.getElem?_eq_getElem (by omega)] at g
    exact g
  have f3 : DataW.trod enc Tryd.prog W 0 (fun _ => true) true n 4 [c6] = some (xs[3]'(by omega)) := by
    have g : DataW.trod enc Tryd.prog W 0 (fun _ => true) true n 4 ((([c0, c1, c2, c3, c4, c5, c6, c7, c8, c9, c10, c11, c12, c13, c14, c15, c16, c17, c18, c19] : List Value).drop 6).take (Tryd.prog.cellsOf 4)) = xs[3]? := hf 3 _ rfl
    rw [scr_bool1, List.getElem?_eq_getElem (by omega)] at g
    exact g
  have f4 : DataW.trod enc Tryd.prog W 0 (fun _ => true) true n 2 [c7] = some (xs[4]'(by omega)) := by
    have g : DataW.trod enc Tryd.prog W 0 (fun _ => true) true n 2 ((([c0, c1, c2, c3, c4, c5, c6, c7, c8, c9, c10, c11, c12, c13, c14, c15, c16, c17, c18, c19] : List Value).drop 7).take (Tryd.prog.cellsOf 2)) = xs[4]? := hf 4 _ rfl
    rw [scr_int1, List.getElem?_eq_getElem (by omega)] at g
    exact g
  have f5 : DataW.trod enc Tryd.prog W 0 (fun _ => true) true n 2 [c8] = some (xs[5]'(by omega)) := by
    have g : DataW.trod enc Tryd.prog W 0 (fun _ => true) true n 2 ((([c0, c1, c2, c3, c4, c5, c6, c7, c8, c9, c10, c11, c12, c13, c14, c15, c16, c17, c18, c19] : List Value).drop 8).take (Tryd.prog.cellsOf 2)) = xs[5]? := hf 5 _ rfl
    rw [scr_int1, List.getElem?_eq_getElem (by omega)] at g
    exact g
  have f6 : DataW.trod enc Tryd.prog W 0 (fun _ => true) true n 2 [c9] = some (xs[6]'(by omega)) := by
    have g : DataW.trod enc Tryd.prog W 0 (fun _ => true) true n 2 ((([c0, c1, c2, c3, c4, c5, c6, c7, c8, c9, c10, c11, c12, c13, c14, c15, c16, c17, c18, c19] : List Value).drop 9).take (Tryd.prog.cellsOf 2)) = xs[6]? := hf 6 _ rfl
    rw [scr_int1, List.getElem?_eq_getElem (by omega)] at g
    exact g
  have f7 : DataW.trod enc Tryd.prog W 0 (fun _ => true) true n 4 [c10] = some (xs[7]'(by omega)) := by
    have g : DataW.trod enc Tryd.prog W 0 (fun _ => true) true n 4 ((([c0, c1, c2, c3, c4, c5, c6, c7, c8, c9, c10, c11, c12, c13, c14, c15, c16, c17, c18, c19] : List Value).drop 10).take (Tryd.prog.cellsOf 4)) = xs[7]? := hf 7 _ rfl
    rw [scr_bool1, List.getElem?_eq_getElem (by omega)] at g
    exact g
  have f8 : DataW.trod enc Tryd.prog W 0 (fun _ => true) true n 4 [c11] = some (xs[8]'(by omega)) := by
    have g : DataW.trod enc Tryd.prog W 0 (fun _ => true) true n 4 ((([c0, c1, c2, c3, c4, c5, c6, c7, c8, c9, c10, c11, c12, c13, c14, c15, c16, c17, c18, c19] : List Value).drop 11).take (Tryd.prog.cellsOf 4)) = xs[8]? := hf 8 _ rfl
    rw [scr_bool1, List.getElem?_eq_getElem (by omega)] at g
    exact g
  have f9 : DataW.trod enc Tryd.prog W 0 (fun _ => true) true n 4 [c12] = some (xs[9]'(by omega)) := by
    have g : DataW.trod enc Tryd.prog W 0 (fun _ => true) true n 4 ((([c0, c1, c2, c3, c4, c5, c6, c7, c8, c9, c10, c11, c12, c13, c14, c15, c16, c17, c18, c19] : List Value).drop 12).take (Tryd.prog.cellsOf 4)) = xs[9]? := hf 9 _ rfl
    rw [scr_bool1, List.getElem?_eq_getElem (by omega)] at g
    exact g
  have f10 : DataW.trod enc Tryd.prog W 0 (fun _ => true) true n 25 [c13] = some (xs[10]'(by omega)) := by
    have g : DataW.trod enc Tryd.prog W 0 (fun _ => true) true n 25 ((([c0, c1, c2, c3, c4, c5, c6, c7, c8, c9, c10, c11, c12, c13, c14, c15, c16, c17, c18, c19] : List Value).drop 13).take (Tryd.prog.cellsOf 25)) = xs[10]? := hf 10 _ rfl
    rw [scr_sl1, List.getElem?_eq_getElem (by omega)] at g
    exact g
  have f11 : DataW.trod enc Tryd.prog W 0 (fun _ => true) true n 2 [c14] = some (xs[11]'(by omega)) := by
    have g : DataW.trod enc Tryd.prog W 0 (fun _ => true) true n 2 ((([c0, c1, c2, c3, c4, c5, c6, c7, c8, c9, c10, c11, c12, c13, c14, c15, c16, c17, c18, c19] : List Value).drop 14).take (Tryd.prog.cellsOf 2)) = xs[11]? := hf 11 _ rfl
    rw [scr_int1, List.getElem?_eq_getElem (by omega)] at g
    exact g
  have f12 : DataW.trod enc Tryd.prog W 0 (fun _ => true) true n 2 [c15] = some (xs[12]'(by omega)) := by
    have g : DataW.trod enc Tryd.prog W 0 (fun _ => true) true n 2 ((([c0, c1, c2, c3, c4, c5, c6, c7, c8, c9, c10, c11, c12, c13, c14, c15, c16, c17, c18, c19] : List Value).drop 15).take (Tryd.prog.cellsOf 2)) = xs[12]? := hf 12 _ rfl
    rw [scr_int1, List.getElem?_eq_getElem (by omega)] at g
    exact g
  have f13 : DataW.trod enc Tryd.prog W 0 (fun _ => true) true n 2 [c16] = some (xs[13]'(by omega)) := by
    have g : DataW.trod enc Tryd.prog W 0 (fun _ => true) true n 2 ((([c0, c1, c2, c3, c4, c5, c6, c7, c8, c9, c10, c11, c12, c13, c14, c15, c16, c17, c18, c19] : List Value).drop 16).take (Tryd.prog.cellsOf 2)) = xs[13]? := hf 13 _ rfl
    rw [scr_int1, List.getElem?_eq_getElem (by omega)] at g
    exact g
  have f14 : DataW.trod enc Tryd.prog W 0 (fun _ => true) true n 26 [c17] = some (xs[14]'(by omega)) := by
    have g : DataW.trod enc Tryd.prog W 0 (fun _ => true) true n 26 ((([c0, c1, c2, c3, c4, c5, c6, c7, c8, c9, c10, c11, c12, c13, c14, c15, c16, c17, c18, c19] : List Value).drop 17).take (Tryd.prog.cellsOf 26)) = xs[14]? := hf 14 _ rfl
    rw [scr_sl2, List.getElem?_eq_getElem (by omega)] at g
    exact g
  have f15 : DataW.trod enc Tryd.prog W 0 (fun _ => true) true n 2 [c18] = some (xs[15]'(by omega)) := by
    have g : DataW.trod enc Tryd.prog W 0 (fun _ => true) true n 2 ((([c0, c1, c2, c3, c4, c5, c6, c7, c8, c9, c10, c11, c12, c13, c14, c15, c16, c17, c18, c19] : List Value).drop 18).take (Tryd.prog.cellsOf 2)) = xs[15]? := hf 15 _ rfl
    rw [scr_int1, List.getElem?_eq_getElem (by omega)] at g
    exact g
  have f16 : DataW.trod enc Tryd.prog W 0 (fun _ => true) true n 2 [c19] = some (xs[16]'(by omega)) := by
    have g : DataW.trod enc Tryd.prog W 0 (fun _ => true) true n 2 ((([c0, c1, c2, c3, c4, c5, c6, c7, c8, c9, c10, c11, c12, c13, c14, c15, c16, c17, c18, c19] : List Value).drop 19).take (Tryd.prog.cellsOf 2)) = xs[16]? := hf 16 _ rfl
    rw [scr_int1, List.getElem?_eq_getElem (by omega)] at g
    exact g
  clear hf
  have f0' : ∃ (r wd : Int) (cs bs : List (Int × Int)), c0 = .int .i64 r ∧ c1 = .int .i64 wd ∧ PRead W c2 cs ∧ PRead W c3 bs ∧ cs.length ≤ maxLen ∧ bs.length ≤ maxLen := by
    obtain ⟨y0, y1, y2, y3, m, _, _, g0, g1, g2, g3⟩ := trod_struct4 Tryd.underlying24 f0
    rw [int_cells1] at g0 g1
    obtain ⟨r, e0, _, _⟩ := DataW.trod_int Tryd.underlying2 g0
    obtain ⟨wd, e1, _, _⟩ := DataW.trod_int Tryd.underlying2 g1
    simp at e0 e1
    subst e0 e1
    rw [show Tryd.prog.cellsOf 22 = 1 from by kernel_rfl] at g2 g3
    obtain ⟨cs, q2, q2'⟩ := open_cells g2
    obtain ⟨bs, q3, q3'⟩ := open_cells g3
    exact ⟨r, wd, cs, bs, rfl, rfl, q2, q3, q2', q3'⟩
  obtain ⟨r, wd, cs, bs, rfl, rfl, h1, h2, h1', h2'⟩ := f0'
  obtain ⟨z4, e4, _, _⟩ := DataW.trod_int Tryd.underlying2 f1
  simp at e4
  subst e4
  obtain ⟨z5, e5, _, _⟩ := DataW.trod_int Tryd.underlying2 f2
  simp at e5
  subst e5
  obtain ⟨z6, e6, _⟩ := DataW.trod_bool Tryd.underlying4 f3
  simp at e6
  subst e6
  obtain ⟨z7, e7, _, _⟩ := DataW.trod_int Tryd.underlying2 f4
  simp at e7
  subst e7
  obtain ⟨z8, e8, _, _⟩ := DataW.trod_int Tryd.underlying2 f5
  simp at e8
  subst e8
  obtain ⟨z9, e9, _, _⟩ := DataW.trod_int Tryd.underlying2 f6
  simp at e9
  subst e9
  obtain ⟨z10, e10, _⟩ := DataW.trod_bool Tryd.underlying4 f7
  simp at e10
  subst e10
  obtain ⟨z11, e11, _⟩ := DataW.trod_bool Tryd.underlying4 f8
  simp at e11
  subst e11
  obtain ⟨z12, e12, _⟩ := DataW.trod_bool Tryd.underlying4 f9
  simp at e12
  subst e12
  obtain ⟨tabs, h3, h3'⟩ := scr_bools f10
  obtain ⟨z14, e14, _, _⟩ := DataW.trod_int Tryd.underlying2 f11
  simp at e14
  subst e14
  obtain ⟨z15, e15, _, _⟩ := DataW.trod_int Tryd.underlying2 f12
  simp at e15
  subst e15
  obtain ⟨z16, e16, _, _⟩ := DataW.trod_int Tryd.underlying2 f13
  simp at e16
  subst e16
  obtain ⟨sets, h4, h4'⟩ := scr_ints f14
  obtain ⟨z18, e18, _, _⟩ := DataW.trod_int Tryd.underlying2 f15
  simp at e18
  subst e18
  obtain ⟨z19, e19, _, _⟩ := DataW.trod_int Tryd.underlying2 f16
  simp at e19
  subst e19
  exact ⟨{ r := r, wd := wd, cs := cs, bs := bs, tabs := tabs, sets := sets, y := z4, x := z5, wrap := z6, attr := z7, top := z8, bot := z9, org := z10, auto := z11, ins := z12, ky := z14, kx := z15, ka := z16, sh := z18, bells := z19 }, c2, c3, c13, c17, rfl, ⟨h1, h2, h3, h4⟩, h1', h2', h3', h4'⟩

end Go.Proofs.YtknkbihjboadjaaDoor

/- The laws' marks on screens: markBoolS, heldBoolS, markScreen, heldScreen; eqScreenResult, markScreenResult, heldScreenResult. -/
namespace Go.Proofs.YtknkbihjboadjaaDoor
set_option maxRecDepth 20000
open Go.ChangeShapes Go.WideShapes Go.ChangeAt Go.RowKit
set_option linter.unusedVariables false
set_option linter.unusedSimpArgs false
set_option maxRecDepth 20000

/-- The twenty-one cells of what a function of the screen answers. -/
def resA (c : Int) (s : Scr) (v1 v2 v3 v4 : Value) : Array Value := #[.int .i64 c, .int .i64 s.r, .int .i64 s.wd, v1, v2, .int .i64 s.y, .int .i64 s.x, .bool s.wrap, .int .i64 s.attr, .int .i64 s.top, .int .i64 s.bot, .bool s.org, .bool s.auto, .bool s.ins, v3, .int .i64 s.ky, .int .i64 s.kx, .int .i64 s.ka, v4, .int .i64 s.sh, .int .i64 s.bells]
theorem resA_0 (c : Int) (s : Scr) (v1 v2 v3 v4 : Value) : (resA c s v1 v2 v3 v4)[0]? = some (.int .i64 c) := rfl
theorem scr_ret {a b : Int} (h : a = b) : Ending.returned (.int .i64 a) = .returned (.int .i64 b) := by rw [h]
set_option maxHeartbeats 400000 in
theorem markBools_calls (xs : List Bool) (k0 : Int) (lo hi : Nat) (v : Value) (w : World) (hn : xs.length ≤ 1000000000) (hk : 0 ≤ k0) (hk0 : k0 ≤ 1000000000) (h1 : BoolsAt lo hi w v xs) :
    Calls Tryd.prog 40 #[v, .int .i64 k0] w fun e w' => e = .returned (.int .i64 (k0 + xs.length)) ∧ BoolsAt lo hi w' v (marksT k0 xs.length) ∧ Within lo hi w w' := by
  obtain ⟨a1, c1, rfl, h1⟩ := h1
  by_cases hnil : xs = []
  · subst hnil
    go_enter Tryd.func40, Tryd.ntmps40
    go_wp2
    go_loop [1, 5] (fun t i => t = .int .i64 k0 ∧ i = .int .i64 0) (fun _ i => 0)
    case atStart => exact ⟨rfl, rfl⟩
    case round =>
      obtain ⟨rfl, rfl⟩ := hrel
      go_wp2
      go_ret
      exact ⟨rfl, BoolsAt.nil _ _ _ _ _, Within.refl _ _ _⟩
  · rcases h1 with h1 | ⟨b, off, rfl, hl, hh, h1⟩
    · exact absurd h1 hnil
    go_enter Tryd.func40, Tryd.ntmps40
    go_wp2
    go_loopw [1, 5] (fun t i wr => ∃ k : Nat, k ≤ xs.length ∧ i = .int .i64 k ∧ t = .int .i64 (k0 + k) ∧ Within lo hi w wr ∧
        (∀ j, j < xs.length → wr.frozen? ⟨b, off + j, none⟩ = false) ∧ (∀ j, j < xs.length → ∃ u, wr.cell? ⟨b, off + j, none⟩ = some u) ∧ ∀ j, j < k → wr.cell? ⟨b, off + j, none⟩ = some (.bool (mk3 (k0 + j)))) (fun _ i _ => xs.length - (intOf i).toNat)
    case atStart => exact ⟨0, Nat.zero_le _, rfl, by simp, Within.refl _ _ _, fun j hj => (h1 j hj).2, fun j hj => ⟨_, (h1 j hj).1⟩, fun j hj => by omega⟩
    case round =>
      obtain ⟨k, hkk, rfl, rfl, hw, hf, hu, hc⟩ := hrel
      by_cases hlt : k < xs.length
      · have f1 := hf k hlt
        obtain ⟨u, g1⟩ := hu k hlt
        have hltI : (k : Int) < (xs.length : Int) := by omega
        have HF : Hid (∀ j, j < xs.length → wr.frozen? ⟨b, off + j, none⟩ = false) := hf
        have HU : Hid (∀ j, j < xs.length → ∃ u, wr.cell? ⟨b, off + j, none⟩ = some u) := hu
        have HC : Hid (∀ j, j < k → wr.cell? ⟨b, off + j, none⟩ = some (.bool (mk3 (k0 + j)))) := hc
        clear hf hu hc h1
        have hm3 : (((k0 + (k : Int)) % 3) == 0) = mk3 (k0 + k) := by unfold mk3; rw [Bool.eq_iff_iff]; simp
        go_wp2
        go_roundw
        case rel =>
          refine ⟨k + 1, by omega, by go_num, by go_num, hw.setCell hl hh _, fun j hj => ?_, fun j hj => ?_, fun j hj => ?_⟩
          · rw [World.frozen?_setCell]; exact HF.out j hj
          · by_cases e : j = k
            · subst e; exact ⟨_, World.cell?_setCell_same _ _ _ g1⟩
            · obtain ⟨u', hu'⟩ := HU.out j hj
              exact ⟨u', by rw [World.cell?_setCell_other _ _ _ _ (addr_ne (by omega))]; exact hu'⟩
          · by_cases e : j = k
            · subst e; rw [World.cell?_setCell_same _ _ _ g1]
            · rw [World.cell?_setCell_other _ _ _ _ (addr_ne (by omega))]; exact HC.out j (by omega)
        case measure => simp [intOf]; omega
      · have hk' : k = xs.length := by omega
        subst hk'
        go_wp2
        go_ret
        refine ⟨rfl, ⟨_, _, by rw [marksT_length], .inr ⟨b, off, rfl, hl, hh, fun i hi => ?_⟩⟩, hw⟩
        rw [marksT_length] at hi
        rw [marksT_get _ _ _ hi]
        exact ⟨hc i hi, hf i hi⟩

/-- A screen whose lists bear marks from k on; how many marks. -/
def mkScr (k : Int) (s : Scr) : Scr := { s with cs := marksP k s.cs.length, bs := marksP (k + 2 * s.cs.length) s.bs.length, tabs := marksT (k + 2 * s.cs.length + 2 * s.bs.length) s.tabs.length, sets := marks (k + 2 * s.cs.length + 2 * s.bs.length + s.tabs.length) s.sets.length }
def cntS (s : Scr) : Int := 2 * s.cs.length + 2 * s.bs.length + s.tabs.length + s.sets.length
theorem mkScr_cells (k : Int) (s : Scr) (v1 v2 v3 v4 : Value) : scrA (mkScr k s) v1 v2 v3 v4 = scrA s v1 v2 v3 v4 := rfl
theorem mkScr_res (c k : Int) (s : Scr) (v1 v2 v3 v4 : Value) : resA c (mkScr k s) v1 v2 v3 v4 = resA c s v1 v2 v3 v4 := rfl
theorem cntS_mk (k : Int) (s : Scr) : cntS (mkScr k s) = cntS s := by simp [cntS, mkScr, marksP_length, marksT_length, marks_length]

set_option maxHeartbeats 2000000 in
theorem markScreen_calls (s : Scr) (k0 : Int) (lo hi : Nat) (v1 v2 v3 v4 : Value) (w : World) (hn1 : s.cs.length ≤ 1048576) (hn2 : s.bs.length ≤ 1048576) (hn3 : s.tabs.length ≤ 1048576) (hn4 : s.sets.length ≤ 1048576) (hk : 0 ≤ k0) (hk0 : k0 ≤ 1000) (hh : hi ≤ w.heap.size) (h : SOwn lo hi w v1 v2 v3 v4 s) :
    Calls Tryd.prog 12 #[.agg (scrA s v1 v2 v3 v4), .int .i64 k0] w fun e w' => e = .returned (.int .i64 (k0 + cntS s)) ∧ SOwn lo hi w' v1 v2 v3 v4 (mkScr k0 s) ∧ Within lo hi w w' := by
  have e0 := scrA_0 s v1 v2 v3 v4
  have e1 := scrA_1 s v1 v2 v3 v4
  have e2 := scrA_2 s v1 v2 v3 v4
  have e3 := scrA_3 s v1 v2 v3 v4
  have e13 := scrA_13 s v1 v2 v3 v4
  have e17 := scrA_17 s v1 v2 v3 v4
  obtain ⟨l1, h1, l2, h2, l3, h3, a1, a2, a3, a4, a5, a6, a7, a8, a9, hG, hT, hI⟩ := h.ex
  have HH := hide (And.intro a7 (And.intro a8 a9))
  clear a7 a8 a9 h
  have hb0 : Below w.heap.size w (w.alloc (.cells (scrA s v1 v2 v3 v4) 38)) := (Below.refl _ w).alloc (Nat.le_refl _) _
  have hA := Blk.new w (scrA s v1 v2 v3 v4) 38
  go_enter Tryd.func12, Tryd.ntmps12
  go_wp2_with fail
  refine (markGrid_calls s.r s.wd s.cs s.bs k0 l1 h1 _ _ _ hn1 hn2 hk hk0 (by simp; omega) (hG.of_blocks (fun k k1 k2 => hb0.block k (by omega)))).mono ?_
  rintro e w1 ⟨rfl, hG1, hw1⟩
  have hs1 : w.heap.size + 1 ≤ w1.heap.size := by have := hw1.size; simp at this; omega
  have hA1 := hA.within hw1 (by omega)
  have hT1 := (hT.below hb0 (by omega)).within hw1 (by simp; omega) (by have := HH.out; omega)
  have hI1 := (hI.below hb0 (by omega)).within hw1 (by simp; omega) (by have := HH.out; omega)
  have cA := hA1.cells
  clear hA hG hT hI
  go_wp2_with fail
  refine (markBools_calls s.tabs (k0 + 2 * s.cs.length + 2 * s.bs.length) l2 h2 _ _ (by omega) (by omega) (by omega) hT1).mono ?_
  rintro e w2 ⟨rfl, hT2, hw2⟩
  have hs2 : w1.heap.size ≤ w2.heap.size := hw2.size
  have hA2 := hA1.within hw2 (by omega)
  have hG2 := hG1.of_blocks (fun k k1 k2 => hw2.block k (by omega) (by have := HH.out; omega))
  have hI2 := hI1.within hw2 (by omega) (by have := HH.out; omega)
  clear cA
  have cA := hA2.cells
  clear hA1 hG1 hI1 hT1
  go_wp2_with fail
  refine (markInts_calls s.sets (k0 + 2 * s.cs.length + 2 * s.bs.length + s.tabs.length) l3 h3 _ _ (by omega) (by omega) (by omega) hI2).mono ?_
  rintro e w3 ⟨rfl, hI3, hw3⟩
  have hG3 := hG2.of_blocks (fun k k1 k2 => hw3.block k (by omega) (by have := HH.out; omega))
  have hT3 := hT2.within hw3 (by omega) (by have := HH.out; omega)
  go_wp2
  go_ret
  refine ⟨scr_ret (by unfold cntS; omega), ⟨l1, h1, l2, h2, l3, h3, a1, a2, a3, a4, a5, a6, HH.out.1, HH.out.2.1, HH.out.2.2, hG3, hT3, hI3⟩, ?_⟩
  exact (Within.of_below hb0 (Nat.le_refl _)).trans ((within_mono hw1 (by omega) (by omega)).trans ((within_mono hw2 (by omega) (by omega)).trans (within_mono hw3 (by omega) (by omega))))

end Go.Proofs.YtknkbihjboadjaaDoor

namespace Go.Proofs.YtknkbihjboadjaaDoor
set_option maxRecDepth 20000
open Go.ChangeShapes Go.WideShapes Go.ChangeAt Go.RowKit Go.Joins
set_option linter.unusedVariables false
set_option linter.unusedSimpArgs false

set_option maxRecDepth 20000
theorem run_execLoad {P : Program} {ρ : Operand → Value} {op : Oper} {w : World} (ty : TypeId) (x : Operand) (ho : op.op = .load ty x) (g off : Nat) (hx : ρ x = .pointer (some ⟨g, off, none⟩)) (v : Value) (h : (loadVar ty ⟨g, off, none⟩).run P w = .ok v w) :
    (execOp ρ op).run P w = .ok (Next.value v) w := by
  unfold execOp
  simp only [ho, hx, Instr.loadAt, Instr.sureAddr, Sem.run_bind, Sem.run_pure, Result.andThen_ok, h]
theorem scr_one {w : World} {v1 v2 v3 v4 : Value} {s : Scr} (h : SRead w s v1 v2 v3 v4) : (Value.agg (scrA s v1 v2 v3 v4)).cells.toList.all (·.oneCell') = true := by
  obtain ⟨a1, c1, a2, c2, a3, c3, a4, c4, rfl, rfl, rfl, rfl⟩ := h.forms
  rfl
theorem bytes_one {w : World} {v : Value} {xs : List Int} {c : Int} (h : ReadAt .u8 w v xs) : (Value.agg #[.int .i64 c, v]).cells.toList.all (·.oneCell') = true := by
  obtain ⟨a, cap, rfl, _⟩ := h
  rfl
theorem dsBytes_len (s : Scr) : (dsBytes s).length ≤ 3000 := by
  unfold dsBytes
  split
  · rename_i hc
    exact dumpL_len (sfine_of hc)
  · simp
theorem ds_spec {c : Int} {xs : List Int} {s : Scr} (hC : scrCode s = c) (hS : dsBytes s = xs) (v1 v2 v3 v4 : Value) (w : World) (hn1 : s.cs.length ≤ 1048576) (hn2 : s.bs.length ≤ 1048576) (hn3 : s.tabs.length ≤ 1048576) (hn4 : s.sets.length ≤ 1048576) (k1 : Capped v1) (h : SRead w s v1 v2 v3 v4) :
    Calls Tryd.prog 7 #[.agg (scrA s v1 v2 v3 v4)] w fun e w' => ∃ v, e = .returned (.agg #[.int .i64 c, v]) ∧ IntsAt .u8 w.heap.size w'.heap.size w' v xs ∧ Below w.heap.size w w' := by
  subst hC hS
  exact specDumpScreen_calls s v1 v2 v3 v4 w hn1 hn2 hn3 hn4 k1 h
theorem ds_impl {c : Int} {xs : List Int} {s : Scr} (hC : scrCode s = c) (hS : dsBytes s = xs) (v1 v2 v3 v4 : Value) (w : World) (hn1 : s.cs.length ≤ 1048576) (hn2 : s.bs.length ≤ 1048576) (hn3 : s.tabs.length ≤ 1048576) (hn4 : s.sets.length ≤ 1048576) (htab : TabAt w.heap.size w) (h : SRead w s v1 v2 v3 v4) :
    Calls Tryd.prog 9 #[.agg (scrA s v1 v2 v3 v4)] w fun e w' => ∃ v, e = .returned (.agg #[.int .i64 c, v]) ∧ IntsAt .u8 w.heap.size w'.heap.size w' v xs ∧ Below w.heap.size w w' := by
  subst hC hS
  exact implDumpScreen_calls s v1 v2 v3 v4 w hn1 hn2 hn3 hn4 htab h
set_option maxRecDepth 20000 in
set_option maxHeartbeats 8000000 in
theorem lawDS_walk (s : Scr) (v1 v2 v3 v4 : Value)  (w : World) (htab : Lib.TabIs Tryd.prog w "internal/strconv.uint64pow10" .u64 Lib.pow10Tab) (hrs : SRead w s v1 v2 v3 v4) (hms1 : s.cs.length ≤ maxLen) (hms2 : s.bs.length ≤ maxLen) (hms3 : s.tabs.length ≤ maxLen) (hms4 : s.sets.length ≤ maxLen) :
    Calls Tryd.prog 3 #[.agg (scrA s v1 v2 v3 v4)] w fun e w' => e = .returned (.bool true) ∧ Below w.heap.size w w' := by
  by_cases hsum0 : (s.cs.length : Int) + s.bs.length + s.tabs.length + s.sets.length ≤ 1048576
  · skip
    have HT : Hid (TabAt w.heap.size w) := Lib.tabBelow_of_tabIs htab
    obtain ⟨c, hC⟩ : ∃ c, scrCode s = c := ⟨_, rfl⟩
    obtain ⟨xs, hS⟩ : ∃ l, dsBytes s = l := ⟨_, rfl⟩
    have hxl := dsBytes_len s
    rw [hS] at hxl
    have HC := hide hC
    have HS := hide hS
    clear hC hS
    have hne : ∀ y : Int, (y != y) = false := fun y => by simp
    have hgS : ¬ (1 + (xs.length : Int) < 0) := by omega
    have hgs : ¬ (1 + cntS s < 0) := by unfold cntS; omega
    have HRs := hide hrs
    have q0 : Below w.heap.size w (w.alloc (.cells (scrA s v1 v2 v3 v4) 28)) := (by repeat' (first | with_reducible exact Below.refl _ _ | with_reducible assumption | with_reducible refine Below.drew ?_ | with_reducible refine Below.alloc ?_ ?_ _ | with_reducible refine Below.setCell ?_ ?_ _ | (simp; done) | (simp; omega) | omega))
    have hAs := Blk.new w (scrA s v1 v2 v3 v4) 28
    go_enter Tryd.func3, Tryd.ntmps3
    go_wp2_with (first | fail | (refine wpList_load_at rfl 28 _ rfl (w.heap.size) 0 rfl _ (scrA s v1 v2 v3 v4) hAs rfl _ Tryd.underlying28 rfl (by kernel_rfl) ?_; (try simp only [Act.put, List.setIfInBounds_toArray, List.set_cons_zero, List.set_cons_succ])))
    go_at_call 6
    refine (szScreen_calls s v1 v2 v3 v4 1048576 (by omega) (by omega) _ (hrs.below q0) hms1 hms2 hms3 hms4).mono ?_
    rintro e w1 ⟨rfl, hb⟩
    replace hAs := hAs.belowb hb
    have z0 : w.heap.size + 1 ≤ w1.heap.size := by have := hb.size; simp at this; omega
    have b1 : Below w.heap.size w w1 := q0.trans (hb.mono q0.size)
    clear hb q0
    replace hrs := hrs.below b1
    rw [if_pos hsum0]
    have hge0 : ¬ ((1048576 - s.cs.length - s.bs.length - s.tabs.length - s.sets.length) < 0) := by omega
    have hns1 : s.cs.length ≤ 1048576 := by omega
    have hns2 : s.bs.length ≤ 1048576 := by omega
    have hns3 : s.tabs.length ≤ 1048576 := by omega
    have hns4 : s.sets.length ≤ 1048576 := by omega
    go_wp2_with (first | fail | (refine wpList_load_at rfl 28 _ rfl (w.heap.size) 0 rfl _ (scrA s v1 v2 v3 v4) hAs rfl _ Tryd.underlying28 rfl (by kernel_rfl) ?_; (try simp only [Act.put, List.setIfInBounds_toArray, List.set_cons_zero, List.set_cons_succ])))
    go_at_call 8
    refine (toScreen_full s v1 v2 v3 v4 _ hns1 hns2 hns3 hns4 hrs).mono ?_
    rintro e w2 ⟨p1, p2, p3, p4, rfl, k1, k2, k3, hp, hb⟩
    have z2 : w1.heap.size ≤ w2.heap.size := hb.size
    replace hAs := hAs.belowb hb
    replace hrs := hrs.below hb
    have b2 : Below w.heap.size w w2 := b1.trans (hb.mono (by omega))
    clear hb b1
    go_wp2_with fail
    go_at_call 7
    refine (ds_spec HC.out HS.out _ _ _ _ _ hns1 hns2 hns3 hns4 k1 hp.read).mono ?_
    rintro e w3 ⟨j1, rfl, hj, hb⟩
    have z3 : w2.heap.size ≤ w3.heap.size := hb.size
    replace hAs := hAs.belowb hb
    replace hrs := hrs.below hb
    replace hp := hp.below hb (by omega)
    have b3 : Below w.heap.size w w3 := b2.trans (hb.mono (by omega))
    clear hb b2
    clear hp
    go_wp2_with (first | fail | (refine wpList_load_at rfl 28 _ rfl (w.heap.size) 0 rfl _ (scrA s v1 v2 v3 v4) hAs rfl _ Tryd.underlying28 rfl (by kernel_rfl) ?_; (try simp only [Act.put, List.setIfInBounds_toArray, List.set_cons_zero, List.set_cons_succ])) | (refine wpList_store_blk rfl _ _ _ rfl (w3.heap.size) 0 #[.int .i64 0, .slice none 0 0] #[.int .i64 c, j1] (.agg #[.int .i64 c, j1]) rfl rfl (Blk.new w3 _ _) rfl (by kernel_rfl) (bytes_one hj.read) rfl ?_; (try simp only [Act.put, List.setIfInBounds_toArray, List.set_cons_zero, List.set_cons_succ]); intro w4 hJ hu; have hb : Below w3.heap.size w3 w4 := ((Below.refl _ w3).alloc (Nat.le_refl _) _).trans (hu.below (Nat.le_refl _)); have z4 : w3.heap.size + 1 = w4.heap.size := (by have := hu.size; simp at this; omega); clear hu; replace hAs := hAs.belowb hb) | (refine wpList_load_at rfl 32 _ rfl (w3.heap.size) 0 rfl _ #[.int .i64 c, j1] hJ rfl _ Tryd.underlying32 rfl (by kernel_rfl) ?_; (try simp only [Act.put, List.setIfInBounds_toArray, List.set_cons_zero, List.set_cons_succ])))
    replace hrs := hrs.below hb
    replace hj := hj.below hb (by omega)
    have b4 : Below w.heap.size w w4 := b3.trans (hb.mono (by omega))
    clear hb b3
    go_wp2_with (first | fail | (refine wpList_load_at rfl 28 _ rfl (w.heap.size) 0 rfl _ (scrA s v1 v2 v3 v4) hAs rfl _ Tryd.underlying28 rfl (by kernel_rfl) ?_; (try simp only [Act.put, List.setIfInBounds_toArray, List.set_cons_zero, List.set_cons_succ])) | (refine wpList_load_at rfl 32 _ rfl (w3.heap.size) 0 rfl _ #[.int .i64 c, j1] hJ rfl _ Tryd.underlying32 rfl (by kernel_rfl) ?_; (try simp only [Act.put, List.setIfInBounds_toArray, List.set_cons_zero, List.set_cons_succ])))
    go_at_call 8
    refine (toScreen_calls s v1 v2 v3 v4 _ hns1 hns2 hns3 hns4 hrs).mono ?_
    rintro e w5 ⟨q1, q2, q3, q4, rfl, hq, hb⟩
    have z5 : w4.heap.size ≤ w5.heap.size := hb.size
    replace hAs := hAs.belowb hb
    replace hJ := hJ.belowb hb
    replace hrs := hrs.below hb
    replace hj := hj.below hb (by omega)
    have b5 : Below w.heap.size w w5 := b4.trans (hb.mono (by omega))
    clear hb b4
    go_wp2_with (first | fail | (refine wpList_load_at rfl 28 _ rfl (w.heap.size) 0 rfl _ (scrA s v1 v2 v3 v4) hAs rfl _ Tryd.underlying28 rfl (by kernel_rfl) ?_; (try simp only [Act.put, List.setIfInBounds_toArray, List.set_cons_zero, List.set_cons_succ])) | (refine wpList_load_at rfl 32 _ rfl (w3.heap.size) 0 rfl _ #[.int .i64 c, j1] hJ rfl _ Tryd.underlying32 rfl (by kernel_rfl) ?_; (try simp only [Act.put, List.setIfInBounds_toArray, List.set_cons_zero, List.set_cons_succ])) | (refine wpList_store_blk rfl _ _ _ rfl (w5.heap.size) 0 (scrA scr0 (.slice none 0 0) (.slice none 0 0) (.slice none 0 0) (.slice none 0 0)) (scrA s q1 q2 q3 q4) (.agg (scrA s q1 q2 q3 q4)) rfl rfl (Blk.new w5 _ _) rfl (by kernel_rfl) (scr_one hq.read) rfl ?_; (try simp only [Act.put, List.setIfInBounds_toArray, List.set_cons_zero, List.set_cons_succ]); intro w6 hX hu; have hb : Below w5.heap.size w5 w6 := ((Below.refl _ w5).alloc (Nat.le_refl _) _).trans (hu.below (Nat.le_refl _)); have z6 : w5.heap.size + 1 = w6.heap.size := (by have := hu.size; simp at this; omega); clear hu; replace hAs := hAs.belowb hb; replace hJ := hJ.belowb hb) | (refine wpList_load_at rfl 38 _ rfl (w5.heap.size) 0 rfl _ (scrA s q1 q2 q3 q4) hX rfl _ Tryd.underlying38 rfl (by kernel_rfl) ?_; (try simp only [Act.put, List.setIfInBounds_toArray, List.set_cons_zero, List.set_cons_succ])))
    replace hrs := hrs.below hb
    replace hj := hj.below hb (by omega)
    replace hq := hq.below hb (by omega)
    have b6 : Below w.heap.size w w6 := b5.trans (hb.mono (by omega))
    clear hb b5
    go_wp2_with (first | fail | (refine wpList_load_at rfl 28 _ rfl (w.heap.size) 0 rfl _ (scrA s v1 v2 v3 v4) hAs rfl _ Tryd.underlying28 rfl (by kernel_rfl) ?_; (try simp only [Act.put, List.setIfInBounds_toArray, List.set_cons_zero, List.set_cons_succ])) | (refine wpList_load_at rfl 32 _ rfl (w3.heap.size) 0 rfl _ #[.int .i64 c, j1] hJ rfl _ Tryd.underlying32 rfl (by kernel_rfl) ?_; (try simp only [Act.put, List.setIfInBounds_toArray, List.set_cons_zero, List.set_cons_succ])) | (refine wpList_load_at rfl 38 _ rfl (w5.heap.size) 0 rfl _ (scrA s q1 q2 q3 q4) hX rfl _ Tryd.underlying38 rfl (by kernel_rfl) ?_; (try simp only [Act.put, List.setIfInBounds_toArray, List.set_cons_zero, List.set_cons_succ])))
    go_at_call 9
    refine (ds_impl HC.out HS.out _ _ _ _ _ hns1 hns2 hns3 hns4 (TabAt.upto HT.out b6 (by omega)) hq.read).mono ?_
    rintro e w7 ⟨g1, rfl, hg, hb⟩
    have z7 : w6.heap.size ≤ w7.heap.size := hb.size
    replace hAs := hAs.belowb hb
    replace hJ := hJ.belowb hb
    replace hX := hX.belowb hb
    replace hrs := hrs.below hb
    replace hj := hj.below hb (by omega)
    replace hq := hq.below hb (by omega)
    have b7 : Below w.heap.size w w7 := b6.trans (hb.mono (by omega))
    clear hb b6
    go_wp2_with (first | fail | (refine wpList_load_at rfl 28 _ rfl (w.heap.size) 0 rfl _ (scrA s v1 v2 v3 v4) hAs rfl _ Tryd.underlying28 rfl (by kernel_rfl) ?_; (try simp only [Act.put, List.setIfInBounds_toArray, List.set_cons_zero, List.set_cons_succ])) | (refine wpList_load_at rfl 32 _ rfl (w3.heap.size) 0 rfl _ #[.int .i64 c, j1] hJ rfl _ Tryd.underlying32 rfl (by kernel_rfl) ?_; (try simp only [Act.put, List.setIfInBounds_toArray, List.set_cons_zero, List.set_cons_succ])) | (refine wpList_load_at rfl 38 _ rfl (w5.heap.size) 0 rfl _ (scrA s q1 q2 q3 q4) hX rfl _ Tryd.underlying38 rfl (by kernel_rfl) ?_; (try simp only [Act.put, List.setIfInBounds_toArray, List.set_cons_zero, List.set_cons_succ])) | (refine wpList_store_blk rfl _ _ _ rfl (w7.heap.size) 0 #[.int .i64 0, .slice none 0 0] #[.int .i64 c, g1] (.agg #[.int .i64 c, g1]) rfl rfl (Blk.new w7 _ _) rfl (by kernel_rfl) (bytes_one hg.read) rfl ?_; (try simp only [Act.put, List.setIfInBounds_toArray, List.set_cons_zero, List.set_cons_succ]); intro w8 hG hu; have hb : Below w7.heap.size w7 w8 := ((Below.refl _ w7).alloc (Nat.le_refl _) _).trans (hu.below (Nat.le_refl _)); have z8 : w7.heap.size + 1 = w8.heap.size := (by have := hu.size; simp at this; omega); clear hu; replace hAs := hAs.belowb hb; replace hJ := hJ.belowb hb; replace hX := hX.belowb hb) | (refine wpList_load_at rfl 32 _ rfl (w7.heap.size) 0 rfl _ #[.int .i64 c, g1] hG rfl _ Tryd.underlying32 rfl (by kernel_rfl) ?_; (try simp only [Act.put, List.setIfInBounds_toArray, List.set_cons_zero, List.set_cons_succ])))
    replace hrs := hrs.below hb
    replace hj := hj.below hb (by omega)
    replace hq := hq.below hb (by omega)
    replace hg := hg.below hb (by omega)
    have b8 : Below w.heap.size w w8 := b7.trans (hb.mono (by omega))
    clear hb b7
    go_at_call 10
    refine (eqBytesResult_calls c xs _ _ _ (by omega) hg.read hj.read).mono ?_
    rintro e w9 ⟨rfl, hb⟩
    have z9 : w8.heap.size ≤ w9.heap.size := hb.size
    replace hAs := hAs.belowb hb
    replace hJ := hJ.belowb hb
    replace hX := hX.belowb hb
    replace hG := hG.belowb hb
    replace hrs := hrs.below hb
    replace hj := hj.below hb (by omega)
    replace hq := hq.below hb (by omega)
    replace hg := hg.below hb (by omega)
    have b9 : Below w.heap.size w w9 := b8.trans (hb.mono (by omega))
    clear hb b8
    go_wp2_with fail
    have hd : Below w9.heap.size w9 w9.drew := Below.drew (Below.refl _ _)
    have ra := hrs.below hd
    have rx := hq.read.below hd
    refine wp_region_held_drew (S := (fun w' => Below w9.heap.size w9 w' ∧ Blk w' (w.heap.size) (scrA s v1 v2 v3 v4) ∧ Blk w' (w5.heap.size) (scrA s q1 q2 q3 q4))) (by kernel_rfl) ?_ (fun hHeld => ?_)
    · (try dsimp only); exact ⟨hd, hAs, hX⟩
    refine wpAnyH_take (i := 0) (oi := ⟨_, _, _, _, _, _⟩) (v := .agg (scrA s q1 q2 q3 q4)) rfl (by kernel_rfl) (by kernel_rfl) (by kernel_rfl) (fun _ _ _ h => h) (Or.inl ⟨by rfl, ?_⟩) hHeld ?_
    · intro w hSw
      (try dsimp only at hSw)
      have hx := run_loadVar_at (P := Tryd.prog) (o := 0) (ty := 38) (vs := (scrA s q1 q2 q3 q4)) hSw.2.2 rfl Tryd.underlying38 rfl (by kernel_rfl)
      exact run_execLoad _ _ rfl _ _ rfl _ hx
    try simp only [Act.put, List.setIfInBounds_toArray, List.set_cons_zero, List.set_cons_succ]
    refine wpAnyH_take (i := 1) (oi := ⟨_, _, _, _, _, _⟩) (v := .agg (scrA s v1 v2 v3 v4)) rfl (by kernel_rfl) (by kernel_rfl) (by kernel_rfl) (fun _ _ _ h => h) (Or.inl ⟨by rfl, ?_⟩) hHeld ?_
    · intro w hSw
      (try dsimp only at hSw)
      have hx := run_loadVar_at (P := Tryd.prog) (o := 0) (ty := 28) (vs := (scrA s v1 v2 v3 v4)) hSw.2.1 rfl Tryd.underlying28 rfl (by kernel_rfl)
      exact run_execLoad _ _ rfl _ _ rfl _ hx
    try simp only [Act.put, List.setIfInBounds_toArray, List.set_cons_zero, List.set_cons_succ]
    refine wpAnyH_ready (rs := [2]) (by kernel_rfl) (by simp) ?_
    refine AllReadyH.cons (o := ⟨_, _, _, _, _, _⟩) rfl (fun K hK => ?_) AllReadyH.nil
    go_simp
    go_at_call 8
    refine (toScreen_calls s v1 v2 v3 v4 _ hns1 hns2 hns3 hns4 ra).mono ?_
    rintro e y10_1 ⟨y1, y2, y3, y4, rfl, hya, hb1⟩
    have r1 := hya.read
    replace rx := rx.below hb1
    clear hya
    try go_wp2_with fail
    refine hK.out _ _ ?_ ?_
    · (try dsimp only); exact ⟨hHeld.1.trans (hb1.mono hHeld.1.size), hHeld.2.1.belowb hb1, hHeld.2.2.belowb hb1⟩
    clear hHeld hK K
    intro hHeld
    try simp only [Act.put, List.setIfInBounds_toArray, List.set_cons_zero, List.set_cons_succ]
    refine wpAnyH_ready (rs := [3]) (by kernel_rfl) (by simp) ?_
    refine AllReadyH.cons (o := ⟨_, _, _, _, _, _⟩) rfl (fun K hK => ?_) AllReadyH.nil
    go_simp
    go_at_call 11
    refine (eqScreen_calls s _ _ _ _ _ _ _ _ _ hns1 hns2 hns3 hns4 rx r1).mono ?_
    rintro e w10 ⟨rfl, hb3⟩
    try go_wp2_with fail
    refine hK.out _ _ ?_ ?_
    · (try dsimp only); exact ⟨hHeld.1.trans (hb3.mono hHeld.1.size), hHeld.2.1.belowb hb3, hHeld.2.2.belowb hb3⟩
    clear hHeld hK K
    intro hHeld
    try simp only [Act.put, List.setIfInBounds_toArray, List.set_cons_zero, List.set_cons_succ]
    refine wpAnyH_take (i := 4) (oi := ⟨_, _, _, _, _, _⟩) (v := ?_) rfl (by kernel_rfl) (by kernel_rfl) (by kernel_rfl) (fun _ _ _ h => h) (Or.inl ⟨by rfl, ?_⟩) hHeld ?_
    rotate_left
    · (intro w hSw; (try dsimp only at hSw); go_simp; try (with_reducible rfl))
    try simp only [Act.put, List.setIfInBounds_toArray, List.set_cons_zero, List.set_cons_succ]
    refine wpAnyH_done (by kernel_rfl) ?_ _
    have hb := hHeld.1
    clear hHeld ra rx r1 hb1 hb3 hd
    have z10 : w9.heap.size ≤ w10.heap.size := hb.size
    replace hAs := hAs.belowb hb
    replace hJ := hJ.belowb hb
    replace hX := hX.belowb hb
    replace hG := hG.belowb hb
    replace hrs := hrs.below hb
    replace hj := hj.below hb (by omega)
    replace hq := hq.below hb (by omega)
    replace hg := hg.below hb (by omega)
    have b10 : Below w.heap.size w w10 := b9.trans (hb.mono (by omega))
    clear hb b9
    go_wp2_with (first | fail | (refine wpList_load_at rfl 28 _ rfl (w.heap.size) 0 rfl _ (scrA s v1 v2 v3 v4) hAs rfl _ Tryd.underlying28 rfl (by kernel_rfl) ?_; (try simp only [Act.put, List.setIfInBounds_toArray, List.set_cons_zero, List.set_cons_succ])) | (refine wpList_load_at rfl 32 _ rfl (w3.heap.size) 0 rfl _ #[.int .i64 c, j1] hJ rfl _ Tryd.underlying32 rfl (by kernel_rfl) ?_; (try simp only [Act.put, List.setIfInBounds_toArray, List.set_cons_zero, List.set_cons_succ])) | (refine wpList_load_at rfl 38 _ rfl (w5.heap.size) 0 rfl _ (scrA s q1 q2 q3 q4) hX rfl _ Tryd.underlying38 rfl (by kernel_rfl) ?_; (try simp only [Act.put, List.setIfInBounds_toArray, List.set_cons_zero, List.set_cons_succ])) | (refine wpList_load_at rfl 32 _ rfl (w7.heap.size) 0 rfl _ #[.int .i64 c, g1] hG rfl _ Tryd.underlying32 rfl (by kernel_rfl) ?_; (try simp only [Act.put, List.setIfInBounds_toArray, List.set_cons_zero, List.set_cons_succ])))
    go_at_call 12
    refine (markScreen_calls s 1 w4.heap.size w5.heap.size _ _ _ _ _ hns1 hns2 hns3 hns4 (by omega) (by omega) (by omega) hq).mono ?_
    rintro e w11 ⟨rfl, hm, hb⟩
    have z11 : w10.heap.size ≤ w11.heap.size := hb.size
    replace hAs := hAs.within hb (by omega)
    replace hJ := hJ.within hb (by omega)
    replace hX := hX.within hb (by omega)
    replace hG := hG.within hb (by omega)
    replace hj := hj.within hb (by omega) (by omega)
    replace hg := hg.within hb (by omega) (by omega)
    have b11 : Below w.heap.size w w11 := b10.trans (hb.below (by omega) (by omega))
    clear hb hq b10
    replace hrs := HRs.out.below b11
    clear hm
    go_wp2_with (first | fail | (refine wpList_load_at rfl 28 _ rfl (w.heap.size) 0 rfl _ (scrA s v1 v2 v3 v4) hAs rfl _ Tryd.underlying28 rfl (by kernel_rfl) ?_; (try simp only [Act.put, List.setIfInBounds_toArray, List.set_cons_zero, List.set_cons_succ])) | (refine wpList_load_at rfl 32 _ rfl (w3.heap.size) 0 rfl _ #[.int .i64 c, j1] hJ rfl _ Tryd.underlying32 rfl (by kernel_rfl) ?_; (try simp only [Act.put, List.setIfInBounds_toArray, List.set_cons_zero, List.set_cons_succ])) | (refine wpList_load_at rfl 38 _ rfl (w5.heap.size) 0 rfl _ (scrA s q1 q2 q3 q4) hX rfl _ Tryd.underlying38 rfl (by kernel_rfl) ?_; (try simp only [Act.put, List.setIfInBounds_toArray, List.set_cons_zero, List.set_cons_succ])) | (refine wpList_load_at rfl 32 _ rfl (w7.heap.size) 0 rfl _ #[.int .i64 c, g1] hG rfl _ Tryd.underlying32 rfl (by kernel_rfl) ?_; (try simp only [Act.put, List.setIfInBounds_toArray, List.set_cons_zero, List.set_cons_succ])))
    go_at_call 10
    refine (eqBytesResult_calls c xs _ _ _ (by omega) hg.read hj.read).mono ?_
    rintro e w12 ⟨rfl, hb⟩
    have z12 : w11.heap.size ≤ w12.heap.size := hb.size
    replace hAs := hAs.belowb hb
    replace hJ := hJ.belowb hb
    replace hX := hX.belowb hb
    replace hG := hG.belowb hb
    replace hrs := hrs.below hb
    replace hj := hj.below hb (by omega)
    replace hg := hg.below hb (by omega)
    have b12 : Below w.heap.size w w12 := b11.trans (hb.mono (by omega))
    clear hb b11
    go_wp2_with (first | fail | (refine wpList_load_at rfl 28 _ rfl (w.heap.size) 0 rfl _ (scrA s v1 v2 v3 v4) hAs rfl _ Tryd.underlying28 rfl (by kernel_rfl) ?_; (try simp only [Act.put, List.setIfInBounds_toArray, List.set_cons_zero, List.set_cons_succ])) | (refine wpList_load_at rfl 32 _ rfl (w3.heap.size) 0 rfl _ #[.int .i64 c, j1] hJ rfl _ Tryd.underlying32 rfl (by kernel_rfl) ?_; (try simp only [Act.put, List.setIfInBounds_toArray, List.set_cons_zero, List.set_cons_succ])) | (refine wpList_load_at rfl 38 _ rfl (w5.heap.size) 0 rfl _ (scrA s q1 q2 q3 q4) hX rfl _ Tryd.underlying38 rfl (by kernel_rfl) ?_; (try simp only [Act.put, List.setIfInBounds_toArray, List.set_cons_zero, List.set_cons_succ])) | (refine wpList_load_at rfl 32 _ rfl (w7.heap.size) 0 rfl _ #[.int .i64 c, g1] hG rfl _ Tryd.underlying32 rfl (by kernel_rfl) ?_; (try simp only [Act.put, List.setIfInBounds_toArray, List.set_cons_zero, List.set_cons_succ])))
    go_at_call 13
    refine (markBytesResult_calls c xs 1 w6.heap.size w7.heap.size _ _ (by omega) (by omega) (by omega) (by omega) hg).mono ?_
    rintro e w13 ⟨rfl, hm, hb⟩
    have z13 : w12.heap.size ≤ w13.heap.size := hb.size
    replace hAs := hAs.within hb (by omega)
    replace hJ := hJ.within hb (by omega)
    replace hX := hX.within hb (by omega)
    replace hG := hG.within hb (by omega)
    replace hj := hj.within hb (by omega) (by omega)
    have b13 : Below w.heap.size w w13 := b12.trans (hb.below (by omega) (by omega))
    clear hb hg b12
    replace hrs := HRs.out.below b13
    have hg := hm
    clear hm
    go_wp2_with (first | fail | (refine wpList_load_at rfl 28 _ rfl (w.heap.size) 0 rfl _ (scrA s v1 v2 v3 v4) hAs rfl _ Tryd.underlying28 rfl (by kernel_rfl) ?_; (try simp only [Act.put, List.setIfInBounds_toArray, List.set_cons_zero, List.set_cons_succ])) | (refine wpList_load_at rfl 32 _ rfl (w3.heap.size) 0 rfl _ #[.int .i64 c, j1] hJ rfl _ Tryd.underlying32 rfl (by kernel_rfl) ?_; (try simp only [Act.put, List.setIfInBounds_toArray, List.set_cons_zero, List.set_cons_succ])) | (refine wpList_load_at rfl 38 _ rfl (w5.heap.size) 0 rfl _ (scrA s q1 q2 q3 q4) hX rfl _ Tryd.underlying38 rfl (by kernel_rfl) ?_; (try simp only [Act.put, List.setIfInBounds_toArray, List.set_cons_zero, List.set_cons_succ])) | (refine wpList_load_at rfl 32 _ rfl (w7.heap.size) 0 rfl _ #[.int .i64 c, g1] hG rfl _ Tryd.underlying32 rfl (by kernel_rfl) ?_; (try simp only [Act.put, List.setIfInBounds_toArray, List.set_cons_zero, List.set_cons_succ])))
    go_at_call 14
    refine (heldBytesResult_calls c (marksB 1 xs.length) 1 _ _ (by rw [marksB_length]; omega) (by omega) (by omega) hg.read (marksB_at 1 _)).mono ?_
    rintro e w14 ⟨rfl, hb⟩
    have z14 : w13.heap.size ≤ w14.heap.size := hb.size
    replace hAs := hAs.belowb hb
    replace hJ := hJ.belowb hb
    replace hX := hX.belowb hb
    replace hG := hG.belowb hb
    replace hrs := hrs.below hb
    replace hj := hj.below hb (by omega)
    replace hg := hg.below hb (by omega)
    have b14 : Below w.heap.size w w14 := b13.trans (hb.mono (by omega))
    clear hb b13
    rw [marksB_length]
    go_wp2_with (first | fail | (refine wpList_load_at rfl 28 _ rfl (w.heap.size) 0 rfl _ (scrA s v1 v2 v3 v4) hAs rfl _ Tryd.underlying28 rfl (by kernel_rfl) ?_; (try simp only [Act.put, List.setIfInBounds_toArray, List.set_cons_zero, List.set_cons_succ])) | (refine wpList_load_at rfl 32 _ rfl (w3.heap.size) 0 rfl _ #[.int .i64 c, j1] hJ rfl _ Tryd.underlying32 rfl (by kernel_rfl) ?_; (try simp only [Act.put, List.setIfInBounds_toArray, List.set_cons_zero, List.set_cons_succ])) | (refine wpList_load_at rfl 38 _ rfl (w5.heap.size) 0 rfl _ (scrA s q1 q2 q3 q4) hX rfl _ Tryd.underlying38 rfl (by kernel_rfl) ?_; (try simp only [Act.put, List.setIfInBounds_toArray, List.set_cons_zero, List.set_cons_succ])) | (refine wpList_load_at rfl 32 _ rfl (w7.heap.size) 0 rfl _ #[.int .i64 c, g1] hG rfl _ Tryd.underlying32 rfl (by kernel_rfl) ?_; (try simp only [Act.put, List.setIfInBounds_toArray, List.set_cons_zero, List.set_cons_succ])))
    go_at_call 8
    refine (toScreen_calls s v1 v2 v3 v4 _ hns1 hns2 hns3 hns4 hrs).mono ?_
    rintro e w15 ⟨y1, y2, y3, y4, rfl, hq', hb⟩
    have z15 : w14.heap.size ≤ w15.heap.size := hb.size
    replace hAs := hAs.belowb hb
    replace hJ := hJ.belowb hb
    replace hX := hX.belowb hb
    replace hG := hG.belowb hb
    replace hrs := hrs.below hb
    replace hj := hj.below hb (by omega)
    replace hg := hg.below hb (by omega)
    have b15 : Below w.heap.size w w15 := b14.trans (hb.mono (by omega))
    clear hb b14
    go_wp2_with fail
    go_at_call 9
    refine (ds_impl HC.out HS.out _ _ _ _ _ hns1 hns2 hns3 hns4 (TabAt.upto HT.out b15 (by omega)) hq'.read).mono ?_
    rintro e w16 ⟨u1, rfl, hu, hb⟩
    have z16 : w15.heap.size ≤ w16.heap.size := hb.size
    replace hAs := hAs.belowb hb
    replace hJ := hJ.belowb hb
    replace hX := hX.belowb hb
    replace hG := hG.belowb hb
    replace hrs := hrs.below hb
    replace hj := hj.below hb (by omega)
    replace hg := hg.below hb (by omega)
    replace hq' := hq'.below hb (by omega)
    have b16 : Below w.heap.size w w16 := b15.trans (hb.mono (by omega))
    clear hb b15
    clear hq'
    go_wp2_with (first | fail | (refine wpList_load_at rfl 28 _ rfl (w.heap.size) 0 rfl _ (scrA s v1 v2 v3 v4) hAs rfl _ Tryd.underlying28 rfl (by kernel_rfl) ?_; (try simp only [Act.put, List.setIfInBounds_toArray, List.set_cons_zero, List.set_cons_succ])) | (refine wpList_load_at rfl 32 _ rfl (w3.heap.size) 0 rfl _ #[.int .i64 c, j1] hJ rfl _ Tryd.underlying32 rfl (by kernel_rfl) ?_; (try simp only [Act.put, List.setIfInBounds_toArray, List.set_cons_zero, List.set_cons_succ])) | (refine wpList_load_at rfl 38 _ rfl (w5.heap.size) 0 rfl _ (scrA s q1 q2 q3 q4) hX rfl _ Tryd.underlying38 rfl (by kernel_rfl) ?_; (try simp only [Act.put, List.setIfInBounds_toArray, List.set_cons_zero, List.set_cons_succ])) | (refine wpList_load_at rfl 32 _ rfl (w7.heap.size) 0 rfl _ #[.int .i64 c, g1] hG rfl _ Tryd.underlying32 rfl (by kernel_rfl) ?_; (try simp only [Act.put, List.setIfInBounds_toArray, List.set_cons_zero, List.set_cons_succ])) | (refine wpList_store_blk rfl _ _ _ rfl (w16.heap.size) 0 #[.int .i64 0, .slice none 0 0] #[.int .i64 c, u1] (.agg #[.int .i64 c, u1]) rfl rfl (Blk.new w16 _ _) rfl (by kernel_rfl) (bytes_one hu.read) rfl ?_; (try simp only [Act.put, List.setIfInBounds_toArray, List.set_cons_zero, List.set_cons_succ]); intro w17 hU hu; have hb : Below w16.heap.size w16 w17 := ((Below.refl _ w16).alloc (Nat.le_refl _) _).trans (hu.below (Nat.le_refl _)); have z17 : w16.heap.size + 1 = w17.heap.size := (by have := hu.size; simp at this; omega); clear hu; replace hAs := hAs.belowb hb; replace hJ := hJ.belowb hb; replace hX := hX.belowb hb; replace hG := hG.belowb hb) | (refine wpList_load_at rfl 32 _ rfl (w16.heap.size) 0 rfl _ #[.int .i64 c, u1] hU rfl _ Tryd.underlying32 rfl (by kernel_rfl) ?_; (try simp only [Act.put, List.setIfInBounds_toArray, List.set_cons_zero, List.set_cons_succ])))
    replace hrs := hrs.below hb
    replace hj := hj.below hb (by omega)
    replace hg := hg.below hb (by omega)
    replace hu := hu.below hb (by omega)
    have b17 : Below w.heap.size w w17 := b16.trans (hb.mono (by omega))
    clear hb b16
    go_at_call 10
    refine (eqBytesResult_calls c xs _ _ _ (by omega) hu.read hj.read).mono ?_
    rintro e w18 ⟨rfl, hb⟩
    have z18 : w17.heap.size ≤ w18.heap.size := hb.size
    replace hAs := hAs.belowb hb
    replace hJ := hJ.belowb hb
    replace hX := hX.belowb hb
    replace hG := hG.belowb hb
    replace hU := hU.belowb hb
    replace hrs := hrs.below hb
    replace hj := hj.below hb (by omega)
    replace hg := hg.below hb (by omega)
    replace hu := hu.below hb (by omega)
    have b18 : Below w.heap.size w w18 := b17.trans (hb.mono (by omega))
    clear hb b17
    go_wp2_with (first | fail | (refine wpList_load_at rfl 28 _ rfl (w.heap.size) 0 rfl _ (scrA s v1 v2 v3 v4) hAs rfl _ Tryd.underlying28 rfl (by kernel_rfl) ?_; (try simp only [Act.put, List.setIfInBounds_toArray, List.set_cons_zero, List.set_cons_succ])) | (refine wpList_load_at rfl 32 _ rfl (w3.heap.size) 0 rfl _ #[.int .i64 c, j1] hJ rfl _ Tryd.underlying32 rfl (by kernel_rfl) ?_; (try simp only [Act.put, List.setIfInBounds_toArray, List.set_cons_zero, List.set_cons_succ])) | (refine wpList_load_at rfl 38 _ rfl (w5.heap.size) 0 rfl _ (scrA s q1 q2 q3 q4) hX rfl _ Tryd.underlying38 rfl (by kernel_rfl) ?_; (try simp only [Act.put, List.setIfInBounds_toArray, List.set_cons_zero, List.set_cons_succ])) | (refine wpList_load_at rfl 32 _ rfl (w7.heap.size) 0 rfl _ #[.int .i64 c, g1] hG rfl _ Tryd.underlying32 rfl (by kernel_rfl) ?_; (try simp only [Act.put, List.setIfInBounds_toArray, List.set_cons_zero, List.set_cons_succ])) | (refine wpList_load_at rfl 32 _ rfl (w16.heap.size) 0 rfl _ #[.int .i64 c, u1] hU rfl _ Tryd.underlying32 rfl (by kernel_rfl) ?_; (try simp only [Act.put, List.setIfInBounds_toArray, List.set_cons_zero, List.set_cons_succ])))
    go_at_call 14
    refine (heldBytesResult_calls c (marksB 1 xs.length) 1 _ _ (by rw [marksB_length]; omega) (by omega) (by omega) hg.read (marksB_at 1 _)).mono ?_
    rintro e w19 ⟨rfl, hb⟩
    have z19 : w18.heap.size ≤ w19.heap.size := hb.size
    replace hAs := hAs.belowb hb
    replace hJ := hJ.belowb hb
    replace hX := hX.belowb hb
    replace hG := hG.belowb hb
    replace hU := hU.belowb hb
    replace hrs := hrs.below hb
    replace hj := hj.below hb (by omega)
    replace hg := hg.below hb (by omega)
    replace hu := hu.below hb (by omega)
    have b19 : Below w.heap.size w w19 := b18.trans (hb.mono (by omega))
    clear hb b18
    rw [marksB_length]
    go_wp2
    go_ret
    exact ⟨rfl, b19⟩
  · have q0 : Below w.heap.size w (w.alloc (.cells (scrA s v1 v2 v3 v4) 28)) := (by repeat' (first | with_reducible exact Below.refl _ _ | with_reducible assumption | with_reducible refine Below.drew ?_ | with_reducible refine Below.alloc ?_ ?_ _ | with_reducible refine Below.setCell ?_ ?_ _ | (simp; done) | (simp; omega) | omega))
    have hAs := Blk.new w (scrA s v1 v2 v3 v4) 28
    go_enter Tryd.func3, Tryd.ntmps3
    go_wp2_with (first | fail | (refine wpList_load_at rfl 28 _ rfl (w.heap.size) 0 rfl _ (scrA s v1 v2 v3 v4) hAs rfl _ Tryd.underlying28 rfl (by kernel_rfl) ?_; (try simp only [Act.put, List.setIfInBounds_toArray, List.set_cons_zero, List.set_cons_succ])))
    go_at_call 6
    refine (szScreen_calls s v1 v2 v3 v4 1048576 (by omega) (by omega) _ (hrs.below q0) hms1 hms2 hms3 hms4).mono ?_
    rintro e w1 ⟨rfl, hb⟩
    replace hAs := hAs.belowb hb
    have b1 : Below w.heap.size w w1 := q0.trans (hb.mono q0.size)
    clear hb q0
    rw [if_neg (by omega)]
    go_wp2
    go_ret
    exact ⟨rfl, b1⟩

theorem lawDS_laid : laidOutB Tryd.prog = true := by kernel_rfl
theorem lawDS_own : ownKnob Tryd.prog.godebug = none := by kernel_rfl
def lawDS_laidlist : List (String × DataW Unit) := [("math/bits.deBruijn32tab", Rows.laid_math_bits_deBruijn32tab), ("math/bits.deBruijn64tab", Rows.laid_math_bits_deBruijn64tab), ("internal/strconv.uint64pow10", Rows.laid_internal_strconv_uint64pow10)]
theorem lawDS_door (os : Os) (args : Array Value) : laidMetH Tryd.prog lawDS_laidlist ((World.doorLaid Tryd.prog 24 os).forCall (fun _ _ => 0) ⟨#[], args, []⟩).memory :=
  laidMetH_of_parts3 (fuel := 8) (laidMet_of_run' 8 (by kernel_rfl) (by kernel_rfl)) (by kernel_rfl) (by kernel_rfl)
theorem lawDS_tab {W : World} (h : laidMetH Tryd.prog lawDS_laidlist W) : Lib.TabIs Tryd.prog W "internal/strconv.uint64pow10" .u64 Lib.pow10Tab := by
  rw [MakeChecks.laidMetH_plain _ _ _ (by kernel_rfl)] at h
  have h2 := laidMet.filter (fun x => x.1 == "internal/strconv.uint64pow10") h
  have e2 : lawDS_laidlist.filter (fun x => x.1 == "internal/strconv.uint64pow10") = [("internal/strconv.uint64pow10", Rows.laid_internal_strconv_uint64pow10)] := by kernel_rfl
  rw [e2] at h2
  have e : (Rows.laid_internal_strconv_uint64pow10 : DataW Unit) = Lib.tabData .u64 Lib.pow10Tab := by kernel_rfl
  rw [e] at h2
  exact Lib.tabIs_of_head (g := 0) (by kernel_rfl) (by kernel_rfl) Tryd.underlying122 Tryd.underlying112 (by kernel_rfl) (by kernel_rfl) h2
set_option maxRecDepth 100000 in
theorem lawDS_lifted (os : Os) (started : os.Started) (H : Type) (enc : TypeId × Value → H) :
    ReturnsInHanded {} Tryd.checked os 3 .any (fun w args => (Rows.fnExactDumpScreenSpec.pre enc Tryd.prog Tryd.f3 [] false w args ∧ laidMetH Tryd.prog lawDS_laidlist w) ∧ sizedMet enc Tryd.prog Tryd.f3 (OpenSpec.ofChange Rows.fnExactDumpScreenSpec) false w args)
      (Rows.fnExactDumpScreenSpec.post enc Tryd.prog Tryd.f3 false true false false) := by
  refine returnsInHanded_of_change_and (C := Tryd.checked) (X := fun w _ => laidMetH Tryd.prog lawDS_laidlist w) (fun _ _ _ hh h => h.of_heap hh) lawDS_own started (by kernel_rfl) Tryd.func3
    (ChangeSpec.witness_shaped (enc := enc) (C := Tryd.checked) (os := os) (X := fun w _ => laidMetH Tryd.prog lawDS_laidlist w) false (World.doorLaid Tryd.prog 24 os) #[.agg #[.int .i64 0, .int .i64 0, .slice none 0 0, .slice none 0 0, .int .i64 0, .int .i64 0, .bool false, .int .i64 0, .int .i64 0, .int .i64 0, .bool false, .bool false, .bool false, .slice none 0 0, .int .i64 0, .int .i64 0, .int .i64 0, .slice none 0 0, .int .i64 0, .int .i64 0]] 8 rfl (World.shaped_of_RefB (by kernel_rfl) (by kernel_rfl)) (by kernel_rfl) (by kernel_rfl) (by kernel_rfl) (lawDS_door os _)) ?_
  intro W base args ds gs before hval0 hW _ _ hL _
  have hval : ∀ (j : Nat) t v, Tryd.f3.params[j]? = some t → args[j]? = some v → Value.okWide Tryd.prog W .any base t v := hval0
  have hW' := hW
  obtain ⟨p, q, hA0, hV, rfl, hfz, hnd⟩ := hW
  have hA : DataW.TrodAll enc Tryd.prog W 0 (fun _ => true) true Tryd.f3.params.toList args.toList ds p := hA0
  rw [Tryd.params3] at hA hval
  obtain ⟨z0, d0, rfl, rfl, h0⟩ := trodAll_one hA
  obtain ⟨rfl, rfl⟩ := trodVars_none hV
  have k0 := h0
  have lt0 : ∀ x ∈ p, x.block < W.heap.size := by obtain ⟨m, hm⟩ := k0; exact DataW.trod_lt m _ _ _ hm
  obtain ⟨s, v1, v2, v3, v4, rfl, hrs, hms1, hms2, hms3, hms4⟩ := open_screen (hval 0 28 z0 rfl rfl) h0
  have htab := lawDS_tab hL
  clear hA0 hval0

  refine (lawDS_walk s v1 v2 v3 v4  W htab hrs hms1 hms2 hms3 hms4).mono fun e W' ⟨he, bel⟩ => ?_
  subst he
  exact ⟨_, rfl, _, _, _, [], _, [], hW', trodAll_mk1 (shut_bool Tryd.underlying4 _), trodAll_mk1 (Below.trod lawDS_laid (by kernel_rfl) (of_decide_eq_true (by kernel_rfl)) k0 bel lt0), rfl, bel.frame _, fun h => by cases h⟩

theorem lawDS_over : Rows.FnExactDumpScreenSaid :=
  OpenClaim.holds_of_wide 3 Tryd.f3 rfl rfl rfl rfl rfl rfl rfl ⟨rfl, rfl, rfl, rfl, rfl⟩ rfl rfl rfl rfl rfl (by kernel_rfl) Tryd.func3 (by kernel_rfl)
    (of_decide_eq_true (by kernel_rfl)) (by unfold Func.isWrapper; first | (rw [if_pos (by decide +kernel)]; kernel_rfl) | (rw [if_neg (by decide +kernel)]; exact ⟨rfl, rfl⟩))
    (fun os started H enc _ => lawDS_lifted os started H enc)

theorem lawDS_proved : Rows.FnExactDumpScreenCardSaid :=
  Claim7.holds_tied_plain_at .later [] [.data, .data, .data] true (true, "a45b8beb966be5ad85e744dab25897072155b8021963785b99f6f8e5f096f33c") false
    lawDS_over (fun _ h => by cases h) (by kernel_rfl) (fun _ h => by cases h) fnExactDumpScreen_row_tie rfl ⟨rfl, rfl⟩ (by kernel_rfl) rfl
    (fun f fn hf hfn => by
      obtain rfl : f = 3 := Option.some.inj ((show Tryd.prog.funcNamed Rows.fnExactDumpScreenRow.func = some 3 by kernel_rfl).symm.trans hf) |>.symm
      obtain rfl : fn = Tryd.f3 := (Option.some.inj (Tryd.func3.symm.trans hfn)).symm
      exact ⟨by kernel_rfl, fun j t ht => by
        rw [Tryd.params3] at ht
        have hm : t ∈ [28] := by simpa using Array.mem_of_getElem? ht
        have hall : ([28].all fun u => !Tryd.prog.wantsStandIn u) = true := by kernel_rfl
        exact (show Tryd.prog.wantsStandIn t = false by simpa using List.all_eq_true.1 hall t hm)⟩)
    (by kernel_rfl)
#print axioms lawDS_proved
end Go.Proofs.YtknkbihjboadjaaDoor
