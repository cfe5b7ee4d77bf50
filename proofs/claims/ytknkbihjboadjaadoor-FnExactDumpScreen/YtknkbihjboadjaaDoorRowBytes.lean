/-
  RowBytes of the program and of the model.
-/
import Derived.Test.YtknkbihjboadjaaDoorRowPut
import Derived.Test.YtknkbihjboadjaaDoorRowText2
import Derived.Test.YtknkbihjboadjaaDoorScrFault2
namespace Go.Proofs.YtknkbihjboadjaaDoor
set_option maxRecDepth 20000
open Go.ChangeShapes Go.WideShapes Go.ChangeAt Go.RowKit
set_option linter.unusedVariables false
set_option linter.unusedSimpArgs false
set_option maxRecDepth 20000

/-- What RowBytes answers. -/
def rbCode (s : Scr) (y : Int) : Int := if scrCode s = 0 then (if rowOk s y = true then 0 else 3) else scrCode s
def rbBytes (s : Scr) (y : Int) : List Int := if scrCode s = 0 then (if rowOk s y = true then rowL s y else []) else []
set_option maxHeartbeats 4000000 in
theorem specRowBytes_calls (s : Scr) (v1 v2 v3 v4 : Value) (y : Int) (w : World) (hn1 : s.cs.length ≤ 1048576) (hn2 : s.bs.length ≤ 1048576) (hn3 : s.tabs.length ≤ 1048576) (hn4 : s.sets.length ≤ 1048576) (hcap : Capped v1) (h : SRead w s v1 v2 v3 v4) :
    Calls Tryd.prog 17 #[.agg (scrA s v1 v2 v3 v4), .int .i64 y] w fun e w' => ∃ v, e = .returned (.agg #[.int .i64 (rbCode s y), v]) ∧ IntsAt .u8 w.heap.size w'.heap.size w' v (rbBytes s y) ∧ Below w.heap.size w w' := by
  have bel0 : Below w.heap.size w ((w.alloc (.cells (scrA s v1 v2 v3 v4) 38)).alloc (.cells #[.int .i64 0, .slice none 0 0] 32)) := (by repeat' (first | with_reducible exact Below.refl _ _ | with_reducible assumption | with_reducible refine Below.drew ?_ | with_reducible refine Below.alloc ?_ ?_ _ | with_reducible refine Below.setCell ?_ ?_ _ | (simp; done) | (simp; omega) | omega))
  have hA := (Blk.new w (scrA s v1 v2 v3 v4) 38).alloc (.cells #[.int .i64 0, .slice none 0 0] 32)
  have hR := Blk.new_at (w := w.alloc (.cells (scrA s v1 v2 v3 v4) 38)) (b := w.heap.size + 1) (by simp) #[.int .i64 0, .slice none 0 0] 32
  unfold rbCode rbBytes
  by_cases hc : scrCode s = 0
  · rw [if_pos hc, if_pos hc]
    cases hy : rowOk s y with
    | false =>
      rw [if_neg (by simp), if_neg (by simp)]
      go_enter Tryd.func17, Tryd.ntmps17
      go_wp2_with fail
      go_at_call 22
      refine (l5Fault_o s v1 v2 v3 v4 w.heap.size 0 _ hn1 hn2 hn3 hn4 hA.seg (h.below bel0)).mono ?_
      rintro e w1 ⟨rfl, hb⟩
      replace hA := hA.belowb hb
      replace hR := hR.belowb hb
      have bel1 := bel0.trans (hb.mono bel0.size)
      have z1 : w.heap.size + 2 ≤ w1.heap.size := by have := hb.size; simp at this; omega
      clear hb bel0
      have cA := hA.cells
      have e0 := scrA_0 s v1 v2 v3 v4
      obtain ⟨s1, s2, s3, s4, s5, s6⟩ := size_mul (gfine_of_code (grid_of_scr hc)).size
      have hw : IntKind.i64.wrap (s.r - 1) = s.r - 1 := wrap_small (by omega) (by omega)
      rw [hc]
      have hy' : decide (0 ≤ y ∧ y ≤ s.r - 1) = false := hy
      go_wp2_with (first | (go_at_call 48; refine (l1In_calls _ _ _ _).mono ?_; rintro e w' ⟨rfl, hw'⟩; rw [hw', hy']; clear hw' w') | (refine wpList_build_at rfl 32 _ rfl #[.int .i64 3, .slice none 0 0] (by first | rfl | kernel_rfl) ?_; (try simp only [Act.put, List.setIfInBounds_toArray, List.set_cons_zero, List.set_cons_succ])) | (refine wpList_store_blk rfl _ _ _ rfl (w.heap.size + 1) 0 #[.int .i64 0, .slice none 0 0] #[.int .i64 3, .slice none 0 0] (.agg #[.int .i64 3, .slice none 0 0]) rfl rfl hR rfl (by kernel_rfl) rfl rfl ?_; (try simp only [Act.put, List.setIfInBounds_toArray, List.set_cons_zero, List.set_cons_succ]); clear hR; intro w9 hR hu))
      exact bodyPost_ret (results_blk hR _ _ rfl rfl Tryd.underlying32 rfl (by kernel_rfl)) rfl ⟨.slice none 0 0, rfl, (⟨none, 0, rfl, .inl rfl⟩ : IntsAt .u8 _ _ _ (.slice none 0 0) []), bel1.trans (hu.below (by omega))⟩
    | true =>
      rw [if_pos rfl, if_pos rfl]
      go_enter Tryd.func17, Tryd.ntmps17
      go_wp2_with fail
      go_at_call 22
      refine (l5Fault_o s v1 v2 v3 v4 w.heap.size 0 _ hn1 hn2 hn3 hn4 hA.seg (h.below bel0)).mono ?_
      rintro e w1 ⟨rfl, hb⟩
      replace hA := hA.belowb hb
      replace hR := hR.belowb hb
      have bel1 := bel0.trans (hb.mono bel0.size)
      have z1 : w.heap.size + 2 ≤ w1.heap.size := by have := hb.size; simp at this; omega
      clear hb bel0
      have cA := hA.cells
      have e0 := scrA_0 s v1 v2 v3 v4
      obtain ⟨s1, s2, s3, s4, s5, s6⟩ := size_mul (gfine_of_code (grid_of_scr hc)).size
      have hw : IntKind.i64.wrap (s.r - 1) = s.r - 1 := wrap_small (by omega) (by omega)
      rw [hc]
      have hy' : decide (0 ≤ y ∧ y ≤ s.r - 1) = true := hy
      go_wp2_with (first | fail | (go_at_call 48; refine (l1In_calls _ _ _ _).mono ?_; rintro e w' ⟨rfl, hw'⟩; rw [hw', hy']; clear hw' w'))
      go_at_call 49
      refine (l7Row_o s v1 v2 v3 v4 y w.heap.size 0 _ hc hy hA.seg hcap (h.g1.below bel1)).mono ?_
      rintro e w2 ⟨v, rfl, hown, hb⟩
      obtain ⟨av, cv, rfl⟩ := hown.form
      have hI := hown.ints
      replace hR := hR.belowb hb
      have bel3 := bel1.trans (hb.mono bel1.size)
      have z2 : w1.heap.size ≤ w2.heap.size := hb.size
      clear hb hown cA
      go_wp2_with (first | (refine wpList_build_at rfl 32 _ rfl #[.int .i64 0, .slice av (rowL s y).length cv] (by first | rfl | kernel_rfl) ?_; (try simp only [Act.put, List.setIfInBounds_toArray, List.set_cons_zero, List.set_cons_succ])) | (refine wpList_store_blk rfl _ _ _ rfl (w.heap.size + 1) 0 #[.int .i64 0, .slice none 0 0] #[.int .i64 0, .slice av (rowL s y).length cv] (.agg #[.int .i64 0, .slice av (rowL s y).length cv]) rfl rfl hR rfl (by kernel_rfl) rfl rfl ?_; (try simp only [Act.put, List.setIfInBounds_toArray, List.set_cons_zero, List.set_cons_succ]); clear hR; intro w9 hR hu))
      exact bodyPost_ret (results_blk hR _ _ rfl rfl Tryd.underlying32 rfl (by kernel_rfl)) rfl ⟨_, rfl, (hI.of_blocks (fun q q1 q2 => hu.block q (by omega))).mono (by omega) (by have := hu.size; omega), bel3.trans (hu.below (by omega))⟩
  · rw [if_neg hc, if_neg hc]
    obtain ⟨code, hcd⟩ : ∃ c, scrCode s = c := ⟨_, rfl⟩
    rw [hcd]
    have hne : (code != 0) = true := by rw [← hcd]; simpa using hc
    have HC := hide hcd
    clear hc hcd
    go_enter Tryd.func17, Tryd.ntmps17
    go_wp2_with fail
    go_at_call 22
    refine (l5Fault_o s v1 v2 v3 v4 w.heap.size 0 _ hn1 hn2 hn3 hn4 hA.seg (h.below bel0)).mono ?_
    rintro e w1 ⟨rfl, hb⟩
    replace hA := hA.belowb hb
    replace hR := hR.belowb hb
    have bel1 := bel0.trans (hb.mono bel0.size)
    have z1 : w.heap.size + 2 ≤ w1.heap.size := by have := hb.size; simp at this; omega
    clear hb bel0
    rw [HC.out]
    go_wp2_with (first | (refine wpList_build_at rfl 32 _ rfl #[.int .i64 code, .slice none 0 0] (by first | rfl | kernel_rfl) ?_; (try simp only [Act.put, List.setIfInBounds_toArray, List.set_cons_zero, List.set_cons_succ])) | (refine wpList_store_blk rfl _ _ _ rfl (w.heap.size + 1) 0 #[.int .i64 0, .slice none 0 0] #[.int .i64 code, .slice none 0 0] (.agg #[.int .i64 code, .slice none 0 0]) rfl rfl hR rfl (by kernel_rfl) rfl rfl ?_; (try simp only [Act.put, List.setIfInBounds_toArray, List.set_cons_zero, List.set_cons_succ]); clear hR; intro w9 hR hu))
    exact bodyPost_ret (results_blk hR _ _ rfl rfl Tryd.underlying32 rfl (by kernel_rfl)) rfl ⟨.slice none 0 0, rfl, (⟨none, 0, rfl, .inl rfl⟩ : IntsAt .u8 _ _ _ (.slice none 0 0) []), bel1.trans (hu.below (by omega))⟩
set_option maxHeartbeats 4000000 in
theorem implRowBytes_calls (s : Scr) (v1 v2 v3 v4 : Value) (y : Int) (w : World) (hn1 : s.cs.length ≤ 1048576) (hn2 : s.bs.length ≤ 1048576) (hn3 : s.tabs.length ≤ 1048576) (hn4 : s.sets.length ≤ 1048576) (htab : TabAt w.heap.size w) (h : SRead w s v1 v2 v3 v4) :
    Calls Tryd.prog 18 #[.agg (scrA s v1 v2 v3 v4), .int .i64 y] w fun e w' => ∃ v, e = .returned (.agg #[.int .i64 (rbCode s y), v]) ∧ IntsAt .u8 w.heap.size w'.heap.size w' v (rbBytes s y) ∧ Below w.heap.size w w' := by
  have bel0 : Below w.heap.size w ((w.alloc (.cells (scrA s v1 v2 v3 v4) 38)).alloc (.cells #[.int .i64 0, .slice none 0 0] 32)) := (by repeat' (first | with_reducible exact Below.refl _ _ | with_reducible assumption | with_reducible refine Below.drew ?_ | with_reducible refine Below.alloc ?_ ?_ _ | with_reducible refine Below.setCell ?_ ?_ _ | (simp; done) | (simp; omega) | omega))
  have hA := (Blk.new w (scrA s v1 v2 v3 v4) 38).alloc (.cells #[.int .i64 0, .slice none 0 0] 32)
  have hR := Blk.new_at (w := w.alloc (.cells (scrA s v1 v2 v3 v4) 38)) (b := w.heap.size + 1) (by simp) #[.int .i64 0, .slice none 0 0] 32
  unfold rbCode rbBytes
  by_cases hc : scrCode s = 0
  · rw [if_pos hc, if_pos hc]
    cases hy : rowOk s y with
    | false =>
      rw [if_neg (by simp), if_neg (by simp)]
      go_enter Tryd.func18, Tryd.ntmps18
      go_wp2_with (first | fail | (refine wpList_load_at rfl 38 _ rfl (w.heap.size) 0 rfl _ (scrA s v1 v2 v3 v4) hA rfl _ Tryd.underlying38 rfl (by kernel_rfl) ?_; (try simp only [Act.put, List.setIfInBounds_toArray, List.set_cons_zero, List.set_cons_succ])))
      go_at_call 27
      refine (implScreenFault_calls s _ _ _ _ _ hn1 hn2 hn3 hn4 (h.below bel0)).mono ?_
      rintro e w1 ⟨rfl, hb⟩
      replace hA := hA.belowb hb
      replace hR := hR.belowb hb
      have bel1 := bel0.trans (hb.mono bel0.size)
      have z1 : w.heap.size + 2 ≤ w1.heap.size := by have := hb.size; simp at this; omega
      clear hb bel0
      have cA := hA.cells
      have e0 := scrA_0 s v1 v2 v3 v4
      obtain ⟨s1, s2, s3, s4, s5, s6⟩ := size_mul (gfine_of_code (grid_of_scr hc)).size
      have hw : IntKind.i64.wrap (s.r - 1) = s.r - 1 := wrap_small (by omega) (by omega)
      rw [hc]
      have hy' : decide (0 ≤ y ∧ y ≤ s.r - 1) = false := hy
      go_wp2_with (first | (go_at_call 50; refine (isFromTo_calls _ _ _ _).mono ?_; rintro e w' ⟨rfl, hw'⟩; rw [hw', hy']; clear hw' w') | (refine wpList_build_at rfl 32 _ rfl #[.int .i64 3, .slice none 0 0] (by first | rfl | kernel_rfl) ?_; (try simp only [Act.put, List.setIfInBounds_toArray, List.set_cons_zero, List.set_cons_succ])) | (refine wpList_store_blk rfl _ _ _ rfl (w.heap.size + 1) 0 #[.int .i64 0, .slice none 0 0] #[.int .i64 3, .slice none 0 0] (.agg #[.int .i64 3, .slice none 0 0]) rfl rfl hR rfl (by kernel_rfl) rfl rfl ?_; (try simp only [Act.put, List.setIfInBounds_toArray, List.set_cons_zero, List.set_cons_succ]); clear hR; intro w9 hR hu))
      exact bodyPost_ret (results_blk hR _ _ rfl rfl Tryd.underlying32 rfl (by kernel_rfl)) rfl ⟨.slice none 0 0, rfl, (⟨none, 0, rfl, .inl rfl⟩ : IntsAt .u8 _ _ _ (.slice none 0 0) []), bel1.trans (hu.below (by omega))⟩
    | true =>
      rw [if_pos rfl, if_pos rfl]
      go_enter Tryd.func18, Tryd.ntmps18
      go_wp2_with (first | fail | (refine wpList_load_at rfl 38 _ rfl (w.heap.size) 0 rfl _ (scrA s v1 v2 v3 v4) hA rfl _ Tryd.underlying38 rfl (by kernel_rfl) ?_; (try simp only [Act.put, List.setIfInBounds_toArray, List.set_cons_zero, List.set_cons_succ])))
      go_at_call 27
      refine (implScreenFault_calls s _ _ _ _ _ hn1 hn2 hn3 hn4 (h.below bel0)).mono ?_
      rintro e w1 ⟨rfl, hb⟩
      replace hA := hA.belowb hb
      replace hR := hR.belowb hb
      have bel1 := bel0.trans (hb.mono bel0.size)
      have z1 : w.heap.size + 2 ≤ w1.heap.size := by have := hb.size; simp at this; omega
      clear hb bel0
      have cA := hA.cells
      have e0 := scrA_0 s v1 v2 v3 v4
      obtain ⟨s1, s2, s3, s4, s5, s6⟩ := size_mul (gfine_of_code (grid_of_scr hc)).size
      have hw : IntKind.i64.wrap (s.r - 1) = s.r - 1 := wrap_small (by omega) (by omega)
      rw [hc]
      have hy' : decide (0 ≤ y ∧ y ≤ s.r - 1) = true := hy
      have hF := gfine_of_code (grid_of_scr hc)
      have hyr : 0 ≤ y ∧ y ≤ s.r - 1 := of_decide_eq_true hy'
      obtain ⟨Y, rfl⟩ : ∃ Y : Nat, y = (Y : Int) := ⟨y.toNat, by omega⟩
      have n8 : 0 < s.cs.length := by obtain ⟨R, m, _, _, _, _, _, _, _, _, _, n8, _, _⟩ := hF.nats; exact n8
      have HT := hide (htab.on bel1)
      have HF := hide hF
      have HYR := hide hyr
      clear hF hyr htab
      go_wp2_with (first | fail | (go_at_call 50; refine (isFromTo_calls _ _ _ _).mono ?_; rintro e w' ⟨rfl, hw'⟩; rw [hw', hy']; clear hw' w') | (refine wpList_load_at rfl 36 _ rfl (w.heap.size) 0 rfl _ (grdR s v1 v2) hA (scrA_grdR s v1 v2 v3 v4) _ Tryd.underlying36 rfl (by kernel_rfl) ?_; (try simp only [Act.put, List.setIfInBounds_toArray, List.set_cons_zero, List.set_cons_succ])))
      go_at_call 28
      refine (sheetsOf_calls s.r s.wd s.cs s.bs _ _ _ hn1 hn2 (h.g1.below bel1) (h.g2.below bel1)).mono ?_
      rintro e w2 ⟨xx, yy, mm, rfl, hm1, hm2, hox, hlt, hoy, hb2⟩
      obtain ⟨bx, cap, rfl, hcap, _, hbx1, hbx2, hrow⟩ := own_row hox n8
      obtain ⟨ay, cy, rfl, _⟩ := own_room2 hoy
      replace hR := hR.belowb hb2
      have bel2 := bel1.trans (hb2.mono bel1.size)
      have z2 : w1.heap.size ≤ w2.heap.size := hb2.size
      have HT2 := hide (HT.out.on (hb2.mono (by omega)))
      have HRW := hide hrow.read
      clear hb2 bel1 hA cA e0 hox hoy hlt hm1 hm2 hrow HT
      go_wp2_with fail
      go_at_call 29
      skip
      refine (putRows_calls s (Y : Int) 1 bx cap w.heap.size _ HF.out (by omega) (by have := HYR.out; omega) hcap (HRW.out.below (B := w2.heap.size) (by repeat' (first | with_reducible exact Below.refl _ _ | with_reducible assumption | with_reducible refine Below.drew ?_ | with_reducible refine Below.alloc ?_ ?_ _ | with_reducible refine Below.setCell ?_ ?_ _ | (simp; done) | (simp; omega) | omega)) hbx2) (TabAt.on HT2.out (by repeat' (first | with_reducible exact Below.refl _ _ | with_reducible assumption | with_reducible refine Below.drew ?_ | with_reducible refine Below.alloc ?_ ?_ _ | with_reducible refine Below.setCell ?_ ?_ _ | (simp; done) | (simp; omega) | omega))) (by simp [World.setCell]; omega) (by simp [World.setCell]; omega)).mono ?_
      rintro e w3 ⟨v, rfl, hown, hb3⟩
      replace hb3 : Below w2.heap.size w2 w3 := by
        refine Below.trans ?_ (hb3.mono ?_)
        · exact (by repeat' (first | with_reducible exact Below.refl _ _ | with_reducible assumption | with_reducible refine Below.drew ?_ | with_reducible refine Below.alloc ?_ ?_ _ | with_reducible refine Below.setCell ?_ ?_ _ | (simp; done) | (simp; omega) | omega))
        · simp [World.setCell]; try omega
      have erow : rowsB s (Y : Int) 1 = rowL s (Y : Int) := by simp [rowsB]
      rw [erow] at hown
      have hX := OwnX.of hown
      obtain ⟨av, cv, rfl⟩ := hX.form
      have hI := hX.ints
      replace hI := hI.mono (lo' := w2.heap.size) (by simp [World.setCell]; try omega) (Nat.le_refl _)
      replace hR := hR.belowb hb3
      have bel3 := bel2.trans (hb3.mono (by omega))
      have z3 : w2.heap.size ≤ w3.heap.size := hb3.size
      clear hb3 hown hX erow
      go_wp2_with (first | (refine wpList_build_at rfl 32 _ rfl #[.int .i64 0, .slice av (rowL s (Y : Int)).length cv] (by first | rfl | kernel_rfl) ?_; (try simp only [Act.put, List.setIfInBounds_toArray, List.set_cons_zero, List.set_cons_succ])) | (refine wpList_store_blk rfl _ _ _ rfl (w.heap.size + 1) 0 #[.int .i64 0, .slice none 0 0] #[.int .i64 0, .slice av (rowL s (Y : Int)).length cv] (.agg #[.int .i64 0, .slice av (rowL s (Y : Int)).length cv]) rfl rfl hR rfl (by kernel_rfl) rfl rfl ?_; (try simp only [Act.put, List.setIfInBounds_toArray, List.set_cons_zero, List.set_cons_succ]); clear hR; intro w9 hR hu))
      exact bodyPost_ret (results_blk hR _ _ rfl rfl Tryd.underlying32 rfl (by kernel_rfl)) rfl ⟨_, rfl, (hI.of_blocks (fun q q1 q2 => hu.block q (by omega))).mono (by omega) (by have := hu.size; omega), bel3.trans (hu.below (by omega))⟩
  · rw [if_neg hc, if_neg hc]
    obtain ⟨code, hcd⟩ : ∃ c, scrCode s = c := ⟨_, rfl⟩
    rw [hcd]
    have hne : (code != 0) = true := by rw [← hcd]; simpa using hc
    have HC := hide hcd
    clear hc hcd
    go_enter Tryd.func18, Tryd.ntmps18
    go_wp2_with (first | fail | (refine wpList_load_at rfl 38 _ rfl (w.heap.size) 0 rfl _ (scrA s v1 v2 v3 v4) hA rfl _ Tryd.underlying38 rfl (by kernel_rfl) ?_; (try simp only [Act.put, List.setIfInBounds_toArray, List.set_cons_zero, List.set_cons_succ])))
    go_at_call 27
    refine (implScreenFault_calls s _ _ _ _ _ hn1 hn2 hn3 hn4 (h.below bel0)).mono ?_
    rintro e w1 ⟨rfl, hb⟩
    replace hA := hA.belowb hb
    replace hR := hR.belowb hb
    have bel1 := bel0.trans (hb.mono bel0.size)
    have z1 : w.heap.size + 2 ≤ w1.heap.size := by have := hb.size; simp at this; omega
    clear hb bel0
    rw [HC.out]
    go_wp2_with (first | (refine wpList_build_at rfl 32 _ rfl #[.int .i64 code, .slice none 0 0] (by first | rfl | kernel_rfl) ?_; (try simp only [Act.put, List.setIfInBounds_toArray, List.set_cons_zero, List.set_cons_succ])) | (refine wpList_store_blk rfl _ _ _ rfl (w.heap.size + 1) 0 #[.int .i64 0, .slice none 0 0] #[.int .i64 code, .slice none 0 0] (.agg #[.int .i64 code, .slice none 0 0]) rfl rfl hR rfl (by kernel_rfl) rfl rfl ?_; (try simp only [Act.put, List.setIfInBounds_toArray, List.set_cons_zero, List.set_cons_succ]); clear hR; intro w9 hR hu))
    exact bodyPost_ret (results_blk hR _ _ rfl rfl Tryd.underlying32 rfl (by kernel_rfl)) rfl ⟨.slice none 0 0, rfl, (⟨none, 0, rfl, .inl rfl⟩ : IntsAt .u8 _ _ _ (.slice none 0 0) []), bel1.trans (hu.below (by omega))⟩
end Go.Proofs.YtknkbihjboadjaaDoor
