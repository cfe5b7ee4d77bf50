/-
  The program's appendWhere.
-/
import Derived.Test.YtknkbihjboadjaaDoorDumpImpl
namespace Go.Proofs.YtknkbihjboadjaaDoor
set_option maxRecDepth 20000
open Go.ChangeShapes Go.WideShapes Go.ChangeAt Go.RowKit
set_option linter.unusedVariables false
set_option linter.unusedSimpArgs false
set_option maxRecDepth 20000

set_option maxHeartbeats 2000000 in
theorem appendWhere_calls (s : Scr) (v1 v2 v3 v4 : Value) (base n : Nat) (v : Value) (xs : List Value) (w : World) (hF : SFine s) (hn : n ≤ 50000) (hbase : base ≤ w.heap.size) (hown : w.ownsRow base 5 1 v n xs) (htab : TabAt base w) (HSR : ∀ w', Below base w w' → SRead w' s v1 v2 v3 v4) :
    Calls Tryd.prog 33 #[v, .agg (scrA s v1 v2 v3 v4)] w fun e w' => ∃ v', e = .returned v' ∧ w'.ownsRow base 5 1 v' (n + (whereL s).length) (xs ++ (whereL s).map (Value.int .u8)) ∧ Below base w w' := by
  obtain ⟨i0, hi, hz0, hz1, hz2⟩ := info_parts info_u8s
  obtain ⟨R, m, eR, eW, n1, n2, n3, n4, n5, n6, n7, n8, n9, n10⟩ := hF.g.nats
  obtain ⟨f_y0, f_y1, f_x0, f_x1, f_a0, f_a1, f_t0, f_t1, f_b1⟩ : 0 ≤ s.y ∧ s.y < s.r ∧ 0 ≤ s.x ∧ s.x < s.wd ∧ 0 ≤ s.attr ∧ s.attr ≤ 31 ∧ 0 ≤ s.top ∧ s.top ≤ s.bot ∧ s.bot ≤ s.r - 1 := ⟨hF.y0, hF.y1, hF.x0, hF.x1, hF.a0, hF.a1, hF.t0, hF.t1, hF.b1⟩
  have e1 : IntKind.i64.wrap (s.top + 1) = s.top + 1 := wrap_small (by omega) (by omega)
  have e2 : IntKind.i64.wrap (s.bot + 1) = s.bot + 1 := wrap_small (by omega) (by omega)
  have hxb : s.x ≤ 99999 := by omega
  have ls := region_len hF
  obtain ⟨RG, hRG⟩ : ∃ l, seqL [s.top + 1, s.bot + 1] 114 = l := ⟨_, rfl⟩
  rw [hRG] at ls
  have hbase2 : 0 ≤ s.y - baseOf s ∧ s.y - baseOf s ≤ 99999 := by
    unfold baseOf
    split
    · rename_i ho
      have := hF.o ho
      omega
    · omega
  obtain ⟨PL, hPL⟩ : ∃ l, placeL (s.y - baseOf s) s.x = l := ⟨_, rfl⟩
  have lp : PL.length ≤ 20 := by rw [← hPL]; exact placeL_len (by omega) (by omega)
  obtain ⟨X, hX⟩ : ∃ X : Nat, s.y * s.wd + s.x = (X : Int) := ⟨(s.y * s.wd + s.x).toNat, by have := Int.mul_nonneg f_y0 (show 0 ≤ s.wd by omega); omega⟩
  have hXn : X < s.cs.length := by
    obtain ⟨Y, hY⟩ : ∃ Y : Nat, s.y = (Y : Int) := ⟨s.y.toNat, by omega⟩
    have hmul := Nat.mul_le_mul_right m (show Y + 1 ≤ R by omega)
    rw [Nat.add_mul, Nat.one_mul] at hmul
    have : s.y * s.wd = ((Y * m : Nat) : Int) := by rw [hY, eW, ← Int.natCast_mul]
    rw [n5]
    omega
  have e4 : IntKind.i64.wrap (s.y * s.wd) = s.y * s.wd := by
    have := Int.mul_nonneg f_y0 (show 0 ≤ s.wd by omega)
    exact wrap_small (by omega) (by omega)
  have e5 : IntKind.i64.wrap (s.y * s.wd + s.x) = (X : Int) := by rw [hX]; exact wrap_small (by omega) (by omega)
  obtain ⟨bx, ox, cx, rfl, hxr⟩ : ∃ bx ox cx, v1 = .slice (some ⟨bx, ox, none⟩) s.cs.length cx ∧ ∀ w', Below base w w' → RowR w' bx ox s.cs.length (fun i => s.cs.getD i (0, 0)) := by
    obtain ⟨a1, c1, rfl, h⟩ := (HSR w (Below.refl _ w)).g1
    rcases h with h | ⟨b3, o3, rfl, h⟩
    · rw [h] at hXn; simp at hXn
    · refine ⟨_, _, _, rfl, fun w' hb => ?_⟩
      obtain ⟨a1, c1', e9, h⟩ := (HSR w' hb).g1
      injection e9 with e9 e10 e11
      rcases h with h | ⟨b4, o4, rfl, h⟩
      · rw [h] at hXn; simp at hXn
      · injection e9 with e9
        injection e9 with e9 e10
        subst e9 e10
        exact h
  obtain ⟨⟨zc0, zc1⟩, za0, za1⟩ := cellat_fine hF.g X hXn
  obtain ⟨zc, hzc⟩ : ∃ z, (s.cs.getD X (0, 0)).1 = z := ⟨_, rfl⟩
  obtain ⟨za, hza⟩ : ∃ z, (s.cs.getD X (0, 0)).2 = z := ⟨_, rfl⟩
  have hac : atCell s = (zc, za) := by unfold atCell; rw [hX, Int.toNat_natCast, ← hzc, ← hza]
  rw [hzc] at zc0 zc1
  rw [hza] at za0 za1
  have hxI : (X : Int) < (s.cs.length : Int) := by omega
  have hal := attrL_len za0 za1
  have hel := encL_length zc
  have ezc : IntKind.u32.wrap zc = zc := wrap_u32 zc0 zc1
  have hwl : whereL s = RG ++ orgL s ++ PL ++ waitL s := by unfold whereL; rw [hRG, hPL]
  have HW := hide hwl
  have HAC := hide hac
  have HXR := hide hxr
  have HZC := hide hzc
  have HZA := hide hza
  have b0 : Below w.heap.size w (w.alloc (.cells (scrA s (.slice (some ⟨bx, ox, none⟩) s.cs.length cx) v2 v3 v4) 38)) := (Below.refl _ w).alloc (Nat.le_refl _) _
  have hbx : (w.alloc (.cells (scrA s (.slice (some ⟨bx, ox, none⟩) s.cs.length cx) v2 v3 v4) 38)).heap[w.heap.size]? = some (.cells (scrA s (.slice (some ⟨bx, ox, none⟩) s.cs.length cx) v2 v3 v4) 38 (0, 0)) := heap_alloc_new w _
  have hox := hown.alloc (.cells (scrA s (.slice (some ⟨bx, ox, none⟩) s.cs.length cx) v2 v3 v4) 38)
  have zW : (w.alloc (.cells (scrA s (.slice (some ⟨bx, ox, none⟩) s.cs.length cx) v2 v3 v4) 38)).heap.size = w.heap.size + 1 := by simp
  have k0 : Kept w (w.alloc (.cells (scrA s (.slice (some ⟨bx, ox, none⟩) s.cs.length cx) v2 v3 v4) 38)) := kept_below b0
  have b0b : Below base w (w.alloc (.cells (scrA s (.slice (some ⟨bx, ox, none⟩) s.cs.length cx) v2 v3 v4) 38)) := b0.mono hbase
  have x8 := scrA_8 s (.slice (some ⟨bx, ox, none⟩) s.cs.length cx) v2 v3 v4
  have x9 := scrA_9 s (.slice (some ⟨bx, ox, none⟩) s.cs.length cx) v2 v3 v4
  have hlit : ((w.alloc (.cells (scrA s (.slice (some ⟨bx, ox, none⟩) s.cs.length cx) v2 v3 v4) 38)).alloc (.cells #[.int .i64 (s.top + 1), .int .i64 (s.bot + 1)] 2)).ownsRow (w.heap.size + 1) 2 1 (.slice (some ⟨w.heap.size + 1, 0, none⟩) 2 2) 2 ([s.top + 1, s.bot + 1].map (Value.int .i64)) := by
    have h := World.ownsRow_lit (base := (w.alloc (.cells (scrA s (.slice (some ⟨bx, ox, none⟩) s.cs.length cx) v2 v3 v4) 38)).heap.size) (e := 2) (size := 1) (w.alloc (.cells (scrA s (.slice (some ⟨bx, ox, none⟩) s.cs.length cx) v2 v3 v4) 38)) #[.int .i64 (s.top + 1), .int .i64 (s.bot + 1)] 2 (Nat.le_refl _) (by unfold maxLen; omega) rfl
    simpa using h
  have bL : Below (w.alloc (.cells (scrA s (.slice (some ⟨bx, ox, none⟩) s.cs.length cx) v2 v3 v4) 38)).heap.size (w.alloc (.cells (scrA s (.slice (some ⟨bx, ox, none⟩) s.cs.length cx) v2 v3 v4) 38)) ((w.alloc (.cells (scrA s (.slice (some ⟨bx, ox, none⟩) s.cs.length cx) v2 v3 v4) 38)).alloc (.cells #[.int .i64 (s.top + 1), .int .i64 (s.bot + 1)] 2)) := (Below.refl _ (w.alloc (.cells (scrA s (.slice (some ⟨bx, ox, none⟩) s.cs.length cx) v2 v3 v4) 38))).alloc (Nat.le_refl _) _
  have HCS := appendSeq_calls [s.top + 1, s.bot + 1] 114 base n (w.heap.size + 1) v _ xs _ (by omega) (by have := bL.size; omega) (hox.alloc _) hlit (by intro z hz; simp at hz; omega) (by simp) (htab.on (b0b.trans (bL.mono (by omega))))
  have HPC := fun (n' : Nat) (v' : Value) (xs' : List Value) (w' : World) (h1 : n' ≤ 100000) (h2 : base ≤ w'.heap.size) (h3 : w'.ownsRow base 5 1 v' n' xs') (h4 : TabAt base w') => appendPlace_calls (s.y - baseOf s) s.x base n' v' xs' w' hbase2.1 hbase2.2 f_x0 hxb h1 h2 h3 h4
  rw [hRG] at HCS
  rw [hPL] at HPC
  have eYB : s.org = true → s.y - baseOf s = s.y - s.top := fun h => by unfold baseOf; rw [if_pos h]
  have eYN : s.org = false → s.y - baseOf s = s.y := fun h => by unfold baseOf; rw [if_neg (by rw [h]; simp)]; omega
  have e3 : IntKind.i64.wrap (s.y - s.top) = s.y - s.top := wrap_small (by omega) (by omega)
  have c8 := (box_at hbx (Lib.OthersKept.refl _ _ _)).at 8 (scrA_8 s _ v2 v3 v4)
  have c9 := (box_at hbx (Lib.OthersKept.refl _ _ _)).at 9 (scrA_9 s _ v2 v3 v4)
  have HYB := hide eYB
  have HYN := hide eYN
  clear hRG hwl hPL hX hac hxr hzc hza n5 n6 n7 n8 n9 n10 eR eW hlit hbase2 eYB eYN
  have horgL : (orgL s).length ≤ 5 := by unfold orgL; split <;> simp
  go_enter Tryd.func33, Tryd.ntmps33
  go_wp2_with fail
  go_at_call 69
  refine HCS.mono ?_
  rintro e w1 ⟨v1', rfl, own1, hb1, hk1⟩
  have b1 : Below base w w1 := (b0b.trans (bL.mono (by omega))).trans hb1
  have kW1 : Kept (w.alloc (.cells (scrA s (.slice (some ⟨bx, ox, none⟩) s.cs.length cx) v2 v3 v4) 38)) w1 := Lib.OthersKept.trans (kept_below bL) hk1
  have z1 := b1.size
  clear HCS hb1 hk1 c8 c9 x8 x9
  have c4 := (box_at hbx kW1).at 4 (scrA_4 s _ v2 v3 v4)
  have c8 := (box_at hbx kW1).at 8 (scrA_8 s _ v2 v3 v4)
  have c10 := (box_at hbx kW1).at 10 (scrA_10 s _ v2 v3 v4)
  rcases ho : s.org with _ | _
  · rw [ho] at c10
    have horg : orgL s = [] := by unfold orgL; rw [if_neg (by rw [ho]; simp)]
    have HG := hide horg
    have HY := hide (HYN.out ho)
    clear ho horg
    have c5 := (box_at hbx kW1).at 5 (scrA_5 s _ v2 v3 v4)
    go_wp2_with fail
    go_at_call 67
    have HP := HPC _ _ _ _ (by omega) (by have := b1.size; omega) own1 (htab.on b1)
    rw [HY.out] at HP
    refine HP.mono ?_
    rintro e w3 ⟨v3', rfl, own3, hb3, hk3⟩
    have b3 : Below base w w3 := b1.trans hb3
    have kW3 : Kept (w.alloc (.cells (scrA s (.slice (some ⟨bx, ox, none⟩) s.cs.length cx) v2 v3 v4) 38)) w3 := Lib.OthersKept.trans kW1 hk3
    have z3 := b3.size
    clear HP hb3 hk3
    have c6 := (box_at hbx kW3).at 6 (scrA_6 s _ v2 v3 v4)
    rcases hwr : s.wrap with _ | _
    · rw [hwr] at c6
      have hwt : waitL s = [] := by unfold waitL; rw [if_neg (by rw [hwr]; simp)]
      go_wp2
      go_ret
      have e9 : whereL s = RG ++ PL := by rw [HW.out, hwt, HG.out]; simp
      rw [e9]
      refine ⟨_, rfl, ?_, b3⟩
      have e8 : n + (RG ++ PL).length = n + RG.length + PL.length := by simp; try omega
      rw [e8]
      simpa using own3
    · rw [hwr] at c6
      have HWR := hide hwr
      have g1 := (HXR.out w3 b3 X hXn).1
      have g2 := (HXR.out w3 b3 X hXn).2
      simp only [HZC.out, HZA.out] at g1 g2
      have d2 := (box_at hbx kW3).at 2 (scrA_2 s _ v2 v3 v4)
      have d4 := (box_at hbx kW3).at 4 (scrA_4 s _ v2 v3 v4)
      have d1 := (box_at hbx kW3).at 1 (scrA_1 s _ v2 v3 v4)
      have d5 := (box_at hbx kW3).at 5 (scrA_5 s _ v2 v3 v4)
      clear hwr c4 c10 c8
      obtain ⟨w4, hw4⟩ : ∃ W4, Hid (w3.alloc (.cells #[.int .i64 zc, .int .i64 za] 65) = W4) := ⟨_, hide rfl⟩
      have b4 : Below base w (w3.alloc (.cells #[.int .i64 zc, .int .i64 za] 65)) := b3.alloc (by omega) _
      have own4 := own3.alloc (.cells #[.int .i64 zc, .int .i64 za] 65)
      have hQ : (w3.alloc (.cells #[.int .i64 zc, .int .i64 za] 65)).heap[w3.heap.size]? = some (.cells #[.int .i64 zc, .int .i64 za] 65 (0, 0)) := heap_alloc_new w3 _
      rw [hw4.out] at b4 own4 hQ
      have z4 := b4.size
      go_wp2_with fail
      rw [hw4.out]
      go_at_call 47
      refine (appendAttr_calls za base _ _ _ _ za0 za1 (by omega) (by omega) own4 (htab.on b4)).mono ?_
      rintro e w5 ⟨v5, rfl, own5, hb5, hk5⟩
      have b5 : Below base w w5 := b4.trans hb5
      have r0 := (cell_box hQ hk5).at 0 (v := .int .i64 zc) rfl
      have z5 := b5.size
      clear own4 hb5
      go_wp2_with fail
      go_at_call 68
      refine (appendChar_calls zc base _ _ _ _ zc0 zc1 (by omega) (by omega) own5).mono ?_
      rintro e w6 ⟨v6, rfl, own6, hb6⟩
      have b6 : Below base w w6 := b5.trans hb6
      go_wp2
      go_ret
      have e9 : whereL s = RG ++ PL ++ attrL za ++ encL zc := by rw [HW.out, HG.out]; unfold waitL; rw [if_pos HWR.out, HAC.out]; simp
      rw [e9]
      refine ⟨_, rfl, ?_, b6⟩
      have e8 : n + (RG ++ PL ++ attrL za ++ encL zc).length = n + RG.length + PL.length + (attrL za).length + (encL zc).length := by simp; try omega
      rw [e8]
      simpa [byteVs] using own6
  · rw [ho] at c10
    have horg : orgL s = [27, 91, 63, 54, 104] := by unfold orgL; rw [if_pos ho]
    have HG := hide horg
    have HY := hide (HYB.out ho)
    clear ho horg
    have c5 := (box_at hbx kW1).at 5 (scrA_5 s _ v2 v3 v4)
    clear c8 c5
    go_wp2_with (first | fail | (at_builtin; refine Lib.wpList_append_own_string _ rfl (.tmp 20) _ 30 9 rfl base 5 i0 Tryd.underlying30 Tryd.underlying9 hi hz0 hz1 hz2 _ _ _ rfl own1 ⟨#[27, 91, 63, 54, 104]⟩ rfl (by show n + RG.length + 5 ≤ maxLen; unfold maxLen; omega) (by show n + RG.length + 5 ≤ 140737488355328; omega) (by omega) ?_; intro v2' w2 own' hgr hnil; have own2 : w2.ownsRow base 5 1 v2' (n + RG.length + 5) (xs ++ RG.map (Value.int .u8) ++ [27, 91, 63, 54, 104].map (Value.int .u8)) := own'; have b2 : Below base w w2 := b1.grown hgr (by omega) (fun g hg => (own1.lt g hg).1); have kW2 : Kept (w.alloc (.cells (scrA s (.slice (some ⟨bx, ox, none⟩) s.cs.length cx) v2 v3 v4) 38)) w2 := kW1.grown hgr (own_kind own1); have z2 := b2.size; have c5 := (box_at hbx kW2).at 5 (scrA_5 s _ v2 v3 v4); have c8 := (box_at hbx kW2).at 8 (scrA_8 s _ v2 v3 v4); clear hgr own' hnil own1))
    go_at_call 67
    have HP := HPC _ _ _ _ (by omega) (by have := b2.size; omega) own2 (htab.on b2)
    rw [HY.out] at HP
    refine HP.mono ?_
    rintro e w3 ⟨v3', rfl, own3, hb3, hk3⟩
    have b3 : Below base w w3 := b2.trans hb3
    have kW3 : Kept (w.alloc (.cells (scrA s (.slice (some ⟨bx, ox, none⟩) s.cs.length cx) v2 v3 v4) 38)) w3 := Lib.OthersKept.trans kW2 hk3
    have z3 := b3.size
    clear HP hb3 hk3
    have c6 := (box_at hbx kW3).at 6 (scrA_6 s _ v2 v3 v4)
    rcases hwr : s.wrap with _ | _
    · rw [hwr] at c6
      have hwt : waitL s = [] := by unfold waitL; rw [if_neg (by rw [hwr]; simp)]
      go_wp2
      go_ret
      have e9 : whereL s = RG ++ [27, 91, 63, 54, 104] ++ PL := by rw [HW.out, hwt, HG.out]; simp
      rw [e9]
      refine ⟨_, rfl, ?_, b3⟩
      have e8 : n + (RG ++ [27, 91, 63, 54, 104] ++ PL).length = n + RG.length + 5 + PL.length := by simp; try omega
      rw [e8]
      simpa using own3
    · rw [hwr] at c6
      have HWR := hide hwr
      have g1 := (HXR.out w3 b3 X hXn).1
      have g2 := (HXR.out w3 b3 X hXn).2
      simp only [HZC.out, HZA.out] at g1 g2
      have d2 := (box_at hbx kW3).at 2 (scrA_2 s _ v2 v3 v4)
      have d4 := (box_at hbx kW3).at 4 (scrA_4 s _ v2 v3 v4)
      have d1 := (box_at hbx kW3).at 1 (scrA_1 s _ v2 v3 v4)
      have d5 := (box_at hbx kW3).at 5 (scrA_5 s _ v2 v3 v4)
      clear hwr c4 c10 c8
      obtain ⟨w4, hw4⟩ : ∃ W4, Hid (w3.alloc (.cells #[.int .i64 zc, .int .i64 za] 65) = W4) := ⟨_, hide rfl⟩
      have b4 : Below base w (w3.alloc (.cells #[.int .i64 zc, .int .i64 za] 65)) := b3.alloc (by omega) _
      have own4 := own3.alloc (.cells #[.int .i64 zc, .int .i64 za] 65)
      have hQ : (w3.alloc (.cells #[.int .i64 zc, .int .i64 za] 65)).heap[w3.heap.size]? = some (.cells #[.int .i64 zc, .int .i64 za] 65 (0, 0)) := heap_alloc_new w3 _
      rw [hw4.out] at b4 own4 hQ
      have z4 := b4.size
      go_wp2_with fail
      rw [hw4.out]
      go_at_call 47
      refine (appendAttr_calls za base _ _ _ _ za0 za1 (by omega) (by omega) own4 (htab.on b4)).mono ?_
      rintro e w5 ⟨v5, rfl, own5, hb5, hk5⟩
      have b5 : Below base w w5 := b4.trans hb5
      have r0 := (cell_box hQ hk5).at 0 (v := .int .i64 zc) rfl
      have z5 := b5.size
      clear own4 hb5
      go_wp2_with fail
      go_at_call 68
      refine (appendChar_calls zc base _ _ _ _ zc0 zc1 (by omega) (by omega) own5).mono ?_
      rintro e w6 ⟨v6, rfl, own6, hb6⟩
      have b6 : Below base w w6 := b5.trans hb6
      go_wp2
      go_ret
      have e9 : whereL s = RG ++ [27, 91, 63, 54, 104] ++ PL ++ attrL za ++ encL zc := by rw [HW.out, HG.out]; unfold waitL; rw [if_pos HWR.out, HAC.out]; simp
      rw [e9]
      refine ⟨_, rfl, ?_, b6⟩
      have e8 : n + (RG ++ [27, 91, 63, 54, 104] ++ PL ++ attrL za ++ encL zc).length = n + RG.length + 5 + PL.length + (attrL za).length + (encL zc).length := by simp; try omega
      rw [e8]
      simpa [byteVs] using own6
end Go.Proofs.YtknkbihjboadjaaDoor
