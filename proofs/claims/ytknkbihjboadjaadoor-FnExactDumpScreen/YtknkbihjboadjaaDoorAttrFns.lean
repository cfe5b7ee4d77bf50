/-
  The program's appendPlace and appendAttr; AttrBytes of the program and of the model.
-/
import Derived.Test.YtknkbihjboadjaaDoorSeqFns
import Derived.Test.YtknkbihjboadjaaDoorCopyFns3
import Derived.Test.YtknkbihjboadjaaDoorBlk
import Derived.Test.YtknkbihjboadjaaDoorGridFaults
namespace Go.Proofs.YtknkbihjboadjaaDoor
set_option maxRecDepth 20000
open Go.ChangeShapes Go.WideShapes Go.ChangeAt Go.RowKit
set_option linter.unusedVariables false
set_option linter.unusedSimpArgs false
set_option maxRecDepth 20000

theorem kept_below {w w' : World} (h : Below w.heap.size w w') : Kept w w' := by
  intro k o hk _ _
  rw [h.block k (Array.getElem?_eq_some_iff.1 hk).1]
  exact hk
theorem lit_cells_at {w : World} {k : IntKind} {l : List Int} {T : TypeId} {b : Nat} (hb : b = w.heap.size) : ∀ (j : Nat) (u : Value), (l.map (Value.int k))[j]? = some u → (w.alloc (.cells (l.map (Value.int k)).toArray T)).cell? ((⟨b, 0, none⟩ : Addr).add j) = some u := by
  subst hb
  exact lit_cells
set_option maxHeartbeats 2000000 in
theorem appendPlace_calls (y x : Int) (base n : Nat) (v : Value) (xs : List Value) (w : World) (y0 : 0 ≤ y) (y1 : y ≤ 99999) (x0 : 0 ≤ x) (x1 : x ≤ 99999) (hn : n ≤ 100000) (hbase : base ≤ w.heap.size) (hown : w.ownsRow base 5 1 v n xs) (htab : TabAt base w) :
    Calls Tryd.prog 67 #[v, .int .i64 y, .int .i64 x] w fun e w' => ∃ v', e = .returned v' ∧ w'.ownsRow base 5 1 v' (n + (placeL y x).length) (xs ++ (placeL y x).map (Value.int .u8)) ∧ Below base w w' ∧ Kept w w' := by
  have e1 : IntKind.i64.wrap (y + 1) = y + 1 := wrap_small (by omega) (by omega)
  have e2 : IntKind.i64.wrap (x + 1) = x + 1 := wrap_small (by omega) (by omega)
  have hb0 : Below w.heap.size w (w.alloc (.cells #[.int .i64 (y + 1), .int .i64 (x + 1)] 2)) := (Below.refl _ w).alloc (Nat.le_refl _) _
  have hlit : (w.alloc (.cells #[.int .i64 (y + 1), .int .i64 (x + 1)] 2)).ownsRow w.heap.size 2 1 (.slice (some ⟨w.heap.size, 0, none⟩) 2 2) 2 ([y + 1, x + 1].map (Value.int .i64)) := by
    have h := World.ownsRow_lit (base := w.heap.size) (e := 2) (size := 1) w #[.int .i64 (y + 1), .int .i64 (x + 1)] 2 (Nat.le_refl _) (by unfold maxLen; omega) rfl
    simpa using h
  have HC := appendSeq_calls [y + 1, x + 1] 72 base n w.heap.size v _ xs _ hn (by simp; omega) (hown.alloc _) hlit (by intro z hz; simp at hz; omega) (by simp) (htab.on (hb0.mono hbase))
  go_enter Tryd.func67, Tryd.ntmps67
  go_wp2_with fail
  refine HC.mono ?_
  rintro e w3 ⟨v3, rfl, own3, hb3, hk3⟩
  go_wp2
  go_ret
  exact ⟨_, rfl, own3, (hb0.mono hbase).trans hb3, Lib.OthersKept.trans (kept_below hb0) hk3⟩
set_option maxHeartbeats 2000000 in
theorem appendAttr_calls (a : Int) (base n : Nat) (v : Value) (xs : List Value) (w : World) (h0 : 0 ≤ a) (h1 : a ≤ 31) (hn : n ≤ 100000) (hbase : base ≤ w.heap.size) (hown : w.ownsRow base 5 1 v n xs) (htab : TabAt base w) :
    Calls Tryd.prog 47 #[v, .int .i64 a] w fun e w' => ∃ v', e = .returned v' ∧ w'.ownsRow base 5 1 v' (n + (attrL a).length) (xs ++ (attrL a).map (Value.int .u8)) ∧ Below base w w' ∧ Kept w w' := by
  obtain ⟨i0, hi, hz0, hz1, hz2⟩ := info_parts info_i64s
  have e3 : a.tmod 8 = a % 8 := Int.tmod_eq_emod_of_nonneg h0
  have e4 : IntKind.i64.wrap (a % 8) = a % 8 := wrap_small (by omega) (by omega)
  have e2 : IntKind.i64.wrap (30 + a % 8) = 30 + a % 8 := wrap_small (by omega) (by omega)
  have hB := bold_of h0 h1
  have hT := turn_of h0 h1
  have hb0 : Below w.heap.size w (w.alloc (.cells #[.int .i64 0, .int .i64 (30 + a % 8)] 2)) := (Below.refl _ w).alloc (Nat.le_refl _) _
  have hlit : (w.alloc (.cells #[.int .i64 0, .int .i64 (30 + a % 8)] 2)).ownsRow w.heap.size 2 1 (.slice (some ⟨w.heap.size, 0, none⟩) 2 2) 2 ([0, 30 + a % 8].map (Value.int .i64)) := by
    have h := World.ownsRow_lit (base := w.heap.size) (e := 2) (size := 1) w #[.int .i64 0, .int .i64 (30 + a % 8)] 2 (Nat.le_refl _) (by unfold maxLen; omega) rfl
    simpa using h
  have HSQ : ∀ (ns : List Int) (vn : Value) (w2 : World), attrNs a = ns → Below w.heap.size w w2 → w2.ownsRow w.heap.size 2 1 vn ns.length (ns.map (Value.int .i64)) → ns.length ≤ 6 → (∀ z ∈ ns, 0 ≤ z ∧ z ≤ 999999) →
      Calls Tryd.prog 69 #[v, .int .u8 109, vn] w2 fun e w' => ∃ v', e = .returned v' ∧ w'.ownsRow base 5 1 v' (n + (attrL a).length) (xs ++ (attrL a).map (Value.int .u8)) ∧ Below base w w' ∧ Kept w w' := by
    intro ns vn w2 hns hb hvn hl hr
    refine (appendSeq_calls ns 109 base n w.heap.size v vn xs w2 hn (by have := hb.size; omega) (own_below hown hb) hvn hr hl (htab.on (hb.mono hbase))).mono ?_
    rintro e w3 ⟨v3, rfl, own3, hb3, hk3⟩
    refine ⟨v3, rfl, ?_, (hb.mono hbase).trans hb3, Lib.OthersKept.trans (kept_below hb) hk3⟩
    unfold attrL
    rw [hns]
    exact own3
  rcases hb : boldB a with _ | _ <;> rcases ht : turnB a with _ | _
  · have hns : attrNs a = [0, 30 + a % 8] := by unfold attrNs; rw [hb, ht]; rfl
    rw [hb] at hB
    rw [ht] at hT
    have HB := hide hb
    have HT := hide ht
    have HN := hide hns
    clear hb ht hns
    go_enter Tryd.func47, Tryd.ntmps47
    go_wp2_with fail
    refine (HSQ [0, 30 + a % 8] _ _ HN.out hb0 (by simpa using hlit) (by simp) (by intro z hz; simp at hz; omega)).mono ?_
    rintro e w9 ⟨v9, rfl, own9, hb9, hk9⟩
    go_wp2
    go_ret
    exact ⟨_, rfl, own9, hb9, hk9⟩
  · have hns : attrNs a = [0, 30 + a % 8, 7] := by unfold attrNs; rw [hb, ht]; rfl
    rw [hb] at hB
    rw [ht] at hT
    have HB := hide hb
    have HT := hide ht
    have HN := hide hns
    clear hb ht hns
    go_enter Tryd.func47, Tryd.ntmps47
    have hx1 := hlit.alloc (.cells #[.int .i64 7] 2)
    go_wp2_with (at_builtin; refine wpList_append_own _ rfl (.tmp 19) (.tmp 20) 26 rfl w.heap.size 2 i0 (.int .i64 0) 1 8 Tryd.underlying26 hi hz0 hz1 hz2 rfl (by decide) _ _ _ rfl hx1 ⟨w.heap.size + 1, 0, none⟩ 1 1 ([7].map (Value.int .i64)) rfl rfl (lit_cells_at (w := (w.alloc (.cells #[.int .i64 0, .int .i64 (30 + a % 8)] 2))) (l := [7]) (by simp)) ones (by unfold maxLen; omega) (by omega) (by have := hb0.size; simp; (try simp at this); omega) ?_)
    intro v1 w1 own1 hgr _
    have b1 : Below w.heap.size w w1 := (hb0.alloc hb0.size _).grown hgr (by have := hb0.size; simp; (try simp at this); omega) (fun k hk => (hx1.lt k hk).1)
    clear hgr
    go_wp2_with fail
    refine (HSQ [0, 30 + a % 8, 7] _ _ HN.out b1 (by simpa using own1) (by simp) (by intro z hz; simp at hz; omega)).mono ?_
    rintro e w9 ⟨v9, rfl, own9, hb9, hk9⟩
    go_wp2
    go_ret
    exact ⟨_, rfl, own9, hb9, hk9⟩
  · have hns : attrNs a = [0, 30 + a % 8, 1] := by unfold attrNs; rw [hb, ht]; rfl
    rw [hb] at hB
    rw [ht] at hT
    have HB := hide hb
    have HT := hide ht
    have HN := hide hns
    clear hb ht hns
    go_enter Tryd.func47, Tryd.ntmps47
    have hx1 := hlit.alloc (.cells #[.int .i64 1] 2)
    go_wp2_with (at_builtin; refine wpList_append_own _ rfl (.tmp 13) (.tmp 14) 26 rfl w.heap.size 2 i0 (.int .i64 0) 1 8 Tryd.underlying26 hi hz0 hz1 hz2 rfl (by decide) _ _ _ rfl hx1 ⟨w.heap.size + 1, 0, none⟩ 1 1 ([1].map (Value.int .i64)) rfl rfl (lit_cells_at (w := (w.alloc (.cells #[.int .i64 0, .int .i64 (30 + a % 8)] 2))) (l := [1]) (by simp)) ones (by unfold maxLen; omega) (by omega) (by have := hb0.size; simp; (try simp at this); omega) ?_)
    intro v1 w1 own1 hgr _
    have b1 : Below w.heap.size w w1 := (hb0.alloc hb0.size _).grown hgr (by have := hb0.size; simp; (try simp at this); omega) (fun k hk => (hx1.lt k hk).1)
    clear hgr
    go_wp2_with fail
    refine (HSQ [0, 30 + a % 8, 1] _ _ HN.out b1 (by simpa using own1) (by simp) (by intro z hz; simp at hz; omega)).mono ?_
    rintro e w9 ⟨v9, rfl, own9, hb9, hk9⟩
    go_wp2
    go_ret
    exact ⟨_, rfl, own9, hb9, hk9⟩
  · have hns : attrNs a = [0, 30 + a % 8, 1, 7] := by unfold attrNs; rw [hb, ht]; rfl
    rw [hb] at hB
    rw [ht] at hT
    have HB := hide hb
    have HT := hide ht
    have HN := hide hns
    clear hb ht hns
    go_enter Tryd.func47, Tryd.ntmps47
    have hx1 := hlit.alloc (.cells #[.int .i64 1] 2)
    go_wp2_with (at_builtin; refine wpList_append_own _ rfl (.tmp 13) (.tmp 14) 26 rfl w.heap.size 2 i0 (.int .i64 0) 1 8 Tryd.underlying26 hi hz0 hz1 hz2 rfl (by decide) _ _ _ rfl hx1 ⟨w.heap.size + 1, 0, none⟩ 1 1 ([1].map (Value.int .i64)) rfl rfl (lit_cells_at (w := (w.alloc (.cells #[.int .i64 0, .int .i64 (30 + a % 8)] 2))) (l := [1]) (by simp)) ones (by unfold maxLen; omega) (by omega) (by have := hb0.size; simp; (try simp at this); omega) ?_)
    intro v1 w1 own1 hgr _
    have b1 : Below w.heap.size w w1 := (hb0.alloc hb0.size _).grown hgr (by have := hb0.size; simp; (try simp at this); omega) (fun k hk => (hx1.lt k hk).1)
    clear hgr
    have hx2 := own1.alloc (.cells #[.int .i64 7] 2)
    go_wp2_with (at_builtin; refine wpList_append_own _ rfl (.tmp 19) (.tmp 20) 26 rfl w.heap.size 2 i0 (.int .i64 0) 1 8 Tryd.underlying26 hi hz0 hz1 hz2 rfl (by decide) _ _ _ rfl hx2 ⟨w1.heap.size, 0, none⟩ 1 1 ([7].map (Value.int .i64)) rfl rfl (lit_cells_at (w := w1) (l := [7]) (by simp)) ones (by unfold maxLen; omega) (by omega) (by have := b1.size; simp; (try simp at this); omega) ?_)
    intro v2 w2 own2 hgr _
    have b2 : Below w.heap.size w w2 := (b1.alloc b1.size _).grown hgr (by have := b1.size; simp; (try simp at this); omega) (fun k hk => (hx2.lt k hk).1)
    clear hgr
    go_wp2_with fail
    refine (HSQ [0, 30 + a % 8, 1, 7] _ _ HN.out b2 (by simpa using own2) (by simp) (by intro z hz; simp at hz; omega)).mono ?_
    rintro e w9 ⟨v9, rfl, own9, hb9, hk9⟩
    go_wp2
    go_ret
    exact ⟨_, rfl, own9, hb9, hk9⟩
/-- What AttrBytes answers. -/
def abCode (a : Int) : Int := if atB a = true then 0 else 3
def abBytes (a : Int) : List Int := if atB a = true then attrL a else []
set_option maxHeartbeats 2000000 in
theorem specAttrBytes_calls (a : Int) (w : World) :
    Calls Tryd.prog 15 #[.int .i64 a] w fun e w' => ∃ v, e = .returned (.agg #[.int .i64 (abCode a), v]) ∧ IntsAt .u8 w.heap.size w'.heap.size w' v (abBytes a) ∧ Below w.heap.size w w' := by
  have hR := Blk.new w #[.int .i64 0, .slice none 0 0] 32
  have bel0 : Below w.heap.size w (w.alloc (.cells #[.int .i64 0, .slice none 0 0] 32)) := (Below.refl _ w).alloc (Nat.le_refl _) _
  unfold abCode abBytes
  cases hat : atB a with
  | false =>
    rw [if_neg (by simp), if_neg (by simp)]
    go_enter Tryd.func15, Tryd.ntmps15
    go_wp2_with (first | (go_at_call 44; refine (l3Attr_calls _ _).mono ?_; rintro e w' ⟨rfl, hw⟩; rw [hw, hat]; clear hw w') | (refine wpList_build_at rfl 32 _ rfl #[.int .i64 3, .slice none 0 0] (by first | rfl | kernel_rfl) ?_; (try simp only [Act.put, List.setIfInBounds_toArray, List.set_cons_zero, List.set_cons_succ])) | (refine wpList_store_blk rfl _ _ _ rfl (w.heap.size) 0 #[.int .i64 0, .slice none 0 0] #[.int .i64 3, .slice none 0 0] (.agg #[.int .i64 3, .slice none 0 0]) rfl rfl hR rfl (by kernel_rfl) rfl rfl ?_; (try simp only [Act.put, List.setIfInBounds_toArray, List.set_cons_zero, List.set_cons_succ]); clear hR; intro w9 hR hu))
    exact bodyPost_ret (results_blk hR _ _ rfl rfl Tryd.underlying32 rfl (by kernel_rfl)) rfl ⟨.slice none 0 0, rfl, (⟨none, 0, rfl, .inl rfl⟩ : IntsAt .u8 _ _ _ (.slice none 0 0) []), bel0.trans (hu.below (Nat.le_refl _))⟩
  | true =>
    rw [if_pos rfl, if_pos rfl]
    have hr : 0 ≤ a ∧ a ≤ 31 := by unfold atB at hat; simpa using hat
    go_enter Tryd.func15, Tryd.ntmps15
    go_wp2_with (first | fail | (go_at_call 44; refine (l3Attr_calls _ _).mono ?_; rintro e w' ⟨rfl, hw⟩; rw [hw, hat]; clear hw w'))
    go_at_call 45
    refine (l7Attr_calls a _ hr.1 hr.2).mono ?_
    rintro e w2 ⟨v, rfl, hown, hb⟩
    obtain ⟨av, cv, rfl⟩ := hown.form
    replace hR := hR.belowb hb
    have hI := hown.ints
    have z2 : w.heap.size + 1 ≤ w2.heap.size := by have := hb.size; simp at this; omega
    have bel2 := bel0.trans (hb.mono bel0.size)
    replace hI := hI.mono (lo' := w.heap.size + 1) (by simp) (Nat.le_refl _)
    clear hb hown
    go_wp2_with (first | (refine wpList_build_at rfl 32 _ rfl #[.int .i64 0, .slice av (attrL a).length cv] (by first | rfl | kernel_rfl) ?_; (try simp only [Act.put, List.setIfInBounds_toArray, List.set_cons_zero, List.set_cons_succ])) | (refine wpList_store_blk rfl _ _ _ rfl (w.heap.size) 0 #[.int .i64 0, .slice none 0 0] #[.int .i64 0, .slice av (attrL a).length cv] (.agg #[.int .i64 0, .slice av (attrL a).length cv]) rfl rfl hR rfl (by kernel_rfl) rfl rfl ?_; (try simp only [Act.put, List.setIfInBounds_toArray, List.set_cons_zero, List.set_cons_succ]); clear hR; intro w9 hR hu))
    exact bodyPost_ret (results_blk hR _ _ rfl rfl Tryd.underlying32 rfl (by kernel_rfl)) rfl ⟨_, rfl, (hI.of_blocks (fun q q1 q2 => hu.block q (by omega))).mono (by omega) (by have := hu.size; omega), bel2.trans (hu.below (Nat.le_refl _))⟩
theorem TabAt.upto {B B' : Nat} {w w' : World} (h : TabAt B w) (hb : Below B w w') (h2 : B ≤ B') : TabAt B' w' := fun w2 hb2 => h w2 (hb.trans (hb2.mono h2))
set_option maxHeartbeats 2000000 in
theorem implAttrBytes_calls (a : Int) (w : World) (htab : TabAt w.heap.size w) :
    Calls Tryd.prog 16 #[.int .i64 a] w fun e w' => ∃ v, e = .returned (.agg #[.int .i64 (abCode a), v]) ∧ IntsAt .u8 w.heap.size w'.heap.size w' v (abBytes a) ∧ Below w.heap.size w w' := by
  have hR := Blk.new w #[.int .i64 0, .slice none 0 0] 32
  have bel0 : Below w.heap.size w (w.alloc (.cells #[.int .i64 0, .slice none 0 0] 32)) := (Below.refl _ w).alloc (Nat.le_refl _) _
  unfold abCode abBytes
  cases hat : atB a with
  | false =>
    rw [if_neg (by simp), if_neg (by simp)]
    go_enter Tryd.func16, Tryd.ntmps16
    go_wp2_with (first | (go_at_call 46; refine (isAttr_calls _ _).mono ?_; rintro e w' ⟨rfl, hw⟩; rw [hw, hat]; clear hw w') | (refine wpList_build_at rfl 32 _ rfl #[.int .i64 3, .slice none 0 0] (by first | rfl | kernel_rfl) ?_; (try simp only [Act.put, List.setIfInBounds_toArray, List.set_cons_zero, List.set_cons_succ])) | (refine wpList_store_blk rfl _ _ _ rfl (w.heap.size) 0 #[.int .i64 0, .slice none 0 0] #[.int .i64 3, .slice none 0 0] (.agg #[.int .i64 3, .slice none 0 0]) rfl rfl hR rfl (by kernel_rfl) rfl rfl ?_; (try simp only [Act.put, List.setIfInBounds_toArray, List.set_cons_zero, List.set_cons_succ]); clear hR; intro w9 hR hu))
    exact bodyPost_ret (results_blk hR _ _ rfl rfl Tryd.underlying32 rfl (by kernel_rfl)) rfl ⟨.slice none 0 0, rfl, (⟨none, 0, rfl, .inl rfl⟩ : IntsAt .u8 _ _ _ (.slice none 0 0) []), bel0.trans (hu.below (Nat.le_refl _))⟩
  | true =>
    rw [if_pos rfl, if_pos rfl]
    have hr : 0 ≤ a ∧ a ≤ 31 := by unfold atB at hat; simpa using hat
    go_enter Tryd.func16, Tryd.ntmps16
    go_wp2_with (first | fail | (go_at_call 46; refine (isAttr_calls _ _).mono ?_; rintro e w' ⟨rfl, hw⟩; rw [hw, hat]; clear hw w'))
    go_at_call 47
    refine (appendAttr_calls a (w.heap.size + 1) 0 _ [] _ hr.1 hr.2 (by omega) (by simp) (World.ownsRow_nil _ _ _ _) (TabAt.upto htab bel0 (by simp))).mono ?_
    rintro e w2 ⟨v, rfl, hown, hb, -⟩
    replace hR := hR.below hb (by omega)
    have z2 : w.heap.size + 1 ≤ w2.heap.size := by have := hb.size; simp at this; omega
    have bel2 := bel0.trans (hb.mono (by omega))
    rw [Nat.zero_add, List.nil_append] at hown
    have hX := OwnX.of hown
    obtain ⟨av, cv, rfl⟩ := hX.form
    have hI := hX.ints
    clear hb hown hX
    go_wp2_with (first | (refine wpList_build_at rfl 32 _ rfl #[.int .i64 0, .slice av (attrL a).length cv] (by first | rfl | kernel_rfl) ?_; (try simp only [Act.put, List.setIfInBounds_toArray, List.set_cons_zero, List.set_cons_succ])) | (refine wpList_store_blk rfl _ _ _ rfl (w.heap.size) 0 #[.int .i64 0, .slice none 0 0] #[.int .i64 0, .slice av (attrL a).length cv] (.agg #[.int .i64 0, .slice av (attrL a).length cv]) rfl rfl hR rfl (by kernel_rfl) rfl rfl ?_; (try simp only [Act.put, List.setIfInBounds_toArray, List.set_cons_zero, List.set_cons_succ]); clear hR; intro w9 hR hu))
    exact bodyPost_ret (results_blk hR _ _ rfl rfl Tryd.underlying32 rfl (by kernel_rfl)) rfl ⟨_, rfl, (hI.of_blocks (fun q q1 q2 => hu.block q (by omega))).mono (by omega) (by have := hu.size; omega), bel2.trans (hu.below (Nat.le_refl _))⟩
end Go.Proofs.YtknkbihjboadjaaDoor
