/-
  The draws of binds: l8DrawSym, l8Binds, l8Bent.
-/
import Derived.Test.YtcfechnkgefhcaaDoorDrawsG
import Derived.Test.YtcfechnkgefhcaaDoorPutSpec
namespace Go.Proofs.YtcfechnkgefhcaaDoor
set_option maxRecDepth 20000
open Go.ChangeShapes Go.WideShapes Go.ChangeAt Go.RowKit
set_option linter.unusedVariables false
set_option linter.unusedSimpArgs false
set_option maxRecDepth 20000

theorem Src.upd {w0 w w' : World} {B g : Nat} {code : Value} {p : Int} (h : Src w0 w B code p) (hu : Upd g w w') (hne : B ≠ g) (hg : w0.heap.size ≤ g) : Src w0 w' B code p :=
  h.keep (hu.block B hne) (h.old.trans (hu.below hg))
theorem Within.updx {w v v' : World} {lo hi g : Nat} (h : Within lo hi w v) (hu : Upd g v v') (hg : w.heap.size ≤ g) : Within lo hi w v' :=
  ⟨hu.os.trans h.os, hu.tape.trans h.tape, hu.output.trans h.output, Nat.le_trans h.size (Nat.le_of_eq hu.size.symm), fun k hk ho => (hu.block k (by omega)).trans (h.block k hk ho)⟩
/-- A row of binds of the call's own, and the source. -/
structure RowD (w0 w wr : World) (B : Nat) (code : Value) (q : Int) (o : Value) (bs : List Bd) : Prop where
  src : Src w0 wr B code q
  wi : Within B (B + 1) w wr
  row : wr.ownsRow w.heap.size 28 4 o bs.length (bvs bs)
  lt : B < w.heap.size
theorem RowD.within {w0 w wr w' : World} {B : Nat} {code o : Value} {q q' : Int} {bs : List Bd} (h : RowD w0 w wr B code q o bs) (s : Src w0 w' B code q') (x : Within B (B + 1) wr w') : RowD w0 w w' B code q' o bs :=
  ⟨s, h.wi.trans x, own_within h.row x (by have := h.lt; omega), h.lt⟩
theorem RowD.below {w0 w wr w' : World} {B : Nat} {code o : Value} {q : Int} {bs : List Bd} (h : RowD w0 w wr B code q o bs) (hb : Below wr.heap.size wr w') : RowD w0 w w' B code q o bs :=
  ⟨h.src.below hb, h.wi.trans (Within.of_below hb (Nat.le_refl _)), own_below h.row hb, h.lt⟩
theorem RowD.append {w0 w wr w' : World} {B : Nat} {code o o' : Value} {q : Int} {bs bs' : List Bd} (h : RowD w0 w wr B code q o bs) (hr : w'.ownsRow w.heap.size 28 4 o' bs'.length (bvs bs')) (hg : wr.grownBy w' o.ownBlock) : RowD w0 w w' B code q o' bs' := by
  have hlo : ∀ k, o.ownBlock = some k → w.heap.size ≤ k := fun k hk => (h.row.lt k hk).1
  have hs := h.wi.size
  have hw0 : w0.heap.size ≤ w.heap.size := by have := h.src.hB; have := h.lt; omega
  have hbk : ∀ k, k < w.heap.size → w'.heap[k]? = wr.heap[k]? := fun k hk => hg.block k (by omega) (fun e => by have := hlo k e.symm; omega)
  have hW : Below w.heap.size wr w' := ⟨hg.os, hg.tape, hg.output, hg.size, hbk⟩
  exact ⟨h.src.keep (hbk B h.lt) (h.src.old.trans (hW.mono hw0)), ⟨hW.os.trans h.wi.os, hW.tape.trans h.wi.tape, hW.output.trans h.wi.output, Nat.le_trans hs hW.size, fun k hk ho => (hbk k hk).trans (h.wi.block k hk ho)⟩, hr, h.lt⟩
theorem RowD.fresh {w0 w wr w' : World} {B base : Nat} {code o o' : Value} {q : Int} {bs bs' : List Bd} (h : RowD w0 w wr B code q o bs) (hb : Below wr.heap.size wr w') (hr : w'.ownsRow base 28 4 o' bs'.length (bvs bs')) (hl : w.heap.size ≤ base) : RowD w0 w w' B code q o' bs' :=
  ⟨h.src.below hb, h.wi.trans (Within.of_below hb (Nat.le_refl _)), own_base hr hl, h.lt⟩
theorem RowD.read {w0 w wr : World} {B : Nat} {code o : Value} {q : Int} {bs : List Bd} (h : RowD w0 w wr B code q o bs) : QRead wr o bs := (own_binds h.row (Nat.le_refl _)).read
theorem new_binds (w : World) (C : Array Value) (ys : List Bd) (hC : C.toList = bvs ys) (hm : ys.length ≤ 1000) : (w.alloc (.cells C 28)).ownsRow w.heap.size 28 4 (.slice (some ⟨w.heap.size, 0, none⟩) ys.length ys.length) ys.length (bvs ys) := by
  have hs : C.size = ys.length * 4 := by rw [← Array.length_toList, hC, bvs_length]
  have h := World.ownsRow_lit (base := w.heap.size) (e := 28) (size := 4) w C ys.length (Nat.le_refl _) (by unfold maxLen; omega) hs
  rw [hC] at h
  exact h

set_option maxHeartbeats 8000000 in
theorem l8DrawSym_calls (zs : List Int) (a : Option Addr) (cap B : Nat) (p : Int) (w0 w : World) (hv : ReadAt .u8 w0 (.slice a zs.length cap) zs) (hz : ∀ z ∈ zs, 0 ≤ z ∧ z ≤ 255) (hlen : zs.length ≤ 1048576) (hs : Src w0 w B (.slice a zs.length cap) p) (hp0 : 0 ≤ p) (hp1 : p ≤ 900000) :
    Calls Tryd.prog 42 #[.pointer (some ⟨B, 0, none⟩)] w fun e w' => ∃ (k v q : Int), e = .returned (.agg #[.int .i64 k, .int .i64 v]) ∧ p ≤ q ∧ q ≤ p + 2 ∧ Src w0 w' B (.slice a zs.length cap) q ∧ Within B (B + 1) w w' := by
  have HZ := hide hz
  clear hz
  have hB := hs.lt
  have hw0 := hs.hB
  go_enter Tryd.func42, Tryd.ntmps42
  go_wp2_with fail
  have s1 := hs.alloc (.cells #[.int .i64 0, .int .i64 0] 26)
  have R : Blk (w.alloc (.cells #[.int .i64 0, .int .i64 0] 26)) w.heap.size #[.int .i64 0, .int .i64 0] := Blk.new _ _ _
  have x1 : Within B (B + 1) w (w.alloc (.cells #[.int .i64 0, .int .i64 0] 26)) := (Within.refl _ _ _).alloc _
  generalize (w.alloc (.cells #[.int .i64 0, .int .i64 0] 26)) = w1 at *
  refine (l1Next_calls zs a cap B p 8 w0 _ hv HZ.out hlen s1 (by omega) (by omega) (by omega) (by omega)).mono ?_
  rintro e w2 ⟨r, rfl, hr0, hr1, s2, x2⟩
  replace R := R.within x2 (by omega)
  replace x1 := x1.trans x2
  clear x2 s1 hs
  by_cases h0 : r = 0
  · subst h0
    go_wp2_with fail
    refine (l1Next_calls zs a cap B (p + 1) 4 w0 _ hv HZ.out hlen s2 (by omega) (by omega) (by omega) (by omega)).mono ?_
    rintro e w3 ⟨t, rfl, ht0, ht1, s3, x3⟩
    replace R := R.within x3 (by omega)
    replace x1 := x1.trans x3
    clear x3 s2
    go_wp2_with (refine wpList_store_blk rfl _ _ _ rfl w.heap.size 0 #[.int .i64 0, .int .i64 0] #[.int .i64 2, .int .i64 t] (.agg #[.int .i64 2, .int .i64 t]) rfl rfl R rfl (by kernel_rfl) rfl rfl ?_; (try simp only [Act.put, List.setIfInBounds_toArray, List.set_cons_zero, List.set_cons_succ]); clear R; intro w9 R hu)
    exact bodyPost_ret (results_blk R _ _ rfl rfl Tryd.underlying26 rfl (by kernel_rfl)) rfl ⟨2, t, p + 1 + 1, rfl, by omega, by omega, s3.upd hu (by omega) (by omega), x1.updx hu (Nat.le_refl _)⟩
  · have h0b : (r == 0) = false := by simpa using h0
    by_cases h1 : r = 1
    · subst h1
      go_wp2_with fail
      refine (l1Next_calls zs a cap B (p + 1) 3 w0 _ hv HZ.out hlen s2 (by omega) (by omega) (by omega) (by omega)).mono ?_
      rintro e w3 ⟨t, rfl, ht0, ht1, s3, x3⟩
      replace R := R.within x3 (by omega)
      replace x1 := x1.trans x3
      clear x3 s2
      go_wp2_with (refine wpList_store_blk rfl _ _ _ rfl w.heap.size 0 #[.int .i64 0, .int .i64 0] #[.int .i64 5, .int .i64 (1 + t)] (.agg #[.int .i64 5, .int .i64 (1 + t)]) rfl rfl R rfl (by kernel_rfl) rfl rfl ?_; (try simp only [Act.put, List.setIfInBounds_toArray, List.set_cons_zero, List.set_cons_succ]); clear R; intro w9 R hu)
      exact bodyPost_ret (results_blk R _ _ rfl rfl Tryd.underlying26 rfl (by kernel_rfl)) rfl ⟨5, (1 + t), p + 1 + 1, rfl, by omega, by omega, s3.upd hu (by omega) (by omega), x1.updx hu (Nat.le_refl _)⟩
    · have h1b : (r == 1) = false := by simpa using h1
      by_cases h2 : r = 2
      · subst h2
        go_wp2_with fail
        refine (l1Next_calls zs a cap B (p + 1) 3 w0 _ hv HZ.out hlen s2 (by omega) (by omega) (by omega) (by omega)).mono ?_
        rintro e w3 ⟨t, rfl, ht0, ht1, s3, x3⟩
        replace R := R.within x3 (by omega)
        replace x1 := x1.trans x3
        clear x3 s2
        go_wp2_with (refine wpList_store_blk rfl _ _ _ rfl w.heap.size 0 #[.int .i64 0, .int .i64 0] #[.int .i64 6, .int .i64 t] (.agg #[.int .i64 6, .int .i64 t]) rfl rfl R rfl (by kernel_rfl) rfl rfl ?_; (try simp only [Act.put, List.setIfInBounds_toArray, List.set_cons_zero, List.set_cons_succ]); clear R; intro w9 R hu)
        exact bodyPost_ret (results_blk R _ _ rfl rfl Tryd.underlying26 rfl (by kernel_rfl)) rfl ⟨6, t, p + 1 + 1, rfl, by omega, by omega, s3.upd hu (by omega) (by omega), x1.updx hu (Nat.le_refl _)⟩
      · have h2b : (r == 2) = false := by simpa using h2
        by_cases h3 : r = 3
        · subst h3
          go_wp2_with (refine wpList_store_blk rfl _ _ _ rfl w.heap.size 0 #[.int .i64 0, .int .i64 0] #[.int .i64 4, .int .i64 0] (.agg #[.int .i64 4, .int .i64 0]) rfl rfl R rfl (by kernel_rfl) rfl rfl ?_; (try simp only [Act.put, List.setIfInBounds_toArray, List.set_cons_zero, List.set_cons_succ]); clear R; intro w9 R hu)
          exact bodyPost_ret (results_blk R _ _ rfl rfl Tryd.underlying26 rfl (by kernel_rfl)) rfl ⟨4, 0, p + 1, rfl, by omega, by omega, s2.upd hu (by omega) (by omega), x1.updx hu (Nat.le_refl _)⟩
        · have h3b : (r == 3) = false := by simpa using h3
          go_wp2_with fail
          have hbt : Below w2.heap.size w2 (w2.alloc (.cells #[.int .i64 97, .int .i64 111, .int .i64 120, .int .i64 65, .int .i64 13, .int .i64 127, .int .i64 228, .int .i64 3, .int .i64 21, .int .i64 32] 2)) := (Below.refl _ _).alloc (Nat.le_refl _) _
          have sat := s2.below hbt
          replace R := R.belowb hbt
          replace x1 := x1.trans (Within.of_below hbt (Nat.le_refl _))
          have hsz := s2.lt
          refine (l1Pick_calls zs [97, 111, 120, 65, 13, 127, 228, 3, 21, 32] a cap B w2.heap.size 10 10 (p + 1) w0 _ hv HZ.out hlen sat (by omega) (by omega) rfl (by omega) (by omega) (by omega) (new_ints rfl)).mono ?_
          rintro e w3 ⟨t, rfl, _, s3, x3⟩
          replace R := R.within x3 (by omega)
          replace x1 := x1.trans x3
          clear x3 s2 sat hbt
          go_wp2_with (refine wpList_store_blk rfl _ _ _ rfl w.heap.size 0 #[.int .i64 0, .int .i64 0] #[.int .i64 1, .int .i64 t] (.agg #[.int .i64 1, .int .i64 t]) rfl rfl R rfl (by kernel_rfl) rfl rfl ?_; (try simp only [Act.put, List.setIfInBounds_toArray, List.set_cons_zero, List.set_cons_succ]); clear R; intro w9 R hu)
          exact bodyPost_ret (results_blk R _ _ rfl rfl Tryd.underlying26 rfl (by kernel_rfl)) rfl ⟨1, t, p + 1 + 1, rfl, by omega, by omega, s3.upd hu (by omega) (by omega), x1.updx hu (Nat.le_refl _)⟩

theorem e6b : (#[Value.int .i64 4, .int .i64 0, .int .i64 4, .int .i64 0, .int .i64 5, .int .i64 0, .int .i64 5, .int .i64 3, .int .i64 6, .int .i64 0, .int .i64 1, .int .i64 97, .int .i64 7, .int .i64 0, .int .i64 6, .int .i64 1, .int .i64 8, .int .i64 0, .int .i64 1, .int .i64 13, .int .i64 9, .int .i64 0, .int .i64 6, .int .i64 0] : Array Value).toList = bvs [(4, 0, 4, 0), (5, 0, 5, 3), (6, 0, 1, 97), (7, 0, 6, 1), (8, 0, 1, 13), (9, 0, 6, 0)] := by kernel_rfl

set_option maxHeartbeats 8000000 in
theorem l8Binds_calls (zs : List Int) (a : Option Addr) (cap B : Nat) (p : Int) (w0 w : World) (hv : ReadAt .u8 w0 (.slice a zs.length cap) zs) (hz : ∀ z ∈ zs, 0 ≤ z ∧ z ≤ 255) (hlen : zs.length ≤ 1048576) (hs : Src w0 w B (.slice a zs.length cap) p) (hp0 : 0 ≤ p) (hp1 : p ≤ 800000) :
    Calls Tryd.prog 66 #[.pointer (some ⟨B, 0, none⟩)] w fun e w' => ∃ (v : Value) (bs : List Bd) (q : Int), e = .returned v ∧ p ≤ q ∧ q ≤ p + 40 ∧ 1 ≤ bs.length ∧ bs.length ≤ 16 ∧ RowD w0 w w' B (.slice a zs.length cap) q v bs := by
  obtain ⟨i0, hi, hz0, hz1, hz2⟩ := info_parts info_bind
  have HZ := hide hz
  clear hz
  have hB := hs.lt
  have hw0 := hs.hB
  go_enter Tryd.func66, Tryd.ntmps66
  have D0 : Hid (RowD w0 w (w.alloc (.cells #[] 28)) B (.slice a zs.length cap) p (.slice (some ⟨w.heap.size, 0, none⟩) 0 0) []) := hide ⟨hs.alloc _, (Within.refl _ _ _).alloc _, new_binds w #[] [] rfl (by simp), hB⟩
  clear hs
  go_wp2_with fail
  generalize (w.alloc (.cells #[] 28)) = W at *
  go_loopw [3, 4] (fun ov i wr => ∃ (k : Nat) (bs : List Bd), k ≤ 3 ∧ i = .int .i64 k ∧ bs.length = k ∧ Hid (RowD w0 w wr B (.slice a zs.length cap) p ov bs)) (fun _ i _ => 3 - (intOf i).toNat)
  case atStart => exact ⟨0, [], by omega, rfl, rfl, D0⟩
  case round =>
    obtain ⟨k, bs, hk, rfl, hbl, D⟩ := hrel
    clear D0
    have hsz := D.out.wi.size
    by_cases hlt : k < 3
    · have hltI : (k : Int) < 3 := by omega
      obtain rfl | rfl | rfl : k = 0 ∨ k = 1 ∨ k = 2 := by omega
      · have HB := hide hbl
        clear hbl
        obtain ⟨av, cv, hov, hcv⟩ := own_room4 D.out.row
        subst hov
        have qa : Below wr.heap.size wr (wr.alloc (.cells #[.int .i64 1, .int .i64 0, .int .i64 3, .int .i64 1] 28)) := (Below.refl _ _).alloc (Nat.le_refl _) _
        have D2 := hide (D.out.below qa)
        have HN := hide (own_binds (new_binds wr #[.int .i64 1, .int .i64 0, .int .i64 3, .int .i64 1] [(1, 0, 3, 1)] rfl (by simp)) (Nat.le_refl _)).read
        have hs2 : w.heap.size ≤ (wr.alloc (.cells #[.int .i64 1, .int .i64 0, .int .i64 3, .int .i64 1] 28)).heap.size := D2.out.wi.size
        clear qa D
        go_wp2_with (at_builtin; refine wpList_append_binds _ rfl _ _ 24 rfl w.heap.size 28 i0 (.agg #[.int .i64 0, .int .i64 0, .int .i64 0, .int .i64 0]) 32 Tryd.underlying24 hi hz0 hz1 hz2 rfl (.slice av bs.length cv) bs.length bs rfl D2.out.row (some ⟨wr.heap.size, 0, none⟩) [(1, 0, 3, 1)] 1 1 rfl rfl HN.out (by unfold maxLen; have := HB.out; omega) (by have := HB.out; omega) hs2 ?_; intro ov2 r2 own2 hgr; have D := hide (D2.out.append (bs' := bs ++ [(1, 0, 3, 1)]) (by simpa using own2) hgr))
        clear D2 HN hs2 own2 hgr
        go_wp2
        go_roundw
        case rel => exact ⟨1, bs ++ [(1, 0, 3, 1)], by omega, by go_num, by simp [HB.out], D⟩
        case measure => simp [intOf]
      · have HB := hide hbl
        clear hbl
        obtain ⟨av, cv, hov, hcv⟩ := own_room4 D.out.row
        subst hov
        have qa : Below wr.heap.size wr (wr.alloc (.cells #[.int .i64 2, .int .i64 0, .int .i64 3, .int .i64 2] 28)) := (Below.refl _ _).alloc (Nat.le_refl _) _
        have D2 := hide (D.out.below qa)
        have HN := hide (own_binds (new_binds wr #[.int .i64 2, .int .i64 0, .int .i64 3, .int .i64 2] [(2, 0, 3, 2)] rfl (by simp)) (Nat.le_refl _)).read
        have hs2 : w.heap.size ≤ (wr.alloc (.cells #[.int .i64 2, .int .i64 0, .int .i64 3, .int .i64 2] 28)).heap.size := D2.out.wi.size
        clear qa D
        go_wp2_with (at_builtin; refine wpList_append_binds _ rfl _ _ 24 rfl w.heap.size 28 i0 (.agg #[.int .i64 0, .int .i64 0, .int .i64 0, .int .i64 0]) 32 Tryd.underlying24 hi hz0 hz1 hz2 rfl (.slice av bs.length cv) bs.length bs rfl D2.out.row (some ⟨wr.heap.size, 0, none⟩) [(2, 0, 3, 2)] 1 1 rfl rfl HN.out (by unfold maxLen; have := HB.out; omega) (by have := HB.out; omega) hs2 ?_; intro ov2 r2 own2 hgr; have D := hide (D2.out.append (bs' := bs ++ [(2, 0, 3, 2)]) (by simpa using own2) hgr))
        clear D2 HN hs2 own2 hgr
        go_wp2
        go_roundw
        case rel => exact ⟨2, bs ++ [(2, 0, 3, 2)], by omega, by go_num, by simp [HB.out], D⟩
        case measure => simp [intOf]
      · have HB := hide hbl
        clear hbl
        obtain ⟨av, cv, hov, hcv⟩ := own_room4 D.out.row
        subst hov
        have qa : Below wr.heap.size wr (wr.alloc (.cells #[.int .i64 3, .int .i64 0, .int .i64 3, .int .i64 4] 28)) := (Below.refl _ _).alloc (Nat.le_refl _) _
        have D2 := hide (D.out.below qa)
        have HN := hide (own_binds (new_binds wr #[.int .i64 3, .int .i64 0, .int .i64 3, .int .i64 4] [(3, 0, 3, 4)] rfl (by simp)) (Nat.le_refl _)).read
        have hs2 : w.heap.size ≤ (wr.alloc (.cells #[.int .i64 3, .int .i64 0, .int .i64 3, .int .i64 4] 28)).heap.size := D2.out.wi.size
        clear qa D
        go_wp2_with (at_builtin; refine wpList_append_binds _ rfl _ _ 24 rfl w.heap.size 28 i0 (.agg #[.int .i64 0, .int .i64 0, .int .i64 0, .int .i64 0]) 32 Tryd.underlying24 hi hz0 hz1 hz2 rfl (.slice av bs.length cv) bs.length bs rfl D2.out.row (some ⟨wr.heap.size, 0, none⟩) [(3, 0, 3, 4)] 1 1 rfl rfl HN.out (by unfold maxLen; have := HB.out; omega) (by have := HB.out; omega) hs2 ?_; intro ov2 r2 own2 hgr; have D := hide (D2.out.append (bs' := bs ++ [(3, 0, 3, 4)]) (by simpa using own2) hgr))
        clear D2 HN hs2 own2 hgr
        go_wp2
        go_roundw
        case rel => exact ⟨3, bs ++ [(3, 0, 3, 4)], by omega, by go_num, by simp [HB.out], D⟩
        case measure => simp [intOf]
    · obtain rfl : k = 3 := by omega
      have HB := hide hbl
      clear hbl
      obtain ⟨av, cv, hov, hcv⟩ := own_room4 D.out.row
      subst hov
      have qa : Below wr.heap.size wr (wr.alloc (.cells #[.int .i64 4, .int .i64 0, .int .i64 4, .int .i64 0, .int .i64 5, .int .i64 0, .int .i64 5, .int .i64 3, .int .i64 6, .int .i64 0, .int .i64 1, .int .i64 97, .int .i64 7, .int .i64 0, .int .i64 6, .int .i64 1, .int .i64 8, .int .i64 0, .int .i64 1, .int .i64 13, .int .i64 9, .int .i64 0, .int .i64 6, .int .i64 0] 28)) := (Below.refl _ _).alloc (Nat.le_refl _) _
      have D2 := hide (D.out.below qa)
      have HN := hide (own_binds (new_binds wr #[.int .i64 4, .int .i64 0, .int .i64 4, .int .i64 0, .int .i64 5, .int .i64 0, .int .i64 5, .int .i64 3, .int .i64 6, .int .i64 0, .int .i64 1, .int .i64 97, .int .i64 7, .int .i64 0, .int .i64 6, .int .i64 1, .int .i64 8, .int .i64 0, .int .i64 1, .int .i64 13, .int .i64 9, .int .i64 0, .int .i64 6, .int .i64 0] [(4, 0, 4, 0), (5, 0, 5, 3), (6, 0, 1, 97), (7, 0, 6, 1), (8, 0, 1, 13), (9, 0, 6, 0)] rfl (by simp)) (Nat.le_refl _)).read
      have hs2 : w.heap.size ≤ (wr.alloc (.cells #[.int .i64 4, .int .i64 0, .int .i64 4, .int .i64 0, .int .i64 5, .int .i64 0, .int .i64 5, .int .i64 3, .int .i64 6, .int .i64 0, .int .i64 1, .int .i64 97, .int .i64 7, .int .i64 0, .int .i64 6, .int .i64 1, .int .i64 8, .int .i64 0, .int .i64 1, .int .i64 13, .int .i64 9, .int .i64 0, .int .i64 6, .int .i64 0] 28)).heap.size := D2.out.wi.size
      clear qa D
      go_wp2_with (at_builtin; refine wpList_append_binds _ rfl _ _ 24 rfl w.heap.size 28 i0 (.agg #[.int .i64 0, .int .i64 0, .int .i64 0, .int .i64 0]) 32 Tryd.underlying24 hi hz0 hz1 hz2 rfl (.slice av bs.length cv) bs.length bs rfl D2.out.row (some ⟨wr.heap.size, 0, none⟩) [(4, 0, 4, 0), (5, 0, 5, 3), (6, 0, 1, 97), (7, 0, 6, 1), (8, 0, 1, 13), (9, 0, 6, 0)] 6 6 rfl rfl HN.out (by unfold maxLen; have := HB.out; omega) (by have := HB.out; omega) hs2 ?_; intro ov2 r2 own2 hgr; have D := hide (D2.out.append (bs' := bs ++ [(4, 0, 4, 0), (5, 0, 5, 3), (6, 0, 1, 97), (7, 0, 6, 1), (8, 0, 1, 13), (9, 0, 6, 0)]) (by simpa using own2) hgr))
      clear D2 HN hs2 own2 hgr
      have D0 := hide (show RowD w0 w r2 B (.slice a zs.length cap) p ov2 (bs ++ [(4, 0, 4, 0), (5, 0, 5, 3), (6, 0, 1, 97), (7, 0, 6, 1), (8, 0, 1, 13), (9, 0, 6, 0)]) from D.out)
      clear D
      have HB9 : Hid ((bs ++ [(4, 0, 4, 0), (5, 0, 5, 3), (6, 0, 1, 97), (7, 0, 6, 1), (8, 0, 1, 13), (9, 0, 6, 0)]).length = 9) := hide (by simp [HB.out])
      generalize (bs ++ [(4, 0, 4, 0), (5, 0, 5, 3), (6, 0, 1, 97), (7, 0, 6, 1), (8, 0, 1, 13), (9, 0, 6, 0)]) = b9 at D0 HB9
      clear HB
      refine (l1Next_calls zs a cap B p 8 w0 _ hv HZ.out hlen D0.out.src (by omega) (by omega) (by omega) (by omega)).mono ?_
      rintro e w2 ⟨r, rfl, hr0, hr1, s2, x2⟩
      have D1 := hide (D0.out.within s2 x2)
      obtain ⟨n0, rfl⟩ := Int.eq_ofNat_of_zero_le hr0
      have hn0 : n0 ≤ 7 := by omega
      clear D0 s2 x2 hr0 hr1 hsz
      go_wp2_with fail
      go_loopw [3, 5] (fun ov i wr => ∃ (k : Nat) (bs : List Bd) (q : Int), k ≤ 7 ∧ i = .int .i64 k ∧ Hid (1 ≤ bs.length ∧ bs.length + k ≤ 16) ∧ Hid (p ≤ q ∧ q + 4 * k ≤ p + 30) ∧ Hid (RowD w0 w wr B (.slice a zs.length cap) q ov bs)) (fun _ i _ => (intOf i).toNat)
      case atStart => exact ⟨n0, b9, p + 1, hn0, rfl, hide (by have := HB9.out; omega), hide (by omega), D1⟩
      case round =>
        obtain ⟨k, bs, q, hk, rfl, HL, HQ, D⟩ := hrel
        clear D1 HB9
        by_cases hk0 : k = 0
        · subst hk0
          go_wp2
          go_ret
          exact ⟨_, bs, q, rfl, HQ.out.1, by have := HQ.out; omega, HL.out.1, by have := HL.out; omega, D.out⟩
        · obtain ⟨n, rfl⟩ : ∃ n, k = n + 1 := ⟨k - 1, by omega⟩
          have hkp : (0 : Int) < ((n + 1 : Nat) : Int) := by omega
          go_wp2_with fail
          refine (l1Next_calls zs a cap B q 9 w0 _ hv HZ.out hlen D.out.src (by have := HQ.out; omega) (by have := HQ.out; omega) (by omega) (by omega)).mono ?_
          rintro e v1 ⟨r, rfl, _, _, s2, x2⟩
          replace D := hide (D.out.within s2 x2)
          clear s2 x2
          have hBv := D.out.src.lt
          have hbt : Below v1.heap.size v1 (v1.alloc (.cells #[.int .i64 0, .int .i64 0, .int .i64 1, .int .i64 2, .int .i64 4] 2)) := (Below.refl _ _).alloc (Nat.le_refl _) _
          replace D := hide (D.out.below hbt)
          clear hbt
          go_wp2_with fail
          refine (l1Pick_calls zs [0, 0, 1, 2, 4] a cap B v1.heap.size 5 5 (q + 1) w0 _ hv HZ.out hlen D.out.src (by have := HQ.out; omega) (by have := HQ.out; omega) rfl (by omega) (by omega) (by omega) (new_ints rfl)).mono ?_
          rintro e v2 ⟨m, rfl, _, s2, x2⟩
          replace D := hide (D.out.within s2 x2)
          clear s2 x2
          go_wp2_with fail
          refine (l8DrawSym_calls zs a cap B (q + 1 + 1) w0 _ hv HZ.out hlen D.out.src (by have := HQ.out; omega) (by have := HQ.out; omega)).mono ?_
          rintro e v3 ⟨sk, sv, q3, rfl, hq0, hq1, s2, x2⟩
          replace D := hide (D.out.within s2 x2)
          clear s2 x2
          go_wp2_with fail
          refine (l8Put_own bs _ (5 + r, m, sk, sv) _ (by have := HL.out; omega) D.out.read).mono ?_
          rintro e v4 ⟨o4, rfl, ho, hb⟩
          replace D := hide (D.out.fresh hb ho (by have := D.out.wi.size; omega))
          have HP := hide (putR_len bs (5 + r, m, sk, sv))
          generalize putR bs (5 + r, m, sk, sv) = b4 at D HP
          clear ho hb
          go_wp2
          go_roundw
          case rel => exact ⟨n, b4, q3, by omega, by go_num, hide (by have := HL.out; have := HP.out; omega), hide (by have := HQ.out; omega), D⟩
          case measure => first | (simp [intOf]; done) | (simp [intOf]; omega)

end Go.Proofs.YtcfechnkgefhcaaDoor
