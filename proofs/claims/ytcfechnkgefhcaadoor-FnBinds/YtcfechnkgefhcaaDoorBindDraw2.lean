/-
  The draws of binds: l8Bent.
-/
import Derived.Test.YtcfechnkgefhcaaDoorBindDraw
namespace Go.Proofs.YtcfechnkgefhcaaDoor
set_option maxRecDepth 20000
open Go.ChangeShapes Go.WideShapes Go.ChangeAt Go.RowKit
set_option linter.unusedVariables false
set_option linter.unusedSimpArgs false
set_option maxRecDepth 20000

theorem e25 : (madeCells (Value.agg #[.int .i64 0, .int .i64 0, .int .i64 0, .int .i64 0]).cells (25 * 4)).toList = bvs (List.replicate 25 (0, 0, 0, 0)) := by kernel_rfl
theorem below_made {w w' : World} (hg : w.grownBy w' none) : Below w.heap.size w w' := ⟨hg.os, hg.tape, hg.output, hg.size, fun k hk => hg.block k hk (by simp)⟩
theorem QAt.set_sym {lo hi : Nat} {w : World} {b off c : Nat} {xs : List Bd} (h : ∀ i, i < xs.length → Q4 w b (off + i * 4) (xs.getD i b0) ∧ Z4 w b (off + i * 4)) (hl : lo ≤ b) (hh : b < hi) (hp : 0 < xs.length) (hc : xs.length ≤ c) (k v : Int) :
    QAt lo hi ((w.setCell ⟨b, off + 2, none⟩ (.int .i64 k)).setCell ⟨b, off + 3, none⟩ (.int .i64 v)) (.slice (some ⟨b, off, none⟩) xs.length c) (xs.set 0 ((xs.getD 0 b0).1, (xs.getD 0 b0).2.1, k, v)) := by
  have hd : ∀ i, i < xs.length → (xs.set 0 ((xs.getD 0 b0).1, (xs.getD 0 b0).2.1, k, v)).getD i b0 = if i = 0 then ((xs.getD 0 b0).1, (xs.getD 0 b0).2.1, k, v) else xs.getD i b0 := by
    intro i hi
    by_cases h0 : i = 0
    · subst h0
      simp [hi]
    · simp [h0, List.getD_eq_getElem?_getD, List.getElem?_set_ne (Ne.symm h0)]
  have hz : ∀ i, i < xs.length → Z4 ((w.setCell ⟨b, off + 2, none⟩ (.int .i64 k)).setCell ⟨b, off + 3, none⟩ (.int .i64 v)) b (off + i * 4) := by
    intro i hi
    obtain ⟨z0, z1, z2, z3⟩ := (h i hi).2
    refine ⟨?_, ?_, ?_, ?_⟩ <;> rw [World.frozen?_setCell, World.frozen?_setCell] <;> assumption
  refine ⟨_, c, by simp, by simpa using hc, .inr ⟨b, off, rfl, hl, hh, fun i hi => ⟨?_, hz i (by simpa using hi)⟩⟩⟩
  have hi' : i < xs.length := by simpa using hi
  rw [hd i hi']
  obtain ⟨q0, q1, q2, q3⟩ := (h i hi').1
  by_cases h0 : i = 0
  · subst h0
    rw [if_pos rfl]
    simp only [Nat.zero_mul, Nat.add_zero] at q0 q1 q2 q3 ⊢
    refine ⟨?_, ?_, ?_, ?_⟩
    · rw [World.cell?_setCell_other _ _ _ _ (addr_ne (by omega)), World.cell?_setCell_other _ _ _ _ (addr_ne (by omega))]; exact q0
    · rw [World.cell?_setCell_other _ _ _ _ (addr_ne (by omega)), World.cell?_setCell_other _ _ _ _ (addr_ne (by omega))]; exact q1
    · rw [World.cell?_setCell_other _ _ _ _ (addr_ne (by omega))]; exact World.cell?_setCell_same _ _ _ q2
    · exact World.cell?_setCell_same _ _ _ (by rw [World.cell?_setCell_other _ _ _ _ (addr_ne (by omega))]; exact q3)
  · rw [if_neg h0]
    refine ⟨?_, ?_, ?_, ?_⟩
    · rw [World.cell?_setCell_other _ _ _ _ (addr_ne (by omega)), World.cell?_setCell_other _ _ _ _ (addr_ne (by omega))]; exact q0
    · rw [World.cell?_setCell_other _ _ _ _ (addr_ne (by omega)), World.cell?_setCell_other _ _ _ _ (addr_ne (by omega))]; exact q1
    · rw [World.cell?_setCell_other _ _ _ _ (addr_ne (by omega)), World.cell?_setCell_other _ _ _ _ (addr_ne (by omega))]; exact q2
    · rw [World.cell?_setCell_other _ _ _ _ (addr_ne (by omega)), World.cell?_setCell_other _ _ _ _ (addr_ne (by omega))]; exact q3
theorem upd2 {w : World} {b o o' : Nat} {x y : Value} : Upd b w ((w.setCell ⟨b, o, none⟩ x).setCell ⟨b, o', none⟩ y) := (Upd.setCell w ⟨b, o, none⟩ x).trans (Upd.setCell _ ⟨b, o', none⟩ y)
theorem RowD.at {w0 w wr : World} {B : Nat} {code o : Value} {q : Int} {bs : List Bd} (h : RowD w0 w wr B code q o bs) : QAt w.heap.size wr.heap.size wr o bs := own_binds h.row (Nat.le_refl _)

set_option maxHeartbeats 8000000 in
theorem l8Bent_calls (zs : List Int) (a : Option Addr) (cap B : Nat) (p : Int) (w0 w : World) (hv : ReadAt .u8 w0 (.slice a zs.length cap) zs) (hz : ∀ z ∈ zs, 0 ≤ z ∧ z ≤ 255) (hlen : zs.length ≤ 1048576) (hs : Src w0 w B (.slice a zs.length cap) p) (hp0 : 0 ≤ p) (hp1 : p ≤ 700000) :
    Calls Tryd.prog 39 #[.pointer (some ⟨B, 0, none⟩)] w fun e w' => ∃ (v : Value) (bs : List Bd) (q : Int), e = .returned v ∧ p ≤ q ∧ q ≤ p + 60 ∧ 1 ≤ bs.length ∧ bs.length ≤ 25 ∧ QAt w.heap.size w'.heap.size w' v bs ∧ Src w0 w' B (.slice a zs.length cap) q ∧ Within B (B + 1) w w' := by
  obtain ⟨i0, hi, hz0, hz1, hz2⟩ := info_parts info_bind
  have HZ := hide hz
  clear hz
  have hB := hs.lt
  have hw0 := hs.hB
  go_enter Tryd.func39, Tryd.ntmps39
  go_wp2_with fail
  refine (l8Binds_calls zs a cap B p w0 w hv HZ.out hlen hs hp0 (by omega)).mono ?_
  rintro e w1 ⟨ov, bs, q, rfl, hq0, hq1, hl0, hl1, D⟩
  replace D := hide D
  have HL : Hid (1 ≤ bs.length ∧ bs.length ≤ 16) := hide ⟨hl0, hl1⟩
  have HQ : Hid (p ≤ q ∧ q ≤ p + 40) := hide ⟨hq0, hq1⟩
  clear hq0 hq1 hl0 hl1 hs
  go_wp2_with fail
  refine (l1Next_calls zs a cap B q 12 w0 _ hv HZ.out hlen D.out.src (by have := HQ.out; omega) (by have := HQ.out; omega) (by omega) (by omega)).mono ?_
  rintro e w2 ⟨r, rfl, hr0, hr1, s2, x2⟩
  replace D := hide (D.out.within s2 x2)
  clear s2 x2
  by_cases h0 : r = 0
  · subst h0
    go_wp2_with fail
    have hBv := D.out.src.lt
    have hbt : Below w2.heap.size w2 (w2.alloc (.cells #[.int .i64 0, .int .i64 40, .int .i64 41] 2)) := (Below.refl _ _).alloc (Nat.le_refl _) _
    replace D := hide (D.out.below hbt)
    clear hbt
    refine (l1Pick_calls zs [0, 40, 41] a cap B w2.heap.size 3 3 (q + 1) w0 _ hv HZ.out hlen D.out.src (by have := HQ.out; omega) (by have := HQ.out; omega) rfl (by omega) (by omega) (by omega) (new_ints rfl)).mono ?_
    rintro e w3 ⟨k, rfl, _, s2, x2⟩
    replace D := hide (D.out.within s2 x2)
    clear s2 x2 hBv
    go_wp2_with fail
    have hBv := D.out.src.lt
    have hbt : Below w3.heap.size w3 (w3.alloc (.cells #[.int .i64 0, .int .i64 8] 2)) := (Below.refl _ _).alloc (Nat.le_refl _) _
    replace D := hide (D.out.below hbt)
    clear hbt
    refine (l1Pick_calls zs [0, 8] a cap B w3.heap.size 2 2 (q + 1 + 1) w0 _ hv HZ.out hlen D.out.src (by have := HQ.out; omega) (by have := HQ.out; omega) rfl (by omega) (by omega) (by omega) (new_ints rfl)).mono ?_
    rintro e w4 ⟨m, rfl, _, s2, x2⟩
    replace D := hide (D.out.within s2 x2)
    clear s2 x2 hBv
    go_wp2_with fail
    refine (l8DrawSym_calls zs a cap B (q + 1 + 1 + 1) w0 _ hv HZ.out hlen D.out.src (by have := HQ.out; omega) (by have := HQ.out; omega)).mono ?_
    rintro e w5 ⟨sk, sv, q3, rfl, hq30, hq31, s2, x2⟩
    replace D := hide (D.out.within s2 x2)
    clear s2 x2
    obtain ⟨av, cv, hov, hcv⟩ := own_room4 D.out.row
    subst hov
    have qa : Below w5.heap.size w5 (w5.alloc (.cells #[.int .i64 k, .int .i64 m, .int .i64 sk, .int .i64 sv] 28)) := (Below.refl _ _).alloc (Nat.le_refl _) _
    have D2 := hide (D.out.below qa)
    have HN := hide (own_binds (new_binds w5 #[.int .i64 k, .int .i64 m, .int .i64 sk, .int .i64 sv] [(k, m, sk, sv)] rfl (by simp)) (Nat.le_refl _)).read
    have hs2 : w.heap.size ≤ (w5.alloc (.cells #[.int .i64 k, .int .i64 m, .int .i64 sk, .int .i64 sv] 28)).heap.size := D2.out.wi.size
    clear qa D
    go_wp2_with (at_builtin; refine wpList_append_binds _ rfl _ _ 24 rfl w.heap.size 28 i0 (.agg #[.int .i64 0, .int .i64 0, .int .i64 0, .int .i64 0]) 32 Tryd.underlying24 hi hz0 hz1 hz2 rfl (.slice av bs.length cv) bs.length bs rfl D2.out.row (some ⟨w5.heap.size, 0, none⟩) [(k, m, sk, sv)] 1 1 rfl rfl HN.out (by unfold maxLen; have := HL.out; omega) (by have := HL.out; omega) hs2 ?_; intro ov2 r2 own2 hgr; have D := hide (D2.out.append (bs' := bs ++ [(k, m, sk, sv)]) (by simpa using own2) hgr))
    clear D2 HN hs2 own2 hgr
    try go_wp2
    go_ret
    exact ⟨_, bs ++ [(k, m, sk, sv)], q3, rfl, by have := HQ.out; omega, by have := HQ.out; omega, by simp, by have := HL.out; simp; omega, D.out.at, D.out.src, D.out.wi⟩
  · have h0b : (r == 0) = false := by simpa using h0
    by_cases h1 : r = 1
    · subst h1
      go_wp2_with fail
      have hBv := D.out.src.lt
      have hbt : Below w2.heap.size w2 (w2.alloc (.cells #[.int .i64 1, .int .i64 3, .int .i64 7, .int .i64 0] 2)) := (Below.refl _ _).alloc (Nat.le_refl _) _
      replace D := hide (D.out.below hbt)
      clear hbt
      refine (l1Pick_calls zs [1, 3, 7, 0] a cap B w2.heap.size 4 4 (q + 1) w0 _ hv HZ.out hlen D.out.src (by have := HQ.out; omega) (by have := HQ.out; omega) rfl (by omega) (by omega) (by omega) (new_ints rfl)).mono ?_
      rintro e w3 ⟨k, rfl, _, s2, x2⟩
      replace D := hide (D.out.within s2 x2)
      clear s2 x2 hBv
      go_wp2_with fail
      have hBv := D.out.src.lt
      have hbt : Below w3.heap.size w3 (w3.alloc (.cells #[.int .i64 3, .int .i64 4, .int .i64 (-1)] 2)) := (Below.refl _ _).alloc (Nat.le_refl _) _
      replace D := hide (D.out.below hbt)
      clear hbt
      refine (l1Pick_calls zs [3, 4, (-1)] a cap B w3.heap.size 3 3 (q + 1 + 1) w0 _ hv HZ.out hlen D.out.src (by have := HQ.out; omega) (by have := HQ.out; omega) rfl (by omega) (by omega) (by omega) (new_ints rfl)).mono ?_
      rintro e w4 ⟨m, rfl, _, s2, x2⟩
      replace D := hide (D.out.within s2 x2)
      clear s2 x2 hBv
      obtain ⟨av, cv, hov, hcv, hx⟩ := D.out.at
      subst hov
      rcases hx with hx | ⟨b, off, rfl, hb0, hb1, hc⟩
      · exact absurd HL.out.1 (by rw [hx]; simp)
      have hpos : (0 : Int) < (bs.length : Int) := by have := HL.out; omega
      have hposn : 0 < bs.length := by have := HL.out; omega
      obtain ⟨q0, q1, q2, q3⟩ := (hc 0 hposn).1
      obtain ⟨z0, z1, z2, z3⟩ := (hc 0 hposn).2
      simp only [Nat.zero_mul, Nat.add_zero] at q0 q1 q2 q3 z0 z1 z2 z3
      have HF := hide (QAt.set_sym (lo := w.heap.size) (hi := w4.heap.size) hc hb0 hb1 hposn hcv k m)
      clear hc q0 q1 z0 z1
      go_wp2
      go_ret
      exact ⟨.slice (some ⟨b, off, none⟩) bs.length cv, bs.set 0 ((bs.getD 0 b0).1, (bs.getD 0 b0).2.1, k, m), q + 1 + 1 + 1, rfl, by have := HQ.out; omega, by have := HQ.out; omega, by simpa using HL.out.1, by have := HL.out; simp; omega, by have e := (@upd2 w4 b (off + 2) (off + 3) (.int .i64 k) (.int .i64 m)).size; rw [e]; exact HF.out, D.out.src.upd upd2 (by have := D.out.lt; omega) (by have := D.out.src.hB; have := D.out.lt; omega), D.out.wi.updx upd2 hb0⟩
    · have h1b : (r == 1) = false := by simpa using h1
      by_cases h2 : r = 2
      · subst h2
        go_wp2_with (at_make; refine wpList_make_full _ rfl _ _ 24 rfl w.heap.size 28 i0 (.agg #[.int .i64 0, .int .i64 0, .int .i64 0, .int .i64 0]) 4 Tryd.underlying24 hi hz0 hz1 .i64 .i64 _ _ 25 rfl rfl rfl rfl (by rw [hz2]; omega) (by unfold maxLen; omega) (by have := D.out.wi.size; omega) ?_; intro w5 hown5 hgr5; have D5 := hide (D.out.fresh (bs' := List.replicate 25 (0, 0, 0, 0)) (below_made hgr5) (base := w.heap.size) (by rw [List.length_replicate, ← e25]; exact hown5) (by omega)))
        try go_wp2
        go_ret
        exact ⟨_, List.replicate 25 (0, 0, 0, 0), q + 1, rfl, by have := HQ.out; omega, by have := HQ.out; omega, by simp, by simp, D5.out.at, D5.out.src, D5.out.wi⟩
      · have h2b : (r == 2) = false := by simpa using h2
        go_wp2
        go_ret
        exact ⟨_, bs, q + 1, rfl, by have := HQ.out; omega, by have := HQ.out; omega, HL.out.1, by have := HL.out; omega, D.out.at, D.out.src, D.out.wi⟩

end Go.Proofs.YtcfechnkgefhcaaDoor
