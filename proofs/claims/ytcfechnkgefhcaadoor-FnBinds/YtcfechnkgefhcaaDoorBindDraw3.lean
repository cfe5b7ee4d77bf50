/-
  The draws of binds: DrawPutBind, DrawSymFault, DrawSymOf.
-/
import Derived.Test.YtcfechnkgefhcaaDoorBindDraw2
namespace Go.Proofs.YtcfechnkgefhcaaDoor
set_option maxRecDepth 20000
open Go.ChangeShapes Go.WideShapes Go.ChangeAt Go.RowKit
set_option linter.unusedVariables false
set_option linter.unusedSimpArgs false
set_option maxRecDepth 20000

theorem QAt.upd8 {lo hi g : Nat} {w w' : World} {v : Value} {xs : List Bd} (h : QAt lo hi w v xs) (hu : Upd g w w') (hg : g < lo) : QAt lo hi w' v xs := h.of_blocks fun i h1 h2 => hu.block i (by omega)
structure BD (w wr : World) (B : Nat) (code : Value) (q : Int) (v : Value) (bs : List Bd) : Prop where
  src : Src w wr B code q
  row : ∃ hi, QAt (B + 1) hi wr v bs ∧ hi ≤ wr.heap.size
theorem BD.within {w wr w' : World} {B : Nat} {code v : Value} {q q' : Int} {bs : List Bd} (h : BD w wr B code q v bs) (s : Src w w' B code q') (x : Within B (B + 1) wr w') : BD w w' B code q' v bs := by
  obtain ⟨hi, hx, hh⟩ := h.row
  exact ⟨s, hi, hx.within x hh (.inr (Nat.le_refl _)), Nat.le_trans hh x.size⟩
theorem BD.below {w wr w' : World} {B : Nat} {code v : Value} {q : Int} {bs : List Bd} (h : BD w wr B code q v bs) (hb : Below wr.heap.size wr w') : BD w w' B code q v bs := by
  obtain ⟨hi, hx, hh⟩ := h.row
  exact ⟨h.src.below hb, hi, hx.below hb hh, Nat.le_trans hh hb.size⟩
theorem BD.upd {w wr w' : World} {B g : Nat} {code v : Value} {q : Int} {bs : List Bd} (h : BD w wr B code q v bs) (hu : Upd g wr w') (h1 : g < B) (h2 : w.heap.size ≤ g) : BD w w' B code q v bs := by
  obtain ⟨hi, hx, hh⟩ := h.row
  exact ⟨h.src.upd hu (by omega) h2, hi, hx.upd8 hu (by omega), by have := hu.size; omega⟩
theorem BD.read {w wr : World} {B : Nat} {code v : Value} {q : Int} {bs : List Bd} (h : BD w wr B code q v bs) : QRead wr v bs := by
  obtain ⟨hi, hx, hh⟩ := h.row
  exact hx.read

set_option maxHeartbeats 8000000 in
theorem drawPB_calls (zs : List Int) (a : Option Addr) (cap : Nat) (w : World) (hv : ReadAt .u8 w (.slice a zs.length cap) zs) (hz : ∀ z ∈ zs, 0 ≤ z ∧ z ≤ 255) (hlen : zs.length ≤ 1048576) :
    Calls Tryd.prog 10 #[.slice a zs.length cap] w fun e w' => ∃ (v : Value) (bs : List Bd) (k m sk sv : Int), e = .returned (.tuple #[v, .agg #[.int .i64 k, .int .i64 m, .int .i64 sk, .int .i64 sv]]) ∧ 1 ≤ bs.length ∧ bs.length ≤ 25 ∧ QRead w' v bs ∧ Below w.heap.size w w' := by
  have HZ := hide hz
  clear hz
  go_enter Tryd.func10, Tryd.ntmps10
  go_wp2_with fail
  refine (l1Source_calls (.bool true) _ _ _ _).mono ?_
  rintro e w' ⟨rfl, hw⟩
  rw [hw]
  clear hw w'
  have q0 : Below w.heap.size w ((w.alloc (.cells #[.int .i64 0, .int .i64 0, .int .i64 0, .int .i64 0] 28)).alloc (.cells #[.slice a zs.length cap, .int .i64 0] 101)) := (by repeat' (first | with_reducible exact Below.refl _ _ | with_reducible assumption | with_reducible refine Below.drew ?_ | with_reducible refine Below.alloc ?_ ?_ _ | with_reducible refine Below.setCell ?_ ?_ _ | (simp; done) | (simp; omega) | omega))
  have sc : Src w ((w.alloc (.cells #[.int .i64 0, .int .i64 0, .int .i64 0, .int .i64 0] 28)).alloc (.cells #[.slice a zs.length cap, .int .i64 0] 101)) (w.heap.size + 1) (.slice a zs.length cap) 0 := ⟨by simp [go_sem], by simp [go_sem], fun o => by simp [go_sem], q0, by omega⟩
  have hz1 : ((w.alloc (.cells #[.int .i64 0, .int .i64 0, .int .i64 0, .int .i64 0] 28)).alloc (.cells #[.slice a zs.length cap, .int .i64 0] 101)).heap.size = w.heap.size + 1 + 1 := by simp
  have HZ1 := hide hz1
  clear hz1
  have R : Blk ((w.alloc (.cells #[.int .i64 0, .int .i64 0, .int .i64 0, .int .i64 0] 28)).alloc (.cells #[.slice a zs.length cap, .int .i64 0] 101)) w.heap.size #[.int .i64 0, .int .i64 0, .int .i64 0, .int .i64 0] := (Blk.new _ _ _).alloc _
  clear q0
  go_wp2_with fail
  generalize ((w.alloc (.cells #[.int .i64 0, .int .i64 0, .int .i64 0, .int .i64 0] 28)).alloc (.cells #[.slice a zs.length cap, .int .i64 0] 101)) = w1 at *
  refine (l8Bent_calls zs a cap (w.heap.size + 1) 0 w w1 hv HZ.out hlen sc (by omega) (by omega)).mono ?_
  rintro e w2 ⟨v, bs, q, rfl, hq0, hq1, hl0, hl1, hx, s2, x2⟩
  have D : Hid (BD w w2 (w.heap.size + 1) (.slice a zs.length cap) q v bs) := hide ⟨s2, _, hx.mono (by rw [HZ1.out]; omega) (Nat.le_refl _), Nat.le_refl _⟩
  have HL : Hid (1 ≤ bs.length ∧ bs.length ≤ 25) := hide ⟨hl0, hl1⟩
  replace R := R.within x2 (by omega)
  clear s2 x2 hx sc hl0 hl1
  go_wp2_with fail
  refine (l1Next_calls zs a cap (w.heap.size + 1) (q) 12 w _ hv HZ.out hlen D.out.src (by omega) (by omega) (by omega) (by omega)).mono ?_
  rintro e w3 ⟨r, rfl, _, _, s2, x2⟩
  replace D := hide (D.out.within s2 x2)
  replace R := R.within x2 (by omega)
  clear s2 x2
  go_wp2_with fail
  have hBv := D.out.src.lt
  have hbt : Below w3.heap.size w3 (w3.alloc (.cells #[.int .i64 (1 + r), .int .i64 40, .int .i64 41] 2)) := (Below.refl _ _).alloc (Nat.le_refl _) _
  replace D := hide (D.out.below hbt)
  replace R := R.belowb hbt
  clear hbt
  refine (l1Pick_calls zs [(1 + r), 40, 41] a cap (w.heap.size + 1) w3.heap.size 3 3 (q + 1) w _ hv HZ.out hlen D.out.src (by omega) (by omega) rfl (by omega) (by omega) (by omega) (new_ints rfl)).mono ?_
  rintro e w4 ⟨k, rfl, _, s2, x2⟩
  replace D := hide (D.out.within s2 x2)
  replace R := R.within x2 (by omega)
  clear s2 x2
  clear hBv
  go_wp2_with fail
  have hBv := D.out.src.lt
  have hbt : Below w4.heap.size w4 (w4.alloc (.cells #[.int .i64 0, .int .i64 1, .int .i64 7, .int .i64 8] 2)) := (Below.refl _ _).alloc (Nat.le_refl _) _
  replace D := hide (D.out.below hbt)
  replace R := R.belowb hbt
  clear hbt
  refine (l1Pick_calls zs [0, 1, 7, 8] a cap (w.heap.size + 1) w4.heap.size 4 4 (q + 1 + 1) w _ hv HZ.out hlen D.out.src (by omega) (by omega) rfl (by omega) (by omega) (by omega) (new_ints rfl)).mono ?_
  rintro e w5 ⟨m, rfl, _, s2, x2⟩
  replace D := hide (D.out.within s2 x2)
  replace R := R.within x2 (by omega)
  clear s2 x2
  clear hBv
  go_wp2_with fail
  refine (l8DrawSym_calls zs a cap (w.heap.size + 1) (q + 1 + 1 + 1) w _ hv HZ.out hlen D.out.src (by omega) (by omega)).mono ?_
  rintro e w6 ⟨sk, sv, q3, rfl, hq30, hq31, s2, x2⟩
  replace D := hide (D.out.within s2 x2)
  replace R := R.within x2 (by omega)
  clear s2 x2
  go_wp2_with (refine wpList_store_blk rfl _ _ _ rfl w.heap.size 0 #[.int .i64 0, .int .i64 0, .int .i64 0, .int .i64 0] #[.int .i64 k, .int .i64 m, .int .i64 sk, .int .i64 sv] (.agg #[.int .i64 k, .int .i64 m, .int .i64 sk, .int .i64 sv]) rfl rfl R rfl (by kernel_rfl) rfl rfl ?_; (try simp only [Act.put, List.setIfInBounds_toArray, List.set_cons_zero, List.set_cons_succ]); clear R; intro w9 R hu)
  replace D := hide (D.out.upd hu (by omega) (Nat.le_refl _))
  have c0 := R.at 0 (v := .int .i64 k) rfl
  have c1 := R.at 1 (v := .int .i64 m) rfl
  have c2 := R.at 2 (v := .int .i64 sk) rfl
  have c3 := R.at 3 (v := .int .i64 sv) rfl
  refine bodyPost_ret (v := .tuple #[v, .agg #[.int .i64 k, .int .i64 m, .int .i64 sk, .int .i64 sv]]) (by simp only [results, Tryd.results10]; simp [go_sem, c0, c1, c2, c3]) rfl ⟨v, bs, k, m, sk, sv, rfl, HL.out.1, HL.out.2, D.out.read, D.out.src.old⟩

set_option maxHeartbeats 8000000 in
theorem drawSO_calls (zs : List Int) (a : Option Addr) (cap : Nat) (w : World) (hv : ReadAt .u8 w (.slice a zs.length cap) zs) (hz : ∀ z ∈ zs, 0 ≤ z ∧ z ≤ 255) (hlen : zs.length ≤ 1048576) :
    Calls Tryd.prog 17 #[.slice a zs.length cap] w fun e w' => ∃ (v : Value) (bs : List Bd) (k m : Int), e = .returned (.tuple #[v, .int .i64 k, .int .i64 m]) ∧ 1 ≤ bs.length ∧ bs.length ≤ 25 ∧ QRead w' v bs ∧ Below w.heap.size w w' := by
  have HZ := hide hz
  clear hz
  go_enter Tryd.func17, Tryd.ntmps17
  go_wp2_with fail
  refine (l1Source_calls (.bool true) _ _ _ _).mono ?_
  rintro e w' ⟨rfl, hw⟩
  rw [hw]
  clear hw w'
  have q0 : Below w.heap.size w (w.alloc (.cells #[.slice a zs.length cap, .int .i64 0] 101)) := (by repeat' (first | with_reducible exact Below.refl _ _ | with_reducible assumption | with_reducible refine Below.drew ?_ | with_reducible refine Below.alloc ?_ ?_ _ | with_reducible refine Below.setCell ?_ ?_ _ | (simp; done) | (simp; omega) | omega))
  have sc : Src w (w.alloc (.cells #[.slice a zs.length cap, .int .i64 0] 101)) (w.heap.size) (.slice a zs.length cap) 0 := ⟨by simp [go_sem], by simp [go_sem], fun o => by simp [go_sem], q0, by omega⟩
  have hz1 : (w.alloc (.cells #[.slice a zs.length cap, .int .i64 0] 101)).heap.size = w.heap.size + 1 := by simp
  have HZ1 := hide hz1
  clear hz1
  clear q0
  go_wp2_with fail
  generalize (w.alloc (.cells #[.slice a zs.length cap, .int .i64 0] 101)) = w1 at *
  refine (l8Bent_calls zs a cap (w.heap.size) 0 w w1 hv HZ.out hlen sc (by omega) (by omega)).mono ?_
  rintro e w2 ⟨v, bs, q, rfl, hq0, hq1, hl0, hl1, hx, s2, x2⟩
  have D : Hid (BD w w2 (w.heap.size) (.slice a zs.length cap) q v bs) := hide ⟨s2, _, hx.mono (by rw [HZ1.out]; omega) (Nat.le_refl _), Nat.le_refl _⟩
  have HL : Hid (1 ≤ bs.length ∧ bs.length ≤ 25) := hide ⟨hl0, hl1⟩
  clear s2 x2 hx sc hl0 hl1
  go_wp2_with fail
  refine (l1Next_calls zs a cap (w.heap.size) (q) 14 w _ hv HZ.out hlen D.out.src (by omega) (by omega) (by omega) (by omega)).mono ?_
  rintro e w3 ⟨r1, rfl, _, _, s2, x2⟩
  replace D := hide (D.out.within s2 x2)
  clear s2 x2
  go_wp2_with fail
  refine (l1Next_calls zs a cap (w.heap.size) (q + 1) 14 w _ hv HZ.out hlen D.out.src (by omega) (by omega) (by omega) (by omega)).mono ?_
  rintro e w4 ⟨r2, rfl, _, _, s2, x2⟩
  replace D := hide (D.out.within s2 x2)
  clear s2 x2
  go_wp2_with fail
  have hBv := D.out.src.lt
  have hbt : Below w4.heap.size w4 (w4.alloc (.cells #[.int .i64 (1 + r1), .int .i64 (1 + r2), .int .i64 0, .int .i64 41] 2)) := (Below.refl _ _).alloc (Nat.le_refl _) _
  replace D := hide (D.out.below hbt)
  clear hbt
  refine (l1Pick_calls zs [(1 + r1), (1 + r2), 0, 41] a cap (w.heap.size) w4.heap.size 4 4 (q + 1 + 1) w _ hv HZ.out hlen D.out.src (by omega) (by omega) rfl (by omega) (by omega) (by omega) (new_ints rfl)).mono ?_
  rintro e w5 ⟨k, rfl, _, s2, x2⟩
  replace D := hide (D.out.within s2 x2)
  clear s2 x2
  clear hBv
  go_wp2_with fail
  have hBv := D.out.src.lt
  have hbt : Below w5.heap.size w5 (w5.alloc (.cells #[.int .i64 0, .int .i64 1, .int .i64 2, .int .i64 4, .int .i64 7, .int .i64 8] 2)) := (Below.refl _ _).alloc (Nat.le_refl _) _
  replace D := hide (D.out.below hbt)
  clear hbt
  refine (l1Pick_calls zs [0, 1, 2, 4, 7, 8] a cap (w.heap.size) w5.heap.size 6 6 (q + 1 + 1 + 1) w _ hv HZ.out hlen D.out.src (by omega) (by omega) rfl (by omega) (by omega) (by omega) (new_ints rfl)).mono ?_
  rintro e w6 ⟨m, rfl, _, s2, x2⟩
  replace D := hide (D.out.within s2 x2)
  clear s2 x2
  clear hBv
  try go_wp2
  refine bodyPost_ret (v := .tuple #[v, .int .i64 k, .int .i64 m]) (by simp [results, Tryd.results17, go_sem]) rfl ⟨v, bs, k, m, rfl, HL.out.1, HL.out.2, D.out.read, D.out.src.old⟩

set_option maxHeartbeats 8000000 in
theorem drawSF_calls (zs : List Int) (a : Option Addr) (cap : Nat) (w : World) (hv : ReadAt .u8 w (.slice a zs.length cap) zs) (hz : ∀ z ∈ zs, 0 ≤ z ∧ z ≤ 255) (hlen : zs.length ≤ 1048576) :
    Calls Tryd.prog 16 #[.slice a zs.length cap] w fun e w' => ∃ (k v : Int), e = .returned (.agg #[.int .i64 k, .int .i64 v]) ∧ Below w.heap.size w w' := by
  have HZ := hide hz
  clear hz
  go_enter Tryd.func16, Tryd.ntmps16
  go_wp2_with fail
  refine (l1Source_calls (.bool true) _ _ _ _).mono ?_
  rintro e w' ⟨rfl, hw⟩
  rw [hw]
  clear hw w'
  have q0 : Below w.heap.size w ((w.alloc (.cells #[.int .i64 0, .int .i64 0] 26)).alloc (.cells #[.slice a zs.length cap, .int .i64 0] 101)) := (by repeat' (first | with_reducible exact Below.refl _ _ | with_reducible assumption | with_reducible refine Below.drew ?_ | with_reducible refine Below.alloc ?_ ?_ _ | with_reducible refine Below.setCell ?_ ?_ _ | (simp; done) | (simp; omega) | omega))
  have sc : Src w ((w.alloc (.cells #[.int .i64 0, .int .i64 0] 26)).alloc (.cells #[.slice a zs.length cap, .int .i64 0] 101)) (w.heap.size + 1) (.slice a zs.length cap) 0 := ⟨by simp [go_sem], by simp [go_sem], fun o => by simp [go_sem], q0, by omega⟩
  have hz1 : ((w.alloc (.cells #[.int .i64 0, .int .i64 0] 26)).alloc (.cells #[.slice a zs.length cap, .int .i64 0] 101)).heap.size = w.heap.size + 1 + 1 := by simp
  have HZ1 := hide hz1
  clear hz1
  have R : Blk ((w.alloc (.cells #[.int .i64 0, .int .i64 0] 26)).alloc (.cells #[.slice a zs.length cap, .int .i64 0] 101)) w.heap.size #[.int .i64 0, .int .i64 0] := (Blk.new _ _ _).alloc _
  clear q0
  go_wp2_with fail
  generalize ((w.alloc (.cells #[.int .i64 0, .int .i64 0] 26)).alloc (.cells #[.slice a zs.length cap, .int .i64 0] 101)) = w1 at *
  refine (l8DrawSym_calls zs a cap (w.heap.size + 1) 0 w _ hv HZ.out hlen sc (by omega) (by omega)).mono ?_
  rintro e w2 ⟨sk, sv, q, rfl, hq0, hq1, s2, x2⟩
  replace R := R.within x2 (by omega)
  have hz2 : w.heap.size + 1 + 1 ≤ w2.heap.size := by have := x2.size; rw [HZ1.out] at this; exact this
  have s3 := s2.alloc (.cells #[.int .i64 sk, .int .i64 sv] 26)
  have X : Blk (w2.alloc (.cells #[.int .i64 sk, .int .i64 sv] 26)) w2.heap.size #[.int .i64 sk, .int .i64 sv] := Blk.new _ _ _
  replace R := R.alloc (.cells #[.int .i64 sk, .int .i64 sv] 26)
  clear s2 x2 sc
  go_wp2_with fail
  generalize (w2.alloc (.cells #[.int .i64 sk, .int .i64 sv] 26)) = w3 at *
  refine (l1Chance_calls zs a cap (w.heap.size + 1) q 4 w _ hv HZ.out hlen s3 (by omega) (by omega) (by omega) (by omega)).mono ?_
  rintro e w4 ⟨rb, rfl, s4, x4⟩
  replace R := R.within x4 (by omega)
  replace X := X.within x4 (by omega)
  clear x4 s3
  cases rb with
  | false =>
    have c0 := X.at 0 (v := .int .i64 sk) rfl
    have c1 := X.at 1 (v := .int .i64 sv) rfl
    go_wp2_with (refine wpList_store_blk rfl _ _ _ rfl w.heap.size 0 #[.int .i64 0, .int .i64 0] #[.int .i64 sk, .int .i64 sv] (.agg #[.int .i64 sk, .int .i64 sv]) rfl rfl R rfl (by kernel_rfl) rfl rfl ?_; (try simp only [Act.put, List.setIfInBounds_toArray, List.set_cons_zero, List.set_cons_succ]); clear R; intro w9 R hu)
    exact bodyPost_ret (results_blk R _ _ rfl rfl Tryd.underlying26 rfl (by kernel_rfl)) rfl ⟨sk, sv, rfl, (s4.upd hu (by omega) (Nat.le_refl _)).old⟩
  | true =>
    go_wp2_with fail
    refine (l1Next_calls zs a cap (w.heap.size + 1) (q + 1) 9 w _ hv HZ.out hlen s4 (by omega) (by omega) (by omega) (by omega)).mono ?_
    rintro e w5 ⟨r, rfl, _, _, s5, x5⟩
    replace R := R.within x5 (by omega)
    replace X := X.within x5 (by omega)
    clear x5 s4
    go_wp2_with fail
    have hBv := s5.lt
    have hbt : Below w5.heap.size w5 (w5.alloc (.cells #[.int .i64 0, .int .i64 1, .int .i64 3, .int .i64 4, .int .i64 8, .int .i64 (-1)] 2)) := (Below.refl _ _).alloc (Nat.le_refl _) _
    replace s5 := s5.below hbt
    replace R := R.belowb hbt
    replace X := X.belowb hbt
    clear hbt
    refine (l1Pick_calls zs [0, 1, 3, 4, 8, -1] a cap (w.heap.size + 1) w5.heap.size 6 6 (q + 1 + 1) w _ hv HZ.out hlen s5 (by omega) (by omega) rfl (by omega) (by omega) (by omega) (new_ints rfl)).mono ?_
    rintro e w6 ⟨m, rfl, _, s6, x6⟩
    replace R := R.within x6 (by omega)
    replace X := X.within x6 (by omega)
    clear x6 s5 hBv
    go_wp2_with (first | (refine wpList_store_blk rfl _ _ _ rfl w2.heap.size 0 #[.int .i64 sk, .int .i64 sv] #[.int .i64 (r - 1), .int .i64 m] (.agg #[.int .i64 (r - 1), .int .i64 m]) rfl rfl X rfl (by kernel_rfl) rfl rfl ?_; (try simp only [Act.put, List.setIfInBounds_toArray, List.set_cons_zero, List.set_cons_succ]); clear X; intro w8 X hu8; have c0 := X.at 0 (v := .int .i64 (r - 1)) rfl; have c1 := X.at 1 (v := .int .i64 m) rfl; replace R := R.upd hu8 (by omega); replace s6 := s6.upd hu8 (by omega) (by omega)) | (refine wpList_store_blk rfl _ _ _ rfl w.heap.size 0 #[.int .i64 0, .int .i64 0] #[.int .i64 (r - 1), .int .i64 m] (.agg #[.int .i64 (r - 1), .int .i64 m]) rfl rfl R rfl (by kernel_rfl) rfl rfl ?_; (try simp only [Act.put, List.setIfInBounds_toArray, List.set_cons_zero, List.set_cons_succ]); clear R; intro w9 R hu))
    exact bodyPost_ret (results_blk R _ _ rfl rfl Tryd.underlying26 rfl (by kernel_rfl)) rfl ⟨r - 1, m, rfl, (s6.upd hu (by omega) (Nat.le_refl _)).old⟩

end Go.Proofs.YtcfechnkgefhcaaDoor
