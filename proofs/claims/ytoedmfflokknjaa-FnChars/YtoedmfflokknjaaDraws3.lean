/-
  What is drawn: l1Draw, l1Chars, walked.
-/
import Derived.Test.YtoedmfflokknjaaRows
import Derived.Test.YtoedmfflokknjaaDraws2
import Derived.Deep.RegionWith
namespace Go.Proofs.Ytoedmfflokknjaa
open Go.ChangeShapes Go.WideShapes Go.ChangeAt Go.RowKit
set_option linter.unusedVariables false
set_option linter.unusedSimpArgs false

theorem three_cells {w : World} {B o : Nat} {x y z u0 u1 u2 : Value} (k0 : w.cell? ⟨B, o, none⟩ = some u0) (k1 : w.cell? ⟨B, o + 1, none⟩ = some u1) (k2 : w.cell? ⟨B, o + 2, none⟩ = some u2) :
    (((w.setCell ⟨B, o, none⟩ x).setCell ⟨B, o + 1, none⟩ y).setCell ⟨B, o + 2, none⟩ z).cell? ⟨B, o, none⟩ = some x ∧ (((w.setCell ⟨B, o, none⟩ x).setCell ⟨B, o + 1, none⟩ y).setCell ⟨B, o + 2, none⟩ z).cell? ⟨B, o + 1, none⟩ = some y ∧ (((w.setCell ⟨B, o, none⟩ x).setCell ⟨B, o + 1, none⟩ y).setCell ⟨B, o + 2, none⟩ z).cell? ⟨B, o + 2, none⟩ = some z := by
  refine ⟨?_, ?_, ?_⟩
  · rw [World.cell?_setCell_other _ _ _ _ (addr_ne (by omega)), World.cell?_setCell_other _ _ _ _ (addr_ne (by omega))]
    exact World.cell?_setCell_same _ _ _ k0
  · rw [World.cell?_setCell_other _ _ _ _ (addr_ne (by omega))]
    refine World.cell?_setCell_same (u := u1) _ _ _ ?_
    rw [World.cell?_setCell_other _ _ _ _ (addr_ne (by omega))]
    exact k1
  · refine World.cell?_setCell_same (u := u2) _ _ _ ?_
    rw [World.cell?_setCell_other _ _ _ _ (addr_ne (by omega)), World.cell?_setCell_other _ _ _ _ (addr_ne (by omega))]
    exact k2
theorem Within.frozenx {lo hi : Nat} {w w' : World} (h : Within lo hi w w') {b : Nat} (hs : b < w.heap.size) (hb : b < lo ∨ hi ≤ b) (o : Nat) : w'.frozen? ⟨b, o, none⟩ = w.frozen? ⟨b, o, none⟩ := World.frozen?_of_block (w := w) (a := ⟨b, o, none⟩) (h.block b hs hb)
/-- A store into a block that is new since w. -/
theorem Within.put {w W : World} {lo hi : Nat} (h : Within lo hi w W) {b o : Nat} (hb : w.heap.size ≤ b) (u : Value) : Within lo hi w (W.setCell ⟨b, o, none⟩ u) :=
  ⟨h.os, h.tape, h.output, by simpa [World.setCell] using h.size, fun k hk hne => (Below.heap_setCell _ _ _ _ (by show k ≠ b; omega)).trans (h.block k hk hne)⟩
theorem Src.put {w0 w : World} {B : Nat} {code : Value} {p : Int} (h : Src w0 w B code p) {b o : Nat} (hb : b ≠ B) (h0 : w0.heap.size ≤ b) (u : Value) : Src w0 (w.setCell ⟨b, o, none⟩ u) B code p :=
  h.keep (Below.heap_setCell _ _ _ _ (by show B ≠ b; omega)) (h.old.setCell h0 _)
theorem IntsAt.put {k : IntKind} {lo hi b o : Nat} {w : World} {v : Value} {xs : List Int} (h : IntsAt k lo hi w v xs) (hb : b < lo ∨ hi ≤ b) (u : Value) : IntsAt k lo hi (w.setCell ⟨b, o, none⟩ u) v xs :=
  h.of_blocks fun i h1 h2 => Below.heap_setCell _ _ _ _ (by show i ≠ b; omega)

/-- The box of the decoder that is drawn, and that of the answer. -/
structure Boxes (wr : World) (D : Nat) (l lo v : Int) : Prop where
  d0 : wr.cell? ⟨D + 1, 0, none⟩ = some (.int .i64 l)
  d1 : wr.cell? ⟨D + 1, 1, none⟩ = some (.int .i64 lo)
  d2 : wr.cell? ⟨D + 1, 2, none⟩ = some (.int .i64 v)
  df : ∀ o, wr.frozen? ⟨D + 1, o, none⟩ = false
  r0 : wr.cell? ⟨D, 0, none⟩ = some (.int .i64 0)
  r1 : wr.cell? ⟨D, 1, none⟩ = some (.int .i64 0)
  r2 : wr.cell? ⟨D, 2, none⟩ = some (.int .i64 0)
  rf : ∀ o, wr.frozen? ⟨D, o, none⟩ = false
theorem Boxes.within {wr w' : World} {D B : Nat} {l lo v : Int} (h : Boxes wr D l lo v) (hw : Within B (B + 1) wr w') (hD : B < D) : Boxes w' D l lo v :=
  ⟨hw.cellx (by omega) h.d0, hw.cellx (by omega) h.d1, hw.cellx (by omega) h.d2, fun o => (hw.frozenx (lt_of_cell h.d0) (by omega) o).trans (h.df o), hw.cellx (by omega) h.r0, hw.cellx (by omega) h.r1, hw.cellx (by omega) h.r2, fun o => (hw.frozenx (lt_of_cell h.r0) (by omega) o).trans (h.rf o)⟩
theorem Boxes.below {wr w' : World} {D : Nat} {l lo v : Int} (h : Boxes wr D l lo v) (hw : Below wr.heap.size wr w') : Boxes w' D l lo v :=
  ⟨cellb hw h.d0, cellb hw h.d1, cellb hw h.d2, fun o => (hw.frozen (p := ⟨D + 1, o, none⟩) (lt_of_cell h.d0)).trans (h.df o), cellb hw h.r0, cellb hw h.r1, cellb hw h.r2, fun o => (hw.frozen (p := ⟨D, o, none⟩) (lt_of_cell h.r0)).trans (h.rf o)⟩
theorem Boxes.stored {wr : World} {D : Nat} {l lo v l' lo' v' : Int} (h : Boxes wr D l lo v) : Boxes (((wr.setCell ⟨D + 1, 0, none⟩ (.int .i64 l')).setCell ⟨D + 1, 1, none⟩ (.int .i64 lo')).setCell ⟨D + 1, 2, none⟩ (.int .i64 v')) D l' lo' v' := by
  have e := three_cells (o := 0) (x := .int .i64 l') (y := .int .i64 lo') (z := .int .i64 v') h.d0 h.d1 h.d2
  refine ⟨e.1, e.2.1, e.2.2, fun o => ?_, ?_, ?_, ?_, fun o => ?_⟩
  · simp only [World.frozen?_setCell]; exact h.df o
  · rw [World.cell?_setCell_other _ _ _ _ (addr_ne (by omega)), World.cell?_setCell_other _ _ _ _ (addr_ne (by omega)), World.cell?_setCell_other _ _ _ _ (addr_ne (by omega))]; exact h.r0
  · rw [World.cell?_setCell_other _ _ _ _ (addr_ne (by omega)), World.cell?_setCell_other _ _ _ _ (addr_ne (by omega)), World.cell?_setCell_other _ _ _ _ (addr_ne (by omega))]; exact h.r1
  · rw [World.cell?_setCell_other _ _ _ _ (addr_ne (by omega)), World.cell?_setCell_other _ _ _ _ (addr_ne (by omega)), World.cell?_setCell_other _ _ _ _ (addr_ne (by omega))]; exact h.r2
  · simp only [World.frozen?_setCell]; exact h.rf o

set_option maxHeartbeats 4000000 in
theorem l1Draw_calls (zs : List Int) (a : Option Addr) (cap B : Nat) (p : Int) (w0 w : World) (hv : ReadAt .u8 w0 (.slice a zs.length cap) zs) (hz : ∀ z ∈ zs, 0 ≤ z ∧ z ≤ 255) (hlen : zs.length ≤ 1048576) (hs : Src w0 w B (.slice a zs.length cap) p) (hp0 : 0 ≤ p) (hp1 : p ≤ 800000) :
    Calls Try.prog 25 #[.pointer (some ⟨B, 0, none⟩)] w fun e w' => ∃ l lo v p', e = .returned (.agg #[.int .i64 l, .int .i64 lo, .int .i64 v]) ∧ p ≤ p' ∧ p' ≤ p + 10 ∧ Src w0 w' B (.slice a zs.length cap) p' ∧ Within B (B + 1) w w' := by
  have HZ := hide hz
  clear hz
  have hBlt := hs.lt
  have hB0 := hs.hB
  go_enter Try.func25, Try.ntmps25
  go_wp2_with fail
  have hb0 : Boxes ((w.alloc (.cells #[.int .i64 0, .int .i64 0, .int .i64 0] 25)).alloc (.cells #[.int .i64 0, .int .i64 0, .int .i64 0] 25)) w.heap.size 0 0 0 :=
    ⟨by simp, by simp, by simp, fun o => by simp, by simp, by simp, by simp, fun o => by simp⟩
  have x0 : Within B (B + 1) w ((w.alloc (.cells #[.int .i64 0, .int .i64 0, .int .i64 0] 25)).alloc (.cells #[.int .i64 0, .int .i64 0, .int .i64 0] 25)) := ((Within.refl _ _ _).alloc _).alloc _
  refine (l1Next_calls zs a cap B p 3 w0 _ hv HZ.out hlen ((hs.alloc _).alloc _) (by omega) (by omega) (by omega) (by omega)).mono ?_
  rintro e w1 ⟨r, rfl, hr0, hr1, hs1, hw1⟩
  obtain ⟨m, rfl⟩ := Int.eq_ofNat_of_zero_le hr0
  have b1 := hb0.within hw1 hBlt
  have x1 := x0.trans hw1
  clear hb0 x0 hw1 hs
  go_wp2_with fail
  refine (l1Some_calls zs a cap B _ m w0 _ hv HZ.out hlen hs1 (by omega) (by omega) (by omega)).mono ?_
  rintro e w2 ⟨y, ys, rfl, hyl, hyb, hy, hs2, hw2⟩
  have b2 := b1.within hw2 hBlt
  have x2 := x1.trans hw2
  have hz1 : w.heap.size + 1 < w1.heap.size := lt_of_cell b1.d0
  have hz2 : w1.heap.size ≤ w2.heap.size := hw2.size
  obtain ⟨ay, cy, rfl, hy'⟩ := hy
  have hy : IntsAt .u8 w1.heap.size w2.heap.size w2 (.slice ay ys.length cy) ys := ⟨ay, cy, rfl, hy'⟩
  have HY := hide hyb
  clear hy' hyb b1 x1 hs1 hw2
  generalize hq : p + 1 + 2 * (m : Int) = p2 at *
  have hp2 : p ≤ p2 ∧ p2 ≤ p + 5 := by omega
  obtain ⟨hp20, hp21⟩ := hp2
  have hyl2 : ys.length ≤ 2 := by omega
  clear hq hyl hr0 hr1
  go_wp2_with fail
  go_loopw [5] (fun i wr => ∃ (k : Nat) (l lo v : Int), k ≤ ys.length ∧ i = .int .i64 k ∧ Hid (dfault l lo v = 0) ∧ Boxes wr w.heap.size l lo v ∧ IntsAt .u8 w1.heap.size w2.heap.size wr (.slice ay ys.length cy) ys ∧ Src w0 wr B (.slice a zs.length cap) p2 ∧ Within B (B + 1) w wr ∧ w2.heap.size ≤ wr.heap.size) (fun i _ => ys.length - (intOf i).toNat)
  case atStart => exact ⟨0, 0, 0, 0, Nat.zero_le _, rfl, rfl, b2, hy, hs2, x2, Nat.le_refl _⟩
  case round =>
    obtain ⟨k, l, lo, v, hkk, rfl, hd, hb, hyr, hsr, hwr, hszr⟩ := hrel
    by_cases hlt : k < ys.length
    · have hltI : (k : Int) < (ys.length : Int) := by omega
      obtain ⟨g1, o1, rfl, g0⟩ := hyr.read.spot k hlt
      have hg1 := lt_of_cell g0
      have d0 := hb.d0
      have d1 := hb.d1
      have d2 := hb.d2
      have df := hb.df
      have hyz := HY.out _ (getD_mem hlt)
      obtain ⟨hz0, hz255⟩ := hyz
      generalize ys.getD k 0 = z at *
      have hwz : IntKind.i64.wrap z = z := by rw [IntKind.wrap_i64]; omega
      clear b2 hy hs2 x2
      go_wp2_with fail
      go_region_with (go_at_call 33; refine (l1Step_calls l lo v z _ hd.out hz0 hz255).mono ?_; rintro e w4 ⟨x, rfl, hx, hb4, hs4⟩; have q4 : Below wr.heap.size wr w4 := (by refine Below.trans ?_ (hb4.mono (by simp)); exact (by repeat' (first | with_reducible exact Below.refl _ _ | with_reducible assumption | with_reducible refine Below.drew ?_ | with_reducible refine Below.alloc ?_ ?_ _ | with_reducible refine Below.setCell ?_ ?_ _ | (simp; done) | (simp; omega) | omega))); have k4 := hb.below q4; have k40 := k4.d0; have k41 := k4.d1; have k42 := k4.d2; have k43 := k4.df; clear hb4 hx hs4)
      all_goals go_wp2
      all_goals go_roundw
      all_goals first
        | exact ⟨k + 1, _, _, _, by omega, by go_num, step_fault l lo v z hd.out hz0 hz255, k4.stored, (((hyr.below q4 hszr).put (by omega) _).put (by omega) _).put (by omega) _, (((hsr.below q4).put (by omega) (by omega) _).put (by omega) (by omega) _).put (by omega) (by omega) _, (((hwr.trans (Within.of_below q4 (Nat.le_refl _))).put (by omega) _).put (by omega) _).put (by omega) _, by simpa [World.setCell] using Nat.le_trans hszr q4.size⟩
        | (simp [intOf]; omega)
    · have hge : ¬ ((k : Int) < (ys.length : Int)) := by omega
      clear b2 hy hs2 x2
      go_wp2_with fail
      refine (l1Next_calls zs a cap B p2 14 w0 _ hv HZ.out hlen hsr (by omega) (by omega) (by omega) (by omega)).mono ?_
      rintro e w3 ⟨r, rfl, hr0, hr1, hs3, hw3⟩
      have b3 := hb.within hw3 hBlt
      have x3 := hwr.trans hw3
      have hz3 : w.heap.size + 1 < w3.heap.size := lt_of_cell b3.d0
      clear hb hsr hwr hw3 hyr hd
      by_cases c0 : r = 0
      · subst c0
        go_wp2_with fail
        refine (l1Pick_calls zs [-1, 0, 1, 2, 3] a cap B w3.heap.size 5 5 _ w0 _ hv HZ.out hlen (hs3.alloc _) (by omega) (by omega) rfl (by omega) (by omega) (.inr hs3.lt) (new_ints rfl)).mono ?_
        rintro e w5 ⟨x, rfl, hx, hs5, hw5⟩
        have b5 := (b3.below ((Below.refl _ _).alloc (Nat.le_refl _) _)).within hw5 hBlt
        have x5 := (x3.alloc _).trans hw5
        have d0 := b5.d0
        have d1 := b5.d1
        have d2 := b5.d2
        have df := b5.df
        have e0 := b5.r0
        have e1 := b5.r1
        have e2 := b5.r2
        have ef := b5.rf
        clear hw5 b3 x3 hs3 hx
        go_wp2
        refine bodyPost_ret (v := .agg #[.int .i64 x, .int .i64 lo, .int .i64 v]) (by simp [results, Try.results25, go_sem, e0, e1, e2]) rfl ⟨_, _, _, p2 + 1 + 1, rfl, by omega, by omega, ?_, ?_⟩
        · exact (((hs5.put (by omega) (by omega) _).put (by omega) (by omega) _).put (by omega) (by omega) _).put (by omega) (by omega) _
        · exact (((x5.put (by omega) _).put (Nat.le_refl _) _).put (Nat.le_refl _) _).put (Nat.le_refl _) _
      · by_cases c1 : r = 1
        · subst c1
          go_wp2_with fail
          refine (l1Pick_calls zs [0, 2, 15, 16, 31, 1023, 1024] a cap B w3.heap.size 7 7 _ w0 _ hv HZ.out hlen (hs3.alloc _) (by omega) (by omega) rfl (by omega) (by omega) (.inr hs3.lt) (new_ints rfl)).mono ?_
          rintro e w5 ⟨x, rfl, hx, hs5, hw5⟩
          have b5 := (b3.below ((Below.refl _ _).alloc (Nat.le_refl _) _)).within hw5 hBlt
          have x5 := (x3.alloc _).trans hw5
          have d0 := b5.d0
          have d1 := b5.d1
          have d2 := b5.d2
          have df := b5.df
          have e0 := b5.r0
          have e1 := b5.r1
          have e2 := b5.r2
          have ef := b5.rf
          clear hw5 b3 x3 hs3 hx
          go_wp2
          refine bodyPost_ret (v := .agg #[.int .i64 l, .int .i64 lo, .int .i64 x]) (by simp [results, Try.results25, go_sem, e0, e1, e2]) rfl ⟨_, _, _, p2 + 1 + 1, rfl, by omega, by omega, ?_, ?_⟩
          · exact (((hs5.put (by omega) (by omega) _).put (by omega) (by omega) _).put (by omega) (by omega) _).put (by omega) (by omega) _
          · exact (((x5.put (by omega) _).put (Nat.le_refl _) _).put (Nat.le_refl _) _).put (Nat.le_refl _) _
        · have c0' : (r == 0) = false := by simp [c0]
          have d0 := b3.d0
          have d1 := b3.d1
          have d2 := b3.d2
          have df := b3.df
          have e0 := b3.r0
          have e1 := b3.r1
          have e2 := b3.r2
          have ef := b3.rf
          have c1' : (r == 1) = false := by simp [c1]
          clear c0 c1
          go_wp2
          refine bodyPost_ret (v := .agg #[.int .i64 l, .int .i64 lo, .int .i64 v]) (by simp [results, Try.results25, go_sem, e0, e1, e2]) rfl ⟨l, lo, v, p2 + 1, rfl, by omega, by omega, ?_, ?_⟩
          · exact ((hs3.put (by omega) (by omega) _).put (by omega) (by omega) _).put (by omega) (by omega) _
          · exact ((x3.put (Nat.le_refl _) _).put (Nat.le_refl _) _).put (Nat.le_refl _) _

end Go.Proofs.Ytoedmfflokknjaa
