/-
  What many bytes do to a decoder: the model's DecodeMany, walked.
-/
import Derived.Test.YtoedmfflokknjaaRows
import Derived.Test.YtoedmfflokknjaaManyImpl
import Derived.Deep.RegionWith
import Derived.Deep.CutRange
namespace Go.Proofs.Ytoedmfflokknjaa
open Go.ChangeShapes Go.WideShapes Go.ChangeAt Go.RowKit
set_option linter.unusedVariables false
set_option linter.unusedSimpArgs false

theorem new_cell {w : World} {g j : Nat} {C : Array Value} {t : TypeId} (hg : g = w.heap.size) : (w.alloc (.cells C t)).cell? ⟨g, j, none⟩ = C[j]? := by
  subst hg; exact World.cell?_alloc_mark w C t (0, 0) j
theorem new_frozen {w : World} {g j : Nat} {C : Array Value} {t : TypeId} (hg : g = w.heap.size) : (w.alloc (.cells C t)).frozen? ⟨g, j, none⟩ = false := by
  subst hg; simp

/-- Behind a byte's step: the list and the decoder's box, however their order was drawn. -/
def CutQ (wr wx : World) (T : List Int) (a b c : Int) (s8 s9 : Value) : Prop :=
  ∃ (ax : Addr) (cx bx : Nat), s8 = .slice (some ax) T.length cx ∧ s9 = .pointer (some ⟨bx, 0, none⟩) ∧ Below wr.heap.size wr wx ∧ wr.heap.size ≤ bx ∧ bx < wx.heap.size ∧
    wx.cell? ⟨bx, 0, none⟩ = some (.int .i64 a) ∧ wx.cell? ⟨bx, 1, none⟩ = some (.int .i64 b) ∧ wx.cell? ⟨bx, 2, none⟩ = some (.int .i64 c) ∧ IntsAt .i64 wr.heap.size wx.heap.size wx s8 T
theorem some_form {k : IntKind} {lo hi : Nat} {w : World} {x : Value} {T : List Int} (h : IntsAt k lo hi w x T) (hs : ∃ ad n c, x = .slice (some ad) n c) : ∃ (ax : Addr) (cx : Nat), x = .slice (some ax) T.length cx ∧ True := by
  obtain ⟨a, c, hv, _⟩ := h
  obtain ⟨ad, n, c', hv'⟩ := hs
  rw [hv] at hv'
  injection hv' with h1 h2 h3
  exact ⟨ad, c, by rw [hv, h1], trivial⟩
theorem set5 {w : World} {B : Nat} {u0 u1 u2 u3 u4 x1 x2 x3 x4 : Value} (c0 : w.cell? ⟨B, 0, none⟩ = some u0) (c1 : w.cell? ⟨B, 1, none⟩ = some u1) (c2 : w.cell? ⟨B, 2, none⟩ = some u2) (c3 : w.cell? ⟨B, 3, none⟩ = some u3) (c4 : w.cell? ⟨B, 4, none⟩ = some u4) :
    let w' := (((w.setCell ⟨B, 1, none⟩ x1).setCell ⟨B, 2, none⟩ x2).setCell ⟨B, 3, none⟩ x3).setCell ⟨B, 4, none⟩ x4
    w'.cell? ⟨B, 0, none⟩ = some u0 ∧ w'.cell? ⟨B, 1, none⟩ = some x1 ∧ w'.cell? ⟨B, 2, none⟩ = some x2 ∧ w'.cell? ⟨B, 3, none⟩ = some x3 ∧ w'.cell? ⟨B, 4, none⟩ = some x4 := by
  have e := set3 (w := w.setCell ⟨B, 1, none⟩ x1) (B := B) (o := 2) (x := x2) (y := x3) (z := x4) (u0 := u2) (u1 := u3) (u2 := u4) (by rw [World.cell?_setCell_other _ _ _ _ (addr_ne (by omega))]; exact c2) (by rw [World.cell?_setCell_other _ _ _ _ (addr_ne (by omega))]; exact c3) (by rw [World.cell?_setCell_other _ _ _ _ (addr_ne (by omega))]; exact c4)
  refine ⟨?_, ?_, e.1, e.2.1, e.2.2⟩
  · rw [World.cell?_setCell_other _ _ _ _ (addr_ne (by omega)), World.cell?_setCell_other _ _ _ _ (addr_ne (by omega)), World.cell?_setCell_other _ _ _ _ (addr_ne (by omega)), World.cell?_setCell_other _ _ _ _ (addr_ne (by omega))]
    exact c0
  · rw [World.cell?_setCell_other _ _ _ _ (addr_ne (by omega)), World.cell?_setCell_other _ _ _ _ (addr_ne (by omega)), World.cell?_setCell_other _ _ _ _ (addr_ne (by omega))]
    exact World.cell?_setCell_same _ _ _ c1
theorem own_form {w : World} {base n size : Nat} {e : TypeId} {v : Value} {xs : List Value} (h : w.ownsRow base e size v n xs) : ∃ a cap, v = .slice a n cap := by
  rcases h.2 with ⟨hv, h0⟩ | ⟨g, cap, cur, hv, _⟩
  · exact ⟨_, _, by rw [hv, h0]⟩
  · exact ⟨_, _, hv⟩
theorem cutA {wr w4 : World} {x : Value} {T : List Int} {a b c : Int} {t : TypeId} (q4 : Below wr.heap.size wr w4) (hx4 : IntsAt .i64 wr.heap.size w4.heap.size w4 x T) (hs4 : ∃ ad n c, x = .slice (some ad) n c) :
    CutQ wr (w4.alloc (.cells #[.int .i64 a, .int .i64 b, .int .i64 c] t)) T a b c x (.pointer (some ⟨w4.heap.size, 0, none⟩)) := by
  have hx := hx4
  obtain ⟨ax, cx, rfl, _⟩ := some_form hx hs4
  refine ⟨ax, cx, w4.heap.size, rfl, rfl, q4.alloc q4.size _, q4.size, by simp, ?_, ?_, ?_, ?_⟩
  · rw [new_cell rfl]; rfl
  · rw [new_cell rfl]; rfl
  · rw [new_cell rfl]; rfl
  · exact (hx4.alloc (Nat.le_refl _) _).mono (Nat.le_refl _) (by simp)
theorem cutB {wr W w4 : World} {x u0 u1 u2 : Value} {T : List Int} {a b c : Int} (q4 : Below wr.heap.size wr w4) (hb4 : Below W.heap.size W w4) (hx4 : IntsAt .i64 W.heap.size w4.heap.size w4 x T) (hs4 : ∃ ad n c, x = .slice (some ad) n c) (hW : W.heap.size = wr.heap.size + 1)
    (k0 : W.cell? ⟨wr.heap.size, 0, none⟩ = some u0) (k1 : W.cell? ⟨wr.heap.size, 1, none⟩ = some u1) (k2 : W.cell? ⟨wr.heap.size, 2, none⟩ = some u2) :
    CutQ wr (((w4.setCell ⟨wr.heap.size, 0, none⟩ (.int .i64 a)).setCell ⟨wr.heap.size, 1, none⟩ (.int .i64 b)).setCell ⟨wr.heap.size, 2, none⟩ (.int .i64 c)) T a b c x (.pointer (some ⟨wr.heap.size, 0, none⟩)) := by
  have hx := hx4
  obtain ⟨ax, cx, rfl, _⟩ := some_form hx hs4
  have hs := hb4.size
  have e := set3 (o := 0) (x := .int .i64 a) (y := .int .i64 b) (z := .int .i64 c) (cellb hb4 k0) (cellb hb4 k1) (cellb hb4 k2)
  refine ⟨ax, cx, wr.heap.size, rfl, rfl, ((q4.setCell (Nat.le_refl _) _).setCell (Nat.le_refl _) _).setCell (Nat.le_refl _) _, Nat.le_refl _, by simp [World.setCell]; omega, e.1, e.2.1, e.2.2, ?_⟩
  refine (hx4.of_blocks ?_).mono (by omega) (by simp [World.setCell])
  intro i hi _
  simp only [World.setCell, Array.getElem?_modify]
  repeat rw [if_neg (by omega)]

theorem ints_news' {k : IntKind} {w : World} {ax : Addr} {n cap : Nat} {xs : List Int} (h : ReadAt k w (.slice (some ax) n cap) xs) : ∀ j u, (xs.map (Value.int k))[j]? = some u → w.cell? (ax.add j) = some u := by
  intro j u hj
  have hlt : j < xs.length := by
    rcases Nat.lt_or_ge j xs.length with h' | h'
    · exact h'
    · rw [List.getElem?_eq_none (by simpa using h')] at hj; cases hj
  obtain ⟨b, off, ha, hc⟩ := h.spot j hlt
  injection ha with ha
  subst ha
  rw [show ((⟨b, off, none⟩ : Addr).add j) = ⟨b, off + j, none⟩ from by simp [Addr.add], hc]
  simp [hlt] at hj
  simp [hlt, hj]

set_option maxHeartbeats 4000000 in
theorem specMany_ok (l lo v : Int) (zs : List Int) (y : Value) (w : World) (hf : dfault l lo v = 0) (hz : ∀ z ∈ zs, 0 ≤ z ∧ z ≤ 255) (hn : zs.length ≤ 2000) (hy : ReadAt .u8 w y zs) :
    Calls Try.prog 8 #[.agg #[.int .i64 l, .int .i64 lo, .int .i64 v], y] w fun e w' => ∃ x, e = .returned (.agg #[.int .i64 0, x, .int .i64 (rL l lo v zs zs.length), .int .i64 (rLo l lo v zs zs.length), .int .i64 (rV l lo v zs zs.length)]) ∧ IntsAt .i64 w.heap.size w'.heap.size w' x (rT l lo v zs zs.length) ∧ Below w.heap.size w w' := by
  have HZ := hide hz
  clear hz
  have hy' := hy
  obtain ⟨ay, cy, rfl, hyr⟩ := hy'
  clear hyr
  have hle : ¬ ((2000 : Int) < (zs.length : Int)) := by omega
  go_enter Try.func8, Try.ntmps8
  go_wp2_with fail
  refine (l1Fault_calls l lo v _ _ _ (by simp) (by simp) (by simp)).mono ?_
  rintro e w' ⟨rfl, hw⟩
  rw [hw, hf]
  clear hw w'
  have HF := hide hf
  clear hf
  go_wp2_with fail
  go_loopw [7] (fun i wr => ∃ (k : Nat) (a : Option Addr) (cap : Nat), k ≤ zs.length ∧ i = .int .i64 k ∧ wr.ownsRow (w.heap.size + 3) 2 1 (.slice a (rT l lo v zs k).length cap) (rT l lo v zs k).length (intVs (rT l lo v zs k)) ∧ Below w.heap.size w wr ∧ w.heap.size + 2 < wr.heap.size ∧
      (∀ o, wr.cell? ⟨w.heap.size + 1, o, none⟩ = (w.alloc (.cells #[.int .i64 l, .int .i64 lo, .int .i64 v] 25) |>.alloc (.cells #[.int .i64 0, .slice none 0 0, .int .i64 0, .int .i64 0, .int .i64 0] 30)).cell? ⟨w.heap.size + 1, o, none⟩) ∧ (∀ o, wr.frozen? ⟨w.heap.size + 1, o, none⟩ = false) ∧
      wr.cell? ⟨w.heap.size + 2, 0, none⟩ = some (.int .i64 0) ∧ wr.cell? ⟨w.heap.size + 2, 1, none⟩ = some (.slice a (rT l lo v zs k).length cap) ∧ wr.cell? ⟨w.heap.size + 2, 2, none⟩ = some (.int .i64 (rL l lo v zs k)) ∧ wr.cell? ⟨w.heap.size + 2, 3, none⟩ = some (.int .i64 (rLo l lo v zs k)) ∧ wr.cell? ⟨w.heap.size + 2, 4, none⟩ = some (.int .i64 (rV l lo v zs k)) ∧ ∀ o, wr.frozen? ⟨w.heap.size + 2, o, none⟩ = false) (fun i _ => zs.length - (intOf i).toNat)
  case atStart =>
    refine ⟨0, none, 0, Nat.zero_le _, rfl, World.ownsRow_nil _ _ _ _, (by repeat' (first | with_reducible exact Below.refl _ _ | with_reducible assumption | with_reducible refine Below.drew ?_ | with_reducible refine Below.alloc ?_ ?_ _ | with_reducible refine Below.setCell ?_ ?_ _ | (simp; done) | (simp; omega) | omega)), by simp, fun o => by rw [World.cell?_alloc_lt _ _ _ (by simp)], fun o => ?_, ?_, ?_, ?_, ?_, ?_, fun o => ?_⟩
    · rw [(show Below (w.heap.size + 2) _ _ from (Below.refl _ _).alloc (by simp) _).frozen (p := ⟨w.heap.size + 1, o, none⟩) (by simp)]; simp
    · rw [new_cell (by simp)]; simp
    · rw [new_cell (by simp)]; simp [rT, runTo]
    · rw [new_cell (by simp)]; simp [rL, runTo]
    · rw [new_cell (by simp)]; simp [rLo, runTo]
    · rw [new_cell (by simp)]; simp [rV, runTo]
    · exact new_frozen (by simp)
  case round =>
    obtain ⟨k, a, cap, hkk, rfl, hown, hb, hsz, r0, r1, c0, c1, c2, c3, c4, c5⟩ := hrel
    obtain ⟨hfk, hlk⟩ := run_fault l lo v zs HF.out HZ.out k hkk
    by_cases hlt : k < zs.length
    · have hltI : (k : Int) < (zs.length : Int) := by omega
      obtain ⟨b1, o1, rfl, g00⟩ := hy.spot k hlt
      have g0 := cellb hb g00
      obtain ⟨hb0, hb255⟩ := getD_bounds HZ.out k hlt
      have eT := hide (rT_succ l lo v zs k hlt)
      have eL := hide (rL_succ l lo v zs k hlt)
      have eLo := hide (rLo_succ l lo v zs k hlt)
      have eV := hide (rV_succ l lo v zs k hlt)
      clear g00 hy
      generalize zs.getD k 0 = z at *
      have HFK := hide hfk
      clear hfk
      have R0 := hide r0
      have R1 := hide r1
      clear r0 r1
      have hb1lt : b1 < wr.heap.size := lt_of_cell g0
      have hwz : IntKind.i64.wrap z = z := by rw [IntKind.wrap_i64]; omega
      go_wp2_with fail
      go_cut [8, 9] from 21 to 44 (fun s8 s9 wx => CutQ wr wx (stepT (rL l lo v zs k) (rLo l lo v zs k) (rV l lo v zs k) z) (stepL (rL l lo v zs k) (rLo l lo v zs k) (rV l lo v zs k) z) (stepLo (rL l lo v zs k) (rLo l lo v zs k) (rV l lo v zs k) z) (stepV (rL l lo v zs k) (rLo l lo v zs k) (rV l lo v zs k) z) s8 s9)
      case first =>
        go_region_with (go_at_call 33; refine (l1Step_calls (rL l lo v zs k) (rLo l lo v zs k) (rV l lo v zs k) z _ HFK.out hb0 hb255).mono ?_; rintro e w4 ⟨x, rfl, hx, hb4, hs4⟩; have q4 : Below wr.heap.size wr w4 := (by refine Below.trans ?_ (hb4.mono (by simp)); exact (by repeat' (first | with_reducible exact Below.refl _ _ | with_reducible assumption | with_reducible refine Below.drew ?_ | with_reducible refine Below.alloc ?_ ?_ _ | with_reducible refine Below.setCell ?_ ?_ _ | (simp; done) | (simp; omega) | omega))); have hx4 : IntsAt .i64 wr.heap.size w4.heap.size w4 x (stepT (rL l lo v zs k) (rLo l lo v zs k) (rV l lo v zs k) z) := hx.mono (by simp) (Nat.le_refl _); have hk := fun (o : Nat) (h : wr.heap.size < _) => hb4.cell (p := ⟨wr.heap.size, o, none⟩) h; have hkf := fun (o : Nat) (h : wr.heap.size < _) => hb4.frozen (p := ⟨wr.heap.size, o, none⟩) h)
        all_goals go_wp2
        all_goals go_meet
        all_goals first
          | with_reducible exact cutA q4 hx4 hs4
          | (refine cutB (u0 := .int .i64 0) (u1 := .int .i64 0) (u2 := .int .i64 0) q4 hb4 hx hs4 ?_ ?_ ?_ ?_ <;> simp)
      case rest =>
        obtain ⟨ax, cx, bx, rfl, rfl, q5, hbx, hbx2, e0, e1, e2, hx⟩ := hcut
        obtain ⟨i0, hi, hz0, hz1, hz2⟩ := info_parts info_i64
        have hown5 := own_below hown q5
        have hlen := stepT_length (rL l lo v zs k) (rLo l lo v zs k) (rV l lo v zs k) z
        have hb5 : Below w.heap.size w wc := hb.trans (q5.mono (by omega))
        have hs5 : wr.heap.size ≤ wc.heap.size := q5.size
        replace c0 := cellb q5 c0
        replace c1 := cellb q5 c1
        replace c2 := cellb q5 c2
        replace c3 := cellb q5 c3
        replace c4 := cellb q5 c4
        replace c5 : ∀ o, wc.frozen? ⟨w.heap.size + 2, o, none⟩ = false := fun o => by rw [q5.frozen (p := ⟨w.heap.size + 2, o, none⟩) (by simp; omega)]; exact c5 o
        have S0 : Hid (∀ o, wc.cell? ⟨w.heap.size + 1, o, none⟩ = wr.cell? ⟨w.heap.size + 1, o, none⟩) := fun o => q5.cell (p := ⟨w.heap.size + 1, o, none⟩) (by simp; omega)
        have S1 : Hid (∀ o, wc.frozen? ⟨w.heap.size + 1, o, none⟩ = wr.frozen? ⟨w.heap.size + 1, o, none⟩) := fun o => q5.frozen (p := ⟨w.heap.size + 1, o, none⟩) (by simp; omega)
        have hnews := hide (ints_news' hx.read)
        have hne9 : Hid (some bx ≠ Value.ownBlock (.slice a (rT l lo v zs k).length cap)) := fun h => by have := (hown.lt bx h.symm).2; omega
        have hne6 : Hid (some (w.heap.size + 2) ≠ Value.ownBlock (.slice a (rT l lo v zs k).length cap)) := fun h => by have := (hown.lt _ h.symm).1; omega
        have hne5 : Hid (some (w.heap.size + 1) ≠ Value.ownBlock (.slice a (rT l lo v zs k).length cap)) := fun h => by have := (hown.lt _ h.symm).1; omega
        clear hown q5 hb g0 hx
        go_wp2_with (at_builtin; refine wpList_append_grow _ rfl (.tmp 39) (.tmp 40) 28 rfl (w.heap.size + 3) 2 i0 (.int .i64 0) 1 8 Try.underlying28 hi hz0 hz1 hz2 rfl (by decide) _ _ _ rfl hown5 ax (stepT (rL l lo v zs k) (rLo l lo v zs k) (rV l lo v zs k) z).length cx (intVs (stepT (rL l lo v zs k) (rLo l lo v zs k) (rV l lo v zs k) z)) rfl (by simp [intVs]) hnews.out (ints_one_cell _ _) (by unfold maxLen; omega) (by omega) (by omega) ?_)
        intro v' w6 hown6 hgrow
        have hs6 : w.heap.size + 2 < w6.heap.size := by have := hgrow.grown.size; omega
        have hb6 : Below w.heap.size w w6 := hb5.trans ((hgrow.below (base := w.heap.size + 3) (by omega) hown5.lt).mono (by omega))
        replace c0 := (hgrow.cell (by omega) hne6.out).trans c0
        replace c1 := (hgrow.cell (by omega) hne6.out).trans c1
        replace c2 := (hgrow.cell (by omega) hne6.out).trans c2
        replace c3 := (hgrow.cell (by omega) hne6.out).trans c3
        replace c4 := (hgrow.cell (by omega) hne6.out).trans c4
        replace c5 : ∀ o, w6.frozen? ⟨w.heap.size + 2, o, none⟩ = false := fun o => (hgrow.frozen (by omega) hne6.out).trans (c5 o)
        replace e0 := (hgrow.cell hbx2 hne9.out).trans e0
        replace e1 := (hgrow.cell hbx2 hne9.out).trans e1
        replace e2 := (hgrow.cell hbx2 hne9.out).trans e2
        have T0 : Hid (∀ o, w6.cell? ⟨w.heap.size + 1, o, none⟩ = wr.cell? ⟨w.heap.size + 1, o, none⟩) := fun o => (hgrow.cell (by omega) hne5.out).trans (S0.out o)
        have T1 : Hid (∀ o, w6.frozen? ⟨w.heap.size + 1, o, none⟩ = wr.frozen? ⟨w.heap.size + 1, o, none⟩) := fun o => (hgrow.frozen (by omega) hne5.out).trans (S1.out o)
        have hap := hide (hgrow.apart (b := w.heap.size + 2) (by omega) hne6.out)
        have hne69 : bx ≠ w.heap.size + 2 := by omega
        obtain ⟨a', cap', rfl⟩ := own_form hown6
        clear hgrow hown5 hb5 S0 S1 hne9 hne6 hne5 hnews
        go_wp2
        go_roundw
        case rel =>
          have hq := set5 (B := w.heap.size + 2) (x1 := .slice a' ((rT l lo v zs k).length + (stepT (rL l lo v zs k) (rLo l lo v zs k) (rV l lo v zs k) z).length) cap') (x2 := .int .i64 (stepL (rL l lo v zs k) (rLo l lo v zs k) (rV l lo v zs k) z)) (x3 := .int .i64 (stepLo (rL l lo v zs k) (rLo l lo v zs k) (rV l lo v zs k) z)) (x4 := .int .i64 (stepV (rL l lo v zs k) (rLo l lo v zs k) (rV l lo v zs k) z)) c0 c1 c2 c3 c4
          have hl : (rT l lo v zs (k + 1)).length = (rT l lo v zs k).length + (stepT (rL l lo v zs k) (rLo l lo v zs k) (rV l lo v zs k) z).length := by rw [eT.out, List.length_append]
          first
            | refine ⟨k + 1, a', cap', by omega, by go_num, ?_, (((hb6.setCell (by simp; try omega) _).setCell (by simp; try omega) _).setCell (by simp; try omega) _).setCell (by simp; try omega) _, by simpa [World.setCell] using hs6, fun o => ?_, fun o => ?_, hq.1, ?_, ?_, ?_, ?_, fun o => ?_⟩
            | ((repeat apply Exists.intro); refine ⟨⟨k + 1, a', cap', by omega, by go_num, ?_, (((hb6.setCell (by simp; try omega) _).setCell (by simp; try omega) _).setCell (by simp; try omega) _).setCell (by simp; try omega) _, by simpa [World.setCell] using hs6, fun o => ?_, fun o => ?_, hq.1, ?_, ?_, ?_, ?_, fun o => ?_⟩, rfl⟩)
          · rw [hl, eT.out, intVs_append]
            exact own_setCell (own_setCell (own_setCell (own_setCell hown6 hap.out) hap.out) hap.out) hap.out
          · rw [World.cell?_setCell_other _ _ _ _ (addr_ne (by omega)), World.cell?_setCell_other _ _ _ _ (addr_ne (by omega)), World.cell?_setCell_other _ _ _ _ (addr_ne (by omega)), World.cell?_setCell_other _ _ _ _ (addr_ne (by omega)), T0.out o]
            exact R0.out o
          · rw [World.frozen?_setCell, World.frozen?_setCell, World.frozen?_setCell, World.frozen?_setCell, T1.out o]
            exact R1.out o
          · rw [hl]; exact hq.2.1
          · rw [eL.out]; exact hq.2.2.1
          · rw [eLo.out]; exact hq.2.2.2.1
          · rw [eV.out]; exact hq.2.2.2.2
          · rw [World.frozen?_setCell, World.frozen?_setCell, World.frozen?_setCell, World.frozen?_setCell]
            exact c5 o
        case measure => simp [intOf]; omega
    · have hk' : k = zs.length := by omega
      have hge : ¬ ((k : Int) < (zs.length : Int)) := by omega
      have hx : IntsAt .i64 (w.heap.size + 3) wr.heap.size wr (.slice a (rT l lo v zs k).length cap) (rT l lo v zs k) := own_ints hown (Nat.le_refl _)
      have f0 : wr.cell? ⟨w.heap.size + 1, 0, none⟩ = some (.int .i64 0) := by rw [r0 0, new_cell (by simp)]; rfl
      have f1 : wr.cell? ⟨w.heap.size + 1, 1, none⟩ = some (.slice none 0 0) := by rw [r0 1, new_cell (by simp)]; rfl
      have f2 : wr.cell? ⟨w.heap.size + 1, 2, none⟩ = some (.int .i64 0) := by rw [r0 2, new_cell (by simp)]; rfl
      have f3 : wr.cell? ⟨w.heap.size + 1, 3, none⟩ = some (.int .i64 0) := by rw [r0 3, new_cell (by simp)]; rfl
      have f4 : wr.cell? ⟨w.heap.size + 1, 4, none⟩ = some (.int .i64 0) := by rw [r0 4, new_cell (by simp)]; rfl
      have HK := hide hk'
      clear hk' hy r0 hown hfk hlk
      go_wp2
      have hk' := HK.out
      subst hk'
      refine bodyPost_ret (v := .agg #[.int .i64 0, .slice a (rT l lo v zs zs.length).length cap, .int .i64 (rL l lo v zs zs.length), .int .i64 (rLo l lo v zs zs.length), .int .i64 (rV l lo v zs zs.length)]) (by simp [results, Try.results8, go_sem, f0, f1, f2, f3, f4]) rfl ⟨_, rfl, ?_, (by repeat' (first | with_reducible exact Below.refl _ _ | with_reducible assumption | with_reducible refine Below.drew ?_ | with_reducible refine Below.alloc ?_ ?_ _ | with_reducible refine Below.setCell ?_ ?_ _ | (simp; done) | (simp; omega) | omega))⟩
      refine hx.of_blocks ?_ |>.mono (by omega) (by simp)
      intro i hi hi2
      simp only [World.setCell, Array.getElem?_modify]
      repeat rw [if_neg (by omega)]

end Go.Proofs.Ytoedmfflokknjaa
