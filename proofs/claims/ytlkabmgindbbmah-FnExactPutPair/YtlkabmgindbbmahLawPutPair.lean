/-
  For every font and every pair the law FnExactPutPair returns true: impl.PutPair answers at each font and each pair what the model's PutPair answers, every field; it turns no argument, and its pairs are memory of its own. No condition (the law itself passes fonts of more than 1048576 pairs by).
-/
import Derived.Test.YtlkabmgindbbmahRows
import Derived.Test.YtlkabmgindbbmahPutFns
import Derived.Test.YtlkabmgindbbmahFontFns
import Derived.Test.YtlkabmgindbbmahFontOpen
import Derived.Deep.RegionHeld
import Derived.Deep.Cut
import Derived.Deep.CutRange
import Derived.ShutString
import Derived.ChangeOld
import Derived.Lib.SmallJoins
namespace Go.Proofs.Ytlkabmgindbbmah
open Go.ChangeShapes Go.WideShapes Go.ChangeAt Go.RowKit Go.Joins
set_option linter.unusedVariables false
set_option linter.unusedSimpArgs false

theorem keepF1 {W w1 : World} {b c : Nat} {u0 u1 v0 v1 : Value} {x y : Value} {ps qs : List (Int × Int)} (h : Below W.heap.size W w1 ∧ w1.cell? ⟨b, 0, none⟩ = some u0 ∧ w1.cell? ⟨b, 1, none⟩ = some u1 ∧ w1.cell? ⟨c, 0, none⟩ = some v0 ∧ w1.cell? ⟨c, 1, none⟩ = some v1 ∧ PRead w1 x ps ∧ PRead w1 y qs) : PRead w1 x ps := h.2.2.2.2.2.1
theorem keepF2 {W w1 : World} {b c : Nat} {u0 u1 v0 v1 : Value} {x y : Value} {ps qs : List (Int × Int)} (h : Below W.heap.size W w1 ∧ w1.cell? ⟨b, 0, none⟩ = some u0 ∧ w1.cell? ⟨b, 1, none⟩ = some u1 ∧ w1.cell? ⟨c, 0, none⟩ = some v0 ∧ w1.cell? ⟨c, 1, none⟩ = some v1 ∧ PRead w1 x ps ∧ PRead w1 y qs) : PRead w1 y qs := h.2.2.2.2.2.2
theorem keepF {W w1 w2 : World} {b c : Nat} {u0 u1 v0 v1 : Value} {x y : Value} {ps qs : List (Int × Int)} (h : Below W.heap.size W w1 ∧ w1.cell? ⟨b, 0, none⟩ = some u0 ∧ w1.cell? ⟨b, 1, none⟩ = some u1 ∧ w1.cell? ⟨c, 0, none⟩ = some v0 ∧ w1.cell? ⟨c, 1, none⟩ = some v1 ∧ PRead w1 x ps ∧ PRead w1 y qs) (hb : Below w1.heap.size w1 w2) :
    Below W.heap.size W w2 ∧ w2.cell? ⟨b, 0, none⟩ = some u0 ∧ w2.cell? ⟨b, 1, none⟩ = some u1 ∧ w2.cell? ⟨c, 0, none⟩ = some v0 ∧ w2.cell? ⟨c, 1, none⟩ = some v1 ∧ PRead w2 x ps ∧ PRead w2 y qs := by
  obtain ⟨h0, h1, h2, h3, h4, h5, h6⟩ := h
  exact ⟨h0.trans (hb.mono h0.size), cellb hb h1, cellb hb h2, cellb hb h3, cellb hb h4, h5.below hb, h6.below hb⟩

def CutP (W wx : World) (code fbk : Int) (xs : List (Int × Int)) (s : Value) : Prop :=
  ∃ (F lo hi : Nat) (a : Option Addr) (c : Nat), s = .pointer (some ⟨F, 0, none⟩) ∧ Below W.heap.size W wx ∧ (W.heap.size ≤ F ∧ F < wx.heap.size ∧ W.heap.size ≤ lo ∧ hi ≤ wx.heap.size ∧ (F < lo ∨ hi ≤ F)) ∧
    (wx.cell? ⟨F, 0, none⟩ = some (.int .i64 code) ∧ wx.cell? ⟨F, 1, none⟩ = some (.int .i64 fbk) ∧ wx.cell? ⟨F, 2, none⟩ = some (.slice a xs.length c)) ∧ PairsAt lo hi wx (.slice a xs.length c) xs
theorem CutP.mk {W V : World} {code fbk : Int} {xs : List (Int × Int)} {F lo hi : Nat} {a : Option Addr} {c : Nat} {u0 u1 u2 : Value} (q : Below W.heap.size W V) (h1 : W.heap.size ≤ F) (h2 : F < V.heap.size) (h3 : W.heap.size ≤ lo) (h4 : hi ≤ V.heap.size) (h5 : F < lo ∨ hi ≤ F)
    (z0 : V.cell? ⟨F, 0, none⟩ = some u0) (z1 : V.cell? ⟨F, 1, none⟩ = some u1) (z2 : V.cell? ⟨F, 2, none⟩ = some u2) (hx : PairsAt lo hi V (.slice a xs.length c) xs) :
    CutP W (((V.setCell ⟨F, 0, none⟩ (.int .i64 code)).setCell ⟨F, 1, none⟩ (.int .i64 fbk)).setCell ⟨F, 2, none⟩ (.slice a xs.length c)) code fbk xs (.pointer (some ⟨F, 0, none⟩)) := by
  refine ⟨F, lo, hi, a, c, rfl, ((q.setCell h1 _).setCell h1 _).setCell h1 _, ⟨h1, by simpa [World.setCell] using h2, h3, by simpa [World.setCell] using h4, h5⟩, res3 _ _ _ z0 z1 z2, ?_⟩
  refine hx.of_blocks ?_
  intro i hi1 hi2
  simp only [World.setCell, Array.getElem?_modify]
  repeat rw [if_neg (by omega)]
theorem set3_other {V : World} {F b o : Nat} {x y z u : Value} (h : V.cell? ⟨b, o, none⟩ = some u) (hne : b ≠ F) : (((V.setCell ⟨F, 0, none⟩ x).setCell ⟨F, 1, none⟩ y).setCell ⟨F, 2, none⟩ z).cell? ⟨b, o, none⟩ = some u := by
  rw [World.cell?_setCell_other _ _ _ _ (addr_ne (by omega)), World.cell?_setCell_other _ _ _ _ (addr_ne (by omega)), World.cell?_setCell_other _ _ _ _ (addr_ne (by omega))]; exact h

set_option maxRecDepth 20000 in
set_option maxHeartbeats 8000000 in
theorem lawPP_walk (fb : Int) (v : Value) (ps : List (Int × Int)) (c g : Int) (w : World) (hv : PRead w v ps) (hmax : ps.length ≤ maxLen) :
    Calls Try.prog 3 #[.agg #[.int .i64 fb, v], .agg #[.int .i64 c, .int .i64 g]] w fun e w' => e = .returned (.bool true) ∧ Below w.heap.size w w' := by
  have hv' := hv
  obtain ⟨av, cv, rfl, _⟩ := hv'
  by_cases hn : ps.length ≤ 1048576
  · skip
    generalize hcode : putCode fb ps (c, g) = code
    generalize hfbk : putFb fb ps (c, g) = fbk
    generalize hprs : putPs fb ps (c, g) = xs
    have hlen : xs.length ≤ 21 := by rw [← hprs]; exact putPs_length fb ps (c, g)
    have HC := hide hcode
    have HB := hide hfbk
    have HX := hide hprs
    clear hcode hfbk hprs
    go_enter Try.func3, Try.ntmps3
    go_wp2_with fail
    have q1 : Below w.heap.size w ((w.alloc (.cells #[.int .i64 fb, .slice av ps.length cv] 24)).alloc (.cells #[.int .i64 c, .int .i64 g] 26)) := (by repeat' (first | with_reducible exact Below.refl _ _ | with_reducible assumption | with_reducible refine Below.drew ?_ | with_reducible refine Below.alloc ?_ ?_ _ | with_reducible refine Below.setCell ?_ ?_ _ | (simp; done) | (simp; omega) | omega))
    refine (szFont_calls fb ps.length av cv _ hmax).mono ?_
    rintro e w1 ⟨rfl, hb1⟩
    have A0 : w1.cell? ⟨w.heap.size, 0, none⟩ = some (.int .i64 fb) := cellb hb1 (by simp)
    have A1 : w1.cell? ⟨w.heap.size, 1, none⟩ = some (.slice av ps.length cv) := cellb hb1 (by simp)
    have P0 : w1.cell? ⟨w.heap.size + 1, 0, none⟩ = some (.int .i64 c) := cellb hb1 (by simp)
    have P1 : w1.cell? ⟨w.heap.size + 1, 1, none⟩ = some (.int .i64 g) := cellb hb1 (by simp)
    have z1 : w.heap.size + 2 ≤ w1.heap.size := by have := hb1.size; simp at this; omega
    have r1 : Below w.heap.size w w1 := q1.trans (hb1.mono (by simp; try omega))
    clear q1 hb1
    have b1 : Below w.heap.size w w1 := r1
    clear r1
    have lt1_0 : w.heap.size < w1.heap.size := by omega
    have lt1_1 : w.heap.size + 1 < w1.heap.size := by omega
    rw [if_pos hn]
    have hge : ¬ ((1048576 - (ps.length : Int)) < 0) := by omega
    go_wp2_with fail
    go_cut [6] from 18 to 22 (fun s wx => CutP w1 wx code fbk xs s)
    case first =>
      have hvr := hv.below b1
      refine wp_region_held_drew (S := (fun w' => w'.cell? ⟨w.heap.size, 0, none⟩ = some (.int .i64 fb) ∧ w'.cell? ⟨w.heap.size, 1, none⟩ = some (.slice av ps.length cv) ∧ w'.cell? ⟨w.heap.size + 1, 0, none⟩ = some (.int .i64 c) ∧ w'.cell? ⟨w.heap.size + 1, 1, none⟩ = some (.int .i64 g))) (by kernel_rfl) ?_ (fun hHeld => ?_)
      · (try dsimp only); exact ⟨A0, A1, P0, P1⟩
      replace A0 := cellb (Below.drew (Below.refl _ w1)) A0
      replace A1 := cellb (Below.drew (Below.refl _ w1)) A1
      replace P0 := cellb (Below.drew (Below.refl _ w1)) P0
      replace P1 := cellb (Below.drew (Below.refl _ w1)) P1
      replace hvr := hvr.below (Below.drew (Below.refl _ w1))
      have q : Below w1.heap.size w1 w1.drew := Below.drew (Below.refl _ _)
      generalize w1.drew = V0 at *
      refine wpAnyH_take (i := 0) (oi := ⟨_, _, _, _, _, _⟩) (v := ?_) rfl (by kernel_rfl) (by kernel_rfl) (by kernel_rfl) (fun _ _ _ h => h) (Or.inl ⟨by rfl, ?_⟩) hHeld ?_
      rotate_left
      · (intro w hSw; (try dsimp only at hSw); go_simp; try (with_reducible rfl))
      try simp only [Act.put, List.setIfInBounds_toArray, List.set_cons_zero, List.set_cons_succ]
      refine wpAnyH_take (i := 2) (oi := ⟨_, _, _, _, _, _⟩) (v := ?_) rfl (by kernel_rfl) (by kernel_rfl) (by kernel_rfl) (fun _ _ _ h => h) (Or.inl ⟨by rfl, ?_⟩) hHeld ?_
      rotate_left
      · (intro w hSw; (try dsimp only at hSw); go_simp; try (with_reducible rfl))
      try simp only [Act.put, List.setIfInBounds_toArray, List.set_cons_zero, List.set_cons_succ]
      have zq0 := q.size
      refine wpAnyH_ready (rs := [1, 5]) (by kernel_rfl) (by simp) ?_
      refine (AllReadyH.cons (o := ⟨_, _, _, _, _, _⟩) rfl (fun K hK => ?_) (AllReadyH.cons (o := ⟨_, _, _, _, _, _⟩) rfl (fun K hK => ?_) AllReadyH.nil))
      · skip
        go_simp
        go_at_call 10
        refine (toFont_calls fb ps _ _ hn hvr).mono ?_
        rintro e V1 ⟨y, rfl, hy, hb⟩
        replace A0 := cellb hb A0
        replace A1 := cellb hb A1
        replace P0 := cellb hb P0
        replace P1 := cellb hb P1
        replace hvr := hvr.below hb
        replace q := q.trans (hb.mono q.size)
        have hyr := hy.read
        obtain ⟨ayr, cyr, rfl, hy'⟩ := hy
        clear hy' hvr
        have z1 := hb.size
        clear hb
        try go_wp2_with fail
        refine hK.out _ _ ?_ ?_
        · (try dsimp only); exact ⟨A0, A1, P0, P1⟩
        clear hHeld hK K
        intro hHeld
        try simp only [Act.put, List.setIfInBounds_toArray, List.set_cons_zero, List.set_cons_succ]
        have zq1 := q.size
        refine wpAnyH_ready (rs := [3, 5]) (by kernel_rfl) (by simp) ?_
        refine (AllReadyH.cons (o := ⟨_, _, _, _, _, _⟩) rfl (fun K hK => ?_) (AllReadyH.cons (o := ⟨_, _, _, _, _, _⟩) rfl (fun K hK => ?_) AllReadyH.nil))
        · skip
          go_simp
          go_at_call 11
          refine (toPair_calls c g _).mono ?_
          rintro e V2 ⟨rfl, hb⟩
          replace A0 := cellb hb A0
          replace A1 := cellb hb A1
          replace P0 := cellb hb P0
          replace P1 := cellb hb P1
          replace hyr := hyr.below hb
          replace q := q.trans (hb.mono q.size)
          have z2 := hb.size
          clear hb
          try go_wp2_with fail
          refine hK.out _ _ ?_ ?_
          · (try dsimp only); exact ⟨A0, A1, P0, P1⟩
          clear hHeld hK K
          intro hHeld
          try simp only [Act.put, List.setIfInBounds_toArray, List.set_cons_zero, List.set_cons_succ]
          have zq2 := q.size
          refine wpAnyH_ready (rs := [4, 5]) (by kernel_rfl) (by simp) ?_
          refine (AllReadyH.cons (o := ⟨_, _, _, _, _, _⟩) rfl (fun K hK => ?_) (AllReadyH.cons (o := ⟨_, _, _, _, _, _⟩) rfl (fun K hK => ?_) AllReadyH.nil))
          · skip
            go_simp
            go_at_call 9
            refine (specPutPair_calls fb ps c g _ _ hn hyr).mono ?_
            rintro e V3 ⟨x, rfl, hx, hb⟩
            rw [HC.out, HB.out]
            rw [HX.out] at hx
            obtain ⟨aB, cB, rfl, hx'⟩ := hx
            have hx : PairsAt V2.heap.size V3.heap.size V3 (.slice aB xs.length cB) xs := ⟨aB, cB, rfl, hx'⟩
            clear hx'
            replace A0 := cellb hb A0
            replace A1 := cellb hb A1
            replace P0 := cellb hb P0
            replace P1 := cellb hb P1
            replace hyr := hyr.below hb
            replace q := q.trans (hb.mono q.size)
            clear hyr
            have z3 := hb.size
            clear hb
            try go_wp2_with fail
            refine hK.out _ _ ?_ ?_
            · (try dsimp only); exact ⟨A0, A1, P0, P1⟩
            clear hHeld hK K
            intro hHeld
            try simp only [Act.put, List.setIfInBounds_toArray, List.set_cons_zero, List.set_cons_succ]
            have zq3 := q.size
            refine wpAnyH_ready (rs := [5]) (by kernel_rfl) (by simp) ?_
            refine (AllReadyH.cons (o := ⟨_, _, _, _, _, _⟩) rfl (fun K hK => ?_) AllReadyH.nil)
            go_simp
            have hb : Below V3.heap.size V3 (V3.alloc (.cells #[.int .i64 0, .int .i64 0, .slice none 0 0] 32)) := (Below.refl _ _).alloc (Nat.le_refl _) _
            replace A0 := cellb hb A0
            replace A1 := cellb hb A1
            replace P0 := cellb hb P0
            replace P1 := cellb hb P1
            replace hx := hx.below hb (Nat.le_refl _)
            replace q := q.trans (hb.mono q.size)
            have Z0 : (V3.alloc (.cells #[.int .i64 0, .int .i64 0, .slice none 0 0] 32)).cell? ⟨V3.heap.size, 0, none⟩ = some (.int .i64 0) := by simp
            have Y0 : (V3.alloc (.cells #[.int .i64 0, .int .i64 0, .slice none 0 0] 32)).frozen? ⟨V3.heap.size, 0, none⟩ = false := by simp
            have Z1 : (V3.alloc (.cells #[.int .i64 0, .int .i64 0, .slice none 0 0] 32)).cell? ⟨V3.heap.size, 1, none⟩ = some (.int .i64 0) := by simp
            have Y1 : (V3.alloc (.cells #[.int .i64 0, .int .i64 0, .slice none 0 0] 32)).frozen? ⟨V3.heap.size, 1, none⟩ = false := by simp
            have Z2 : (V3.alloc (.cells #[.int .i64 0, .int .i64 0, .slice none 0 0] 32)).cell? ⟨V3.heap.size, 2, none⟩ = some (.slice none 0 0) := by simp
            have Y2 : (V3.alloc (.cells #[.int .i64 0, .int .i64 0, .slice none 0 0] 32)).frozen? ⟨V3.heap.size, 2, none⟩ = false := by simp
            have z4 : V3.heap.size < (V3.alloc (.cells #[.int .i64 0, .int .i64 0, .slice none 0 0] 32)).heap.size := by simp
            clear hb
            generalize (V3.alloc (.cells #[.int .i64 0, .int .i64 0, .slice none 0 0] 32)) = V4 at *
            refine hK.out _ _ ?_ ?_
            · (try dsimp only); exact ⟨A0, A1, P0, P1⟩
            clear hHeld hK K
            intro hHeld
            try simp only [Act.put, List.setIfInBounds_toArray, List.set_cons_zero, List.set_cons_succ]
            have zq := q.size
            refine wpAnyH_ready (rs := [6]) (by kernel_rfl) (by simp) ?_
            refine (AllReadyH.cons (o := ⟨_, _, _, _, _, _⟩) rfl (fun K hK => ?_) AllReadyH.nil)
            go_simp
            refine hK.out _ _ ?_ ?_
            · (try dsimp only); exact ⟨set3_other A0 (by omega), set3_other A1 (by omega), set3_other P0 (by omega), set3_other P1 (by omega)⟩
            clear hHeld hK K
            intro hHeld
            try simp only [Act.put, List.setIfInBounds_toArray, List.set_cons_zero, List.set_cons_succ]
            refine wpAnyH_done (by kernel_rfl) ?_ _
            have hcutf := CutP.mk (code := code) (fbk := fbk) q (by omega) (by omega) (by omega) (by omega) (by omega) Z0 Z1 Z2 hx
            go_wp2
            go_meet
            exact hcutf
          · skip
            go_simp
            have hb : Below V2.heap.size V2 (V2.alloc (.cells #[.int .i64 0, .int .i64 0, .slice none 0 0] 32)) := (Below.refl _ _).alloc (Nat.le_refl _) _
            replace A0 := cellb hb A0
            replace A1 := cellb hb A1
            replace P0 := cellb hb P0
            replace P1 := cellb hb P1
            replace hyr := hyr.below hb
            replace q := q.trans (hb.mono q.size)
            have Z0 : (V2.alloc (.cells #[.int .i64 0, .int .i64 0, .slice none 0 0] 32)).cell? ⟨V2.heap.size, 0, none⟩ = some (.int .i64 0) := by simp
            have Y0 : (V2.alloc (.cells #[.int .i64 0, .int .i64 0, .slice none 0 0] 32)).frozen? ⟨V2.heap.size, 0, none⟩ = false := by simp
            have Z1 : (V2.alloc (.cells #[.int .i64 0, .int .i64 0, .slice none 0 0] 32)).cell? ⟨V2.heap.size, 1, none⟩ = some (.int .i64 0) := by simp
            have Y1 : (V2.alloc (.cells #[.int .i64 0, .int .i64 0, .slice none 0 0] 32)).frozen? ⟨V2.heap.size, 1, none⟩ = false := by simp
            have Z2 : (V2.alloc (.cells #[.int .i64 0, .int .i64 0, .slice none 0 0] 32)).cell? ⟨V2.heap.size, 2, none⟩ = some (.slice none 0 0) := by simp
            have Y2 : (V2.alloc (.cells #[.int .i64 0, .int .i64 0, .slice none 0 0] 32)).frozen? ⟨V2.heap.size, 2, none⟩ = false := by simp
            have z3 : V2.heap.size < (V2.alloc (.cells #[.int .i64 0, .int .i64 0, .slice none 0 0] 32)).heap.size := by simp
            clear hb
            generalize (V2.alloc (.cells #[.int .i64 0, .int .i64 0, .slice none 0 0] 32)) = V3 at *
            refine hK.out _ _ ?_ ?_
            · (try dsimp only); exact ⟨A0, A1, P0, P1⟩
            clear hHeld hK K
            intro hHeld
            try simp only [Act.put, List.setIfInBounds_toArray, List.set_cons_zero, List.set_cons_succ]
            have zq3 := q.size
            refine wpAnyH_ready (rs := [4]) (by kernel_rfl) (by simp) ?_
            refine (AllReadyH.cons (o := ⟨_, _, _, _, _, _⟩) rfl (fun K hK => ?_) AllReadyH.nil)
            go_simp
            go_at_call 9
            refine (specPutPair_calls fb ps c g _ _ hn hyr).mono ?_
            rintro e V4 ⟨x, rfl, hx, hb⟩
            rw [HC.out, HB.out]
            rw [HX.out] at hx
            obtain ⟨aB, cB, rfl, hx'⟩ := hx
            have hx : PairsAt V3.heap.size V4.heap.size V4 (.slice aB xs.length cB) xs := ⟨aB, cB, rfl, hx'⟩
            clear hx'
            replace A0 := cellb hb A0
            replace A1 := cellb hb A1
            replace P0 := cellb hb P0
            replace P1 := cellb hb P1
            replace hyr := hyr.below hb
            replace Z0 := cellb hb Z0
            replace Z1 := cellb hb Z1
            replace Z2 := cellb hb Z2
            have Q0 := (hb.frozen (p := ⟨V2.heap.size, 0, none⟩) (by simp; omega)).trans Y0
            have Q1 := (hb.frozen (p := ⟨V2.heap.size, 1, none⟩) (by simp; omega)).trans Y1
            have Q2 := (hb.frozen (p := ⟨V2.heap.size, 2, none⟩) (by simp; omega)).trans Y2
            clear Y0 Y1 Y2
            have Y0 := Q0
            have Y1 := Q1
            have Y2 := Q2
            clear Q0 Q1 Q2
            replace q := q.trans (hb.mono q.size)
            clear hyr
            have z4 := hb.size
            clear hb
            try go_wp2_with fail
            refine hK.out _ _ ?_ ?_
            · (try dsimp only); exact ⟨A0, A1, P0, P1⟩
            clear hHeld hK K
            intro hHeld
            try simp only [Act.put, List.setIfInBounds_toArray, List.set_cons_zero, List.set_cons_succ]
            have zq := q.size
            refine wpAnyH_ready (rs := [6]) (by kernel_rfl) (by simp) ?_
            refine (AllReadyH.cons (o := ⟨_, _, _, _, _, _⟩) rfl (fun K hK => ?_) AllReadyH.nil)
            go_simp
            refine hK.out _ _ ?_ ?_
            · (try dsimp only); exact ⟨set3_other A0 (by omega), set3_other A1 (by omega), set3_other P0 (by omega), set3_other P1 (by omega)⟩
            clear hHeld hK K
            intro hHeld
            try simp only [Act.put, List.setIfInBounds_toArray, List.set_cons_zero, List.set_cons_succ]
            refine wpAnyH_done (by kernel_rfl) ?_ _
            have hcutf := CutP.mk (code := code) (fbk := fbk) q (by omega) (by omega) (by omega) (by omega) (by omega) Z0 Z1 Z2 hx
            go_wp2
            go_meet
            exact hcutf
        · skip
          go_simp
          have hb : Below V1.heap.size V1 (V1.alloc (.cells #[.int .i64 0, .int .i64 0, .slice none 0 0] 32)) := (Below.refl _ _).alloc (Nat.le_refl _) _
          replace A0 := cellb hb A0
          replace A1 := cellb hb A1
          replace P0 := cellb hb P0
          replace P1 := cellb hb P1
          replace hyr := hyr.below hb
          replace q := q.trans (hb.mono q.size)
          have Z0 : (V1.alloc (.cells #[.int .i64 0, .int .i64 0, .slice none 0 0] 32)).cell? ⟨V1.heap.size, 0, none⟩ = some (.int .i64 0) := by simp
          have Y0 : (V1.alloc (.cells #[.int .i64 0, .int .i64 0, .slice none 0 0] 32)).frozen? ⟨V1.heap.size, 0, none⟩ = false := by simp
          have Z1 : (V1.alloc (.cells #[.int .i64 0, .int .i64 0, .slice none 0 0] 32)).cell? ⟨V1.heap.size, 1, none⟩ = some (.int .i64 0) := by simp
          have Y1 : (V1.alloc (.cells #[.int .i64 0, .int .i64 0, .slice none 0 0] 32)).frozen? ⟨V1.heap.size, 1, none⟩ = false := by simp
          have Z2 : (V1.alloc (.cells #[.int .i64 0, .int .i64 0, .slice none 0 0] 32)).cell? ⟨V1.heap.size, 2, none⟩ = some (.slice none 0 0) := by simp
          have Y2 : (V1.alloc (.cells #[.int .i64 0, .int .i64 0, .slice none 0 0] 32)).frozen? ⟨V1.heap.size, 2, none⟩ = false := by simp
          have z2 : V1.heap.size < (V1.alloc (.cells #[.int .i64 0, .int .i64 0, .slice none 0 0] 32)).heap.size := by simp
          clear hb
          generalize (V1.alloc (.cells #[.int .i64 0, .int .i64 0, .slice none 0 0] 32)) = V2 at *
          refine hK.out _ _ ?_ ?_
          · (try dsimp only); exact ⟨A0, A1, P0, P1⟩
          clear hHeld hK K
          intro hHeld
          try simp only [Act.put, List.setIfInBounds_toArray, List.set_cons_zero, List.set_cons_succ]
          have zq2 := q.size
          refine wpAnyH_ready (rs := [3]) (by kernel_rfl) (by simp) ?_
          refine (AllReadyH.cons (o := ⟨_, _, _, _, _, _⟩) rfl (fun K hK => ?_) AllReadyH.nil)
          go_simp
          go_at_call 11
          refine (toPair_calls c g _).mono ?_
          rintro e V3 ⟨rfl, hb⟩
          replace A0 := cellb hb A0
          replace A1 := cellb hb A1
          replace P0 := cellb hb P0
          replace P1 := cellb hb P1
          replace hyr := hyr.below hb
          replace Z0 := cellb hb Z0
          replace Z1 := cellb hb Z1
          replace Z2 := cellb hb Z2
          have Q0 := (hb.frozen (p := ⟨V1.heap.size, 0, none⟩) (by simp; omega)).trans Y0
          have Q1 := (hb.frozen (p := ⟨V1.heap.size, 1, none⟩) (by simp; omega)).trans Y1
          have Q2 := (hb.frozen (p := ⟨V1.heap.size, 2, none⟩) (by simp; omega)).trans Y2
          clear Y0 Y1 Y2
          have Y0 := Q0
          have Y1 := Q1
          have Y2 := Q2
          clear Q0 Q1 Q2
          replace q := q.trans (hb.mono q.size)
          have z3 := hb.size
          clear hb
          try go_wp2_with fail
          refine hK.out _ _ ?_ ?_
          · (try dsimp only); exact ⟨A0, A1, P0, P1⟩
          clear hHeld hK K
          intro hHeld
          try simp only [Act.put, List.setIfInBounds_toArray, List.set_cons_zero, List.set_cons_succ]
          have zq3 := q.size
          refine wpAnyH_ready (rs := [4]) (by kernel_rfl) (by simp) ?_
          refine (AllReadyH.cons (o := ⟨_, _, _, _, _, _⟩) rfl (fun K hK => ?_) AllReadyH.nil)
          go_simp
          go_at_call 9
          refine (specPutPair_calls fb ps c g _ _ hn hyr).mono ?_
          rintro e V4 ⟨x, rfl, hx, hb⟩
          rw [HC.out, HB.out]
          rw [HX.out] at hx
          obtain ⟨aB, cB, rfl, hx'⟩ := hx
          have hx : PairsAt V3.heap.size V4.heap.size V4 (.slice aB xs.length cB) xs := ⟨aB, cB, rfl, hx'⟩
          clear hx'
          replace A0 := cellb hb A0
          replace A1 := cellb hb A1
          replace P0 := cellb hb P0
          replace P1 := cellb hb P1
          replace hyr := hyr.below hb
          replace Z0 := cellb hb Z0
          replace Z1 := cellb hb Z1
          replace Z2 := cellb hb Z2
          have Q0 := (hb.frozen (p := ⟨V1.heap.size, 0, none⟩) (by simp; omega)).trans Y0
          have Q1 := (hb.frozen (p := ⟨V1.heap.size, 1, none⟩) (by simp; omega)).trans Y1
          have Q2 := (hb.frozen (p := ⟨V1.heap.size, 2, none⟩) (by simp; omega)).trans Y2
          clear Y0 Y1 Y2
          have Y0 := Q0
          have Y1 := Q1
          have Y2 := Q2
          clear Q0 Q1 Q2
          replace q := q.trans (hb.mono q.size)
          clear hyr
          have z4 := hb.size
          clear hb
          try go_wp2_with fail
          refine hK.out _ _ ?_ ?_
          · (try dsimp only); exact ⟨A0, A1, P0, P1⟩
          clear hHeld hK K
          intro hHeld
          try simp only [Act.put, List.setIfInBounds_toArray, List.set_cons_zero, List.set_cons_succ]
          have zq := q.size
          refine wpAnyH_ready (rs := [6]) (by kernel_rfl) (by simp) ?_
          refine (AllReadyH.cons (o := ⟨_, _, _, _, _, _⟩) rfl (fun K hK => ?_) AllReadyH.nil)
          go_simp
          refine hK.out _ _ ?_ ?_
          · (try dsimp only); exact ⟨set3_other A0 (by omega), set3_other A1 (by omega), set3_other P0 (by omega), set3_other P1 (by omega)⟩
          clear hHeld hK K
          intro hHeld
          try simp only [Act.put, List.setIfInBounds_toArray, List.set_cons_zero, List.set_cons_succ]
          refine wpAnyH_done (by kernel_rfl) ?_ _
          have hcutf := CutP.mk (code := code) (fbk := fbk) q (by omega) (by omega) (by omega) (by omega) (by omega) Z0 Z1 Z2 hx
          go_wp2
          go_meet
          exact hcutf
      · skip
        go_simp
        have hb : Below V0.heap.size V0 (V0.alloc (.cells #[.int .i64 0, .int .i64 0, .slice none 0 0] 32)) := (Below.refl _ _).alloc (Nat.le_refl _) _
        replace A0 := cellb hb A0
        replace A1 := cellb hb A1
        replace P0 := cellb hb P0
        replace P1 := cellb hb P1
        replace hvr := hvr.below hb
        replace q := q.trans (hb.mono q.size)
        have Z0 : (V0.alloc (.cells #[.int .i64 0, .int .i64 0, .slice none 0 0] 32)).cell? ⟨V0.heap.size, 0, none⟩ = some (.int .i64 0) := by simp
        have Y0 : (V0.alloc (.cells #[.int .i64 0, .int .i64 0, .slice none 0 0] 32)).frozen? ⟨V0.heap.size, 0, none⟩ = false := by simp
        have Z1 : (V0.alloc (.cells #[.int .i64 0, .int .i64 0, .slice none 0 0] 32)).cell? ⟨V0.heap.size, 1, none⟩ = some (.int .i64 0) := by simp
        have Y1 : (V0.alloc (.cells #[.int .i64 0, .int .i64 0, .slice none 0 0] 32)).frozen? ⟨V0.heap.size, 1, none⟩ = false := by simp
        have Z2 : (V0.alloc (.cells #[.int .i64 0, .int .i64 0, .slice none 0 0] 32)).cell? ⟨V0.heap.size, 2, none⟩ = some (.slice none 0 0) := by simp
        have Y2 : (V0.alloc (.cells #[.int .i64 0, .int .i64 0, .slice none 0 0] 32)).frozen? ⟨V0.heap.size, 2, none⟩ = false := by simp
        have z1 : V0.heap.size < (V0.alloc (.cells #[.int .i64 0, .int .i64 0, .slice none 0 0] 32)).heap.size := by simp
        clear hb
        generalize (V0.alloc (.cells #[.int .i64 0, .int .i64 0, .slice none 0 0] 32)) = V1 at *
        refine hK.out _ _ ?_ ?_
        · (try dsimp only); exact ⟨A0, A1, P0, P1⟩
        clear hHeld hK K
        intro hHeld
        try simp only [Act.put, List.setIfInBounds_toArray, List.set_cons_zero, List.set_cons_succ]
        have zq1 := q.size
        refine wpAnyH_ready (rs := [1]) (by kernel_rfl) (by simp) ?_
        refine (AllReadyH.cons (o := ⟨_, _, _, _, _, _⟩) rfl (fun K hK => ?_) AllReadyH.nil)
        go_simp
        go_at_call 10
        refine (toFont_calls fb ps _ _ hn hvr).mono ?_
        rintro e V2 ⟨y, rfl, hy, hb⟩
        replace A0 := cellb hb A0
        replace A1 := cellb hb A1
        replace P0 := cellb hb P0
        replace P1 := cellb hb P1
        replace hvr := hvr.below hb
        replace Z0 := cellb hb Z0
        replace Z1 := cellb hb Z1
        replace Z2 := cellb hb Z2
        have Q0 := (hb.frozen (p := ⟨V0.heap.size, 0, none⟩) (by simp; omega)).trans Y0
        have Q1 := (hb.frozen (p := ⟨V0.heap.size, 1, none⟩) (by simp; omega)).trans Y1
        have Q2 := (hb.frozen (p := ⟨V0.heap.size, 2, none⟩) (by simp; omega)).trans Y2
        clear Y0 Y1 Y2
        have Y0 := Q0
        have Y1 := Q1
        have Y2 := Q2
        clear Q0 Q1 Q2
        replace q := q.trans (hb.mono q.size)
        have hyr := hy.read
        obtain ⟨ayr, cyr, rfl, hy'⟩ := hy
        clear hy' hvr
        have z2 := hb.size
        clear hb
        try go_wp2_with fail
        refine hK.out _ _ ?_ ?_
        · (try dsimp only); exact ⟨A0, A1, P0, P1⟩
        clear hHeld hK K
        intro hHeld
        try simp only [Act.put, List.setIfInBounds_toArray, List.set_cons_zero, List.set_cons_succ]
        have zq2 := q.size
        refine wpAnyH_ready (rs := [3]) (by kernel_rfl) (by simp) ?_
        refine (AllReadyH.cons (o := ⟨_, _, _, _, _, _⟩) rfl (fun K hK => ?_) AllReadyH.nil)
        go_simp
        go_at_call 11
        refine (toPair_calls c g _).mono ?_
        rintro e V3 ⟨rfl, hb⟩
        replace A0 := cellb hb A0
        replace A1 := cellb hb A1
        replace P0 := cellb hb P0
        replace P1 := cellb hb P1
        replace hyr := hyr.below hb
        replace Z0 := cellb hb Z0
        replace Z1 := cellb hb Z1
        replace Z2 := cellb hb Z2
        have Q0 := (hb.frozen (p := ⟨V0.heap.size, 0, none⟩) (by simp; omega)).trans Y0
        have Q1 := (hb.frozen (p := ⟨V0.heap.size, 1, none⟩) (by simp; omega)).trans Y1
        have Q2 := (hb.frozen (p := ⟨V0.heap.size, 2, none⟩) (by simp; omega)).trans Y2
        clear Y0 Y1 Y2
        have Y0 := Q0
        have Y1 := Q1
        have Y2 := Q2
        clear Q0 Q1 Q2
        replace q := q.trans (hb.mono q.size)
        have z3 := hb.size
        clear hb
        try go_wp2_with fail
        refine hK.out _ _ ?_ ?_
        · (try dsimp only); exact ⟨A0, A1, P0, P1⟩
        clear hHeld hK K
        intro hHeld
        try simp only [Act.put, List.setIfInBounds_toArray, List.set_cons_zero, List.set_cons_succ]
        have zq3 := q.size
        refine wpAnyH_ready (rs := [4]) (by kernel_rfl) (by simp) ?_
        refine (AllReadyH.cons (o := ⟨_, _, _, _, _, _⟩) rfl (fun K hK => ?_) AllReadyH.nil)
        go_simp
        go_at_call 9
        refine (specPutPair_calls fb ps c g _ _ hn hyr).mono ?_
        rintro e V4 ⟨x, rfl, hx, hb⟩
        rw [HC.out, HB.out]
        rw [HX.out] at hx
        obtain ⟨aB, cB, rfl, hx'⟩ := hx
        have hx : PairsAt V3.heap.size V4.heap.size V4 (.slice aB xs.length cB) xs := ⟨aB, cB, rfl, hx'⟩
        clear hx'
        replace A0 := cellb hb A0
        replace A1 := cellb hb A1
        replace P0 := cellb hb P0
        replace P1 := cellb hb P1
        replace hyr := hyr.below hb
        replace Z0 := cellb hb Z0
        replace Z1 := cellb hb Z1
        replace Z2 := cellb hb Z2
        have Q0 := (hb.frozen (p := ⟨V0.heap.size, 0, none⟩) (by simp; omega)).trans Y0
        have Q1 := (hb.frozen (p := ⟨V0.heap.size, 1, none⟩) (by simp; omega)).trans Y1
        have Q2 := (hb.frozen (p := ⟨V0.heap.size, 2, none⟩) (by simp; omega)).trans Y2
        clear Y0 Y1 Y2
        have Y0 := Q0
        have Y1 := Q1
        have Y2 := Q2
        clear Q0 Q1 Q2
        replace q := q.trans (hb.mono q.size)
        clear hyr
        have z4 := hb.size
        clear hb
        try go_wp2_with fail
        refine hK.out _ _ ?_ ?_
        · (try dsimp only); exact ⟨A0, A1, P0, P1⟩
        clear hHeld hK K
        intro hHeld
        try simp only [Act.put, List.setIfInBounds_toArray, List.set_cons_zero, List.set_cons_succ]
        have zq := q.size
        refine wpAnyH_ready (rs := [6]) (by kernel_rfl) (by simp) ?_
        refine (AllReadyH.cons (o := ⟨_, _, _, _, _, _⟩) rfl (fun K hK => ?_) AllReadyH.nil)
        go_simp
        refine hK.out _ _ ?_ ?_
        · (try dsimp only); exact ⟨set3_other A0 (by omega), set3_other A1 (by omega), set3_other P0 (by omega), set3_other P1 (by omega)⟩
        clear hHeld hK K
        intro hHeld
        try simp only [Act.put, List.setIfInBounds_toArray, List.set_cons_zero, List.set_cons_succ]
        refine wpAnyH_done (by kernel_rfl) ?_ _
        have hcutf := CutP.mk (code := code) (fbk := fbk) q (by omega) (by omega) (by omega) (by omega) (by omega) Z0 Z1 Z2 hx
        go_wp2
        go_meet
        exact hcutf
    case rest =>
      obtain ⟨FB, loB, hiB, aB, cB, rfl, r2, hFB, hCB, hxB⟩ := hcut
      rename World => w2
      obtain ⟨B0, B1, B2⟩ := hCB
      have z2 : w1.heap.size ≤ w2.heap.size := r2.size
      replace A0 := cellb r2 A0
      replace A1 := cellb r2 A1
      replace P0 := cellb r2 P0
      replace P1 := cellb r2 P1
      have b2 : Below w.heap.size w w2 := b1.trans (r2.mono (by omega))
      clear r2 b1
      clear lt1_0 lt1_1
      have lt2_0 : w.heap.size < w2.heap.size := by omega
      have lt2_1 : w.heap.size + 1 < w2.heap.size := by omega
      have lt2_2 : FB < w2.heap.size := by omega
      go_wp2_with fail
      refine (toFont_calls fb ps _ _ hn (hv.below b2)).mono ?_
      rintro e w3 ⟨y1, rfl, hy1, hb3⟩
      have z3 : w2.heap.size ≤ w3.heap.size := hb3.size
      have r3 := hb3
      clear hb3
      replace A0 := cellb r3 A0
      replace A1 := cellb r3 A1
      replace P0 := cellb r3 P0
      replace P1 := cellb r3 P1
      replace B0 := cellb r3 B0
      replace B1 := cellb r3 B1
      replace B2 := cellb r3 B2
      replace hxB := hxB.below r3 (by omega)
      have b3 : Below w.heap.size w w3 := b2.trans (r3.mono (by omega))
      clear r3 b2
      clear lt2_0 lt2_1 lt2_2
      have lt3_0 : w.heap.size < w3.heap.size := by omega
      have lt3_1 : w.heap.size + 1 < w3.heap.size := by omega
      have lt3_2 : FB < w3.heap.size := by omega
      obtain ⟨ay1, cy1, rfl, hy1'⟩ := hy1
      have hy1 : PairsAt w2.heap.size w3.heap.size w3 (.slice ay1 ps.length cy1) ps := ⟨ay1, cy1, rfl, hy1'⟩
      clear hy1'
      go_wp2_with fail
      have r4 : Below w3.heap.size w3 (w3.alloc (.cells #[.int .i64 fb, .slice ay1 ps.length cy1] 30)) := (by repeat' (first | with_reducible exact Below.refl _ _ | with_reducible assumption | with_reducible refine Below.drew ?_ | with_reducible refine Below.alloc ?_ ?_ _ | with_reducible refine Below.setCell ?_ ?_ _ | (simp; done) | (simp; omega) | omega))
      have X0 : (w3.alloc (.cells #[.int .i64 fb, .slice ay1 ps.length cy1] 30)).cell? ⟨w3.heap.size, 0, none⟩ = some (.int .i64 fb) := by simp
      have X1 : (w3.alloc (.cells #[.int .i64 fb, .slice ay1 ps.length cy1] 30)).cell? ⟨w3.heap.size, 1, none⟩ = some (.slice ay1 ps.length cy1) := by simp
      have z4 : w3.heap.size < (w3.alloc (.cells #[.int .i64 fb, .slice ay1 ps.length cy1] 30)).heap.size := by simp
      replace A0 := cellb r4 A0
      replace A1 := cellb r4 A1
      replace P0 := cellb r4 P0
      replace P1 := cellb r4 P1
      replace B0 := cellb r4 B0
      replace B1 := cellb r4 B1
      replace B2 := cellb r4 B2
      replace hxB := hxB.below r4 (by omega)
      replace hy1 := hy1.below r4 (by omega)
      have b4 : Below w.heap.size w (w3.alloc (.cells #[.int .i64 fb, .slice ay1 ps.length cy1] 30)) := b3.trans (r4.mono (by omega))
      clear r4 b3
      generalize (w3.alloc (.cells #[.int .i64 fb, .slice ay1 ps.length cy1] 30)) = w4 at *
      clear lt3_0 lt3_1 lt3_2
      have lt4_0 : w.heap.size < w4.heap.size := by omega
      have lt4_1 : w.heap.size + 1 < w4.heap.size := by omega
      have lt4_2 : FB < w4.heap.size := by omega
      have lt4_3 : w3.heap.size < w4.heap.size := by omega
      go_wp2_with fail
      go_cut [8] from 25 to 28 (fun s wx => CutP w4 wx code fbk xs s)
      case first =>
        have hyr := hy1.read
        refine wp_region_held_drew (S := (fun w' => w'.cell? ⟨w3.heap.size, 0, none⟩ = some (.int .i64 fb) ∧ w'.cell? ⟨w3.heap.size, 1, none⟩ = some (.slice ay1 ps.length cy1) ∧ w'.cell? ⟨w.heap.size + 1, 0, none⟩ = some (.int .i64 c) ∧ w'.cell? ⟨w.heap.size + 1, 1, none⟩ = some (.int .i64 g))) (by kernel_rfl) ?_ (fun hHeld => ?_)
        · (try dsimp only); exact ⟨X0, X1, P0, P1⟩
        replace X0 := cellb (Below.drew (Below.refl _ w4)) X0
        replace X1 := cellb (Below.drew (Below.refl _ w4)) X1
        replace P0 := cellb (Below.drew (Below.refl _ w4)) P0
        replace P1 := cellb (Below.drew (Below.refl _ w4)) P1
        replace hyr := hyr.below (Below.drew (Below.refl _ w4))
        have q : Below w4.heap.size w4 w4.drew := Below.drew (Below.refl _ _)
        generalize w4.drew = V0 at *
        refine wpAnyH_take (i := 0) (oi := ⟨_, _, _, _, _, _⟩) (v := ?_) rfl (by kernel_rfl) (by kernel_rfl) (by kernel_rfl) (fun _ _ _ h => h) (Or.inl ⟨by rfl, ?_⟩) hHeld ?_
        rotate_left
        · (intro w hSw; (try dsimp only at hSw); go_simp; try (with_reducible rfl))
        try simp only [Act.put, List.setIfInBounds_toArray, List.set_cons_zero, List.set_cons_succ]
        refine wpAnyH_take (i := 1) (oi := ⟨_, _, _, _, _, _⟩) (v := ?_) rfl (by kernel_rfl) (by kernel_rfl) (by kernel_rfl) (fun _ _ _ h => h) (Or.inl ⟨by rfl, ?_⟩) hHeld ?_
        rotate_left
        · (intro w hSw; (try dsimp only at hSw); go_simp; try (with_reducible rfl))
        try simp only [Act.put, List.setIfInBounds_toArray, List.set_cons_zero, List.set_cons_succ]
        have zq0 := q.size
        refine wpAnyH_ready (rs := [2, 4]) (by kernel_rfl) (by simp) ?_
        refine (AllReadyH.cons (o := ⟨_, _, _, _, _, _⟩) rfl (fun K hK => ?_) (AllReadyH.cons (o := ⟨_, _, _, _, _, _⟩) rfl (fun K hK => ?_) AllReadyH.nil))
        · skip
          go_simp
          go_at_call 11
          refine (toPair_calls c g _).mono ?_
          rintro e V1 ⟨rfl, hb⟩
          replace X0 := cellb hb X0
          replace X1 := cellb hb X1
          replace P0 := cellb hb P0
          replace P1 := cellb hb P1
          replace hyr := hyr.below hb
          replace q := q.trans (hb.mono q.size)
          have z1 := hb.size
          clear hb
          try go_wp2_with fail
          refine hK.out _ _ ?_ ?_
          · (try dsimp only); exact ⟨X0, X1, P0, P1⟩
          clear hHeld hK K
          intro hHeld
          try simp only [Act.put, List.setIfInBounds_toArray, List.set_cons_zero, List.set_cons_succ]
          have zq1 := q.size
          refine wpAnyH_ready (rs := [3, 4]) (by kernel_rfl) (by simp) ?_
          refine (AllReadyH.cons (o := ⟨_, _, _, _, _, _⟩) rfl (fun K hK => ?_) (AllReadyH.cons (o := ⟨_, _, _, _, _, _⟩) rfl (fun K hK => ?_) AllReadyH.nil))
          · skip
            go_simp
            go_at_call 12
            refine (implPutPair_calls fb ps c g _ _ hn hyr).mono ?_
            rintro e V2 ⟨x, rfl, hx, hb⟩
            rw [HC.out, HB.out]
            rw [HX.out] at hx
            obtain ⟨aG, cG, rfl, hx'⟩ := hx
            have hx : PairsAt V1.heap.size V2.heap.size V2 (.slice aG xs.length cG) xs := ⟨aG, cG, rfl, hx'⟩
            clear hx'
            replace X0 := cellb hb X0
            replace X1 := cellb hb X1
            replace P0 := cellb hb P0
            replace P1 := cellb hb P1
            replace hyr := hyr.below hb
            replace q := q.trans (hb.mono q.size)
            clear hyr
            have z2 := hb.size
            clear hb
            try go_wp2_with fail
            refine hK.out _ _ ?_ ?_
            · (try dsimp only); exact ⟨X0, X1, P0, P1⟩
            clear hHeld hK K
            intro hHeld
            try simp only [Act.put, List.setIfInBounds_toArray, List.set_cons_zero, List.set_cons_succ]
            have zq2 := q.size
            refine wpAnyH_ready (rs := [4]) (by kernel_rfl) (by simp) ?_
            refine (AllReadyH.cons (o := ⟨_, _, _, _, _, _⟩) rfl (fun K hK => ?_) AllReadyH.nil)
            go_simp
            have hb : Below V2.heap.size V2 (V2.alloc (.cells #[.int .i64 0, .int .i64 0, .slice none 0 0] 32)) := (Below.refl _ _).alloc (Nat.le_refl _) _
            replace X0 := cellb hb X0
            replace X1 := cellb hb X1
            replace P0 := cellb hb P0
            replace P1 := cellb hb P1
            replace hx := hx.below hb (Nat.le_refl _)
            replace q := q.trans (hb.mono q.size)
            have Z0 : (V2.alloc (.cells #[.int .i64 0, .int .i64 0, .slice none 0 0] 32)).cell? ⟨V2.heap.size, 0, none⟩ = some (.int .i64 0) := by simp
            have Y0 : (V2.alloc (.cells #[.int .i64 0, .int .i64 0, .slice none 0 0] 32)).frozen? ⟨V2.heap.size, 0, none⟩ = false := by simp
            have Z1 : (V2.alloc (.cells #[.int .i64 0, .int .i64 0, .slice none 0 0] 32)).cell? ⟨V2.heap.size, 1, none⟩ = some (.int .i64 0) := by simp
            have Y1 : (V2.alloc (.cells #[.int .i64 0, .int .i64 0, .slice none 0 0] 32)).frozen? ⟨V2.heap.size, 1, none⟩ = false := by simp
            have Z2 : (V2.alloc (.cells #[.int .i64 0, .int .i64 0, .slice none 0 0] 32)).cell? ⟨V2.heap.size, 2, none⟩ = some (.slice none 0 0) := by simp
            have Y2 : (V2.alloc (.cells #[.int .i64 0, .int .i64 0, .slice none 0 0] 32)).frozen? ⟨V2.heap.size, 2, none⟩ = false := by simp
            have z3 : V2.heap.size < (V2.alloc (.cells #[.int .i64 0, .int .i64 0, .slice none 0 0] 32)).heap.size := by simp
            clear hb
            generalize (V2.alloc (.cells #[.int .i64 0, .int .i64 0, .slice none 0 0] 32)) = V3 at *
            refine hK.out _ _ ?_ ?_
            · (try dsimp only); exact ⟨X0, X1, P0, P1⟩
            clear hHeld hK K
            intro hHeld
            try simp only [Act.put, List.setIfInBounds_toArray, List.set_cons_zero, List.set_cons_succ]
            have zq := q.size
            refine wpAnyH_ready (rs := [5]) (by kernel_rfl) (by simp) ?_
            refine (AllReadyH.cons (o := ⟨_, _, _, _, _, _⟩) rfl (fun K hK => ?_) AllReadyH.nil)
            go_simp
            refine hK.out _ _ ?_ ?_
            · (try dsimp only); exact ⟨set3_other X0 (by omega), set3_other X1 (by omega), set3_other P0 (by omega), set3_other P1 (by omega)⟩
            clear hHeld hK K
            intro hHeld
            try simp only [Act.put, List.setIfInBounds_toArray, List.set_cons_zero, List.set_cons_succ]
            refine wpAnyH_done (by kernel_rfl) ?_ _
            have hcutf := CutP.mk (code := code) (fbk := fbk) q (by omega) (by omega) (by omega) (by omega) (by omega) Z0 Z1 Z2 hx
            go_wp2
            go_meet
            exact hcutf
          · skip
            go_simp
            have hb : Below V1.heap.size V1 (V1.alloc (.cells #[.int .i64 0, .int .i64 0, .slice none 0 0] 32)) := (Below.refl _ _).alloc (Nat.le_refl _) _
            replace X0 := cellb hb X0
            replace X1 := cellb hb X1
            replace P0 := cellb hb P0
            replace P1 := cellb hb P1
            replace hyr := hyr.below hb
            replace q := q.trans (hb.mono q.size)
            have Z0 : (V1.alloc (.cells #[.int .i64 0, .int .i64 0, .slice none 0 0] 32)).cell? ⟨V1.heap.size, 0, none⟩ = some (.int .i64 0) := by simp
            have Y0 : (V1.alloc (.cells #[.int .i64 0, .int .i64 0, .slice none 0 0] 32)).frozen? ⟨V1.heap.size, 0, none⟩ = false := by simp
            have Z1 : (V1.alloc (.cells #[.int .i64 0, .int .i64 0, .slice none 0 0] 32)).cell? ⟨V1.heap.size, 1, none⟩ = some (.int .i64 0) := by simp
            have Y1 : (V1.alloc (.cells #[.int .i64 0, .int .i64 0, .slice none 0 0] 32)).frozen? ⟨V1.heap.size, 1, none⟩ = false := by simp
            have Z2 : (V1.alloc (.cells #[.int .i64 0, .int .i64 0, .slice none 0 0] 32)).cell? ⟨V1.heap.size, 2, none⟩ = some (.slice none 0 0) := by simp
            have Y2 : (V1.alloc (.cells #[.int .i64 0, .int .i64 0, .slice none 0 0] 32)).frozen? ⟨V1.heap.size, 2, none⟩ = false := by simp
            have z2 : V1.heap.size < (V1.alloc (.cells #[.int .i64 0, .int .i64 0, .slice none 0 0] 32)).heap.size := by simp
            clear hb
            generalize (V1.alloc (.cells #[.int .i64 0, .int .i64 0, .slice none 0 0] 32)) = V2 at *
            refine hK.out _ _ ?_ ?_
            · (try dsimp only); exact ⟨X0, X1, P0, P1⟩
            clear hHeld hK K
            intro hHeld
            try simp only [Act.put, List.setIfInBounds_toArray, List.set_cons_zero, List.set_cons_succ]
            have zq2 := q.size
            refine wpAnyH_ready (rs := [3]) (by kernel_rfl) (by simp) ?_
            refine (AllReadyH.cons (o := ⟨_, _, _, _, _, _⟩) rfl (fun K hK => ?_) AllReadyH.nil)
            go_simp
            go_at_call 12
            refine (implPutPair_calls fb ps c g _ _ hn hyr).mono ?_
            rintro e V3 ⟨x, rfl, hx, hb⟩
            rw [HC.out, HB.out]
            rw [HX.out] at hx
            obtain ⟨aG, cG, rfl, hx'⟩ := hx
            have hx : PairsAt V2.heap.size V3.heap.size V3 (.slice aG xs.length cG) xs := ⟨aG, cG, rfl, hx'⟩
            clear hx'
            replace X0 := cellb hb X0
            replace X1 := cellb hb X1
            replace P0 := cellb hb P0
            replace P1 := cellb hb P1
            replace hyr := hyr.below hb
            replace Z0 := cellb hb Z0
            replace Z1 := cellb hb Z1
            replace Z2 := cellb hb Z2
            have Q0 := (hb.frozen (p := ⟨V1.heap.size, 0, none⟩) (by simp; omega)).trans Y0
            have Q1 := (hb.frozen (p := ⟨V1.heap.size, 1, none⟩) (by simp; omega)).trans Y1
            have Q2 := (hb.frozen (p := ⟨V1.heap.size, 2, none⟩) (by simp; omega)).trans Y2
            clear Y0 Y1 Y2
            have Y0 := Q0
            have Y1 := Q1
            have Y2 := Q2
            clear Q0 Q1 Q2
            replace q := q.trans (hb.mono q.size)
            clear hyr
            have z3 := hb.size
            clear hb
            try go_wp2_with fail
            refine hK.out _ _ ?_ ?_
            · (try dsimp only); exact ⟨X0, X1, P0, P1⟩
            clear hHeld hK K
            intro hHeld
            try simp only [Act.put, List.setIfInBounds_toArray, List.set_cons_zero, List.set_cons_succ]
            have zq := q.size
            refine wpAnyH_ready (rs := [5]) (by kernel_rfl) (by simp) ?_
            refine (AllReadyH.cons (o := ⟨_, _, _, _, _, _⟩) rfl (fun K hK => ?_) AllReadyH.nil)
            go_simp
            refine hK.out _ _ ?_ ?_
            · (try dsimp only); exact ⟨set3_other X0 (by omega), set3_other X1 (by omega), set3_other P0 (by omega), set3_other P1 (by omega)⟩
            clear hHeld hK K
            intro hHeld
            try simp only [Act.put, List.setIfInBounds_toArray, List.set_cons_zero, List.set_cons_succ]
            refine wpAnyH_done (by kernel_rfl) ?_ _
            have hcutf := CutP.mk (code := code) (fbk := fbk) q (by omega) (by omega) (by omega) (by omega) (by omega) Z0 Z1 Z2 hx
            go_wp2
            go_meet
            exact hcutf
        · skip
          go_simp
          have hb : Below V0.heap.size V0 (V0.alloc (.cells #[.int .i64 0, .int .i64 0, .slice none 0 0] 32)) := (Below.refl _ _).alloc (Nat.le_refl _) _
          replace X0 := cellb hb X0
          replace X1 := cellb hb X1
          replace P0 := cellb hb P0
          replace P1 := cellb hb P1
          replace hyr := hyr.below hb
          replace q := q.trans (hb.mono q.size)
          have Z0 : (V0.alloc (.cells #[.int .i64 0, .int .i64 0, .slice none 0 0] 32)).cell? ⟨V0.heap.size, 0, none⟩ = some (.int .i64 0) := by simp
          have Y0 : (V0.alloc (.cells #[.int .i64 0, .int .i64 0, .slice none 0 0] 32)).frozen? ⟨V0.heap.size, 0, none⟩ = false := by simp
          have Z1 : (V0.alloc (.cells #[.int .i64 0, .int .i64 0, .slice none 0 0] 32)).cell? ⟨V0.heap.size, 1, none⟩ = some (.int .i64 0) := by simp
          have Y1 : (V0.alloc (.cells #[.int .i64 0, .int .i64 0, .slice none 0 0] 32)).frozen? ⟨V0.heap.size, 1, none⟩ = false := by simp
          have Z2 : (V0.alloc (.cells #[.int .i64 0, .int .i64 0, .slice none 0 0] 32)).cell? ⟨V0.heap.size, 2, none⟩ = some (.slice none 0 0) := by simp
          have Y2 : (V0.alloc (.cells #[.int .i64 0, .int .i64 0, .slice none 0 0] 32)).frozen? ⟨V0.heap.size, 2, none⟩ = false := by simp
          have z1 : V0.heap.size < (V0.alloc (.cells #[.int .i64 0, .int .i64 0, .slice none 0 0] 32)).heap.size := by simp
          clear hb
          generalize (V0.alloc (.cells #[.int .i64 0, .int .i64 0, .slice none 0 0] 32)) = V1 at *
          refine hK.out _ _ ?_ ?_
          · (try dsimp only); exact ⟨X0, X1, P0, P1⟩
          clear hHeld hK K
          intro hHeld
          try simp only [Act.put, List.setIfInBounds_toArray, List.set_cons_zero, List.set_cons_succ]
          have zq1 := q.size
          refine wpAnyH_ready (rs := [2]) (by kernel_rfl) (by simp) ?_
          refine (AllReadyH.cons (o := ⟨_, _, _, _, _, _⟩) rfl (fun K hK => ?_) AllReadyH.nil)
          go_simp
          go_at_call 11
          refine (toPair_calls c g _).mono ?_
          rintro e V2 ⟨rfl, hb⟩
          replace X0 := cellb hb X0
          replace X1 := cellb hb X1
          replace P0 := cellb hb P0
          replace P1 := cellb hb P1
          replace hyr := hyr.below hb
          replace Z0 := cellb hb Z0
          replace Z1 := cellb hb Z1
          replace Z2 := cellb hb Z2
          have Q0 := (hb.frozen (p := ⟨V0.heap.size, 0, none⟩) (by simp; omega)).trans Y0
          have Q1 := (hb.frozen (p := ⟨V0.heap.size, 1, none⟩) (by simp; omega)).trans Y1
          have Q2 := (hb.frozen (p := ⟨V0.heap.size, 2, none⟩) (by simp; omega)).trans Y2
          clear Y0 Y1 Y2
          have Y0 := Q0
          have Y1 := Q1
          have Y2 := Q2
          clear Q0 Q1 Q2
          replace q := q.trans (hb.mono q.size)
          have z2 := hb.size
          clear hb
          try go_wp2_with fail
          refine hK.out _ _ ?_ ?_
          · (try dsimp only); exact ⟨X0, X1, P0, P1⟩
          clear hHeld hK K
          intro hHeld
          try simp only [Act.put, List.setIfInBounds_toArray, List.set_cons_zero, List.set_cons_succ]
          have zq2 := q.size
          refine wpAnyH_ready (rs := [3]) (by kernel_rfl) (by simp) ?_
          refine (AllReadyH.cons (o := ⟨_, _, _, _, _, _⟩) rfl (fun K hK => ?_) AllReadyH.nil)
          go_simp
          go_at_call 12
          refine (implPutPair_calls fb ps c g _ _ hn hyr).mono ?_
          rintro e V3 ⟨x, rfl, hx, hb⟩
          rw [HC.out, HB.out]
          rw [HX.out] at hx
          obtain ⟨aG, cG, rfl, hx'⟩ := hx
          have hx : PairsAt V2.heap.size V3.heap.size V3 (.slice aG xs.length cG) xs := ⟨aG, cG, rfl, hx'⟩
          clear hx'
          replace X0 := cellb hb X0
          replace X1 := cellb hb X1
          replace P0 := cellb hb P0
          replace P1 := cellb hb P1
          replace hyr := hyr.below hb
          replace Z0 := cellb hb Z0
          replace Z1 := cellb hb Z1
          replace Z2 := cellb hb Z2
          have Q0 := (hb.frozen (p := ⟨V0.heap.size, 0, none⟩) (by simp; omega)).trans Y0
          have Q1 := (hb.frozen (p := ⟨V0.heap.size, 1, none⟩) (by simp; omega)).trans Y1
          have Q2 := (hb.frozen (p := ⟨V0.heap.size, 2, none⟩) (by simp; omega)).trans Y2
          clear Y0 Y1 Y2
          have Y0 := Q0
          have Y1 := Q1
          have Y2 := Q2
          clear Q0 Q1 Q2
          replace q := q.trans (hb.mono q.size)
          clear hyr
          have z3 := hb.size
          clear hb
          try go_wp2_with fail
          refine hK.out _ _ ?_ ?_
          · (try dsimp only); exact ⟨X0, X1, P0, P1⟩
          clear hHeld hK K
          intro hHeld
          try simp only [Act.put, List.setIfInBounds_toArray, List.set_cons_zero, List.set_cons_succ]
          have zq := q.size
          refine wpAnyH_ready (rs := [5]) (by kernel_rfl) (by simp) ?_
          refine (AllReadyH.cons (o := ⟨_, _, _, _, _, _⟩) rfl (fun K hK => ?_) AllReadyH.nil)
          go_simp
          refine hK.out _ _ ?_ ?_
          · (try dsimp only); exact ⟨set3_other X0 (by omega), set3_other X1 (by omega), set3_other P0 (by omega), set3_other P1 (by omega)⟩
          clear hHeld hK K
          intro hHeld
          try simp only [Act.put, List.setIfInBounds_toArray, List.set_cons_zero, List.set_cons_succ]
          refine wpAnyH_done (by kernel_rfl) ?_ _
          have hcutf := CutP.mk (code := code) (fbk := fbk) q (by omega) (by omega) (by omega) (by omega) (by omega) Z0 Z1 Z2 hx
          go_wp2
          go_meet
          exact hcutf
      case rest =>
        obtain ⟨FG, loG, hiG, aG, cG, rfl, r5, hFG, hCG, hxG⟩ := hcut
        rename World => w5
        obtain ⟨G0, G1, G2⟩ := hCG
        have z5 : w4.heap.size ≤ w5.heap.size := r5.size
        replace A0 := cellb r5 A0
        replace A1 := cellb r5 A1
        replace P0 := cellb r5 P0
        replace P1 := cellb r5 P1
        replace B0 := cellb r5 B0
        replace B1 := cellb r5 B1
        replace B2 := cellb r5 B2
        replace X0 := cellb r5 X0
        replace X1 := cellb r5 X1
        replace hxB := hxB.below r5 (by omega)
        replace hy1 := hy1.below r5 (by omega)
        have b5 : Below w.heap.size w w5 := b4.trans (r5.mono (by omega))
        clear r5 b4
        clear lt4_0 lt4_1 lt4_2 lt4_3
        have lt5_0 : w.heap.size < w5.heap.size := by omega
        have lt5_1 : w.heap.size + 1 < w5.heap.size := by omega
        have lt5_2 : FB < w5.heap.size := by omega
        have lt5_3 : w3.heap.size < w5.heap.size := by omega
        have lt5_4 : FG < w5.heap.size := by omega
        go_wp2_with fail
        refine (eqFontResult_calls code fbk xs _ _ _ (by omega) (hxG.read) (hxB.read)).mono ?_
        rintro e w6 ⟨rfl, hb6⟩
        have z6 : w5.heap.size ≤ w6.heap.size := hb6.size
        have r6 := hb6
        clear hb6
        replace A0 := cellb r6 A0
        replace A1 := cellb r6 A1
        replace P0 := cellb r6 P0
        replace P1 := cellb r6 P1
        replace B0 := cellb r6 B0
        replace B1 := cellb r6 B1
        replace B2 := cellb r6 B2
        replace X0 := cellb r6 X0
        replace X1 := cellb r6 X1
        replace G0 := cellb r6 G0
        replace G1 := cellb r6 G1
        replace G2 := cellb r6 G2
        replace hxB := hxB.below r6 (by omega)
        replace hy1 := hy1.below r6 (by omega)
        replace hxG := hxG.below r6 (by omega)
        have b6 : Below w.heap.size w w6 := b5.trans (r6.mono (by omega))
        clear r6 b5
        clear lt5_0 lt5_1 lt5_2 lt5_3 lt5_4
        have lt6_0 : w.heap.size < w6.heap.size := by omega
        have lt6_1 : w.heap.size + 1 < w6.heap.size := by omega
        have lt6_2 : FB < w6.heap.size := by omega
        have lt6_3 : w3.heap.size < w6.heap.size := by omega
        have lt6_4 : FG < w6.heap.size := by omega
        go_wp2_with fail
        have hyr7 := hy1.read
        have hvr7 := (hv.below b6)
        refine wp_region_held_drew (S := (fun w' => Below w6.heap.size w6 w' ∧ w'.cell? ⟨w.heap.size, 0, none⟩ = some (.int .i64 fb) ∧ w'.cell? ⟨w.heap.size, 1, none⟩ = some (.slice av ps.length cv) ∧ w'.cell? ⟨w3.heap.size, 0, none⟩ = some (.int .i64 fb) ∧ w'.cell? ⟨w3.heap.size, 1, none⟩ = some (.slice ay1 ps.length cy1) ∧ PRead w' (.slice av ps.length cv) ps ∧ PRead w' (.slice ay1 ps.length cy1) ps)) (by kernel_rfl) ?_ (fun hHeld => ?_)
        · (try dsimp only); exact ⟨Below.drew (Below.refl _ w6), A0, A1, X0, X1, hvr7, hyr7⟩
        refine wpAnyH_take (i := 0) (oi := ⟨_, _, _, _, _, _⟩) (v := ?_) rfl (by kernel_rfl) (by kernel_rfl) (by kernel_rfl) (fun _ _ _ h => h) (Or.inl ⟨by rfl, ?_⟩) hHeld ?_
        rotate_left
        · (intro w hSw; (try dsimp only at hSw); go_simp; try (with_reducible rfl))
        try simp only [Act.put, List.setIfInBounds_toArray, List.set_cons_zero, List.set_cons_succ]
        refine wpAnyH_take (i := 1) (oi := ⟨_, _, _, _, _, _⟩) (v := ?_) rfl (by kernel_rfl) (by kernel_rfl) (by kernel_rfl) (fun _ _ _ h => h) (Or.inl ⟨by rfl, ?_⟩) hHeld ?_
        rotate_left
        · (intro w hSw; (try dsimp only at hSw); go_simp; try (with_reducible rfl))
        try simp only [Act.put, List.setIfInBounds_toArray, List.set_cons_zero, List.set_cons_succ]
        refine wpAnyH_ready (rs := [2]) (by kernel_rfl) (by simp) ?_
        refine AllReadyH.cons (o := ⟨_, _, _, _, _, _⟩) rfl (fun K hK => ?_) AllReadyH.nil
        go_simp
        go_at_call 10
        refine (toFont_calls fb ps _ _ hn hHeld.2.2.2.2.2.1).mono ?_
        rintro e v7 ⟨y7, rfl, hy7, hbv7⟩
        have hry7 := hy7.read
        obtain ⟨ay7, cy7, rfl, hyy7⟩ := hy7
        clear hyy7
        try go_wp2_with fail
        refine hK.out _ _ ?_ ?_
        · (try dsimp only); exact keepF hHeld hbv7
        clear hHeld hK K
        intro hHeld
        try simp only [Act.put, List.setIfInBounds_toArray, List.set_cons_zero, List.set_cons_succ]
        refine wpAnyH_ready (rs := [3]) (by kernel_rfl) (by simp) ?_
        refine AllReadyH.cons (o := ⟨_, _, _, _, _, _⟩) rfl (fun K hK => ?_) AllReadyH.nil
        go_simp
        go_at_call 14
        refine (eqFont_calls fb ps _ _ _ (by omega) hHeld.2.2.2.2.2.2 hry7).mono ?_
        rintro e w7 ⟨rfl, hbu7⟩
        try go_wp2_with fail
        refine hK.out _ _ ?_ ?_
        · (try dsimp only); exact keepF hHeld hbu7
        clear hHeld hK K
        intro hHeld
        try simp only [Act.put, List.setIfInBounds_toArray, List.set_cons_zero, List.set_cons_succ]
        refine wpAnyH_take (i := 4) (oi := ⟨_, _, _, _, _, _⟩) (v := ?_) rfl (by kernel_rfl) (by kernel_rfl) (by kernel_rfl) (fun _ _ _ h => h) (Or.inl ⟨by rfl, ?_⟩) hHeld ?_
        rotate_left
        · (intro w hSw; (try dsimp only at hSw); go_simp; try (with_reducible rfl))
        try simp only [Act.put, List.setIfInBounds_toArray, List.set_cons_zero, List.set_cons_succ]
        refine wpAnyH_done (by kernel_rfl) ?_ _
        have r7 := hHeld.1
        clear hHeld hry7 hbv7 hbu7 hyr7 hvr7
        have z7 : w6.heap.size ≤ w7.heap.size := r7.size
        replace A0 := cellb r7 A0
        replace A1 := cellb r7 A1
        replace P0 := cellb r7 P0
        replace P1 := cellb r7 P1
        replace B0 := cellb r7 B0
        replace B1 := cellb r7 B1
        replace B2 := cellb r7 B2
        replace X0 := cellb r7 X0
        replace X1 := cellb r7 X1
        replace G0 := cellb r7 G0
        replace G1 := cellb r7 G1
        replace G2 := cellb r7 G2
        replace hxB := hxB.below r7 (by omega)
        replace hy1 := hy1.below r7 (by omega)
        replace hxG := hxG.below r7 (by omega)
        have b7 : Below w.heap.size w w7 := b6.trans (r7.mono (by omega))
        clear r7 b6
        clear lt6_0 lt6_1 lt6_2 lt6_3 lt6_4
        have lt7_0 : w.heap.size < w7.heap.size := by omega
        have lt7_1 : w.heap.size + 1 < w7.heap.size := by omega
        have lt7_2 : FB < w7.heap.size := by omega
        have lt7_3 : w3.heap.size < w7.heap.size := by omega
        have lt7_4 : FG < w7.heap.size := by omega
        go_wp2_with fail
        refine (markFont_calls fb ps 1 w2.heap.size w3.heap.size _ _ (by omega) (by omega) (by omega) (by omega) hy1).mono ?_
        rintro e w8 ⟨rfl, hm0, hb8⟩
        have z8 : w7.heap.size ≤ w8.heap.size := hb8.size
        replace A0 := hb8.cell (by omega) (by omega) A0
        replace A1 := hb8.cell (by omega) (by omega) A1
        replace P0 := hb8.cell (by omega) (by omega) P0
        replace P1 := hb8.cell (by omega) (by omega) P1
        replace B0 := hb8.cell (by omega) (by omega) B0
        replace B1 := hb8.cell (by omega) (by omega) B1
        replace B2 := hb8.cell (by omega) (by omega) B2
        replace X0 := hb8.cell (by omega) (by omega) X0
        replace X1 := hb8.cell (by omega) (by omega) X1
        replace G0 := hb8.cell (by omega) (by omega) G0
        replace G1 := hb8.cell (by omega) (by omega) G1
        replace G2 := hb8.cell (by omega) (by omega) G2
        replace hxB := hxB.within hb8 (by omega) (by omega)
        replace hxG := hxG.within hb8 (by omega) (by omega)
        have b8 : Below w.heap.size w w8 := b7.trans (hb8.below (by omega) (by omega))
        clear hb8 b7
        clear lt7_0 lt7_1 lt7_2 lt7_3 lt7_4
        have lt8_0 : w.heap.size < w8.heap.size := by omega
        have lt8_1 : w.heap.size + 1 < w8.heap.size := by omega
        have lt8_2 : FB < w8.heap.size := by omega
        have lt8_3 : w3.heap.size < w8.heap.size := by omega
        have lt8_4 : FG < w8.heap.size := by omega
        clear hy1 hm0
        have hk0 : ¬ ((1 : Int) + 2 * (ps.length : Int) < 0) := by omega
        go_wp2_with fail
        refine (eqFontResult_calls code fbk xs _ _ _ (by omega) hxG.read hxB.read).mono ?_
        rintro e w9 ⟨rfl, hb9⟩
        have z9 : w8.heap.size ≤ w9.heap.size := hb9.size
        have r9 := hb9
        clear hb9
        replace A0 := cellb r9 A0
        replace A1 := cellb r9 A1
        replace P0 := cellb r9 P0
        replace P1 := cellb r9 P1
        replace B0 := cellb r9 B0
        replace B1 := cellb r9 B1
        replace B2 := cellb r9 B2
        replace X0 := cellb r9 X0
        replace X1 := cellb r9 X1
        replace G0 := cellb r9 G0
        replace G1 := cellb r9 G1
        replace G2 := cellb r9 G2
        replace hxB := hxB.below r9 (by omega)
        replace hxG := hxG.below r9 (by omega)
        have b9 : Below w.heap.size w w9 := b8.trans (r9.mono (by omega))
        clear r9 b8
        clear lt8_0 lt8_1 lt8_2 lt8_3 lt8_4
        have lt9_0 : w.heap.size < w9.heap.size := by omega
        have lt9_1 : w.heap.size + 1 < w9.heap.size := by omega
        have lt9_2 : FB < w9.heap.size := by omega
        have lt9_3 : w3.heap.size < w9.heap.size := by omega
        have lt9_4 : FG < w9.heap.size := by omega
        go_wp2_with fail
        refine (markFontResult_calls code fbk xs 1 loG hiG _ _ (by omega) (by omega) (by omega) (by omega) hxG).mono ?_
        rintro e w10 ⟨rfl, hm1, hb10⟩
        have z10 : w9.heap.size ≤ w10.heap.size := hb10.size
        replace A0 := hb10.cell (by omega) (by omega) A0
        replace A1 := hb10.cell (by omega) (by omega) A1
        replace P0 := hb10.cell (by omega) (by omega) P0
        replace P1 := hb10.cell (by omega) (by omega) P1
        replace B0 := hb10.cell (by omega) (by omega) B0
        replace B1 := hb10.cell (by omega) (by omega) B1
        replace B2 := hb10.cell (by omega) (by omega) B2
        replace X0 := hb10.cell (by omega) (by omega) X0
        replace X1 := hb10.cell (by omega) (by omega) X1
        replace G0 := hb10.cell (by omega) (by omega) G0
        replace G1 := hb10.cell (by omega) (by omega) G1
        replace G2 := hb10.cell (by omega) (by omega) G2
        replace hxB := hxB.within hb10 (by omega) (by omega)
        have b10 : Below w.heap.size w w10 := b9.trans (hb10.below (by omega) (by omega))
        clear hb10 b9
        clear lt9_0 lt9_1 lt9_2 lt9_3 lt9_4
        have lt10_0 : w.heap.size < w10.heap.size := by omega
        have lt10_1 : w.heap.size + 1 < w10.heap.size := by omega
        have lt10_2 : FB < w10.heap.size := by omega
        have lt10_3 : w3.heap.size < w10.heap.size := by omega
        have lt10_4 : FG < w10.heap.size := by omega
        clear hxG
        go_wp2_with fail
        refine (heldFontResult_calls code fbk (marksP 1 xs.length) 1 (.slice aG xs.length cG) _ (by rw [marksP_length]; omega) (by omega) (by omega) hm1.read (marksP_at 1 _)).mono ?_
        rintro e w11 ⟨rfl, hb11⟩
        have z11 : w10.heap.size ≤ w11.heap.size := hb11.size
        have r11 := hb11
        clear hb11
        replace A0 := cellb r11 A0
        replace A1 := cellb r11 A1
        replace P0 := cellb r11 P0
        replace P1 := cellb r11 P1
        replace B0 := cellb r11 B0
        replace B1 := cellb r11 B1
        replace B2 := cellb r11 B2
        replace X0 := cellb r11 X0
        replace X1 := cellb r11 X1
        replace G0 := cellb r11 G0
        replace G1 := cellb r11 G1
        replace G2 := cellb r11 G2
        replace hxB := hxB.below r11 (by omega)
        replace hm1 := hm1.below r11 (by omega)
        have b11 : Below w.heap.size w w11 := b10.trans (r11.mono (by omega))
        clear r11 b10
        clear lt10_0 lt10_1 lt10_2 lt10_3 lt10_4
        have lt11_0 : w.heap.size < w11.heap.size := by omega
        have lt11_1 : w.heap.size + 1 < w11.heap.size := by omega
        have lt11_2 : FB < w11.heap.size := by omega
        have lt11_3 : w3.heap.size < w11.heap.size := by omega
        have lt11_4 : FG < w11.heap.size := by omega
        rw [marksP_length]
        have hk1 : ¬ ((1 : Int) + 2 * (xs.length : Int) < 0) := by omega
        have hk2 : (((1 : Int) + 2 * (xs.length : Int)) != (1 + 2 * (xs.length : Int))) = false := by simp
        go_wp2_with fail
        go_cut [12] from 60 to 64 (fun s wx => CutP w11 wx code fbk xs s)
        case first =>
          have hvr := hv.below b11
          refine wp_region_held_drew (S := (fun w' => w'.cell? ⟨w.heap.size, 0, none⟩ = some (.int .i64 fb) ∧ w'.cell? ⟨w.heap.size, 1, none⟩ = some (.slice av ps.length cv) ∧ w'.cell? ⟨w.heap.size + 1, 0, none⟩ = some (.int .i64 c) ∧ w'.cell? ⟨w.heap.size + 1, 1, none⟩ = some (.int .i64 g))) (by kernel_rfl) ?_ (fun hHeld => ?_)
          · (try dsimp only); exact ⟨A0, A1, P0, P1⟩
          replace A0 := cellb (Below.drew (Below.refl _ w11)) A0
          replace A1 := cellb (Below.drew (Below.refl _ w11)) A1
          replace P0 := cellb (Below.drew (Below.refl _ w11)) P0
          replace P1 := cellb (Below.drew (Below.refl _ w11)) P1
          replace hvr := hvr.below (Below.drew (Below.refl _ w11))
          have q : Below w11.heap.size w11 w11.drew := Below.drew (Below.refl _ _)
          generalize w11.drew = V0 at *
          refine wpAnyH_take (i := 0) (oi := ⟨_, _, _, _, _, _⟩) (v := ?_) rfl (by kernel_rfl) (by kernel_rfl) (by kernel_rfl) (fun _ _ _ h => h) (Or.inl ⟨by rfl, ?_⟩) hHeld ?_
          rotate_left
          · (intro w hSw; (try dsimp only at hSw); go_simp; try (with_reducible rfl))
          try simp only [Act.put, List.setIfInBounds_toArray, List.set_cons_zero, List.set_cons_succ]
          refine wpAnyH_take (i := 2) (oi := ⟨_, _, _, _, _, _⟩) (v := ?_) rfl (by kernel_rfl) (by kernel_rfl) (by kernel_rfl) (fun _ _ _ h => h) (Or.inl ⟨by rfl, ?_⟩) hHeld ?_
          rotate_left
          · (intro w hSw; (try dsimp only at hSw); go_simp; try (with_reducible rfl))
          try simp only [Act.put, List.setIfInBounds_toArray, List.set_cons_zero, List.set_cons_succ]
          have zq0 := q.size
          refine wpAnyH_ready (rs := [1, 5]) (by kernel_rfl) (by simp) ?_
          refine (AllReadyH.cons (o := ⟨_, _, _, _, _, _⟩) rfl (fun K hK => ?_) (AllReadyH.cons (o := ⟨_, _, _, _, _, _⟩) rfl (fun K hK => ?_) AllReadyH.nil))
          · skip
            go_simp
            go_at_call 10
            refine (toFont_calls fb ps _ _ hn hvr).mono ?_
            rintro e V1 ⟨y, rfl, hy, hb⟩
            replace A0 := cellb hb A0
            replace A1 := cellb hb A1
            replace P0 := cellb hb P0
            replace P1 := cellb hb P1
            replace hvr := hvr.below hb
            replace q := q.trans (hb.mono q.size)
            have hyr := hy.read
            obtain ⟨ayr, cyr, rfl, hy'⟩ := hy
            clear hy' hvr
            have z1 := hb.size
            clear hb
            try go_wp2_with fail
            refine hK.out _ _ ?_ ?_
            · (try dsimp only); exact ⟨A0, A1, P0, P1⟩
            clear hHeld hK K
            intro hHeld
            try simp only [Act.put, List.setIfInBounds_toArray, List.set_cons_zero, List.set_cons_succ]
            have zq1 := q.size
            refine wpAnyH_ready (rs := [3, 5]) (by kernel_rfl) (by simp) ?_
            refine (AllReadyH.cons (o := ⟨_, _, _, _, _, _⟩) rfl (fun K hK => ?_) (AllReadyH.cons (o := ⟨_, _, _, _, _, _⟩) rfl (fun K hK => ?_) AllReadyH.nil))
            · skip
              go_simp
              go_at_call 11
              refine (toPair_calls c g _).mono ?_
              rintro e V2 ⟨rfl, hb⟩
              replace A0 := cellb hb A0
              replace A1 := cellb hb A1
              replace P0 := cellb hb P0
              replace P1 := cellb hb P1
              replace hyr := hyr.below hb
              replace q := q.trans (hb.mono q.size)
              have z2 := hb.size
              clear hb
              try go_wp2_with fail
              refine hK.out _ _ ?_ ?_
              · (try dsimp only); exact ⟨A0, A1, P0, P1⟩
              clear hHeld hK K
              intro hHeld
              try simp only [Act.put, List.setIfInBounds_toArray, List.set_cons_zero, List.set_cons_succ]
              have zq2 := q.size
              refine wpAnyH_ready (rs := [4, 5]) (by kernel_rfl) (by simp) ?_
              refine (AllReadyH.cons (o := ⟨_, _, _, _, _, _⟩) rfl (fun K hK => ?_) (AllReadyH.cons (o := ⟨_, _, _, _, _, _⟩) rfl (fun K hK => ?_) AllReadyH.nil))
              · skip
                go_simp
                go_at_call 12
                refine (implPutPair_calls fb ps c g _ _ hn hyr).mono ?_
                rintro e V3 ⟨x, rfl, hx, hb⟩
                rw [HC.out, HB.out]
                rw [HX.out] at hx
                obtain ⟨aH, cH, rfl, hx'⟩ := hx
                have hx : PairsAt V2.heap.size V3.heap.size V3 (.slice aH xs.length cH) xs := ⟨aH, cH, rfl, hx'⟩
                clear hx'
                replace A0 := cellb hb A0
                replace A1 := cellb hb A1
                replace P0 := cellb hb P0
                replace P1 := cellb hb P1
                replace hyr := hyr.below hb
                replace q := q.trans (hb.mono q.size)
                clear hyr
                have z3 := hb.size
                clear hb
                try go_wp2_with fail
                refine hK.out _ _ ?_ ?_
                · (try dsimp only); exact ⟨A0, A1, P0, P1⟩
                clear hHeld hK K
                intro hHeld
                try simp only [Act.put, List.setIfInBounds_toArray, List.set_cons_zero, List.set_cons_succ]
                have zq3 := q.size
                refine wpAnyH_ready (rs := [5]) (by kernel_rfl) (by simp) ?_
                refine (AllReadyH.cons (o := ⟨_, _, _, _, _, _⟩) rfl (fun K hK => ?_) AllReadyH.nil)
                go_simp
                have hb : Below V3.heap.size V3 (V3.alloc (.cells #[.int .i64 0, .int .i64 0, .slice none 0 0] 32)) := (Below.refl _ _).alloc (Nat.le_refl _) _
                replace A0 := cellb hb A0
                replace A1 := cellb hb A1
                replace P0 := cellb hb P0
                replace P1 := cellb hb P1
                replace hx := hx.below hb (Nat.le_refl _)
                replace q := q.trans (hb.mono q.size)
                have Z0 : (V3.alloc (.cells #[.int .i64 0, .int .i64 0, .slice none 0 0] 32)).cell? ⟨V3.heap.size, 0, none⟩ = some (.int .i64 0) := by simp
                have Y0 : (V3.alloc (.cells #[.int .i64 0, .int .i64 0, .slice none 0 0] 32)).frozen? ⟨V3.heap.size, 0, none⟩ = false := by simp
                have Z1 : (V3.alloc (.cells #[.int .i64 0, .int .i64 0, .slice none 0 0] 32)).cell? ⟨V3.heap.size, 1, none⟩ = some (.int .i64 0) := by simp
                have Y1 : (V3.alloc (.cells #[.int .i64 0, .int .i64 0, .slice none 0 0] 32)).frozen? ⟨V3.heap.size, 1, none⟩ = false := by simp
                have Z2 : (V3.alloc (.cells #[.int .i64 0, .int .i64 0, .slice none 0 0] 32)).cell? ⟨V3.heap.size, 2, none⟩ = some (.slice none 0 0) := by simp
                have Y2 : (V3.alloc (.cells #[.int .i64 0, .int .i64 0, .slice none 0 0] 32)).frozen? ⟨V3.heap.size, 2, none⟩ = false := by simp
                have z4 : V3.heap.size < (V3.alloc (.cells #[.int .i64 0, .int .i64 0, .slice none 0 0] 32)).heap.size := by simp
                clear hb
                generalize (V3.alloc (.cells #[.int .i64 0, .int .i64 0, .slice none 0 0] 32)) = V4 at *
                refine hK.out _ _ ?_ ?_
                · (try dsimp only); exact ⟨A0, A1, P0, P1⟩
                clear hHeld hK K
                intro hHeld
                try simp only [Act.put, List.setIfInBounds_toArray, List.set_cons_zero, List.set_cons_succ]
                have zq := q.size
                refine wpAnyH_ready (rs := [6]) (by kernel_rfl) (by simp) ?_
                refine (AllReadyH.cons (o := ⟨_, _, _, _, _, _⟩) rfl (fun K hK => ?_) AllReadyH.nil)
                go_simp
                refine hK.out _ _ ?_ ?_
                · (try dsimp only); exact ⟨set3_other A0 (by omega), set3_other A1 (by omega), set3_other P0 (by omega), set3_other P1 (by omega)⟩
                clear hHeld hK K
                intro hHeld
                try simp only [Act.put, List.setIfInBounds_toArray, List.set_cons_zero, List.set_cons_succ]
                refine wpAnyH_done (by kernel_rfl) ?_ _
                have hcutf := CutP.mk (code := code) (fbk := fbk) q (by omega) (by omega) (by omega) (by omega) (by omega) Z0 Z1 Z2 hx
                go_wp2
                go_meet
                exact hcutf
              · skip
                go_simp
                have hb : Below V2.heap.size V2 (V2.alloc (.cells #[.int .i64 0, .int .i64 0, .slice none 0 0] 32)) := (Below.refl _ _).alloc (Nat.le_refl _) _
                replace A0 := cellb hb A0
                replace A1 := cellb hb A1
                replace P0 := cellb hb P0
                replace P1 := cellb hb P1
                replace hyr := hyr.below hb
                replace q := q.trans (hb.mono q.size)
                have Z0 : (V2.alloc (.cells #[.int .i64 0, .int .i64 0, .slice none 0 0] 32)).cell? ⟨V2.heap.size, 0, none⟩ = some (.int .i64 0) := by simp
                have Y0 : (V2.alloc (.cells #[.int .i64 0, .int .i64 0, .slice none 0 0] 32)).frozen? ⟨V2.heap.size, 0, none⟩ = false := by simp
                have Z1 : (V2.alloc (.cells #[.int .i64 0, .int .i64 0, .slice none 0 0] 32)).cell? ⟨V2.heap.size, 1, none⟩ = some (.int .i64 0) := by simp
                have Y1 : (V2.alloc (.cells #[.int .i64 0, .int .i64 0, .slice none 0 0] 32)).frozen? ⟨V2.heap.size, 1, none⟩ = false := by simp
                have Z2 : (V2.alloc (.cells #[.int .i64 0, .int .i64 0, .slice none 0 0] 32)).cell? ⟨V2.heap.size, 2, none⟩ = some (.slice none 0 0) := by simp
                have Y2 : (V2.alloc (.cells #[.int .i64 0, .int .i64 0, .slice none 0 0] 32)).frozen? ⟨V2.heap.size, 2, none⟩ = false := by simp
                have z3 : V2.heap.size < (V2.alloc (.cells #[.int .i64 0, .int .i64 0, .slice none 0 0] 32)).heap.size := by simp
                clear hb
                generalize (V2.alloc (.cells #[.int .i64 0, .int .i64 0, .slice none 0 0] 32)) = V3 at *
                refine hK.out _ _ ?_ ?_
                · (try dsimp only); exact ⟨A0, A1, P0, P1⟩
                clear hHeld hK K
                intro hHeld
                try simp only [Act.put, List.setIfInBounds_toArray, List.set_cons_zero, List.set_cons_succ]
                have zq3 := q.size
                refine wpAnyH_ready (rs := [4]) (by kernel_rfl) (by simp) ?_
                refine (AllReadyH.cons (o := ⟨_, _, _, _, _, _⟩) rfl (fun K hK => ?_) AllReadyH.nil)
                go_simp
                go_at_call 12
                refine (implPutPair_calls fb ps c g _ _ hn hyr).mono ?_
                rintro e V4 ⟨x, rfl, hx, hb⟩
                rw [HC.out, HB.out]
                rw [HX.out] at hx
                obtain ⟨aH, cH, rfl, hx'⟩ := hx
                have hx : PairsAt V3.heap.size V4.heap.size V4 (.slice aH xs.length cH) xs := ⟨aH, cH, rfl, hx'⟩
                clear hx'
                replace A0 := cellb hb A0
                replace A1 := cellb hb A1
                replace P0 := cellb hb P0
                replace P1 := cellb hb P1
                replace hyr := hyr.below hb
                replace Z0 := cellb hb Z0
                replace Z1 := cellb hb Z1
                replace Z2 := cellb hb Z2
                have Q0 := (hb.frozen (p := ⟨V2.heap.size, 0, none⟩) (by simp; omega)).trans Y0
                have Q1 := (hb.frozen (p := ⟨V2.heap.size, 1, none⟩) (by simp; omega)).trans Y1
                have Q2 := (hb.frozen (p := ⟨V2.heap.size, 2, none⟩) (by simp; omega)).trans Y2
                clear Y0 Y1 Y2
                have Y0 := Q0
                have Y1 := Q1
                have Y2 := Q2
                clear Q0 Q1 Q2
                replace q := q.trans (hb.mono q.size)
                clear hyr
                have z4 := hb.size
                clear hb
                try go_wp2_with fail
                refine hK.out _ _ ?_ ?_
                · (try dsimp only); exact ⟨A0, A1, P0, P1⟩
                clear hHeld hK K
                intro hHeld
                try simp only [Act.put, List.setIfInBounds_toArray, List.set_cons_zero, List.set_cons_succ]
                have zq := q.size
                refine wpAnyH_ready (rs := [6]) (by kernel_rfl) (by simp) ?_
                refine (AllReadyH.cons (o := ⟨_, _, _, _, _, _⟩) rfl (fun K hK => ?_) AllReadyH.nil)
                go_simp
                refine hK.out _ _ ?_ ?_
                · (try dsimp only); exact ⟨set3_other A0 (by omega), set3_other A1 (by omega), set3_other P0 (by omega), set3_other P1 (by omega)⟩
                clear hHeld hK K
                intro hHeld
                try simp only [Act.put, List.setIfInBounds_toArray, List.set_cons_zero, List.set_cons_succ]
                refine wpAnyH_done (by kernel_rfl) ?_ _
                have hcutf := CutP.mk (code := code) (fbk := fbk) q (by omega) (by omega) (by omega) (by omega) (by omega) Z0 Z1 Z2 hx
                go_wp2
                go_meet
                exact hcutf
            · skip
              go_simp
              have hb : Below V1.heap.size V1 (V1.alloc (.cells #[.int .i64 0, .int .i64 0, .slice none 0 0] 32)) := (Below.refl _ _).alloc (Nat.le_refl _) _
              replace A0 := cellb hb A0
              replace A1 := cellb hb A1
              replace P0 := cellb hb P0
              replace P1 := cellb hb P1
              replace hyr := hyr.below hb
              replace q := q.trans (hb.mono q.size)
              have Z0 : (V1.alloc (.cells #[.int .i64 0, .int .i64 0, .slice none 0 0] 32)).cell? ⟨V1.heap.size, 0, none⟩ = some (.int .i64 0) := by simp
              have Y0 : (V1.alloc (.cells #[.int .i64 0, .int .i64 0, .slice none 0 0] 32)).frozen? ⟨V1.heap.size, 0, none⟩ = false := by simp
              have Z1 : (V1.alloc (.cells #[.int .i64 0, .int .i64 0, .slice none 0 0] 32)).cell? ⟨V1.heap.size, 1, none⟩ = some (.int .i64 0) := by simp
              have Y1 : (V1.alloc (.cells #[.int .i64 0, .int .i64 0, .slice none 0 0] 32)).frozen? ⟨V1.heap.size, 1, none⟩ = false := by simp
              have Z2 : (V1.alloc (.cells #[.int .i64 0, .int .i64 0, .slice none 0 0] 32)).cell? ⟨V1.heap.size, 2, none⟩ = some (.slice none 0 0) := by simp
              have Y2 : (V1.alloc (.cells #[.int .i64 0, .int .i64 0, .slice none 0 0] 32)).frozen? ⟨V1.heap.size, 2, none⟩ = false := by simp
              have z2 : V1.heap.size < (V1.alloc (.cells #[.int .i64 0, .int .i64 0, .slice none 0 0] 32)).heap.size := by simp
              clear hb
              generalize (V1.alloc (.cells #[.int .i64 0, .int .i64 0, .slice none 0 0] 32)) = V2 at *
              refine hK.out _ _ ?_ ?_
              · (try dsimp only); exact ⟨A0, A1, P0, P1⟩
              clear hHeld hK K
              intro hHeld
              try simp only [Act.put, List.setIfInBounds_toArray, List.set_cons_zero, List.set_cons_succ]
              have zq2 := q.size
              refine wpAnyH_ready (rs := [3]) (by kernel_rfl) (by simp) ?_
              refine (AllReadyH.cons (o := ⟨_, _, _, _, _, _⟩) rfl (fun K hK => ?_) AllReadyH.nil)
              go_simp
              go_at_call 11
              refine (toPair_calls c g _).mono ?_
              rintro e V3 ⟨rfl, hb⟩
              replace A0 := cellb hb A0
              replace A1 := cellb hb A1
              replace P0 := cellb hb P0
              replace P1 := cellb hb P1
              replace hyr := hyr.below hb
              replace Z0 := cellb hb Z0
              replace Z1 := cellb hb Z1
              replace Z2 := cellb hb Z2
              have Q0 := (hb.frozen (p := ⟨V1.heap.size, 0, none⟩) (by simp; omega)).trans Y0
              have Q1 := (hb.frozen (p := ⟨V1.heap.size, 1, none⟩) (by simp; omega)).trans Y1
              have Q2 := (hb.frozen (p := ⟨V1.heap.size, 2, none⟩) (by simp; omega)).trans Y2
              clear Y0 Y1 Y2
              have Y0 := Q0
              have Y1 := Q1
              have Y2 := Q2
              clear Q0 Q1 Q2
              replace q := q.trans (hb.mono q.size)
              have z3 := hb.size
              clear hb
              try go_wp2_with fail
              refine hK.out _ _ ?_ ?_
              · (try dsimp only); exact ⟨A0, A1, P0, P1⟩
              clear hHeld hK K
              intro hHeld
              try simp only [Act.put, List.setIfInBounds_toArray, List.set_cons_zero, List.set_cons_succ]
              have zq3 := q.size
              refine wpAnyH_ready (rs := [4]) (by kernel_rfl) (by simp) ?_
              refine (AllReadyH.cons (o := ⟨_, _, _, _, _, _⟩) rfl (fun K hK => ?_) AllReadyH.nil)
              go_simp
              go_at_call 12
              refine (implPutPair_calls fb ps c g _ _ hn hyr).mono ?_
              rintro e V4 ⟨x, rfl, hx, hb⟩
              rw [HC.out, HB.out]
              rw [HX.out] at hx
              obtain ⟨aH, cH, rfl, hx'⟩ := hx
              have hx : PairsAt V3.heap.size V4.heap.size V4 (.slice aH xs.length cH) xs := ⟨aH, cH, rfl, hx'⟩
              clear hx'
              replace A0 := cellb hb A0
              replace A1 := cellb hb A1
              replace P0 := cellb hb P0
              replace P1 := cellb hb P1
              replace hyr := hyr.below hb
              replace Z0 := cellb hb Z0
              replace Z1 := cellb hb Z1
              replace Z2 := cellb hb Z2
              have Q0 := (hb.frozen (p := ⟨V1.heap.size, 0, none⟩) (by simp; omega)).trans Y0
              have Q1 := (hb.frozen (p := ⟨V1.heap.size, 1, none⟩) (by simp; omega)).trans Y1
              have Q2 := (hb.frozen (p := ⟨V1.heap.size, 2, none⟩) (by simp; omega)).trans Y2
              clear Y0 Y1 Y2
              have Y0 := Q0
              have Y1 := Q1
              have Y2 := Q2
              clear Q0 Q1 Q2
              replace q := q.trans (hb.mono q.size)
              clear hyr
              have z4 := hb.size
              clear hb
              try go_wp2_with fail
              refine hK.out _ _ ?_ ?_
              · (try dsimp only); exact ⟨A0, A1, P0, P1⟩
              clear hHeld hK K
              intro hHeld
              try simp only [Act.put, List.setIfInBounds_toArray, List.set_cons_zero, List.set_cons_succ]
              have zq := q.size
              refine wpAnyH_ready (rs := [6]) (by kernel_rfl) (by simp) ?_
              refine (AllReadyH.cons (o := ⟨_, _, _, _, _, _⟩) rfl (fun K hK => ?_) AllReadyH.nil)
              go_simp
              refine hK.out _ _ ?_ ?_
              · (try dsimp only); exact ⟨set3_other A0 (by omega), set3_other A1 (by omega), set3_other P0 (by omega), set3_other P1 (by omega)⟩
              clear hHeld hK K
              intro hHeld
              try simp only [Act.put, List.setIfInBounds_toArray, List.set_cons_zero, List.set_cons_succ]
              refine wpAnyH_done (by kernel_rfl) ?_ _
              have hcutf := CutP.mk (code := code) (fbk := fbk) q (by omega) (by omega) (by omega) (by omega) (by omega) Z0 Z1 Z2 hx
              go_wp2
              go_meet
              exact hcutf
          · skip
            go_simp
            have hb : Below V0.heap.size V0 (V0.alloc (.cells #[.int .i64 0, .int .i64 0, .slice none 0 0] 32)) := (Below.refl _ _).alloc (Nat.le_refl _) _
            replace A0 := cellb hb A0
            replace A1 := cellb hb A1
            replace P0 := cellb hb P0
            replace P1 := cellb hb P1
            replace hvr := hvr.below hb
            replace q := q.trans (hb.mono q.size)
            have Z0 : (V0.alloc (.cells #[.int .i64 0, .int .i64 0, .slice none 0 0] 32)).cell? ⟨V0.heap.size, 0, none⟩ = some (.int .i64 0) := by simp
            have Y0 : (V0.alloc (.cells #[.int .i64 0, .int .i64 0, .slice none 0 0] 32)).frozen? ⟨V0.heap.size, 0, none⟩ = false := by simp
            have Z1 : (V0.alloc (.cells #[.int .i64 0, .int .i64 0, .slice none 0 0] 32)).cell? ⟨V0.heap.size, 1, none⟩ = some (.int .i64 0) := by simp
            have Y1 : (V0.alloc (.cells #[.int .i64 0, .int .i64 0, .slice none 0 0] 32)).frozen? ⟨V0.heap.size, 1, none⟩ = false := by simp
            have Z2 : (V0.alloc (.cells #[.int .i64 0, .int .i64 0, .slice none 0 0] 32)).cell? ⟨V0.heap.size, 2, none⟩ = some (.slice none 0 0) := by simp
            have Y2 : (V0.alloc (.cells #[.int .i64 0, .int .i64 0, .slice none 0 0] 32)).frozen? ⟨V0.heap.size, 2, none⟩ = false := by simp
            have z1 : V0.heap.size < (V0.alloc (.cells #[.int .i64 0, .int .i64 0, .slice none 0 0] 32)).heap.size := by simp
            clear hb
            generalize (V0.alloc (.cells #[.int .i64 0, .int .i64 0, .slice none 0 0] 32)) = V1 at *
            refine hK.out _ _ ?_ ?_
            · (try dsimp only); exact ⟨A0, A1, P0, P1⟩
            clear hHeld hK K
            intro hHeld
            try simp only [Act.put, List.setIfInBounds_toArray, List.set_cons_zero, List.set_cons_succ]
            have zq1 := q.size
            refine wpAnyH_ready (rs := [1]) (by kernel_rfl) (by simp) ?_
            refine (AllReadyH.cons (o := ⟨_, _, _, _, _, _⟩) rfl (fun K hK => ?_) AllReadyH.nil)
            go_simp
            go_at_call 10
            refine (toFont_calls fb ps _ _ hn hvr).mono ?_
            rintro e V2 ⟨y, rfl, hy, hb⟩
            replace A0 := cellb hb A0
            replace A1 := cellb hb A1
            replace P0 := cellb hb P0
            replace P1 := cellb hb P1
            replace hvr := hvr.below hb
            replace Z0 := cellb hb Z0
            replace Z1 := cellb hb Z1
            replace Z2 := cellb hb Z2
            have Q0 := (hb.frozen (p := ⟨V0.heap.size, 0, none⟩) (by simp; omega)).trans Y0
            have Q1 := (hb.frozen (p := ⟨V0.heap.size, 1, none⟩) (by simp; omega)).trans Y1
            have Q2 := (hb.frozen (p := ⟨V0.heap.size, 2, none⟩) (by simp; omega)).trans Y2
            clear Y0 Y1 Y2
            have Y0 := Q0
            have Y1 := Q1
            have Y2 := Q2
            clear Q0 Q1 Q2
            replace q := q.trans (hb.mono q.size)
            have hyr := hy.read
            obtain ⟨ayr, cyr, rfl, hy'⟩ := hy
            clear hy' hvr
            have z2 := hb.size
            clear hb
            try go_wp2_with fail
            refine hK.out _ _ ?_ ?_
            · (try dsimp only); exact ⟨A0, A1, P0, P1⟩
            clear hHeld hK K
            intro hHeld
            try simp only [Act.put, List.setIfInBounds_toArray, List.set_cons_zero, List.set_cons_succ]
            have zq2 := q.size
            refine wpAnyH_ready (rs := [3]) (by kernel_rfl) (by simp) ?_
            refine (AllReadyH.cons (o := ⟨_, _, _, _, _, _⟩) rfl (fun K hK => ?_) AllReadyH.nil)
            go_simp
            go_at_call 11
            refine (toPair_calls c g _).mono ?_
            rintro e V3 ⟨rfl, hb⟩
            replace A0 := cellb hb A0
            replace A1 := cellb hb A1
            replace P0 := cellb hb P0
            replace P1 := cellb hb P1
            replace hyr := hyr.below hb
            replace Z0 := cellb hb Z0
            replace Z1 := cellb hb Z1
            replace Z2 := cellb hb Z2
            have Q0 := (hb.frozen (p := ⟨V0.heap.size, 0, none⟩) (by simp; omega)).trans Y0
            have Q1 := (hb.frozen (p := ⟨V0.heap.size, 1, none⟩) (by simp; omega)).trans Y1
            have Q2 := (hb.frozen (p := ⟨V0.heap.size, 2, none⟩) (by simp; omega)).trans Y2
            clear Y0 Y1 Y2
            have Y0 := Q0
            have Y1 := Q1
            have Y2 := Q2
            clear Q0 Q1 Q2
            replace q := q.trans (hb.mono q.size)
            have z3 := hb.size
            clear hb
            try go_wp2_with fail
            refine hK.out _ _ ?_ ?_
            · (try dsimp only); exact ⟨A0, A1, P0, P1⟩
            clear hHeld hK K
            intro hHeld
            try simp only [Act.put, List.setIfInBounds_toArray, List.set_cons_zero, List.set_cons_succ]
            have zq3 := q.size
            refine wpAnyH_ready (rs := [4]) (by kernel_rfl) (by simp) ?_
            refine (AllReadyH.cons (o := ⟨_, _, _, _, _, _⟩) rfl (fun K hK => ?_) AllReadyH.nil)
            go_simp
            go_at_call 12
            refine (implPutPair_calls fb ps c g _ _ hn hyr).mono ?_
            rintro e V4 ⟨x, rfl, hx, hb⟩
            rw [HC.out, HB.out]
            rw [HX.out] at hx
            obtain ⟨aH, cH, rfl, hx'⟩ := hx
            have hx : PairsAt V3.heap.size V4.heap.size V4 (.slice aH xs.length cH) xs := ⟨aH, cH, rfl, hx'⟩
            clear hx'
            replace A0 := cellb hb A0
            replace A1 := cellb hb A1
            replace P0 := cellb hb P0
            replace P1 := cellb hb P1
            replace hyr := hyr.below hb
            replace Z0 := cellb hb Z0
            replace Z1 := cellb hb Z1
            replace Z2 := cellb hb Z2
            have Q0 := (hb.frozen (p := ⟨V0.heap.size, 0, none⟩) (by simp; omega)).trans Y0
            have Q1 := (hb.frozen (p := ⟨V0.heap.size, 1, none⟩) (by simp; omega)).trans Y1
            have Q2 := (hb.frozen (p := ⟨V0.heap.size, 2, none⟩) (by simp; omega)).trans Y2
            clear Y0 Y1 Y2
            have Y0 := Q0
            have Y1 := Q1
            have Y2 := Q2
            clear Q0 Q1 Q2
            replace q := q.trans (hb.mono q.size)
            clear hyr
            have z4 := hb.size
            clear hb
            try go_wp2_with fail
            refine hK.out _ _ ?_ ?_
            · (try dsimp only); exact ⟨A0, A1, P0, P1⟩
            clear hHeld hK K
            intro hHeld
            try simp only [Act.put, List.setIfInBounds_toArray, List.set_cons_zero, List.set_cons_succ]
            have zq := q.size
            refine wpAnyH_ready (rs := [6]) (by kernel_rfl) (by simp) ?_
            refine (AllReadyH.cons (o := ⟨_, _, _, _, _, _⟩) rfl (fun K hK => ?_) AllReadyH.nil)
            go_simp
            refine hK.out _ _ ?_ ?_
            · (try dsimp only); exact ⟨set3_other A0 (by omega), set3_other A1 (by omega), set3_other P0 (by omega), set3_other P1 (by omega)⟩
            clear hHeld hK K
            intro hHeld
            try simp only [Act.put, List.setIfInBounds_toArray, List.set_cons_zero, List.set_cons_succ]
            refine wpAnyH_done (by kernel_rfl) ?_ _
            have hcutf := CutP.mk (code := code) (fbk := fbk) q (by omega) (by omega) (by omega) (by omega) (by omega) Z0 Z1 Z2 hx
            go_wp2
            go_meet
            exact hcutf
        case rest =>
          obtain ⟨FH, loH, hiH, aH, cH, rfl, r12, hFH, hCH, hxH⟩ := hcut
          rename World => w12
          obtain ⟨H0, H1, H2⟩ := hCH
          have z12 : w11.heap.size ≤ w12.heap.size := r12.size
          replace A0 := cellb r12 A0
          replace A1 := cellb r12 A1
          replace P0 := cellb r12 P0
          replace P1 := cellb r12 P1
          replace B0 := cellb r12 B0
          replace B1 := cellb r12 B1
          replace B2 := cellb r12 B2
          replace X0 := cellb r12 X0
          replace X1 := cellb r12 X1
          replace G0 := cellb r12 G0
          replace G1 := cellb r12 G1
          replace G2 := cellb r12 G2
          replace hxB := hxB.below r12 (by omega)
          replace hm1 := hm1.below r12 (by omega)
          have b12 : Below w.heap.size w w12 := b11.trans (r12.mono (by omega))
          clear r12 b11
          clear lt11_0 lt11_1 lt11_2 lt11_3 lt11_4
          have lt12_0 : w.heap.size < w12.heap.size := by omega
          have lt12_1 : w.heap.size + 1 < w12.heap.size := by omega
          have lt12_2 : FB < w12.heap.size := by omega
          have lt12_3 : w3.heap.size < w12.heap.size := by omega
          have lt12_4 : FG < w12.heap.size := by omega
          have lt12_5 : FH < w12.heap.size := by omega
          go_wp2_with fail
          refine (eqFontResult_calls code fbk xs _ _ _ (by omega) (hxH.read) (hxB.read)).mono ?_
          rintro e w13 ⟨rfl, hb13⟩
          have z13 : w12.heap.size ≤ w13.heap.size := hb13.size
          have r13 := hb13
          clear hb13
          replace A0 := cellb r13 A0
          replace A1 := cellb r13 A1
          replace P0 := cellb r13 P0
          replace P1 := cellb r13 P1
          replace B0 := cellb r13 B0
          replace B1 := cellb r13 B1
          replace B2 := cellb r13 B2
          replace X0 := cellb r13 X0
          replace X1 := cellb r13 X1
          replace G0 := cellb r13 G0
          replace G1 := cellb r13 G1
          replace G2 := cellb r13 G2
          replace H0 := cellb r13 H0
          replace H1 := cellb r13 H1
          replace H2 := cellb r13 H2
          replace hxB := hxB.below r13 (by omega)
          replace hm1 := hm1.below r13 (by omega)
          replace hxH := hxH.below r13 (by omega)
          have b13 : Below w.heap.size w w13 := b12.trans (r13.mono (by omega))
          clear r13 b12
          clear lt12_0 lt12_1 lt12_2 lt12_3 lt12_4 lt12_5
          have lt13_0 : w.heap.size < w13.heap.size := by omega
          have lt13_1 : w.heap.size + 1 < w13.heap.size := by omega
          have lt13_2 : FB < w13.heap.size := by omega
          have lt13_3 : w3.heap.size < w13.heap.size := by omega
          have lt13_4 : FG < w13.heap.size := by omega
          have lt13_5 : FH < w13.heap.size := by omega
          go_wp2_with fail
          refine (heldFontResult_calls code fbk (marksP 1 xs.length) 1 (.slice aG xs.length cG) _ (by rw [marksP_length]; omega) (by omega) (by omega) hm1.read (marksP_at 1 _)).mono ?_
          rintro e w14 ⟨rfl, hb14⟩
          have z14 : w13.heap.size ≤ w14.heap.size := hb14.size
          have r14 := hb14
          clear hb14
          replace A0 := cellb r14 A0
          replace A1 := cellb r14 A1
          replace P0 := cellb r14 P0
          replace P1 := cellb r14 P1
          replace B0 := cellb r14 B0
          replace B1 := cellb r14 B1
          replace B2 := cellb r14 B2
          replace X0 := cellb r14 X0
          replace X1 := cellb r14 X1
          replace G0 := cellb r14 G0
          replace G1 := cellb r14 G1
          replace G2 := cellb r14 G2
          replace H0 := cellb r14 H0
          replace H1 := cellb r14 H1
          replace H2 := cellb r14 H2
          replace hxB := hxB.below r14 (by omega)
          replace hm1 := hm1.below r14 (by omega)
          replace hxH := hxH.below r14 (by omega)
          have b14 : Below w.heap.size w w14 := b13.trans (r14.mono (by omega))
          clear r14 b13
          clear lt13_0 lt13_1 lt13_2 lt13_3 lt13_4 lt13_5
          have lt14_0 : w.heap.size < w14.heap.size := by omega
          have lt14_1 : w.heap.size + 1 < w14.heap.size := by omega
          have lt14_2 : FB < w14.heap.size := by omega
          have lt14_3 : w3.heap.size < w14.heap.size := by omega
          have lt14_4 : FG < w14.heap.size := by omega
          have lt14_5 : FH < w14.heap.size := by omega
          rw [marksP_length]
          go_wp2
          go_ret
          exact ⟨rfl, b14⟩
  · go_enter Try.func3, Try.ntmps3
    go_wp2_with fail
    refine (szFont_calls fb ps.length av cv _ hmax).mono ?_
    rintro e w1 ⟨rfl, hb1⟩
    rw [if_neg hn]
    go_wp2
    go_ret
    exact ⟨rfl, (((Below.refl _ _).alloc (Nat.le_refl _) _).alloc (by simp) _).trans (hb1.mono (by simp; try omega))⟩

theorem lawPP_laid : laidOutB Try.prog = true := by kernel_rfl
theorem lawPP_cells : Try.prog.cellsOf 26 = 2 := by kernel_rfl
theorem lawPP_own : ownKnob Try.prog.godebug = none := by kernel_rfl
set_option maxRecDepth 100000 in
theorem lawPP_lifted (os : Os) (started : os.Started) (H : Type) (enc : TypeId × Value → H) :
    ReturnsInHanded {} Try.checked os 3 .any (Rows.fnExactPutPairSpec.pre6 enc Try.prog Try.f3 Rows.fnExactPutPairRow.domain false) (Rows.fnExactPutPairSpec.post enc Try.prog Try.f3 false true false false) := by
  refine returnsInHanded_of_change (C := Try.checked) lawPP_own started (by kernel_rfl) Try.func3
    (ChangeSpec.witness6 (enc := enc) (C := Try.checked) false ⟨#[], #[.agg #[.int .i64 0, .slice none 0 0], .agg #[.int .i64 0, .int .i64 0]], []⟩ 8 (by kernel_rfl) (by kernel_rfl) (by kernel_rfl) (by kernel_rfl)) ?_
  intro W base args ds gs before hval0 hW hcnd _
  have hval : ∀ (j : Nat) t v, Try.f3.params[j]? = some t → args[j]? = some v → Value.okWide Try.prog W .any base t v := hval0
  have hW' := hW
  obtain ⟨p, q, hA0, hV, rfl, hfz, hnd⟩ := hW
  have hA : DataW.TrodAll enc Try.prog W 0 (fun _ => true) true Try.f3.params.toList args.toList ds p := hA0
  rw [Try.params3] at hA hval
  obtain ⟨v0, v1, d0, d1, p0, p1, rfl, rfl, rfl, h0, h1⟩ := trodAll_two hA
  obtain ⟨rfl, rfl⟩ := trodVars_none hV
  have k0 := h0
  have lt0 : ∀ x ∈ p0, x.block < W.heap.size := by obtain ⟨m, hm⟩ := k0; exact DataW.trod_lt m _ _ _ hm
  have k1 := h1
  have lt1 : ∀ x ∈ p1, x.block < W.heap.size := by obtain ⟨m, hm⟩ := k1; exact DataW.trod_lt m _ _ _ hm
  obtain ⟨fb, x, ps, rfl, hx, hmax⟩ := open_font (hval 0 24 v0 rfl rfl) h0
  obtain ⟨c0, c1, y0, y1, m, rfl, _, _, hy0, hy1⟩ := open_agg2 Try.underlying26 (by kernel_rfl) lawPP_cells (hval 1 26 v1 rfl rfl) h1
  obtain ⟨c, e0, _, w0⟩ := DataW.trod_int Try.underlying2 hy0
  obtain ⟨g, e1, _, w1⟩ := DataW.trod_int Try.underlying2 hy1
  simp at e0 e1
  subst e0 e1
  clear hA0 hval0

  refine (lawPP_walk fb x ps c g W hx hmax).mono fun e W' ⟨he, bel⟩ => ?_
  subst he
  exact ⟨_, rfl, _, _, _, [], _, [], hW', trodAll_mk1 (shut_bool Try.underlying4 _), trodAll_mk2 (Below.trod lawPP_laid (by kernel_rfl) (of_decide_eq_true (by kernel_rfl)) k0 bel lt0) (Below.trod lawPP_laid (by kernel_rfl) (of_decide_eq_true (by kernel_rfl)) k1 bel lt1), rfl, bel.frame _, fun h => by cases h⟩

theorem lawPP_over : Rows.fnExactPutPairRow.holds Try.pinned (OpenSpec.ofChange Rows.fnExactPutPairSpec) :=
  OpenClaim.holds_of_wide 3 Try.f3 rfl rfl rfl rfl rfl rfl rfl ⟨rfl, rfl, rfl, rfl, rfl⟩ rfl rfl rfl rfl rfl (by kernel_rfl) Try.func3 (by kernel_rfl)
    (of_decide_eq_true (by kernel_rfl)) (by unfold Func.isWrapper; first | (rw [if_pos (by decide +kernel)]; kernel_rfl) | (rw [if_neg (by decide +kernel)]; exact ⟨rfl, rfl⟩))
    (fun os started H enc _ => lawPP_lifted os started H enc)

theorem lawPP_proved : Rows.FnExactPutPairSaid := lawPP_over
#print axioms lawPP_proved
end Go.Proofs.Ytlkabmgindbbmah
