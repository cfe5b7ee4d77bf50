/-
  For every grid, every two int64 and every cell the law FnExactPutCell returns true: impl.PutCell answers there what the model's PutCell answers, every field; it turns no argument, and its lists are memory of its own. No condition (the law itself passes grids of more than 1048576 cells by).
-/
import Derived.Test.YtbndncfkkhjkoaiRows
import Derived.Test.YtbndncfkkhjkoaiPutCellFns
import Derived.Test.YtbndncfkkhjkoaiGridFns
import Derived.Test.YtbndncfkkhjkoaiGridOpen
import Derived.Deep.RegionHeld
import Derived.Deep.Cut
import Derived.Deep.CutRange
import Derived.ShutString
import Derived.ChangeOld
import Derived.Lib.SmallJoins
namespace Go.Proofs.Ytbndncfkkhjkoai
open Go.ChangeShapes Go.WideShapes Go.ChangeAt Go.RowKit Go.Joins
set_option linter.unusedVariables false
set_option linter.unusedSimpArgs false

/-- Two grids' boxes and lists, as a region keeps them. -/
structure KeepG (W : World) (b c : Nat) (r wd : Int) (u2 u3 v2 v3 : Value) (cs bs : List (Int × Int)) (w1 : World) : Prop where
  bel : Below W.heap.size W w1
  a0 : w1.cell? ⟨b, 0, none⟩ = some (.int .i64 r)
  a1 : w1.cell? ⟨b, 1, none⟩ = some (.int .i64 wd)
  a2 : w1.cell? ⟨b, 2, none⟩ = some u2
  a3 : w1.cell? ⟨b, 3, none⟩ = some u3
  c0 : w1.cell? ⟨c, 0, none⟩ = some (.int .i64 r)
  c1 : w1.cell? ⟨c, 1, none⟩ = some (.int .i64 wd)
  c2 : w1.cell? ⟨c, 2, none⟩ = some v2
  c3 : w1.cell? ⟨c, 3, none⟩ = some v3
  r1 : PRead w1 u2 cs
  r2 : PRead w1 u3 bs
  r3 : PRead w1 v2 cs
  r4 : PRead w1 v3 bs
theorem KeepG.next {W : World} {b c : Nat} {r wd : Int} {u2 u3 v2 v3 : Value} {cs bs : List (Int × Int)} {w1 w2 : World} (h : KeepG W b c r wd u2 u3 v2 v3 cs bs w1) (hb : Below w1.heap.size w1 w2) : KeepG W b c r wd u2 u3 v2 v3 cs bs w2 :=
  ⟨h.bel.trans (hb.mono h.bel.size), cellb hb h.a0, cellb hb h.a1, cellb hb h.a2, cellb hb h.a3, cellb hb h.c0, cellb hb h.c1, cellb hb h.c2, cellb hb h.c3, h.r1.below hb, h.r2.below hb, h.r3.below hb, h.r4.below hb⟩

def CutG (W wx : World) (code rr ww : Int) (xs ys : List (Int × Int)) (s : Value) : Prop :=
  ∃ (F lo hi : Nat) (a : Option Addr) (c : Nat) (d : Option Addr) (e : Nat), s = .pointer (some ⟨F, 0, none⟩) ∧ Below W.heap.size W wx ∧ (W.heap.size ≤ F ∧ F < wx.heap.size ∧ W.heap.size ≤ lo ∧ hi ≤ wx.heap.size ∧ (F < lo ∨ hi ≤ F)) ∧
    (wx.cell? ⟨F, 0, none⟩ = some (.int .i64 code) ∧ wx.cell? ⟨F, 1, none⟩ = some (.int .i64 rr) ∧ wx.cell? ⟨F, 2, none⟩ = some (.int .i64 ww) ∧ wx.cell? ⟨F, 3, none⟩ = some (.slice a xs.length c) ∧ wx.cell? ⟨F, 4, none⟩ = some (.slice d ys.length e)) ∧ GOwn lo hi wx (.slice a xs.length c) (.slice d ys.length e) xs ys
theorem CutG.mk {W V : World} {code rr ww : Int} {xs ys : List (Int × Int)} {F lo hi : Nat} {a d : Option Addr} {c e : Nat} {u0 u1 u2 u3 u4 : Value} (q : Below W.heap.size W V) (h1 : W.heap.size ≤ F) (h2 : F < V.heap.size) (h3 : W.heap.size ≤ lo) (h4 : hi ≤ V.heap.size) (h5 : F < lo ∨ hi ≤ F)
    (z0 : V.cell? ⟨F, 0, none⟩ = some u0) (z1 : V.cell? ⟨F, 1, none⟩ = some u1) (z2 : V.cell? ⟨F, 2, none⟩ = some u2) (z3 : V.cell? ⟨F, 3, none⟩ = some u3) (z4 : V.cell? ⟨F, 4, none⟩ = some u4) (hx : GOwn lo hi V (.slice a xs.length c) (.slice d ys.length e) xs ys) :
    CutG W (((((V.setCell ⟨F, 0, none⟩ (.int .i64 code)).setCell ⟨F, 1, none⟩ (.int .i64 rr)).setCell ⟨F, 2, none⟩ (.int .i64 ww)).setCell ⟨F, 3, none⟩ (.slice a xs.length c)).setCell ⟨F, 4, none⟩ (.slice d ys.length e)) code rr ww xs ys (.pointer (some ⟨F, 0, none⟩)) := by
  refine ⟨F, lo, hi, a, c, d, e, rfl, ((((q.setCell h1 _).setCell h1 _).setCell h1 _).setCell h1 _).setCell h1 _, ⟨h1, by simpa [World.setCell] using h2, h3, by simpa [World.setCell] using h4, h5⟩, res5 _ _ _ _ _ z0 z1 z2 z3 z4, ?_⟩
  refine hx.of_blocks ?_
  intro i hi1 hi2
  simp only [World.setCell, Array.getElem?_modify]
  repeat rw [if_neg (by omega)]
theorem set5_other {V : World} {F b o : Nat} {x y z t s u : Value} (h : V.cell? ⟨b, o, none⟩ = some u) (hne : b ≠ F) : (((((V.setCell ⟨F, 0, none⟩ x).setCell ⟨F, 1, none⟩ y).setCell ⟨F, 2, none⟩ z).setCell ⟨F, 3, none⟩ t).setCell ⟨F, 4, none⟩ s).cell? ⟨b, o, none⟩ = some u := by
  rw [World.cell?_setCell_other _ _ _ _ (addr_ne (by omega)), World.cell?_setCell_other _ _ _ _ (addr_ne (by omega)), World.cell?_setCell_other _ _ _ _ (addr_ne (by omega)), World.cell?_setCell_other _ _ _ _ (addr_ne (by omega)), World.cell?_setCell_other _ _ _ _ (addr_ne (by omega))]; exact h

set_option maxRecDepth 20000 in
set_option maxHeartbeats 8000000 in
theorem lawPC_walk (r wd : Int) (v1 v2 : Value) (cs bs : List (Int × Int)) (y0 x0 c0 g0 : Int) (w : World) (hr1 : PRead w v1 cs) (hr2 : PRead w v2 bs) (hm1 : cs.length ≤ maxLen) (hm2 : bs.length ≤ maxLen) :
    Calls Try.prog 4 #[.agg #[.int .i64 r, .int .i64 wd, v1, v2], .int .i64 y0, .int .i64 x0, .agg #[.int .i64 c0, .int .i64 g0]] w fun e w' => e = .returned (.bool true) ∧ Below w.heap.size w w' := by
  have hr1' := hr1
  obtain ⟨av, cv, rfl, _⟩ := hr1'
  have hr2' := hr2
  obtain ⟨bv, dv, rfl, _⟩ := hr2'
  by_cases hn : (cs.length : Int) + bs.length ≤ 1048576
  · have hn1 : cs.length ≤ 1048576 := by omega
    have hn2 : bs.length ≤ 1048576 := by omega
    have hlen := putcRes_len r wd cs bs y0 x0 c0 g0
    generalize hX : putcRes r wd cs bs y0 x0 c0 g0 = X at *
    obtain ⟨code, rr, ww, xs, ys⟩ := X
    have HX := hide hX
    clear hX
    have hl1 : xs.length ≤ 72 := hlen.1
    have hl2 : ys.length ≤ 60 := hlen.2
    clear hlen
    go_enter Try.func4, Try.ntmps4
    go_wp2_with fail
    have q1 : Below w.heap.size w ((w.alloc (.cells #[.int .i64 r, .int .i64 wd, .slice av cs.length cv, .slice bv bs.length dv] 33)).alloc (.cells #[.int .i64 c0, .int .i64 g0] 35)) := (by repeat' (first | with_reducible exact Below.refl _ _ | with_reducible assumption | with_reducible refine Below.drew ?_ | with_reducible refine Below.alloc ?_ ?_ _ | with_reducible refine Below.setCell ?_ ?_ _ | (simp; done) | (simp; omega) | omega))
    refine (szGrid_calls r wd cs.length bs.length av bv cv dv 1048576 (by omega) (by omega) _ hm1 hm2).mono ?_
    rintro e w1 ⟨rfl, hb1⟩
    have A0 : w1.cell? ⟨w.heap.size, 0, none⟩ = some (.int .i64 r) := cellb hb1 (by simp)
    have A1 : w1.cell? ⟨w.heap.size, 1, none⟩ = some (.int .i64 wd) := cellb hb1 (by simp)
    have A2 : w1.cell? ⟨w.heap.size, 2, none⟩ = some (.slice av cs.length cv) := cellb hb1 (by simp)
    have A3 : w1.cell? ⟨w.heap.size, 3, none⟩ = some (.slice bv bs.length dv) := cellb hb1 (by simp)
    have P0 : w1.cell? ⟨w.heap.size + 1, 0, none⟩ = some (.int .i64 c0) := cellb hb1 (by simp)
    have P1 : w1.cell? ⟨w.heap.size + 1, 1, none⟩ = some (.int .i64 g0) := cellb hb1 (by simp)
    have z1 : w.heap.size + 2 ≤ w1.heap.size := by have := hb1.size; simp at this; omega
    have r1 : Below w.heap.size w w1 := q1.trans (hb1.mono (by simp; try omega))
    clear q1 hb1
    have b1 : Below w.heap.size w w1 := r1
    clear r1
    have lt1_0 : w.heap.size < w1.heap.size := by omega
    have lt1_1 : w.heap.size + 1 < w1.heap.size := by omega
    rw [if_pos hn]
    have hge : ¬ ((1048576 - (cs.length : Int) - (bs.length : Int)) < 0) := by omega
    go_wp2_with fail
    go_cut [10] from 22 to 28 (fun s wx => CutG w1 wx code rr ww xs ys s)
    case first =>
      have hvr1 := hr1.below b1
      have hvr2 := hr2.below b1
      refine wp_region_held_drew (S := (fun w' => w'.cell? ⟨w.heap.size, 0, none⟩ = some (.int .i64 r) ∧ w'.cell? ⟨w.heap.size, 1, none⟩ = some (.int .i64 wd) ∧ w'.cell? ⟨w.heap.size, 2, none⟩ = some (.slice av cs.length cv) ∧ w'.cell? ⟨w.heap.size, 3, none⟩ = some (.slice bv bs.length dv) ∧ w'.cell? ⟨w.heap.size + 1, 0, none⟩ = some (.int .i64 c0) ∧ w'.cell? ⟨w.heap.size + 1, 1, none⟩ = some (.int .i64 g0))) (by kernel_rfl) ?_ (fun hHeld => ?_)
      · (try dsimp only); exact ⟨A0, A1, A2, A3, P0, P1⟩
      replace A0 := cellb (Below.drew (Below.refl _ w1)) A0
      replace A1 := cellb (Below.drew (Below.refl _ w1)) A1
      replace A2 := cellb (Below.drew (Below.refl _ w1)) A2
      replace A3 := cellb (Below.drew (Below.refl _ w1)) A3
      replace P0 := cellb (Below.drew (Below.refl _ w1)) P0
      replace P1 := cellb (Below.drew (Below.refl _ w1)) P1
      replace hvr1 := hvr1.below (Below.drew (Below.refl _ w1))
      replace hvr2 := hvr2.below (Below.drew (Below.refl _ w1))
      have q : Below w1.heap.size w1 w1.drew := Below.drew (Below.refl _ _)
      generalize w1.drew = V0 at *
      refine wpAnyH_take (i := 0) (oi := ⟨_, _, _, _, _, _⟩) (v := ?_) rfl (by kernel_rfl) (by kernel_rfl) (by kernel_rfl) (fun _ _ _ h => h) (Or.inl ⟨by rfl, ?_⟩) hHeld ?_
      rotate_left
      · (intro w hSw; (try dsimp only at hSw); go_simp; try (with_reducible rfl))
      try simp only [Act.put, List.setIfInBounds_toArray, List.set_cons_zero, List.set_cons_succ]
      refine wpAnyH_take (i := 2) (oi := ⟨_, _, _, _, _, _⟩) (v := ?_) rfl (by kernel_rfl) (by kernel_rfl) (by kernel_rfl) (fun _ _ _ h => h) (Or.inl ⟨by rfl, ?_⟩) hHeld ?_
      rotate_left
      · (intro w hSw; (try dsimp only at hSw); go_simp; try (with_reducible rfl))
      try simp only [Act.put, List.setIfInBounds_toArray, List.set_cons_zero, List.set_cons_succ]
      refine wpAnyH_take (i := 3) (oi := ⟨_, _, _, _, _, _⟩) (v := ?_) rfl (by kernel_rfl) (by kernel_rfl) (by kernel_rfl) (fun _ _ _ h => h) (Or.inl ⟨by rfl, ?_⟩) hHeld ?_
      rotate_left
      · (intro w hSw; (try dsimp only at hSw); go_simp; try (with_reducible rfl))
      try simp only [Act.put, List.setIfInBounds_toArray, List.set_cons_zero, List.set_cons_succ]
      refine wpAnyH_take (i := 4) (oi := ⟨_, _, _, _, _, _⟩) (v := ?_) rfl (by kernel_rfl) (by kernel_rfl) (by kernel_rfl) (fun _ _ _ h => h) (Or.inl ⟨by rfl, ?_⟩) hHeld ?_
      rotate_left
      · (intro w hSw; (try dsimp only at hSw); go_simp; try (with_reducible rfl))
      try simp only [Act.put, List.setIfInBounds_toArray, List.set_cons_zero, List.set_cons_succ]
      have zq0 := q.size
      refine wpAnyH_ready (rs := [1, 7]) (by kernel_rfl) (by simp) ?_
      refine (AllReadyH.cons (o := ⟨_, _, _, _, _, _⟩) rfl (fun K hK => ?_) (AllReadyH.cons (o := ⟨_, _, _, _, _, _⟩) rfl (fun K hK => ?_) AllReadyH.nil))
      · skip
        go_simp
        go_at_call 16
        refine (toGrid_calls r wd cs bs _ _ _ hn1 hn2 hvr1 hvr2).mono ?_
        rintro e V1 ⟨yx, yy, rfl, hy, hb⟩
        replace A0 := cellb hb A0
        replace A1 := cellb hb A1
        replace A2 := cellb hb A2
        replace A3 := cellb hb A3
        replace P0 := cellb hb P0
        replace P1 := cellb hb P1
        replace hvr1 := hvr1.below hb
        replace hvr2 := hvr2.below hb
        replace q := q.trans (hb.mono q.size)
        have hyr1 := hy.read1
        have hyr2 := hy.read2
        obtain ⟨ayr, cyr, dyr, eyr, rfl, rfl⟩ := hy.forms
        clear hy hvr1 hvr2
        have z1 := hb.size
        clear hb
        try go_wp2_with fail
        refine hK.out _ _ ?_ ?_
        · (try dsimp only); exact ⟨A0, A1, A2, A3, P0, P1⟩
        clear hHeld hK K
        intro hHeld
        try simp only [Act.put, List.setIfInBounds_toArray, List.set_cons_zero, List.set_cons_succ]
        have zq1 := q.size
        refine wpAnyH_ready (rs := [5, 7]) (by kernel_rfl) (by simp) ?_
        refine (AllReadyH.cons (o := ⟨_, _, _, _, _, _⟩) rfl (fun K hK => ?_) (AllReadyH.cons (o := ⟨_, _, _, _, _, _⟩) rfl (fun K hK => ?_) AllReadyH.nil))
        · skip
          go_simp
          go_at_call 17
          refine (toCell_calls c0 g0 _).mono ?_
          rintro e V2 ⟨rfl, hb⟩
          replace A0 := cellb hb A0
          replace A1 := cellb hb A1
          replace A2 := cellb hb A2
          replace A3 := cellb hb A3
          replace P0 := cellb hb P0
          replace P1 := cellb hb P1
          replace hyr1 := hyr1.below hb
          replace hyr2 := hyr2.below hb
          replace q := q.trans (hb.mono q.size)
          have z2 := hb.size
          clear hb
          try go_wp2_with fail
          refine hK.out _ _ ?_ ?_
          · (try dsimp only); exact ⟨A0, A1, A2, A3, P0, P1⟩
          clear hHeld hK K
          intro hHeld
          try simp only [Act.put, List.setIfInBounds_toArray, List.set_cons_zero, List.set_cons_succ]
          have zq2 := q.size
          refine wpAnyH_ready (rs := [6, 7]) (by kernel_rfl) (by simp) ?_
          refine (AllReadyH.cons (o := ⟨_, _, _, _, _, _⟩) rfl (fun K hK => ?_) (AllReadyH.cons (o := ⟨_, _, _, _, _, _⟩) rfl (fun K hK => ?_) AllReadyH.nil))
          · skip
            go_simp
            go_at_call 15
            refine (specPutCell_calls r wd cs bs y0 x0 c0 g0 _ _ _ hn1 hn2 hyr1 hyr2).mono ?_
            rintro e V3 ⟨x, y, rfl, hx, hb⟩
            rw [HX.out] at hx ⊢
            dsimp only at hx ⊢
            obtain ⟨aB, cB, dB, eB, rfl, rfl⟩ := hx.forms
            replace A0 := cellb hb A0
            replace A1 := cellb hb A1
            replace A2 := cellb hb A2
            replace A3 := cellb hb A3
            replace P0 := cellb hb P0
            replace P1 := cellb hb P1
            replace hyr1 := hyr1.below hb
            replace hyr2 := hyr2.below hb
            replace q := q.trans (hb.mono q.size)
            clear hyr1 hyr2
            have z3 := hb.size
            clear hb
            try go_wp2_with fail
            refine hK.out _ _ ?_ ?_
            · (try dsimp only); exact ⟨A0, A1, A2, A3, P0, P1⟩
            clear hHeld hK K
            intro hHeld
            try simp only [Act.put, List.setIfInBounds_toArray, List.set_cons_zero, List.set_cons_succ]
            have zq3 := q.size
            refine wpAnyH_ready (rs := [7]) (by kernel_rfl) (by simp) ?_
            refine (AllReadyH.cons (o := ⟨_, _, _, _, _, _⟩) rfl (fun K hK => ?_) AllReadyH.nil)
            go_simp
            have hb : Below V3.heap.size V3 (V3.alloc (.cells #[.int .i64 0, .int .i64 0, .int .i64 0, .slice none 0 0, .slice none 0 0] 26)) := (Below.refl _ _).alloc (Nat.le_refl _) _
            replace A0 := cellb hb A0
            replace A1 := cellb hb A1
            replace A2 := cellb hb A2
            replace A3 := cellb hb A3
            replace P0 := cellb hb P0
            replace P1 := cellb hb P1
            replace hx := hx.below hb (Nat.le_refl _)
            replace q := q.trans (hb.mono q.size)
            have Z0 : (V3.alloc (.cells #[.int .i64 0, .int .i64 0, .int .i64 0, .slice none 0 0, .slice none 0 0] 26)).cell? ⟨V3.heap.size, 0, none⟩ = some (.int .i64 0) := by simp
            have Y0 : (V3.alloc (.cells #[.int .i64 0, .int .i64 0, .int .i64 0, .slice none 0 0, .slice none 0 0] 26)).frozen? ⟨V3.heap.size, 0, none⟩ = false := by simp
            have Z1 : (V3.alloc (.cells #[.int .i64 0, .int .i64 0, .int .i64 0, .slice none 0 0, .slice none 0 0] 26)).cell? ⟨V3.heap.size, 1, none⟩ = some (.int .i64 0) := by simp
            have Y1 : (V3.alloc (.cells #[.int .i64 0, .int .i64 0, .int .i64 0, .slice none 0 0, .slice none 0 0] 26)).frozen? ⟨V3.heap.size, 1, none⟩ = false := by simp
            have Z2 : (V3.alloc (.cells #[.int .i64 0, .int .i64 0, .int .i64 0, .slice none 0 0, .slice none 0 0] 26)).cell? ⟨V3.heap.size, 2, none⟩ = some (.int .i64 0) := by simp
            have Y2 : (V3.alloc (.cells #[.int .i64 0, .int .i64 0, .int .i64 0, .slice none 0 0, .slice none 0 0] 26)).frozen? ⟨V3.heap.size, 2, none⟩ = false := by simp
            have Z3 : (V3.alloc (.cells #[.int .i64 0, .int .i64 0, .int .i64 0, .slice none 0 0, .slice none 0 0] 26)).cell? ⟨V3.heap.size, 3, none⟩ = some (.slice none 0 0) := by simp
            have Y3 : (V3.alloc (.cells #[.int .i64 0, .int .i64 0, .int .i64 0, .slice none 0 0, .slice none 0 0] 26)).frozen? ⟨V3.heap.size, 3, none⟩ = false := by simp
            have Z4 : (V3.alloc (.cells #[.int .i64 0, .int .i64 0, .int .i64 0, .slice none 0 0, .slice none 0 0] 26)).cell? ⟨V3.heap.size, 4, none⟩ = some (.slice none 0 0) := by simp
            have Y4 : (V3.alloc (.cells #[.int .i64 0, .int .i64 0, .int .i64 0, .slice none 0 0, .slice none 0 0] 26)).frozen? ⟨V3.heap.size, 4, none⟩ = false := by simp
            have z4 : V3.heap.size < (V3.alloc (.cells #[.int .i64 0, .int .i64 0, .int .i64 0, .slice none 0 0, .slice none 0 0] 26)).heap.size := by simp
            clear hb
            generalize (V3.alloc (.cells #[.int .i64 0, .int .i64 0, .int .i64 0, .slice none 0 0, .slice none 0 0] 26)) = V4 at *
            refine hK.out _ _ ?_ ?_
            · (try dsimp only); exact ⟨A0, A1, A2, A3, P0, P1⟩
            clear hHeld hK K
            intro hHeld
            try simp only [Act.put, List.setIfInBounds_toArray, List.set_cons_zero, List.set_cons_succ]
            have zq := q.size
            refine wpAnyH_ready (rs := [8]) (by kernel_rfl) (by simp) ?_
            refine (AllReadyH.cons (o := ⟨_, _, _, _, _, _⟩) rfl (fun K hK => ?_) AllReadyH.nil)
            go_simp
            refine hK.out _ _ ?_ ?_
            · (try dsimp only); exact ⟨set5_other A0 (by omega), set5_other A1 (by omega), set5_other A2 (by omega), set5_other A3 (by omega), set5_other P0 (by omega), set5_other P1 (by omega)⟩
            clear hHeld hK K
            intro hHeld
            try simp only [Act.put, List.setIfInBounds_toArray, List.set_cons_zero, List.set_cons_succ]
            refine wpAnyH_done (by kernel_rfl) ?_ _
            have hcutf := CutG.mk (code := code) (rr := rr) (ww := ww) q (by omega) (by omega) (by omega) (by omega) (by omega) Z0 Z1 Z2 Z3 Z4 hx
            go_wp2
            go_meet
            exact hcutf
          · skip
            go_simp
            have hb : Below V2.heap.size V2 (V2.alloc (.cells #[.int .i64 0, .int .i64 0, .int .i64 0, .slice none 0 0, .slice none 0 0] 26)) := (Below.refl _ _).alloc (Nat.le_refl _) _
            replace A0 := cellb hb A0
            replace A1 := cellb hb A1
            replace A2 := cellb hb A2
            replace A3 := cellb hb A3
            replace P0 := cellb hb P0
            replace P1 := cellb hb P1
            replace hyr1 := hyr1.below hb
            replace hyr2 := hyr2.below hb
            replace q := q.trans (hb.mono q.size)
            have Z0 : (V2.alloc (.cells #[.int .i64 0, .int .i64 0, .int .i64 0, .slice none 0 0, .slice none 0 0] 26)).cell? ⟨V2.heap.size, 0, none⟩ = some (.int .i64 0) := by simp
            have Y0 : (V2.alloc (.cells #[.int .i64 0, .int .i64 0, .int .i64 0, .slice none 0 0, .slice none 0 0] 26)).frozen? ⟨V2.heap.size, 0, none⟩ = false := by simp
            have Z1 : (V2.alloc (.cells #[.int .i64 0, .int .i64 0, .int .i64 0, .slice none 0 0, .slice none 0 0] 26)).cell? ⟨V2.heap.size, 1, none⟩ = some (.int .i64 0) := by simp
            have Y1 : (V2.alloc (.cells #[.int .i64 0, .int .i64 0, .int .i64 0, .slice none 0 0, .slice none 0 0] 26)).frozen? ⟨V2.heap.size, 1, none⟩ = false := by simp
            have Z2 : (V2.alloc (.cells #[.int .i64 0, .int .i64 0, .int .i64 0, .slice none 0 0, .slice none 0 0] 26)).cell? ⟨V2.heap.size, 2, none⟩ = some (.int .i64 0) := by simp
            have Y2 : (V2.alloc (.cells #[.int .i64 0, .int .i64 0, .int .i64 0, .slice none 0 0, .slice none 0 0] 26)).frozen? ⟨V2.heap.size, 2, none⟩ = false := by simp
            have Z3 : (V2.alloc (.cells #[.int .i64 0, .int .i64 0, .int .i64 0, .slice none 0 0, .slice none 0 0] 26)).cell? ⟨V2.heap.size, 3, none⟩ = some (.slice none 0 0) := by simp
            have Y3 : (V2.alloc (.cells #[.int .i64 0, .int .i64 0, .int .i64 0, .slice none 0 0, .slice none 0 0] 26)).frozen? ⟨V2.heap.size, 3, none⟩ = false := by simp
            have Z4 : (V2.alloc (.cells #[.int .i64 0, .int .i64 0, .int .i64 0, .slice none 0 0, .slice none 0 0] 26)).cell? ⟨V2.heap.size, 4, none⟩ = some (.slice none 0 0) := by simp
            have Y4 : (V2.alloc (.cells #[.int .i64 0, .int .i64 0, .int .i64 0, .slice none 0 0, .slice none 0 0] 26)).frozen? ⟨V2.heap.size, 4, none⟩ = false := by simp
            have z3 : V2.heap.size < (V2.alloc (.cells #[.int .i64 0, .int .i64 0, .int .i64 0, .slice none 0 0, .slice none 0 0] 26)).heap.size := by simp
            clear hb
            generalize (V2.alloc (.cells #[.int .i64 0, .int .i64 0, .int .i64 0, .slice none 0 0, .slice none 0 0] 26)) = V3 at *
            refine hK.out _ _ ?_ ?_
            · (try dsimp only); exact ⟨A0, A1, A2, A3, P0, P1⟩
            clear hHeld hK K
            intro hHeld
            try simp only [Act.put, List.setIfInBounds_toArray, List.set_cons_zero, List.set_cons_succ]
            have zq3 := q.size
            refine wpAnyH_ready (rs := [6]) (by kernel_rfl) (by simp) ?_
            refine (AllReadyH.cons (o := ⟨_, _, _, _, _, _⟩) rfl (fun K hK => ?_) AllReadyH.nil)
            go_simp
            go_at_call 15
            refine (specPutCell_calls r wd cs bs y0 x0 c0 g0 _ _ _ hn1 hn2 hyr1 hyr2).mono ?_
            rintro e V4 ⟨x, y, rfl, hx, hb⟩
            rw [HX.out] at hx ⊢
            dsimp only at hx ⊢
            obtain ⟨aB, cB, dB, eB, rfl, rfl⟩ := hx.forms
            replace A0 := cellb hb A0
            replace A1 := cellb hb A1
            replace A2 := cellb hb A2
            replace A3 := cellb hb A3
            replace P0 := cellb hb P0
            replace P1 := cellb hb P1
            replace hyr1 := hyr1.below hb
            replace hyr2 := hyr2.below hb
            replace Z0 := cellb hb Z0
            replace Z1 := cellb hb Z1
            replace Z2 := cellb hb Z2
            replace Z3 := cellb hb Z3
            replace Z4 := cellb hb Z4
            have Q0 := (hb.frozen (p := ⟨V2.heap.size, 0, none⟩) (by simp; omega)).trans Y0
            have Q1 := (hb.frozen (p := ⟨V2.heap.size, 1, none⟩) (by simp; omega)).trans Y1
            have Q2 := (hb.frozen (p := ⟨V2.heap.size, 2, none⟩) (by simp; omega)).trans Y2
            have Q3 := (hb.frozen (p := ⟨V2.heap.size, 3, none⟩) (by simp; omega)).trans Y3
            have Q4 := (hb.frozen (p := ⟨V2.heap.size, 4, none⟩) (by simp; omega)).trans Y4
            clear Y0 Y1 Y2 Y3 Y4
            have Y0 := Q0
            have Y1 := Q1
            have Y2 := Q2
            have Y3 := Q3
            have Y4 := Q4
            clear Q0 Q1 Q2 Q3 Q4
            replace q := q.trans (hb.mono q.size)
            clear hyr1 hyr2
            have z4 := hb.size
            clear hb
            try go_wp2_with fail
            refine hK.out _ _ ?_ ?_
            · (try dsimp only); exact ⟨A0, A1, A2, A3, P0, P1⟩
            clear hHeld hK K
            intro hHeld
            try simp only [Act.put, List.setIfInBounds_toArray, List.set_cons_zero, List.set_cons_succ]
            have zq := q.size
            refine wpAnyH_ready (rs := [8]) (by kernel_rfl) (by simp) ?_
            refine (AllReadyH.cons (o := ⟨_, _, _, _, _, _⟩) rfl (fun K hK => ?_) AllReadyH.nil)
            go_simp
            refine hK.out _ _ ?_ ?_
            · (try dsimp only); exact ⟨set5_other A0 (by omega), set5_other A1 (by omega), set5_other A2 (by omega), set5_other A3 (by omega), set5_other P0 (by omega), set5_other P1 (by omega)⟩
            clear hHeld hK K
            intro hHeld
            try simp only [Act.put, List.setIfInBounds_toArray, List.set_cons_zero, List.set_cons_succ]
            refine wpAnyH_done (by kernel_rfl) ?_ _
            have hcutf := CutG.mk (code := code) (rr := rr) (ww := ww) q (by omega) (by omega) (by omega) (by omega) (by omega) Z0 Z1 Z2 Z3 Z4 hx
            go_wp2
            go_meet
            exact hcutf
        · skip
          go_simp
          have hb : Below V1.heap.size V1 (V1.alloc (.cells #[.int .i64 0, .int .i64 0, .int .i64 0, .slice none 0 0, .slice none 0 0] 26)) := (Below.refl _ _).alloc (Nat.le_refl _) _
          replace A0 := cellb hb A0
          replace A1 := cellb hb A1
          replace A2 := cellb hb A2
          replace A3 := cellb hb A3
          replace P0 := cellb hb P0
          replace P1 := cellb hb P1
          replace hyr1 := hyr1.below hb
          replace hyr2 := hyr2.below hb
          replace q := q.trans (hb.mono q.size)
          have Z0 : (V1.alloc (.cells #[.int .i64 0, .int .i64 0, .int .i64 0, .slice none 0 0, .slice none 0 0] 26)).cell? ⟨V1.heap.size, 0, none⟩ = some (.int .i64 0) := by simp
          have Y0 : (V1.alloc (.cells #[.int .i64 0, .int .i64 0, .int .i64 0, .slice none 0 0, .slice none 0 0] 26)).frozen? ⟨V1.heap.size, 0, none⟩ = false := by simp
          have Z1 : (V1.alloc (.cells #[.int .i64 0, .int .i64 0, .int .i64 0, .slice none 0 0, .slice none 0 0] 26)).cell? ⟨V1.heap.size, 1, none⟩ = some (.int .i64 0) := by simp
          have Y1 : (V1.alloc (.cells #[.int .i64 0, .int .i64 0, .int .i64 0, .slice none 0 0, .slice none 0 0] 26)).frozen? ⟨V1.heap.size, 1, none⟩ = false := by simp
          have Z2 : (V1.alloc (.cells #[.int .i64 0, .int .i64 0, .int .i64 0, .slice none 0 0, .slice none 0 0] 26)).cell? ⟨V1.heap.size, 2, none⟩ = some (.int .i64 0) := by simp
          have Y2 : (V1.alloc (.cells #[.int .i64 0, .int .i64 0, .int .i64 0, .slice none 0 0, .slice none 0 0] 26)).frozen? ⟨V1.heap.size, 2, none⟩ = false := by simp
          have Z3 : (V1.alloc (.cells #[.int .i64 0, .int .i64 0, .int .i64 0, .slice none 0 0, .slice none 0 0] 26)).cell? ⟨V1.heap.size, 3, none⟩ = some (.slice none 0 0) := by simp
          have Y3 : (V1.alloc (.cells #[.int .i64 0, .int .i64 0, .int .i64 0, .slice none 0 0, .slice none 0 0] 26)).frozen? ⟨V1.heap.size, 3, none⟩ = false := by simp
          have Z4 : (V1.alloc (.cells #[.int .i64 0, .int .i64 0, .int .i64 0, .slice none 0 0, .slice none 0 0] 26)).cell? ⟨V1.heap.size, 4, none⟩ = some (.slice none 0 0) := by simp
          have Y4 : (V1.alloc (.cells #[.int .i64 0, .int .i64 0, .int .i64 0, .slice none 0 0, .slice none 0 0] 26)).frozen? ⟨V1.heap.size, 4, none⟩ = false := by simp
          have z2 : V1.heap.size < (V1.alloc (.cells #[.int .i64 0, .int .i64 0, .int .i64 0, .slice none 0 0, .slice none 0 0] 26)).heap.size := by simp
          clear hb
          generalize (V1.alloc (.cells #[.int .i64 0, .int .i64 0, .int .i64 0, .slice none 0 0, .slice none 0 0] 26)) = V2 at *
          refine hK.out _ _ ?_ ?_
          · (try dsimp only); exact ⟨A0, A1, A2, A3, P0, P1⟩
          clear hHeld hK K
          intro hHeld
          try simp only [Act.put, List.setIfInBounds_toArray, List.set_cons_zero, List.set_cons_succ]
          have zq2 := q.size
          refine wpAnyH_ready (rs := [5]) (by kernel_rfl) (by simp) ?_
          refine (AllReadyH.cons (o := ⟨_, _, _, _, _, _⟩) rfl (fun K hK => ?_) AllReadyH.nil)
          go_simp
          go_at_call 17
          refine (toCell_calls c0 g0 _).mono ?_
          rintro e V3 ⟨rfl, hb⟩
          replace A0 := cellb hb A0
          replace A1 := cellb hb A1
          replace A2 := cellb hb A2
          replace A3 := cellb hb A3
          replace P0 := cellb hb P0
          replace P1 := cellb hb P1
          replace hyr1 := hyr1.below hb
          replace hyr2 := hyr2.below hb
          replace Z0 := cellb hb Z0
          replace Z1 := cellb hb Z1
          replace Z2 := cellb hb Z2
          replace Z3 := cellb hb Z3
          replace Z4 := cellb hb Z4
          have Q0 := (hb.frozen (p := ⟨V1.heap.size, 0, none⟩) (by simp; omega)).trans Y0
          have Q1 := (hb.frozen (p := ⟨V1.heap.size, 1, none⟩) (by simp; omega)).trans Y1
          have Q2 := (hb.frozen (p := ⟨V1.heap.size, 2, none⟩) (by simp; omega)).trans Y2
          have Q3 := (hb.frozen (p := ⟨V1.heap.size, 3, none⟩) (by simp; omega)).trans Y3
          have Q4 := (hb.frozen (p := ⟨V1.heap.size, 4, none⟩) (by simp; omega)).trans Y4
          clear Y0 Y1 Y2 Y3 Y4
          have Y0 := Q0
          have Y1 := Q1
          have Y2 := Q2
          have Y3 := Q3
          have Y4 := Q4
          clear Q0 Q1 Q2 Q3 Q4
          replace q := q.trans (hb.mono q.size)
          have z3 := hb.size
          clear hb
          try go_wp2_with fail
          refine hK.out _ _ ?_ ?_
          · (try dsimp only); exact ⟨A0, A1, A2, A3, P0, P1⟩
          clear hHeld hK K
          intro hHeld
          try simp only [Act.put, List.setIfInBounds_toArray, List.set_cons_zero, List.set_cons_succ]
          have zq3 := q.size
          refine wpAnyH_ready (rs := [6]) (by kernel_rfl) (by simp) ?_
          refine (AllReadyH.cons (o := ⟨_, _, _, _, _, _⟩) rfl (fun K hK => ?_) AllReadyH.nil)
          go_simp
          go_at_call 15
          refine (specPutCell_calls r wd cs bs y0 x0 c0 g0 _ _ _ hn1 hn2 hyr1 hyr2).mono ?_
          rintro e V4 ⟨x, y, rfl, hx, hb⟩
          rw [HX.out] at hx ⊢
          dsimp only at hx ⊢
          obtain ⟨aB, cB, dB, eB, rfl, rfl⟩ := hx.forms
          replace A0 := cellb hb A0
          replace A1 := cellb hb A1
          replace A2 := cellb hb A2
          replace A3 := cellb hb A3
          replace P0 := cellb hb P0
          replace P1 := cellb hb P1
          replace hyr1 := hyr1.below hb
          replace hyr2 := hyr2.below hb
          replace Z0 := cellb hb Z0
          replace Z1 := cellb hb Z1
          replace Z2 := cellb hb Z2
          replace Z3 := cellb hb Z3
          replace Z4 := cellb hb Z4
          have Q0 := (hb.frozen (p := ⟨V1.heap.size, 0, none⟩) (by simp; omega)).trans Y0
          have Q1 := (hb.frozen (p := ⟨V1.heap.size, 1, none⟩) (by simp; omega)).trans Y1
          have Q2 := (hb.frozen (p := ⟨V1.heap.size, 2, none⟩) (by simp; omega)).trans Y2
          have Q3 := (hb.frozen (p := ⟨V1.heap.size, 3, none⟩) (by simp; omega)).trans Y3
          have Q4 := (hb.frozen (p := ⟨V1.heap.size, 4, none⟩) (by simp; omega)).trans Y4
          clear Y0 Y1 Y2 Y3 Y4
          have Y0 := Q0
          have Y1 := Q1
          have Y2 := Q2
          have Y3 := Q3
          have Y4 := Q4
          clear Q0 Q1 Q2 Q3 Q4
          replace q := q.trans (hb.mono q.size)
          clear hyr1 hyr2
          have z4 := hb.size
          clear hb
          try go_wp2_with fail
          refine hK.out _ _ ?_ ?_
          · (try dsimp only); exact ⟨A0, A1, A2, A3, P0, P1⟩
          clear hHeld hK K
          intro hHeld
          try simp only [Act.put, List.setIfInBounds_toArray, List.set_cons_zero, List.set_cons_succ]
          have zq := q.size
          refine wpAnyH_ready (rs := [8]) (by kernel_rfl) (by simp) ?_
          refine (AllReadyH.cons (o := ⟨_, _, _, _, _, _⟩) rfl (fun K hK => ?_) AllReadyH.nil)
          go_simp
          refine hK.out _ _ ?_ ?_
          · (try dsimp only); exact ⟨set5_other A0 (by omega), set5_other A1 (by omega), set5_other A2 (by omega), set5_other A3 (by omega), set5_other P0 (by omega), set5_other P1 (by omega)⟩
          clear hHeld hK K
          intro hHeld
          try simp only [Act.put, List.setIfInBounds_toArray, List.set_cons_zero, List.set_cons_succ]
          refine wpAnyH_done (by kernel_rfl) ?_ _
          have hcutf := CutG.mk (code := code) (rr := rr) (ww := ww) q (by omega) (by omega) (by omega) (by omega) (by omega) Z0 Z1 Z2 Z3 Z4 hx
          go_wp2
          go_meet
          exact hcutf
      · skip
        go_simp
        have hb : Below V0.heap.size V0 (V0.alloc (.cells #[.int .i64 0, .int .i64 0, .int .i64 0, .slice none 0 0, .slice none 0 0] 26)) := (Below.refl _ _).alloc (Nat.le_refl _) _
        replace A0 := cellb hb A0
        replace A1 := cellb hb A1
        replace A2 := cellb hb A2
        replace A3 := cellb hb A3
        replace P0 := cellb hb P0
        replace P1 := cellb hb P1
        replace hvr1 := hvr1.below hb
        replace hvr2 := hvr2.below hb
        replace q := q.trans (hb.mono q.size)
        have Z0 : (V0.alloc (.cells #[.int .i64 0, .int .i64 0, .int .i64 0, .slice none 0 0, .slice none 0 0] 26)).cell? ⟨V0.heap.size, 0, none⟩ = some (.int .i64 0) := by simp
        have Y0 : (V0.alloc (.cells #[.int .i64 0, .int .i64 0, .int .i64 0, .slice none 0 0, .slice none 0 0] 26)).frozen? ⟨V0.heap.size, 0, none⟩ = false := by simp
        have Z1 : (V0.alloc (.cells #[.int .i64 0, .int .i64 0, .int .i64 0, .slice none 0 0, .slice none 0 0] 26)).cell? ⟨V0.heap.size, 1, none⟩ = some (.int .i64 0) := by simp
        have Y1 : (V0.alloc (.cells #[.int .i64 0, .int .i64 0, .int .i64 0, .slice none 0 0, .slice none 0 0] 26)).frozen? ⟨V0.heap.size, 1, none⟩ = false := by simp
        have Z2 : (V0.alloc (.cells #[.int .i64 0, .int .i64 0, .int .i64 0, .slice none 0 0, .slice none 0 0] 26)).cell? ⟨V0.heap.size, 2, none⟩ = some (.int .i64 0) := by simp
        have Y2 : (V0.alloc (.cells #[.int .i64 0, .int .i64 0, .int .i64 0, .slice none 0 0, .slice none 0 0] 26)).frozen? ⟨V0.heap.size, 2, none⟩ = false := by simp
        have Z3 : (V0.alloc (.cells #[.int .i64 0, .int .i64 0, .int .i64 0, .slice none 0 0, .slice none 0 0] 26)).cell? ⟨V0.heap.size, 3, none⟩ = some (.slice none 0 0) := by simp
        have Y3 : (V0.alloc (.cells #[.int .i64 0, .int .i64 0, .int .i64 0, .slice none 0 0, .slice none 0 0] 26)).frozen? ⟨V0.heap.size, 3, none⟩ = false := by simp
        have Z4 : (V0.alloc (.cells #[.int .i64 0, .int .i64 0, .int .i64 0, .slice none 0 0, .slice none 0 0] 26)).cell? ⟨V0.heap.size, 4, none⟩ = some (.slice none 0 0) := by simp
        have Y4 : (V0.alloc (.cells #[.int .i64 0, .int .i64 0, .int .i64 0, .slice none 0 0, .slice none 0 0] 26)).frozen? ⟨V0.heap.size, 4, none⟩ = false := by simp
        have z1 : V0.heap.size < (V0.alloc (.cells #[.int .i64 0, .int .i64 0, .int .i64 0, .slice none 0 0, .slice none 0 0] 26)).heap.size := by simp
        clear hb
        generalize (V0.alloc (.cells #[.int .i64 0, .int .i64 0, .int .i64 0, .slice none 0 0, .slice none 0 0] 26)) = V1 at *
        refine hK.out _ _ ?_ ?_
        · (try dsimp only); exact ⟨A0, A1, A2, A3, P0, P1⟩
        clear hHeld hK K
        intro hHeld
        try simp only [Act.put, List.setIfInBounds_toArray, List.set_cons_zero, List.set_cons_succ]
        have zq1 := q.size
        refine wpAnyH_ready (rs := [1]) (by kernel_rfl) (by simp) ?_
        refine (AllReadyH.cons (o := ⟨_, _, _, _, _, _⟩) rfl (fun K hK => ?_) AllReadyH.nil)
        go_simp
        go_at_call 16
        refine (toGrid_calls r wd cs bs _ _ _ hn1 hn2 hvr1 hvr2).mono ?_
        rintro e V2 ⟨yx, yy, rfl, hy, hb⟩
        replace A0 := cellb hb A0
        replace A1 := cellb hb A1
        replace A2 := cellb hb A2
        replace A3 := cellb hb A3
        replace P0 := cellb hb P0
        replace P1 := cellb hb P1
        replace hvr1 := hvr1.below hb
        replace hvr2 := hvr2.below hb
        replace Z0 := cellb hb Z0
        replace Z1 := cellb hb Z1
        replace Z2 := cellb hb Z2
        replace Z3 := cellb hb Z3
        replace Z4 := cellb hb Z4
        have Q0 := (hb.frozen (p := ⟨V0.heap.size, 0, none⟩) (by simp; omega)).trans Y0
        have Q1 := (hb.frozen (p := ⟨V0.heap.size, 1, none⟩) (by simp; omega)).trans Y1
        have Q2 := (hb.frozen (p := ⟨V0.heap.size, 2, none⟩) (by simp; omega)).trans Y2
        have Q3 := (hb.frozen (p := ⟨V0.heap.size, 3, none⟩) (by simp; omega)).trans Y3
        have Q4 := (hb.frozen (p := ⟨V0.heap.size, 4, none⟩) (by simp; omega)).trans Y4
        clear Y0 Y1 Y2 Y3 Y4
        have Y0 := Q0
        have Y1 := Q1
        have Y2 := Q2
        have Y3 := Q3
        have Y4 := Q4
        clear Q0 Q1 Q2 Q3 Q4
        replace q := q.trans (hb.mono q.size)
        have hyr1 := hy.read1
        have hyr2 := hy.read2
        obtain ⟨ayr, cyr, dyr, eyr, rfl, rfl⟩ := hy.forms
        clear hy hvr1 hvr2
        have z2 := hb.size
        clear hb
        try go_wp2_with fail
        refine hK.out _ _ ?_ ?_
        · (try dsimp only); exact ⟨A0, A1, A2, A3, P0, P1⟩
        clear hHeld hK K
        intro hHeld
        try simp only [Act.put, List.setIfInBounds_toArray, List.set_cons_zero, List.set_cons_succ]
        have zq2 := q.size
        refine wpAnyH_ready (rs := [5]) (by kernel_rfl) (by simp) ?_
        refine (AllReadyH.cons (o := ⟨_, _, _, _, _, _⟩) rfl (fun K hK => ?_) AllReadyH.nil)
        go_simp
        go_at_call 17
        refine (toCell_calls c0 g0 _).mono ?_
        rintro e V3 ⟨rfl, hb⟩
        replace A0 := cellb hb A0
        replace A1 := cellb hb A1
        replace A2 := cellb hb A2
        replace A3 := cellb hb A3
        replace P0 := cellb hb P0
        replace P1 := cellb hb P1
        replace hyr1 := hyr1.below hb
        replace hyr2 := hyr2.below hb
        replace Z0 := cellb hb Z0
        replace Z1 := cellb hb Z1
        replace Z2 := cellb hb Z2
        replace Z3 := cellb hb Z3
        replace Z4 := cellb hb Z4
        have Q0 := (hb.frozen (p := ⟨V0.heap.size, 0, none⟩) (by simp; omega)).trans Y0
        have Q1 := (hb.frozen (p := ⟨V0.heap.size, 1, none⟩) (by simp; omega)).trans Y1
        have Q2 := (hb.frozen (p := ⟨V0.heap.size, 2, none⟩) (by simp; omega)).trans Y2
        have Q3 := (hb.frozen (p := ⟨V0.heap.size, 3, none⟩) (by simp; omega)).trans Y3
        have Q4 := (hb.frozen (p := ⟨V0.heap.size, 4, none⟩) (by simp; omega)).trans Y4
        clear Y0 Y1 Y2 Y3 Y4
        have Y0 := Q0
        have Y1 := Q1
        have Y2 := Q2
        have Y3 := Q3
        have Y4 := Q4
        clear Q0 Q1 Q2 Q3 Q4
        replace q := q.trans (hb.mono q.size)
        have z3 := hb.size
        clear hb
        try go_wp2_with fail
        refine hK.out _ _ ?_ ?_
        · (try dsimp only); exact ⟨A0, A1, A2, A3, P0, P1⟩
        clear hHeld hK K
        intro hHeld
        try simp only [Act.put, List.setIfInBounds_toArray, List.set_cons_zero, List.set_cons_succ]
        have zq3 := q.size
        refine wpAnyH_ready (rs := [6]) (by kernel_rfl) (by simp) ?_
        refine (AllReadyH.cons (o := ⟨_, _, _, _, _, _⟩) rfl (fun K hK => ?_) AllReadyH.nil)
        go_simp
        go_at_call 15
        refine (specPutCell_calls r wd cs bs y0 x0 c0 g0 _ _ _ hn1 hn2 hyr1 hyr2).mono ?_
        rintro e V4 ⟨x, y, rfl, hx, hb⟩
        rw [HX.out] at hx ⊢
        dsimp only at hx ⊢
        obtain ⟨aB, cB, dB, eB, rfl, rfl⟩ := hx.forms
        replace A0 := cellb hb A0
        replace A1 := cellb hb A1
        replace A2 := cellb hb A2
        replace A3 := cellb hb A3
        replace P0 := cellb hb P0
        replace P1 := cellb hb P1
        replace hyr1 := hyr1.below hb
        replace hyr2 := hyr2.below hb
        replace Z0 := cellb hb Z0
        replace Z1 := cellb hb Z1
        replace Z2 := cellb hb Z2
        replace Z3 := cellb hb Z3
        replace Z4 := cellb hb Z4
        have Q0 := (hb.frozen (p := ⟨V0.heap.size, 0, none⟩) (by simp; omega)).trans Y0
        have Q1 := (hb.frozen (p := ⟨V0.heap.size, 1, none⟩) (by simp; omega)).trans Y1
        have Q2 := (hb.frozen (p := ⟨V0.heap.size, 2, none⟩) (by simp; omega)).trans Y2
        have Q3 := (hb.frozen (p := ⟨V0.heap.size, 3, none⟩) (by simp; omega)).trans Y3
        have Q4 := (hb.frozen (p := ⟨V0.heap.size, 4, none⟩) (by simp; omega)).trans Y4
        clear Y0 Y1 Y2 Y3 Y4
        have Y0 := Q0
        have Y1 := Q1
        have Y2 := Q2
        have Y3 := Q3
        have Y4 := Q4
        clear Q0 Q1 Q2 Q3 Q4
        replace q := q.trans (hb.mono q.size)
        clear hyr1 hyr2
        have z4 := hb.size
        clear hb
        try go_wp2_with fail
        refine hK.out _ _ ?_ ?_
        · (try dsimp only); exact ⟨A0, A1, A2, A3, P0, P1⟩
        clear hHeld hK K
        intro hHeld
        try simp only [Act.put, List.setIfInBounds_toArray, List.set_cons_zero, List.set_cons_succ]
        have zq := q.size
        refine wpAnyH_ready (rs := [8]) (by kernel_rfl) (by simp) ?_
        refine (AllReadyH.cons (o := ⟨_, _, _, _, _, _⟩) rfl (fun K hK => ?_) AllReadyH.nil)
        go_simp
        refine hK.out _ _ ?_ ?_
        · (try dsimp only); exact ⟨set5_other A0 (by omega), set5_other A1 (by omega), set5_other A2 (by omega), set5_other A3 (by omega), set5_other P0 (by omega), set5_other P1 (by omega)⟩
        clear hHeld hK K
        intro hHeld
        try simp only [Act.put, List.setIfInBounds_toArray, List.set_cons_zero, List.set_cons_succ]
        refine wpAnyH_done (by kernel_rfl) ?_ _
        have hcutf := CutG.mk (code := code) (rr := rr) (ww := ww) q (by omega) (by omega) (by omega) (by omega) (by omega) Z0 Z1 Z2 Z3 Z4 hx
        go_wp2
        go_meet
        exact hcutf
    case rest =>
      obtain ⟨FB, loB, hiB, aB, cB, dB, eB, rfl, r2, hFB, hCB, hxB⟩ := hcut
      rename World => w2
      obtain ⟨B0, B1, B2, B3, B4⟩ := hCB
      have z2 : w1.heap.size ≤ w2.heap.size := r2.size
      replace A0 := cellb r2 A0
      replace A1 := cellb r2 A1
      replace A2 := cellb r2 A2
      replace A3 := cellb r2 A3
      replace P0 := cellb r2 P0
      replace P1 := cellb r2 P1
      have b2 : Below w.heap.size w w2 := b1.trans (r2.mono (by omega))
      clear r2 b1
      clear lt1_0 lt1_1
      have lt2_0 : w.heap.size < w2.heap.size := by omega
      have lt2_1 : w.heap.size + 1 < w2.heap.size := by omega
      have lt2_2 : FB < w2.heap.size := by omega
      go_wp2_with fail
      refine (toGrid_calls r wd cs bs _ _ _ hn1 hn2 ((hr1.below b2)) ((hr2.below b2))).mono ?_
      rintro e w3 ⟨xq, yq, rfl, hq, hb3⟩
      have z3 : w2.heap.size ≤ w3.heap.size := hb3.size
      have r3 := hb3
      clear hb3
      replace A0 := cellb r3 A0
      replace A1 := cellb r3 A1
      replace A2 := cellb r3 A2
      replace A3 := cellb r3 A3
      replace P0 := cellb r3 P0
      replace P1 := cellb r3 P1
      replace B0 := cellb r3 B0
      replace B1 := cellb r3 B1
      replace B2 := cellb r3 B2
      replace B3 := cellb r3 B3
      replace B4 := cellb r3 B4
      replace hxB := hxB.below r3 (by omega)
      have b3 : Below w.heap.size w w3 := b2.trans (r3.mono (by omega))
      clear r3 b2
      clear lt2_0 lt2_1 lt2_2
      have lt3_0 : w.heap.size < w3.heap.size := by omega
      have lt3_1 : w.heap.size + 1 < w3.heap.size := by omega
      have lt3_2 : FB < w3.heap.size := by omega
      obtain ⟨aq, cq, dq, eq, rfl, rfl⟩ := hq.forms
      go_wp2_with fail
      have r4 : Below w3.heap.size w3 (w3.alloc (.cells #[.int .i64 r, .int .i64 wd, .slice aq cs.length cq, .slice dq bs.length eq] 24)) := (by repeat' (first | with_reducible exact Below.refl _ _ | with_reducible assumption | with_reducible refine Below.drew ?_ | with_reducible refine Below.alloc ?_ ?_ _ | with_reducible refine Below.setCell ?_ ?_ _ | (simp; done) | (simp; omega) | omega))
      have X0 : (w3.alloc (.cells #[.int .i64 r, .int .i64 wd, .slice aq cs.length cq, .slice dq bs.length eq] 24)).cell? ⟨w3.heap.size, 0, none⟩ = some (.int .i64 r) := by simp
      have X1 : (w3.alloc (.cells #[.int .i64 r, .int .i64 wd, .slice aq cs.length cq, .slice dq bs.length eq] 24)).cell? ⟨w3.heap.size, 1, none⟩ = some (.int .i64 wd) := by simp
      have X2 : (w3.alloc (.cells #[.int .i64 r, .int .i64 wd, .slice aq cs.length cq, .slice dq bs.length eq] 24)).cell? ⟨w3.heap.size, 2, none⟩ = some (.slice aq cs.length cq) := by simp
      have X3 : (w3.alloc (.cells #[.int .i64 r, .int .i64 wd, .slice aq cs.length cq, .slice dq bs.length eq] 24)).cell? ⟨w3.heap.size, 3, none⟩ = some (.slice dq bs.length eq) := by simp
      have z4 : w3.heap.size < (w3.alloc (.cells #[.int .i64 r, .int .i64 wd, .slice aq cs.length cq, .slice dq bs.length eq] 24)).heap.size := by simp
      replace A0 := cellb r4 A0
      replace A1 := cellb r4 A1
      replace A2 := cellb r4 A2
      replace A3 := cellb r4 A3
      replace P0 := cellb r4 P0
      replace P1 := cellb r4 P1
      replace B0 := cellb r4 B0
      replace B1 := cellb r4 B1
      replace B2 := cellb r4 B2
      replace B3 := cellb r4 B3
      replace B4 := cellb r4 B4
      replace hxB := hxB.below r4 (by omega)
      replace hq := hq.below r4 (by omega)
      have b4 : Below w.heap.size w (w3.alloc (.cells #[.int .i64 r, .int .i64 wd, .slice aq cs.length cq, .slice dq bs.length eq] 24)) := b3.trans (r4.mono (by omega))
      clear r4 b3
      generalize (w3.alloc (.cells #[.int .i64 r, .int .i64 wd, .slice aq cs.length cq, .slice dq bs.length eq] 24)) = w4 at *
      clear lt3_0 lt3_1 lt3_2
      have lt4_0 : w.heap.size < w4.heap.size := by omega
      have lt4_1 : w.heap.size + 1 < w4.heap.size := by omega
      have lt4_2 : FB < w4.heap.size := by omega
      have lt4_3 : w3.heap.size < w4.heap.size := by omega
      go_wp2_with fail
      go_cut [12] from 31 to 36 (fun s wx => CutG w4 wx code rr ww xs ys s)
      case first =>
        have hyr1 := hq.read1
        have hyr2 := hq.read2
        refine wp_region_held_drew (S := (fun w' => w'.cell? ⟨w3.heap.size, 0, none⟩ = some (.int .i64 r) ∧ w'.cell? ⟨w3.heap.size, 1, none⟩ = some (.int .i64 wd) ∧ w'.cell? ⟨w3.heap.size, 2, none⟩ = some (.slice aq cs.length cq) ∧ w'.cell? ⟨w3.heap.size, 3, none⟩ = some (.slice dq bs.length eq) ∧ w'.cell? ⟨w.heap.size + 1, 0, none⟩ = some (.int .i64 c0) ∧ w'.cell? ⟨w.heap.size + 1, 1, none⟩ = some (.int .i64 g0))) (by kernel_rfl) ?_ (fun hHeld => ?_)
        · (try dsimp only); exact ⟨X0, X1, X2, X3, P0, P1⟩
        replace X0 := cellb (Below.drew (Below.refl _ w4)) X0
        replace X1 := cellb (Below.drew (Below.refl _ w4)) X1
        replace X2 := cellb (Below.drew (Below.refl _ w4)) X2
        replace X3 := cellb (Below.drew (Below.refl _ w4)) X3
        replace P0 := cellb (Below.drew (Below.refl _ w4)) P0
        replace P1 := cellb (Below.drew (Below.refl _ w4)) P1
        replace hyr1 := hyr1.below (Below.drew (Below.refl _ w4))
        replace hyr2 := hyr2.below (Below.drew (Below.refl _ w4))
        have q : Below w4.heap.size w4 w4.drew := Below.drew (Below.refl _ _)
        generalize w4.drew = V0 at *
        refine wpAnyH_take (i := 0) (oi := ⟨_, _, _, _, _, _⟩) (v := ?_) rfl (by kernel_rfl) (by kernel_rfl) (by kernel_rfl) (fun _ _ _ h => h) (Or.inl ⟨by rfl, ?_⟩) hHeld ?_
        rotate_left
        · (intro w hSw; (try dsimp only at hSw); go_simp; try (with_reducible rfl))
        try simp only [Act.put, List.setIfInBounds_toArray, List.set_cons_zero, List.set_cons_succ]
        refine wpAnyH_take (i := 1) (oi := ⟨_, _, _, _, _, _⟩) (v := ?_) rfl (by kernel_rfl) (by kernel_rfl) (by kernel_rfl) (fun _ _ _ h => h) (Or.inl ⟨by rfl, ?_⟩) hHeld ?_
        rotate_left
        · (intro w hSw; (try dsimp only at hSw); go_simp; try (with_reducible rfl))
        try simp only [Act.put, List.setIfInBounds_toArray, List.set_cons_zero, List.set_cons_succ]
        refine wpAnyH_take (i := 2) (oi := ⟨_, _, _, _, _, _⟩) (v := ?_) rfl (by kernel_rfl) (by kernel_rfl) (by kernel_rfl) (fun _ _ _ h => h) (Or.inl ⟨by rfl, ?_⟩) hHeld ?_
        rotate_left
        · (intro w hSw; (try dsimp only at hSw); go_simp; try (with_reducible rfl))
        try simp only [Act.put, List.setIfInBounds_toArray, List.set_cons_zero, List.set_cons_succ]
        refine wpAnyH_take (i := 3) (oi := ⟨_, _, _, _, _, _⟩) (v := ?_) rfl (by kernel_rfl) (by kernel_rfl) (by kernel_rfl) (fun _ _ _ h => h) (Or.inl ⟨by rfl, ?_⟩) hHeld ?_
        rotate_left
        · (intro w hSw; (try dsimp only at hSw); go_simp; try (with_reducible rfl))
        try simp only [Act.put, List.setIfInBounds_toArray, List.set_cons_zero, List.set_cons_succ]
        have zq0 := q.size
        refine wpAnyH_ready (rs := [4, 6]) (by kernel_rfl) (by simp) ?_
        refine (AllReadyH.cons (o := ⟨_, _, _, _, _, _⟩) rfl (fun K hK => ?_) (AllReadyH.cons (o := ⟨_, _, _, _, _, _⟩) rfl (fun K hK => ?_) AllReadyH.nil))
        · skip
          go_simp
          go_at_call 17
          refine (toCell_calls c0 g0 _).mono ?_
          rintro e V1 ⟨rfl, hb⟩
          replace X0 := cellb hb X0
          replace X1 := cellb hb X1
          replace X2 := cellb hb X2
          replace X3 := cellb hb X3
          replace P0 := cellb hb P0
          replace P1 := cellb hb P1
          replace hyr1 := hyr1.below hb
          replace hyr2 := hyr2.below hb
          replace q := q.trans (hb.mono q.size)
          have z1 := hb.size
          clear hb
          try go_wp2_with fail
          refine hK.out _ _ ?_ ?_
          · (try dsimp only); exact ⟨X0, X1, X2, X3, P0, P1⟩
          clear hHeld hK K
          intro hHeld
          try simp only [Act.put, List.setIfInBounds_toArray, List.set_cons_zero, List.set_cons_succ]
          have zq1 := q.size
          refine wpAnyH_ready (rs := [5, 6]) (by kernel_rfl) (by simp) ?_
          refine (AllReadyH.cons (o := ⟨_, _, _, _, _, _⟩) rfl (fun K hK => ?_) (AllReadyH.cons (o := ⟨_, _, _, _, _, _⟩) rfl (fun K hK => ?_) AllReadyH.nil))
          · skip
            go_simp
            go_at_call 18
            refine (implPutCell_calls r wd cs bs y0 x0 c0 g0 _ _ _ hn1 hn2 hyr1 hyr2).mono ?_
            rintro e V2 ⟨x, y, rfl, hx, hb⟩
            rw [HX.out] at hx ⊢
            dsimp only at hx ⊢
            obtain ⟨aG, cG, dG, eG, rfl, rfl⟩ := hx.forms
            replace X0 := cellb hb X0
            replace X1 := cellb hb X1
            replace X2 := cellb hb X2
            replace X3 := cellb hb X3
            replace P0 := cellb hb P0
            replace P1 := cellb hb P1
            replace hyr1 := hyr1.below hb
            replace hyr2 := hyr2.below hb
            replace q := q.trans (hb.mono q.size)
            clear hyr1 hyr2
            have z2 := hb.size
            clear hb
            try go_wp2_with fail
            refine hK.out _ _ ?_ ?_
            · (try dsimp only); exact ⟨X0, X1, X2, X3, P0, P1⟩
            clear hHeld hK K
            intro hHeld
            try simp only [Act.put, List.setIfInBounds_toArray, List.set_cons_zero, List.set_cons_succ]
            have zq2 := q.size
            refine wpAnyH_ready (rs := [6]) (by kernel_rfl) (by simp) ?_
            refine (AllReadyH.cons (o := ⟨_, _, _, _, _, _⟩) rfl (fun K hK => ?_) AllReadyH.nil)
            go_simp
            have hb : Below V2.heap.size V2 (V2.alloc (.cells #[.int .i64 0, .int .i64 0, .int .i64 0, .slice none 0 0, .slice none 0 0] 26)) := (Below.refl _ _).alloc (Nat.le_refl _) _
            replace X0 := cellb hb X0
            replace X1 := cellb hb X1
            replace X2 := cellb hb X2
            replace X3 := cellb hb X3
            replace P0 := cellb hb P0
            replace P1 := cellb hb P1
            replace hx := hx.below hb (Nat.le_refl _)
            replace q := q.trans (hb.mono q.size)
            have Z0 : (V2.alloc (.cells #[.int .i64 0, .int .i64 0, .int .i64 0, .slice none 0 0, .slice none 0 0] 26)).cell? ⟨V2.heap.size, 0, none⟩ = some (.int .i64 0) := by simp
            have Y0 : (V2.alloc (.cells #[.int .i64 0, .int .i64 0, .int .i64 0, .slice none 0 0, .slice none 0 0] 26)).frozen? ⟨V2.heap.size, 0, none⟩ = false := by simp
            have Z1 : (V2.alloc (.cells #[.int .i64 0, .int .i64 0, .int .i64 0, .slice none 0 0, .slice none 0 0] 26)).cell? ⟨V2.heap.size, 1, none⟩ = some (.int .i64 0) := by simp
            have Y1 : (V2.alloc (.cells #[.int .i64 0, .int .i64 0, .int .i64 0, .slice none 0 0, .slice none 0 0] 26)).frozen? ⟨V2.heap.size, 1, none⟩ = false := by simp
            have Z2 : (V2.alloc (.cells #[.int .i64 0, .int .i64 0, .int .i64 0, .slice none 0 0, .slice none 0 0] 26)).cell? ⟨V2.heap.size, 2, none⟩ = some (.int .i64 0) := by simp
            have Y2 : (V2.alloc (.cells #[.int .i64 0, .int .i64 0, .int .i64 0, .slice none 0 0, .slice none 0 0] 26)).frozen? ⟨V2.heap.size, 2, none⟩ = false := by simp
            have Z3 : (V2.alloc (.cells #[.int .i64 0, .int .i64 0, .int .i64 0, .slice none 0 0, .slice none 0 0] 26)).cell? ⟨V2.heap.size, 3, none⟩ = some (.slice none 0 0) := by simp
            have Y3 : (V2.alloc (.cells #[.int .i64 0, .int .i64 0, .int .i64 0, .slice none 0 0, .slice none 0 0] 26)).frozen? ⟨V2.heap.size, 3, none⟩ = false := by simp
            have Z4 : (V2.alloc (.cells #[.int .i64 0, .int .i64 0, .int .i64 0, .slice none 0 0, .slice none 0 0] 26)).cell? ⟨V2.heap.size, 4, none⟩ = some (.slice none 0 0) := by simp
            have Y4 : (V2.alloc (.cells #[.int .i64 0, .int .i64 0, .int .i64 0, .slice none 0 0, .slice none 0 0] 26)).frozen? ⟨V2.heap.size, 4, none⟩ = false := by simp
            have z3 : V2.heap.size < (V2.alloc (.cells #[.int .i64 0, .int .i64 0, .int .i64 0, .slice none 0 0, .slice none 0 0] 26)).heap.size := by simp
            clear hb
            generalize (V2.alloc (.cells #[.int .i64 0, .int .i64 0, .int .i64 0, .slice none 0 0, .slice none 0 0] 26)) = V3 at *
            refine hK.out _ _ ?_ ?_
            · (try dsimp only); exact ⟨X0, X1, X2, X3, P0, P1⟩
            clear hHeld hK K
            intro hHeld
            try simp only [Act.put, List.setIfInBounds_toArray, List.set_cons_zero, List.set_cons_succ]
            have zq := q.size
            refine wpAnyH_ready (rs := [7]) (by kernel_rfl) (by simp) ?_
            refine (AllReadyH.cons (o := ⟨_, _, _, _, _, _⟩) rfl (fun K hK => ?_) AllReadyH.nil)
            go_simp
            refine hK.out _ _ ?_ ?_
            · (try dsimp only); exact ⟨set5_other X0 (by omega), set5_other X1 (by omega), set5_other X2 (by omega), set5_other X3 (by omega), set5_other P0 (by omega), set5_other P1 (by omega)⟩
            clear hHeld hK K
            intro hHeld
            try simp only [Act.put, List.setIfInBounds_toArray, List.set_cons_zero, List.set_cons_succ]
            refine wpAnyH_done (by kernel_rfl) ?_ _
            have hcutf := CutG.mk (code := code) (rr := rr) (ww := ww) q (by omega) (by omega) (by omega) (by omega) (by omega) Z0 Z1 Z2 Z3 Z4 hx
            go_wp2
            go_meet
            exact hcutf
          · skip
            go_simp
            have hb : Below V1.heap.size V1 (V1.alloc (.cells #[.int .i64 0, .int .i64 0, .int .i64 0, .slice none 0 0, .slice none 0 0] 26)) := (Below.refl _ _).alloc (Nat.le_refl _) _
            replace X0 := cellb hb X0
            replace X1 := cellb hb X1
            replace X2 := cellb hb X2
            replace X3 := cellb hb X3
            replace P0 := cellb hb P0
            replace P1 := cellb hb P1
            replace hyr1 := hyr1.below hb
            replace hyr2 := hyr2.below hb
            replace q := q.trans (hb.mono q.size)
            have Z0 : (V1.alloc (.cells #[.int .i64 0, .int .i64 0, .int .i64 0, .slice none 0 0, .slice none 0 0] 26)).cell? ⟨V1.heap.size, 0, none⟩ = some (.int .i64 0) := by simp
            have Y0 : (V1.alloc (.cells #[.int .i64 0, .int .i64 0, .int .i64 0, .slice none 0 0, .slice none 0 0] 26)).frozen? ⟨V1.heap.size, 0, none⟩ = false := by simp
            have Z1 : (V1.alloc (.cells #[.int .i64 0, .int .i64 0, .int .i64 0, .slice none 0 0, .slice none 0 0] 26)).cell? ⟨V1.heap.size, 1, none⟩ = some (.int .i64 0) := by simp
            have Y1 : (V1.alloc (.cells #[.int .i64 0, .int .i64 0, .int .i64 0, .slice none 0 0, .slice none 0 0] 26)).frozen? ⟨V1.heap.size, 1, none⟩ = false := by simp
            have Z2 : (V1.alloc (.cells #[.int .i64 0, .int .i64 0, .int .i64 0, .slice none 0 0, .slice none 0 0] 26)).cell? ⟨V1.heap.size, 2, none⟩ = some (.int .i64 0) := by simp
            have Y2 : (V1.alloc (.cells #[.int .i64 0, .int .i64 0, .int .i64 0, .slice none 0 0, .slice none 0 0] 26)).frozen? ⟨V1.heap.size, 2, none⟩ = false := by simp
            have Z3 : (V1.alloc (.cells #[.int .i64 0, .int .i64 0, .int .i64 0, .slice none 0 0, .slice none 0 0] 26)).cell? ⟨V1.heap.size, 3, none⟩ = some (.slice none 0 0) := by simp
            have Y3 : (V1.alloc (.cells #[.int .i64 0, .int .i64 0, .int .i64 0, .slice none 0 0, .slice none 0 0] 26)).frozen? ⟨V1.heap.size, 3, none⟩ = false := by simp
            have Z4 : (V1.alloc (.cells #[.int .i64 0, .int .i64 0, .int .i64 0, .slice none 0 0, .slice none 0 0] 26)).cell? ⟨V1.heap.size, 4, none⟩ = some (.slice none 0 0) := by simp
            have Y4 : (V1.alloc (.cells #[.int .i64 0, .int .i64 0, .int .i64 0, .slice none 0 0, .slice none 0 0] 26)).frozen? ⟨V1.heap.size, 4, none⟩ = false := by simp
            have z2 : V1.heap.size < (V1.alloc (.cells #[.int .i64 0, .int .i64 0, .int .i64 0, .slice none 0 0, .slice none 0 0] 26)).heap.size := by simp
            clear hb
            generalize (V1.alloc (.cells #[.int .i64 0, .int .i64 0, .int .i64 0, .slice none 0 0, .slice none 0 0] 26)) = V2 at *
            refine hK.out _ _ ?_ ?_
            · (try dsimp only); exact ⟨X0, X1, X2, X3, P0, P1⟩
            clear hHeld hK K
            intro hHeld
            try simp only [Act.put, List.setIfInBounds_toArray, List.set_cons_zero, List.set_cons_succ]
            have zq2 := q.size
            refine wpAnyH_ready (rs := [5]) (by kernel_rfl) (by simp) ?_
            refine (AllReadyH.cons (o := ⟨_, _, _, _, _, _⟩) rfl (fun K hK => ?_) AllReadyH.nil)
            go_simp
            go_at_call 18
            refine (implPutCell_calls r wd cs bs y0 x0 c0 g0 _ _ _ hn1 hn2 hyr1 hyr2).mono ?_
            rintro e V3 ⟨x, y, rfl, hx, hb⟩
            rw [HX.out] at hx ⊢
            dsimp only at hx ⊢
            obtain ⟨aG, cG, dG, eG, rfl, rfl⟩ := hx.forms
            replace X0 := cellb hb X0
            replace X1 := cellb hb X1
            replace X2 := cellb hb X2
            replace X3 := cellb hb X3
            replace P0 := cellb hb P0
            replace P1 := cellb hb P1
            replace hyr1 := hyr1.below hb
            replace hyr2 := hyr2.below hb
            replace Z0 := cellb hb Z0
            replace Z1 := cellb hb Z1
            replace Z2 := cellb hb Z2
            replace Z3 := cellb hb Z3
            replace Z4 := cellb hb Z4
            have Q0 := (hb.frozen (p := ⟨V1.heap.size, 0, none⟩) (by simp; omega)).trans Y0
            have Q1 := (hb.frozen (p := ⟨V1.heap.size, 1, none⟩) (by simp; omega)).trans Y1
            have Q2 := (hb.frozen (p := ⟨V1.heap.size, 2, none⟩) (by simp; omega)).trans Y2
            have Q3 := (hb.frozen (p := ⟨V1.heap.size, 3, none⟩) (by simp; omega)).trans Y3
            have Q4 := (hb.frozen (p := ⟨V1.heap.size, 4, none⟩) (by simp; omega)).trans Y4
            clear Y0 Y1 Y2 Y3 Y4
            have Y0 := Q0
            have Y1 := Q1
            have Y2 := Q2
            have Y3 := Q3
            have Y4 := Q4
            clear Q0 Q1 Q2 Q3 Q4
            replace q := q.trans (hb.mono q.size)
            clear hyr1 hyr2
            have z3 := hb.size
            clear hb
            try go_wp2_with fail
            refine hK.out _ _ ?_ ?_
            · (try dsimp only); exact ⟨X0, X1, X2, X3, P0, P1⟩
            clear hHeld hK K
            intro hHeld
            try simp only [Act.put, List.setIfInBounds_toArray, List.set_cons_zero, List.set_cons_succ]
            have zq := q.size
            refine wpAnyH_ready (rs := [7]) (by kernel_rfl) (by simp) ?_
            refine (AllReadyH.cons (o := ⟨_, _, _, _, _, _⟩) rfl (fun K hK => ?_) AllReadyH.nil)
            go_simp
            refine hK.out _ _ ?_ ?_
            · (try dsimp only); exact ⟨set5_other X0 (by omega), set5_other X1 (by omega), set5_other X2 (by omega), set5_other X3 (by omega), set5_other P0 (by omega), set5_other P1 (by omega)⟩
            clear hHeld hK K
            intro hHeld
            try simp only [Act.put, List.setIfInBounds_toArray, List.set_cons_zero, List.set_cons_succ]
            refine wpAnyH_done (by kernel_rfl) ?_ _
            have hcutf := CutG.mk (code := code) (rr := rr) (ww := ww) q (by omega) (by omega) (by omega) (by omega) (by omega) Z0 Z1 Z2 Z3 Z4 hx
            go_wp2
            go_meet
            exact hcutf
        · skip
          go_simp
          have hb : Below V0.heap.size V0 (V0.alloc (.cells #[.int .i64 0, .int .i64 0, .int .i64 0, .slice none 0 0, .slice none 0 0] 26)) := (Below.refl _ _).alloc (Nat.le_refl _) _
          replace X0 := cellb hb X0
          replace X1 := cellb hb X1
          replace X2 := cellb hb X2
          replace X3 := cellb hb X3
          replace P0 := cellb hb P0
          replace P1 := cellb hb P1
          replace hyr1 := hyr1.below hb
          replace hyr2 := hyr2.below hb
          replace q := q.trans (hb.mono q.size)
          have Z0 : (V0.alloc (.cells #[.int .i64 0, .int .i64 0, .int .i64 0, .slice none 0 0, .slice none 0 0] 26)).cell? ⟨V0.heap.size, 0, none⟩ = some (.int .i64 0) := by simp
          have Y0 : (V0.alloc (.cells #[.int .i64 0, .int .i64 0, .int .i64 0, .slice none 0 0, .slice none 0 0] 26)).frozen? ⟨V0.heap.size, 0, none⟩ = false := by simp
          have Z1 : (V0.alloc (.cells #[.int .i64 0, .int .i64 0, .int .i64 0, .slice none 0 0, .slice none 0 0] 26)).cell? ⟨V0.heap.size, 1, none⟩ = some (.int .i64 0) := by simp
          have Y1 : (V0.alloc (.cells #[.int .i64 0, .int .i64 0, .int .i64 0, .slice none 0 0, .slice none 0 0] 26)).frozen? ⟨V0.heap.size, 1, none⟩ = false := by simp
          have Z2 : (V0.alloc (.cells #[.int .i64 0, .int .i64 0, .int .i64 0, .slice none 0 0, .slice none 0 0] 26)).cell? ⟨V0.heap.size, 2, none⟩ = some (.int .i64 0) := by simp
          have Y2 : (V0.alloc (.cells #[.int .i64 0, .int .i64 0, .int .i64 0, .slice none 0 0, .slice none 0 0] 26)).frozen? ⟨V0.heap.size, 2, none⟩ = false := by simp
          have Z3 : (V0.alloc (.cells #[.int .i64 0, .int .i64 0, .int .i64 0, .slice none 0 0, .slice none 0 0] 26)).cell? ⟨V0.heap.size, 3, none⟩ = some (.slice none 0 0) := by simp
          have Y3 : (V0.alloc (.cells #[.int .i64 0, .int .i64 0, .int .i64 0, .slice none 0 0, .slice none 0 0] 26)).frozen? ⟨V0.heap.size, 3, none⟩ = false := by simp
          have Z4 : (V0.alloc (.cells #[.int .i64 0, .int .i64 0, .int .i64 0, .slice none 0 0, .slice none 0 0] 26)).cell? ⟨V0.heap.size, 4, none⟩ = some (.slice none 0 0) := by simp
          have Y4 : (V0.alloc (.cells #[.int .i64 0, .int .i64 0, .int .i64 0, .slice none 0 0, .slice none 0 0] 26)).frozen? ⟨V0.heap.size, 4, none⟩ = false := by simp
          have z1 : V0.heap.size < (V0.alloc (.cells #[.int .i64 0, .int .i64 0, .int .i64 0, .slice none 0 0, .slice none 0 0] 26)).heap.size := by simp
          clear hb
          generalize (V0.alloc (.cells #[.int .i64 0, .int .i64 0, .int .i64 0, .slice none 0 0, .slice none 0 0] 26)) = V1 at *
          refine hK.out _ _ ?_ ?_
          · (try dsimp only); exact ⟨X0, X1, X2, X3, P0, P1⟩
          clear hHeld hK K
          intro hHeld
          try simp only [Act.put, List.setIfInBounds_toArray, List.set_cons_zero, List.set_cons_succ]
          have zq1 := q.size
          refine wpAnyH_ready (rs := [4]) (by kernel_rfl) (by simp) ?_
          refine (AllReadyH.cons (o := ⟨_, _, _, _, _, _⟩) rfl (fun K hK => ?_) AllReadyH.nil)
          go_simp
          go_at_call 17
          refine (toCell_calls c0 g0 _).mono ?_
          rintro e V2 ⟨rfl, hb⟩
          replace X0 := cellb hb X0
          replace X1 := cellb hb X1
          replace X2 := cellb hb X2
          replace X3 := cellb hb X3
          replace P0 := cellb hb P0
          replace P1 := cellb hb P1
          replace hyr1 := hyr1.below hb
          replace hyr2 := hyr2.below hb
          replace Z0 := cellb hb Z0
          replace Z1 := cellb hb Z1
          replace Z2 := cellb hb Z2
          replace Z3 := cellb hb Z3
          replace Z4 := cellb hb Z4
          have Q0 := (hb.frozen (p := ⟨V0.heap.size, 0, none⟩) (by simp; omega)).trans Y0
          have Q1 := (hb.frozen (p := ⟨V0.heap.size, 1, none⟩) (by simp; omega)).trans Y1
          have Q2 := (hb.frozen (p := ⟨V0.heap.size, 2, none⟩) (by simp; omega)).trans Y2
          have Q3 := (hb.frozen (p := ⟨V0.heap.size, 3, none⟩) (by simp; omega)).trans Y3
          have Q4 := (hb.frozen (p := ⟨V0.heap.size, 4, none⟩) (by simp; omega)).trans Y4
          clear Y0 Y1 Y2 Y3 Y4
          have Y0 := Q0
          have Y1 := Q1
          have Y2 := Q2
          have Y3 := Q3
          have Y4 := Q4
          clear Q0 Q1 Q2 Q3 Q4
          replace q := q.trans (hb.mono q.size)
          have z2 := hb.size
          clear hb
          try go_wp2_with fail
          refine hK.out _ _ ?_ ?_
          · (try dsimp only); exact ⟨X0, X1, X2, X3, P0, P1⟩
          clear hHeld hK K
          intro hHeld
          try simp only [Act.put, List.setIfInBounds_toArray, List.set_cons_zero, List.set_cons_succ]
          have zq2 := q.size
          refine wpAnyH_ready (rs := [5]) (by kernel_rfl) (by simp) ?_
          refine (AllReadyH.cons (o := ⟨_, _, _, _, _, _⟩) rfl (fun K hK => ?_) AllReadyH.nil)
          go_simp
          go_at_call 18
          refine (implPutCell_calls r wd cs bs y0 x0 c0 g0 _ _ _ hn1 hn2 hyr1 hyr2).mono ?_
          rintro e V3 ⟨x, y, rfl, hx, hb⟩
          rw [HX.out] at hx ⊢
          dsimp only at hx ⊢
          obtain ⟨aG, cG, dG, eG, rfl, rfl⟩ := hx.forms
          replace X0 := cellb hb X0
          replace X1 := cellb hb X1
          replace X2 := cellb hb X2
          replace X3 := cellb hb X3
          replace P0 := cellb hb P0
          replace P1 := cellb hb P1
          replace hyr1 := hyr1.below hb
          replace hyr2 := hyr2.below hb
          replace Z0 := cellb hb Z0
          replace Z1 := cellb hb Z1
          replace Z2 := cellb hb Z2
          replace Z3 := cellb hb Z3
          replace Z4 := cellb hb Z4
          have Q0 := (hb.frozen (p := ⟨V0.heap.size, 0, none⟩) (by simp; omega)).trans Y0
          have Q1 := (hb.frozen (p := ⟨V0.heap.size, 1, none⟩) (by simp; omega)).trans Y1
          have Q2 := (hb.frozen (p := ⟨V0.heap.size, 2, none⟩) (by simp; omega)).trans Y2
          have Q3 := (hb.frozen (p := ⟨V0.heap.size, 3, none⟩) (by simp; omega)).trans Y3
          have Q4 := (hb.frozen (p := ⟨V0.heap.size, 4, none⟩) (by simp; omega)).trans Y4
          clear Y0 Y1 Y2 Y3 Y4
          have Y0 := Q0
          have Y1 := Q1
          have Y2 := Q2
          have Y3 := Q3
          have Y4 := Q4
          clear Q0 Q1 Q2 Q3 Q4
          replace q := q.trans (hb.mono q.size)
          clear hyr1 hyr2
          have z3 := hb.size
          clear hb
          try go_wp2_with fail
          refine hK.out _ _ ?_ ?_
          · (try dsimp only); exact ⟨X0, X1, X2, X3, P0, P1⟩
          clear hHeld hK K
          intro hHeld
          try simp only [Act.put, List.setIfInBounds_toArray, List.set_cons_zero, List.set_cons_succ]
          have zq := q.size
          refine wpAnyH_ready (rs := [7]) (by kernel_rfl) (by simp) ?_
          refine (AllReadyH.cons (o := ⟨_, _, _, _, _, _⟩) rfl (fun K hK => ?_) AllReadyH.nil)
          go_simp
          refine hK.out _ _ ?_ ?_
          · (try dsimp only); exact ⟨set5_other X0 (by omega), set5_other X1 (by omega), set5_other X2 (by omega), set5_other X3 (by omega), set5_other P0 (by omega), set5_other P1 (by omega)⟩
          clear hHeld hK K
          intro hHeld
          try simp only [Act.put, List.setIfInBounds_toArray, List.set_cons_zero, List.set_cons_succ]
          refine wpAnyH_done (by kernel_rfl) ?_ _
          have hcutf := CutG.mk (code := code) (rr := rr) (ww := ww) q (by omega) (by omega) (by omega) (by omega) (by omega) Z0 Z1 Z2 Z3 Z4 hx
          go_wp2
          go_meet
          exact hcutf
      case rest =>
        obtain ⟨FG, loG, hiG, aG, cG, dG, eG, rfl, r5, hFG, hCG, hxG⟩ := hcut
        rename World => w5
        obtain ⟨G0, G1, G2, G3, G4⟩ := hCG
        have z5 : w4.heap.size ≤ w5.heap.size := r5.size
        replace A0 := cellb r5 A0
        replace A1 := cellb r5 A1
        replace A2 := cellb r5 A2
        replace A3 := cellb r5 A3
        replace P0 := cellb r5 P0
        replace P1 := cellb r5 P1
        replace B0 := cellb r5 B0
        replace B1 := cellb r5 B1
        replace B2 := cellb r5 B2
        replace B3 := cellb r5 B3
        replace B4 := cellb r5 B4
        replace X0 := cellb r5 X0
        replace X1 := cellb r5 X1
        replace X2 := cellb r5 X2
        replace X3 := cellb r5 X3
        replace hxB := hxB.below r5 (by omega)
        replace hq := hq.below r5 (by omega)
        have b5 : Below w.heap.size w w5 := b4.trans (r5.mono (by omega))
        clear r5 b4
        clear lt4_0 lt4_1 lt4_2 lt4_3
        have lt5_0 : w.heap.size < w5.heap.size := by omega
        have lt5_1 : w.heap.size + 1 < w5.heap.size := by omega
        have lt5_2 : FB < w5.heap.size := by omega
        have lt5_3 : w3.heap.size < w5.heap.size := by omega
        have lt5_4 : FG < w5.heap.size := by omega
        go_wp2_with fail
        refine (eqGridResult_calls code rr ww xs ys _ _ _ _ _ (by omega) (by omega) (hxG.read1) (hxG.read2) (hxB.read1) (hxB.read2)).mono ?_
        rintro e w6 ⟨rfl, hb6⟩
        have z6 : w5.heap.size ≤ w6.heap.size := hb6.size
        have r6 := hb6
        clear hb6
        replace A0 := cellb r6 A0
        replace A1 := cellb r6 A1
        replace A2 := cellb r6 A2
        replace A3 := cellb r6 A3
        replace P0 := cellb r6 P0
        replace P1 := cellb r6 P1
        replace B0 := cellb r6 B0
        replace B1 := cellb r6 B1
        replace B2 := cellb r6 B2
        replace B3 := cellb r6 B3
        replace B4 := cellb r6 B4
        replace X0 := cellb r6 X0
        replace X1 := cellb r6 X1
        replace X2 := cellb r6 X2
        replace X3 := cellb r6 X3
        replace G0 := cellb r6 G0
        replace G1 := cellb r6 G1
        replace G2 := cellb r6 G2
        replace G3 := cellb r6 G3
        replace G4 := cellb r6 G4
        replace hxB := hxB.below r6 (by omega)
        replace hq := hq.below r6 (by omega)
        replace hxG := hxG.below r6 (by omega)
        have b6 : Below w.heap.size w w6 := b5.trans (r6.mono (by omega))
        clear r6 b5
        clear lt5_0 lt5_1 lt5_2 lt5_3 lt5_4
        have lt6_0 : w.heap.size < w6.heap.size := by omega
        have lt6_1 : w.heap.size + 1 < w6.heap.size := by omega
        have lt6_2 : FB < w6.heap.size := by omega
        have lt6_3 : w3.heap.size < w6.heap.size := by omega
        have lt6_4 : FG < w6.heap.size := by omega
        go_wp2_with fail
        have hq0 := hr1.below b6
        have hq1 := hr2.below b6
        have hKG : KeepG w6 (w.heap.size) (w3.heap.size) r wd (.slice av cs.length cv) (.slice bv bs.length dv) (.slice aq cs.length cq) (.slice dq bs.length eq) cs bs w6.drew := ⟨Below.drew (Below.refl _ w6), A0, A1, A2, A3, X0, X1, X2, X3, hq0, hq1, hq.read1, hq.read2⟩
        refine wp_region_held_drew (S := (fun w' => KeepG w6 (w.heap.size) (w3.heap.size) r wd (.slice av cs.length cv) (.slice bv bs.length dv) (.slice aq cs.length cq) (.slice dq bs.length eq) cs bs w')) (by kernel_rfl) ?_ (fun hHeld => ?_)
        · (try dsimp only); exact hKG
        refine wpAnyH_take (i := 0) (oi := ⟨_, _, _, _, _, _⟩) (v := ?_) rfl (by kernel_rfl) (by kernel_rfl) (by kernel_rfl) (fun _ _ _ h => h) (Or.inl ⟨by rfl, ?_⟩) hHeld ?_
        rotate_left
        · (intro w hSw; (try dsimp only at hSw); have s0 := hSw.a0; have s1 := hSw.a1; have s2 := hSw.a2; have s3 := hSw.a3; have t0 := hSw.c0; have t1 := hSw.c1; have t2 := hSw.c2; have t3 := hSw.c3; clear hSw; go_simp; try (with_reducible rfl))
        try simp only [Act.put, List.setIfInBounds_toArray, List.set_cons_zero, List.set_cons_succ]
        refine wpAnyH_take (i := 1) (oi := ⟨_, _, _, _, _, _⟩) (v := ?_) rfl (by kernel_rfl) (by kernel_rfl) (by kernel_rfl) (fun _ _ _ h => h) (Or.inl ⟨by rfl, ?_⟩) hHeld ?_
        rotate_left
        · (intro w hSw; (try dsimp only at hSw); have s0 := hSw.a0; have s1 := hSw.a1; have s2 := hSw.a2; have s3 := hSw.a3; have t0 := hSw.c0; have t1 := hSw.c1; have t2 := hSw.c2; have t3 := hSw.c3; clear hSw; go_simp; try (with_reducible rfl))
        try simp only [Act.put, List.setIfInBounds_toArray, List.set_cons_zero, List.set_cons_succ]
        refine wpAnyH_ready (rs := [2]) (by kernel_rfl) (by simp) ?_
        refine AllReadyH.cons (o := ⟨_, _, _, _, _, _⟩) rfl (fun K hK => ?_) AllReadyH.nil
        go_simp
        go_at_call 16
        refine (toGrid_calls r wd cs bs _ _ _ hn1 hn2 hHeld.r1 hHeld.r2).mono ?_
        rintro e v7 ⟨y7, z7, rfl, hy7, hbv7⟩
        have hry7 := hy7.read1
        have hrz7 := hy7.read2
        obtain ⟨ay7, cy7, az7, cz7, rfl, rfl⟩ := hy7.forms
        clear hy7
        try go_wp2_with fail
        refine hK.out _ _ ?_ ?_
        · (try dsimp only); exact hHeld.next hbv7
        clear hHeld hK K
        intro hHeld
        try simp only [Act.put, List.setIfInBounds_toArray, List.set_cons_zero, List.set_cons_succ]
        refine wpAnyH_ready (rs := [3]) (by kernel_rfl) (by simp) ?_
        refine AllReadyH.cons (o := ⟨_, _, _, _, _, _⟩) rfl (fun K hK => ?_) AllReadyH.nil
        go_simp
        go_at_call 19
        refine (eqGrid_calls r wd cs bs _ _ _ _ _ (by omega) (by omega) hHeld.r3 hHeld.r4 hry7 hrz7).mono ?_
        rintro e w7 ⟨rfl, hbu7⟩
        try go_wp2_with fail
        refine hK.out _ _ ?_ ?_
        · (try dsimp only); exact hHeld.next hbu7
        clear hHeld hK K
        intro hHeld
        try simp only [Act.put, List.setIfInBounds_toArray, List.set_cons_zero, List.set_cons_succ]
        refine wpAnyH_take (i := 4) (oi := ⟨_, _, _, _, _, _⟩) (v := ?_) rfl (by kernel_rfl) (by kernel_rfl) (by kernel_rfl) (fun _ _ _ h => h) (Or.inl ⟨by rfl, ?_⟩) hHeld ?_
        rotate_left
        · (intro w hSw; (try dsimp only at hSw); have s0 := hSw.a0; have s1 := hSw.a1; have s2 := hSw.a2; have s3 := hSw.a3; have t0 := hSw.c0; have t1 := hSw.c1; have t2 := hSw.c2; have t3 := hSw.c3; clear hSw; go_simp; try (with_reducible rfl))
        try simp only [Act.put, List.setIfInBounds_toArray, List.set_cons_zero, List.set_cons_succ]
        refine wpAnyH_done (by kernel_rfl) ?_ _
        have r7 := hHeld.bel
        clear hHeld hry7 hrz7 hbv7 hbu7 hKG hq0 hq1
        have z7 : w6.heap.size ≤ w7.heap.size := r7.size
        replace A0 := cellb r7 A0
        replace A1 := cellb r7 A1
        replace A2 := cellb r7 A2
        replace A3 := cellb r7 A3
        replace P0 := cellb r7 P0
        replace P1 := cellb r7 P1
        replace B0 := cellb r7 B0
        replace B1 := cellb r7 B1
        replace B2 := cellb r7 B2
        replace B3 := cellb r7 B3
        replace B4 := cellb r7 B4
        replace X0 := cellb r7 X0
        replace X1 := cellb r7 X1
        replace X2 := cellb r7 X2
        replace X3 := cellb r7 X3
        replace G0 := cellb r7 G0
        replace G1 := cellb r7 G1
        replace G2 := cellb r7 G2
        replace G3 := cellb r7 G3
        replace G4 := cellb r7 G4
        replace hxB := hxB.below r7 (by omega)
        replace hq := hq.below r7 (by omega)
        replace hxG := hxG.below r7 (by omega)
        have b7 : Below w.heap.size w w7 := b6.trans (r7.mono (by omega))
        clear r7 b6
        clear lt6_0 lt6_1 lt6_2 lt6_3 lt6_4
        have lt7_0 : w.heap.size < w7.heap.size := by omega
        have lt7_1 : w.heap.size + 1 < w7.heap.size := by omega
        have lt7_2 : FB < w7.heap.size := by omega
        have lt7_3 : w3.heap.size < w7.heap.size := by omega
        have lt7_4 : FG < w7.heap.size := by omega
        go_wp2_with fail
        refine (markGrid_calls r wd cs bs 1 w2.heap.size w3.heap.size _ _ _ hn1 hn2 (by omega) (by omega) (by omega) hq).mono ?_
        rintro e w8 ⟨rfl, hm0, hb8⟩
        have z8 : w7.heap.size ≤ w8.heap.size := hb8.size
        replace A0 := hb8.cell (by omega) (by omega) A0
        replace A1 := hb8.cell (by omega) (by omega) A1
        replace A2 := hb8.cell (by omega) (by omega) A2
        replace A3 := hb8.cell (by omega) (by omega) A3
        replace P0 := hb8.cell (by omega) (by omega) P0
        replace P1 := hb8.cell (by omega) (by omega) P1
        replace B0 := hb8.cell (by omega) (by omega) B0
        replace B1 := hb8.cell (by omega) (by omega) B1
        replace B2 := hb8.cell (by omega) (by omega) B2
        replace B3 := hb8.cell (by omega) (by omega) B3
        replace B4 := hb8.cell (by omega) (by omega) B4
        replace X0 := hb8.cell (by omega) (by omega) X0
        replace X1 := hb8.cell (by omega) (by omega) X1
        replace X2 := hb8.cell (by omega) (by omega) X2
        replace X3 := hb8.cell (by omega) (by omega) X3
        replace G0 := hb8.cell (by omega) (by omega) G0
        replace G1 := hb8.cell (by omega) (by omega) G1
        replace G2 := hb8.cell (by omega) (by omega) G2
        replace G3 := hb8.cell (by omega) (by omega) G3
        replace G4 := hb8.cell (by omega) (by omega) G4
        replace hxB := hxB.within hb8 (by omega) (by omega)
        replace hxG := hxG.within hb8 (by omega) (by omega)
        have b8 : Below w.heap.size w w8 := b7.trans (hb8.below (by omega) (by omega))
        clear hb8 b7
        clear lt7_0 lt7_1 lt7_2 lt7_3 lt7_4
        have lt8_0 : w.heap.size < w8.heap.size := by omega
        have lt8_1 : w.heap.size + 1 < w8.heap.size := by omega
        have lt8_2 : FB < w8.heap.size := by omega
        have lt8_3 : w3.heap.size < w8.heap.size := by omega
        have lt8_4 : FG < w8.heap.size := by omega
        clear hq hm0
        have hk0 : ¬ ((1 : Int) + 2 * (cs.length : Int) + 2 * (bs.length : Int) < 0) := by omega
        go_wp2_with fail
        refine (eqGridResult_calls code rr ww xs ys _ _ _ _ _ (by omega) (by omega) hxG.read1 hxG.read2 hxB.read1 hxB.read2).mono ?_
        rintro e w9 ⟨rfl, hb9⟩
        have z9 : w8.heap.size ≤ w9.heap.size := hb9.size
        have r9 := hb9
        clear hb9
        replace A0 := cellb r9 A0
        replace A1 := cellb r9 A1
        replace A2 := cellb r9 A2
        replace A3 := cellb r9 A3
        replace P0 := cellb r9 P0
        replace P1 := cellb r9 P1
        replace B0 := cellb r9 B0
        replace B1 := cellb r9 B1
        replace B2 := cellb r9 B2
        replace B3 := cellb r9 B3
        replace B4 := cellb r9 B4
        replace X0 := cellb r9 X0
        replace X1 := cellb r9 X1
        replace X2 := cellb r9 X2
        replace X3 := cellb r9 X3
        replace G0 := cellb r9 G0
        replace G1 := cellb r9 G1
        replace G2 := cellb r9 G2
        replace G3 := cellb r9 G3
        replace G4 := cellb r9 G4
        replace hxB := hxB.below r9 (by omega)
        replace hxG := hxG.below r9 (by omega)
        have b9 : Below w.heap.size w w9 := b8.trans (r9.mono (by omega))
        clear r9 b8
        clear lt8_0 lt8_1 lt8_2 lt8_3 lt8_4
        have lt9_0 : w.heap.size < w9.heap.size := by omega
        have lt9_1 : w.heap.size + 1 < w9.heap.size := by omega
        have lt9_2 : FB < w9.heap.size := by omega
        have lt9_3 : w3.heap.size < w9.heap.size := by omega
        have lt9_4 : FG < w9.heap.size := by omega
        go_wp2_with fail
        refine (markGridResult_calls code rr ww xs ys 1 loG hiG _ _ _ (by omega) (by omega) (by omega) (by omega) (by omega) hxG).mono ?_
        rintro e w10 ⟨rfl, hm1', hb10⟩
        have z10 : w9.heap.size ≤ w10.heap.size := hb10.size
        replace A0 := hb10.cell (by omega) (by omega) A0
        replace A1 := hb10.cell (by omega) (by omega) A1
        replace A2 := hb10.cell (by omega) (by omega) A2
        replace A3 := hb10.cell (by omega) (by omega) A3
        replace P0 := hb10.cell (by omega) (by omega) P0
        replace P1 := hb10.cell (by omega) (by omega) P1
        replace B0 := hb10.cell (by omega) (by omega) B0
        replace B1 := hb10.cell (by omega) (by omega) B1
        replace B2 := hb10.cell (by omega) (by omega) B2
        replace B3 := hb10.cell (by omega) (by omega) B3
        replace B4 := hb10.cell (by omega) (by omega) B4
        replace X0 := hb10.cell (by omega) (by omega) X0
        replace X1 := hb10.cell (by omega) (by omega) X1
        replace X2 := hb10.cell (by omega) (by omega) X2
        replace X3 := hb10.cell (by omega) (by omega) X3
        replace G0 := hb10.cell (by omega) (by omega) G0
        replace G1 := hb10.cell (by omega) (by omega) G1
        replace G2 := hb10.cell (by omega) (by omega) G2
        replace G3 := hb10.cell (by omega) (by omega) G3
        replace G4 := hb10.cell (by omega) (by omega) G4
        replace hxB := hxB.within hb10 (by omega) (by omega)
        have b10 : Below w.heap.size w w10 := b9.trans (hb10.below (by omega) (by omega))
        clear hb10 b9
        clear lt9_0 lt9_1 lt9_2 lt9_3 lt9_4
        have lt10_0 : w.heap.size < w10.heap.size := by omega
        have lt10_1 : w.heap.size + 1 < w10.heap.size := by omega
        have lt10_2 : FB < w10.heap.size := by omega
        have lt10_3 : w3.heap.size < w10.heap.size := by omega
        have lt10_4 : FG < w10.heap.size := by omega
        clear hxG
        go_wp2_with fail
        refine (heldGridResult_calls code rr ww (marksP 1 xs.length) (marksP (1 + 2 * xs.length) ys.length) 1 (.slice aG xs.length cG) (.slice dG ys.length eG) _ (by rw [marksP_length]; omega) (by rw [marksP_length]; omega) (by omega) (by omega) hm1'.read1 hm1'.read2 (marksP_at 1 _) (by rw [marksP_length 1]; exact marksP_at _ _)).mono ?_
        rintro e w11 ⟨rfl, hb11⟩
        have z11 : w10.heap.size ≤ w11.heap.size := hb11.size
        have r11 := hb11
        clear hb11
        replace A0 := cellb r11 A0
        replace A1 := cellb r11 A1
        replace A2 := cellb r11 A2
        replace A3 := cellb r11 A3
        replace P0 := cellb r11 P0
        replace P1 := cellb r11 P1
        replace B0 := cellb r11 B0
        replace B1 := cellb r11 B1
        replace B2 := cellb r11 B2
        replace B3 := cellb r11 B3
        replace B4 := cellb r11 B4
        replace X0 := cellb r11 X0
        replace X1 := cellb r11 X1
        replace X2 := cellb r11 X2
        replace X3 := cellb r11 X3
        replace G0 := cellb r11 G0
        replace G1 := cellb r11 G1
        replace G2 := cellb r11 G2
        replace G3 := cellb r11 G3
        replace G4 := cellb r11 G4
        replace hxB := hxB.below r11 (by omega)
        replace hm1' := hm1'.below r11 (by omega)
        have b11 : Below w.heap.size w w11 := b10.trans (r11.mono (by omega))
        clear r11 b10
        clear lt10_0 lt10_1 lt10_2 lt10_3 lt10_4
        have lt11_0 : w.heap.size < w11.heap.size := by omega
        have lt11_1 : w.heap.size + 1 < w11.heap.size := by omega
        have lt11_2 : FB < w11.heap.size := by omega
        have lt11_3 : w3.heap.size < w11.heap.size := by omega
        have lt11_4 : FG < w11.heap.size := by omega
        rw [marksP_length, marksP_length]
        have hk1 : ¬ ((1 : Int) + 2 * (xs.length : Int) + 2 * (ys.length : Int) < 0) := by omega
        have hk2 : (((1 : Int) + 2 * (xs.length : Int) + 2 * (ys.length : Int)) != (1 + 2 * (xs.length : Int) + 2 * (ys.length : Int))) = false := by simp
        go_wp2_with fail
        go_cut [16] from 68 to 74 (fun s wx => CutG w11 wx code rr ww xs ys s)
        case first =>
          have hvr1 := hr1.below b11
          have hvr2 := hr2.below b11
          refine wp_region_held_drew (S := (fun w' => w'.cell? ⟨w.heap.size, 0, none⟩ = some (.int .i64 r) ∧ w'.cell? ⟨w.heap.size, 1, none⟩ = some (.int .i64 wd) ∧ w'.cell? ⟨w.heap.size, 2, none⟩ = some (.slice av cs.length cv) ∧ w'.cell? ⟨w.heap.size, 3, none⟩ = some (.slice bv bs.length dv) ∧ w'.cell? ⟨w.heap.size + 1, 0, none⟩ = some (.int .i64 c0) ∧ w'.cell? ⟨w.heap.size + 1, 1, none⟩ = some (.int .i64 g0))) (by kernel_rfl) ?_ (fun hHeld => ?_)
          · (try dsimp only); exact ⟨A0, A1, A2, A3, P0, P1⟩
          replace A0 := cellb (Below.drew (Below.refl _ w11)) A0
          replace A1 := cellb (Below.drew (Below.refl _ w11)) A1
          replace A2 := cellb (Below.drew (Below.refl _ w11)) A2
          replace A3 := cellb (Below.drew (Below.refl _ w11)) A3
          replace P0 := cellb (Below.drew (Below.refl _ w11)) P0
          replace P1 := cellb (Below.drew (Below.refl _ w11)) P1
          replace hvr1 := hvr1.below (Below.drew (Below.refl _ w11))
          replace hvr2 := hvr2.below (Below.drew (Below.refl _ w11))
          have q : Below w11.heap.size w11 w11.drew := Below.drew (Below.refl _ _)
          generalize w11.drew = V0 at *
          refine wpAnyH_take (i := 0) (oi := ⟨_, _, _, _, _, _⟩) (v := ?_) rfl (by kernel_rfl) (by kernel_rfl) (by kernel_rfl) (fun _ _ _ h => h) (Or.inl ⟨by rfl, ?_⟩) hHeld ?_
          rotate_left
          · (intro w hSw; (try dsimp only at hSw); go_simp; try (with_reducible rfl))
          try simp only [Act.put, List.setIfInBounds_toArray, List.set_cons_zero, List.set_cons_succ]
          refine wpAnyH_take (i := 2) (oi := ⟨_, _, _, _, _, _⟩) (v := ?_) rfl (by kernel_rfl) (by kernel_rfl) (by kernel_rfl) (fun _ _ _ h => h) (Or.inl ⟨by rfl, ?_⟩) hHeld ?_
          rotate_left
          · (intro w hSw; (try dsimp only at hSw); go_simp; try (with_reducible rfl))
          try simp only [Act.put, List.setIfInBounds_toArray, List.set_cons_zero, List.set_cons_succ]
          refine wpAnyH_take (i := 3) (oi := ⟨_, _, _, _, _, _⟩) (v := ?_) rfl (by kernel_rfl) (by kernel_rfl) (by kernel_rfl) (fun _ _ _ h => h) (Or.inl ⟨by rfl, ?_⟩) hHeld ?_
          rotate_left
          · (intro w hSw; (try dsimp only at hSw); go_simp; try (with_reducible rfl))
          try simp only [Act.put, List.setIfInBounds_toArray, List.set_cons_zero, List.set_cons_succ]
          refine wpAnyH_take (i := 4) (oi := ⟨_, _, _, _, _, _⟩) (v := ?_) rfl (by kernel_rfl) (by kernel_rfl) (by kernel_rfl) (fun _ _ _ h => h) (Or.inl ⟨by rfl, ?_⟩) hHeld ?_
          rotate_left
          · (intro w hSw; (try dsimp only at hSw); go_simp; try (with_reducible rfl))
          try simp only [Act.put, List.setIfInBounds_toArray, List.set_cons_zero, List.set_cons_succ]
          have zq0 := q.size
          refine wpAnyH_ready (rs := [1, 7]) (by kernel_rfl) (by simp) ?_
          refine (AllReadyH.cons (o := ⟨_, _, _, _, _, _⟩) rfl (fun K hK => ?_) (AllReadyH.cons (o := ⟨_, _, _, _, _, _⟩) rfl (fun K hK => ?_) AllReadyH.nil))
          · skip
            go_simp
            go_at_call 16
            refine (toGrid_calls r wd cs bs _ _ _ hn1 hn2 hvr1 hvr2).mono ?_
            rintro e V1 ⟨yx, yy, rfl, hy, hb⟩
            replace A0 := cellb hb A0
            replace A1 := cellb hb A1
            replace A2 := cellb hb A2
            replace A3 := cellb hb A3
            replace P0 := cellb hb P0
            replace P1 := cellb hb P1
            replace hvr1 := hvr1.below hb
            replace hvr2 := hvr2.below hb
            replace q := q.trans (hb.mono q.size)
            have hyr1 := hy.read1
            have hyr2 := hy.read2
            obtain ⟨ayr, cyr, dyr, eyr, rfl, rfl⟩ := hy.forms
            clear hy hvr1 hvr2
            have z1 := hb.size
            clear hb
            try go_wp2_with fail
            refine hK.out _ _ ?_ ?_
            · (try dsimp only); exact ⟨A0, A1, A2, A3, P0, P1⟩
            clear hHeld hK K
            intro hHeld
            try simp only [Act.put, List.setIfInBounds_toArray, List.set_cons_zero, List.set_cons_succ]
            have zq1 := q.size
            refine wpAnyH_ready (rs := [5, 7]) (by kernel_rfl) (by simp) ?_
            refine (AllReadyH.cons (o := ⟨_, _, _, _, _, _⟩) rfl (fun K hK => ?_) (AllReadyH.cons (o := ⟨_, _, _, _, _, _⟩) rfl (fun K hK => ?_) AllReadyH.nil))
            · skip
              go_simp
              go_at_call 17
              refine (toCell_calls c0 g0 _).mono ?_
              rintro e V2 ⟨rfl, hb⟩
              replace A0 := cellb hb A0
              replace A1 := cellb hb A1
              replace A2 := cellb hb A2
              replace A3 := cellb hb A3
              replace P0 := cellb hb P0
              replace P1 := cellb hb P1
              replace hyr1 := hyr1.below hb
              replace hyr2 := hyr2.below hb
              replace q := q.trans (hb.mono q.size)
              have z2 := hb.size
              clear hb
              try go_wp2_with fail
              refine hK.out _ _ ?_ ?_
              · (try dsimp only); exact ⟨A0, A1, A2, A3, P0, P1⟩
              clear hHeld hK K
              intro hHeld
              try simp only [Act.put, List.setIfInBounds_toArray, List.set_cons_zero, List.set_cons_succ]
              have zq2 := q.size
              refine wpAnyH_ready (rs := [6, 7]) (by kernel_rfl) (by simp) ?_
              refine (AllReadyH.cons (o := ⟨_, _, _, _, _, _⟩) rfl (fun K hK => ?_) (AllReadyH.cons (o := ⟨_, _, _, _, _, _⟩) rfl (fun K hK => ?_) AllReadyH.nil))
              · skip
                go_simp
                go_at_call 18
                refine (implPutCell_calls r wd cs bs y0 x0 c0 g0 _ _ _ hn1 hn2 hyr1 hyr2).mono ?_
                rintro e V3 ⟨x, y, rfl, hx, hb⟩
                rw [HX.out] at hx ⊢
                dsimp only at hx ⊢
                obtain ⟨aH, cH, dH, eH, rfl, rfl⟩ := hx.forms
                replace A0 := cellb hb A0
                replace A1 := cellb hb A1
                replace A2 := cellb hb A2
                replace A3 := cellb hb A3
                replace P0 := cellb hb P0
                replace P1 := cellb hb P1
                replace hyr1 := hyr1.below hb
                replace hyr2 := hyr2.below hb
                replace q := q.trans (hb.mono q.size)
                clear hyr1 hyr2
                have z3 := hb.size
                clear hb
                try go_wp2_with fail
                refine hK.out _ _ ?_ ?_
                · (try dsimp only); exact ⟨A0, A1, A2, A3, P0, P1⟩
                clear hHeld hK K
                intro hHeld
                try simp only [Act.put, List.setIfInBounds_toArray, List.set_cons_zero, List.set_cons_succ]
                have zq3 := q.size
                refine wpAnyH_ready (rs := [7]) (by kernel_rfl) (by simp) ?_
                refine (AllReadyH.cons (o := ⟨_, _, _, _, _, _⟩) rfl (fun K hK => ?_) AllReadyH.nil)
                go_simp
                have hb : Below V3.heap.size V3 (V3.alloc (.cells #[.int .i64 0, .int .i64 0, .int .i64 0, .slice none 0 0, .slice none 0 0] 26)) := (Below.refl _ _).alloc (Nat.le_refl _) _
                replace A0 := cellb hb A0
                replace A1 := cellb hb A1
                replace A2 := cellb hb A2
                replace A3 := cellb hb A3
                replace P0 := cellb hb P0
                replace P1 := cellb hb P1
                replace hx := hx.below hb (Nat.le_refl _)
                replace q := q.trans (hb.mono q.size)
                have Z0 : (V3.alloc (.cells #[.int .i64 0, .int .i64 0, .int .i64 0, .slice none 0 0, .slice none 0 0] 26)).cell? ⟨V3.heap.size, 0, none⟩ = some (.int .i64 0) := by simp
                have Y0 : (V3.alloc (.cells #[.int .i64 0, .int .i64 0, .int .i64 0, .slice none 0 0, .slice none 0 0] 26)).frozen? ⟨V3.heap.size, 0, none⟩ = false := by simp
                have Z1 : (V3.alloc (.cells #[.int .i64 0, .int .i64 0, .int .i64 0, .slice none 0 0, .slice none 0 0] 26)).cell? ⟨V3.heap.size, 1, none⟩ = some (.int .i64 0) := by simp
                have Y1 : (V3.alloc (.cells #[.int .i64 0, .int .i64 0, .int .i64 0, .slice none 0 0, .slice none 0 0] 26)).frozen? ⟨V3.heap.size, 1, none⟩ = false := by simp
                have Z2 : (V3.alloc (.cells #[.int .i64 0, .int .i64 0, .int .i64 0, .slice none 0 0, .slice none 0 0] 26)).cell? ⟨V3.heap.size, 2, none⟩ = some (.int .i64 0) := by simp
                have Y2 : (V3.alloc (.cells #[.int .i64 0, .int .i64 0, .int .i64 0, .slice none 0 0, .slice none 0 0] 26)).frozen? ⟨V3.heap.size, 2, none⟩ = false := by simp
                have Z3 : (V3.alloc (.cells #[.int .i64 0, .int .i64 0, .int .i64 0, .slice none 0 0, .slice none 0 0] 26)).cell? ⟨V3.heap.size, 3, none⟩ = some (.slice none 0 0) := by simp
                have Y3 : (V3.alloc (.cells #[.int .i64 0, .int .i64 0, .int .i64 0, .slice none 0 0, .slice none 0 0] 26)).frozen? ⟨V3.heap.size, 3, none⟩ = false := by simp
                have Z4 : (V3.alloc (.cells #[.int .i64 0, .int .i64 0, .int .i64 0, .slice none 0 0, .slice none 0 0] 26)).cell? ⟨V3.heap.size, 4, none⟩ = some (.slice none 0 0) := by simp
                have Y4 : (V3.alloc (.cells #[.int .i64 0, .int .i64 0, .int .i64 0, .slice none 0 0, .slice none 0 0] 26)).frozen? ⟨V3.heap.size, 4, none⟩ = false := by simp
                have z4 : V3.heap.size < (V3.alloc (.cells #[.int .i64 0, .int .i64 0, .int .i64 0, .slice none 0 0, .slice none 0 0] 26)).heap.size := by simp
                clear hb
                generalize (V3.alloc (.cells #[.int .i64 0, .int .i64 0, .int .i64 0, .slice none 0 0, .slice none 0 0] 26)) = V4 at *
                refine hK.out _ _ ?_ ?_
                · (try dsimp only); exact ⟨A0, A1, A2, A3, P0, P1⟩
                clear hHeld hK K
                intro hHeld
                try simp only [Act.put, List.setIfInBounds_toArray, List.set_cons_zero, List.set_cons_succ]
                have zq := q.size
                refine wpAnyH_ready (rs := [8]) (by kernel_rfl) (by simp) ?_
                refine (AllReadyH.cons (o := ⟨_, _, _, _, _, _⟩) rfl (fun K hK => ?_) AllReadyH.nil)
                go_simp
                refine hK.out _ _ ?_ ?_
                · (try dsimp only); exact ⟨set5_other A0 (by omega), set5_other A1 (by omega), set5_other A2 (by omega), set5_other A3 (by omega), set5_other P0 (by omega), set5_other P1 (by omega)⟩
                clear hHeld hK K
                intro hHeld
                try simp only [Act.put, List.setIfInBounds_toArray, List.set_cons_zero, List.set_cons_succ]
                refine wpAnyH_done (by kernel_rfl) ?_ _
                have hcutf := CutG.mk (code := code) (rr := rr) (ww := ww) q (by omega) (by omega) (by omega) (by omega) (by omega) Z0 Z1 Z2 Z3 Z4 hx
                go_wp2
                go_meet
                exact hcutf
              · skip
                go_simp
                have hb : Below V2.heap.size V2 (V2.alloc (.cells #[.int .i64 0, .int .i64 0, .int .i64 0, .slice none 0 0, .slice none 0 0] 26)) := (Below.refl _ _).alloc (Nat.le_refl _) _
                replace A0 := cellb hb A0
                replace A1 := cellb hb A1
                replace A2 := cellb hb A2
                replace A3 := cellb hb A3
                replace P0 := cellb hb P0
                replace P1 := cellb hb P1
                replace hyr1 := hyr1.below hb
                replace hyr2 := hyr2.below hb
                replace q := q.trans (hb.mono q.size)
                have Z0 : (V2.alloc (.cells #[.int .i64 0, .int .i64 0, .int .i64 0, .slice none 0 0, .slice none 0 0] 26)).cell? ⟨V2.heap.size, 0, none⟩ = some (.int .i64 0) := by simp
                have Y0 : (V2.alloc (.cells #[.int .i64 0, .int .i64 0, .int .i64 0, .slice none 0 0, .slice none 0 0] 26)).frozen? ⟨V2.heap.size, 0, none⟩ = false := by simp
                have Z1 : (V2.alloc (.cells #[.int .i64 0, .int .i64 0, .int .i64 0, .slice none 0 0, .slice none 0 0] 26)).cell? ⟨V2.heap.size, 1, none⟩ = some (.int .i64 0) := by simp
                have Y1 : (V2.alloc (.cells #[.int .i64 0, .int .i64 0, .int .i64 0, .slice none 0 0, .slice none 0 0] 26)).frozen? ⟨V2.heap.size, 1, none⟩ = false := by simp
                have Z2 : (V2.alloc (.cells #[.int .i64 0, .int .i64 0, .int .i64 0, .slice none 0 0, .slice none 0 0] 26)).cell? ⟨V2.heap.size, 2, none⟩ = some (.int .i64 0) := by simp
                have Y2 : (V2.alloc (.cells #[.int .i64 0, .int .i64 0, .int .i64 0, .slice none 0 0, .slice none 0 0] 26)).frozen? ⟨V2.heap.size, 2, none⟩ = false := by simp
                have Z3 : (V2.alloc (.cells #[.int .i64 0, .int .i64 0, .int .i64 0, .slice none 0 0, .slice none 0 0] 26)).cell? ⟨V2.heap.size, 3, none⟩ = some (.slice none 0 0) := by simp
                have Y3 : (V2.alloc (.cells #[.int .i64 0, .int .i64 0, .int .i64 0, .slice none 0 0, .slice none 0 0] 26)).frozen? ⟨V2.heap.size, 3, none⟩ = false := by simp
                have Z4 : (V2.alloc (.cells #[.int .i64 0, .int .i64 0, .int .i64 0, .slice none 0 0, .slice none 0 0] 26)).cell? ⟨V2.heap.size, 4, none⟩ = some (.slice none 0 0) := by simp
                have Y4 : (V2.alloc (.cells #[.int .i64 0, .int .i64 0, .int .i64 0, .slice none 0 0, .slice none 0 0] 26)).frozen? ⟨V2.heap.size, 4, none⟩ = false := by simp
                have z3 : V2.heap.size < (V2.alloc (.cells #[.int .i64 0, .int .i64 0, .int .i64 0, .slice none 0 0, .slice none 0 0] 26)).heap.size := by simp
                clear hb
                generalize (V2.alloc (.cells #[.int .i64 0, .int .i64 0, .int .i64 0, .slice none 0 0, .slice none 0 0] 26)) = V3 at *
                refine hK.out _ _ ?_ ?_
                · (try dsimp only); exact ⟨A0, A1, A2, A3, P0, P1⟩
                clear hHeld hK K
                intro hHeld
                try simp only [Act.put, List.setIfInBounds_toArray, List.set_cons_zero, List.set_cons_succ]
                have zq3 := q.size
                refine wpAnyH_ready (rs := [6]) (by kernel_rfl) (by simp) ?_
                refine (AllReadyH.cons (o := ⟨_, _, _, _, _, _⟩) rfl (fun K hK => ?_) AllReadyH.nil)
                go_simp
                go_at_call 18
                refine (implPutCell_calls r wd cs bs y0 x0 c0 g0 _ _ _ hn1 hn2 hyr1 hyr2).mono ?_
                rintro e V4 ⟨x, y, rfl, hx, hb⟩
                rw [HX.out] at hx ⊢
                dsimp only at hx ⊢
                obtain ⟨aH, cH, dH, eH, rfl, rfl⟩ := hx.forms
                replace A0 := cellb hb A0
                replace A1 := cellb hb A1
                replace A2 := cellb hb A2
                replace A3 := cellb hb A3
                replace P0 := cellb hb P0
                replace P1 := cellb hb P1
                replace hyr1 := hyr1.below hb
                replace hyr2 := hyr2.below hb
                replace Z0 := cellb hb Z0
                replace Z1 := cellb hb Z1
                replace Z2 := cellb hb Z2
                replace Z3 := cellb hb Z3
                replace Z4 := cellb hb Z4
                have Q0 := (hb.frozen (p := ⟨V2.heap.size, 0, none⟩) (by simp; omega)).trans Y0
                have Q1 := (hb.frozen (p := ⟨V2.heap.size, 1, none⟩) (by simp; omega)).trans Y1
                have Q2 := (hb.frozen (p := ⟨V2.heap.size, 2, none⟩) (by simp; omega)).trans Y2
                have Q3 := (hb.frozen (p := ⟨V2.heap.size, 3, none⟩) (by simp; omega)).trans Y3
                have Q4 := (hb.frozen (p := ⟨V2.heap.size, 4, none⟩) (by simp; omega)).trans Y4
                clear Y0 Y1 Y2 Y3 Y4
                have Y0 := Q0
                have Y1 := Q1
                have Y2 := Q2
                have Y3 := Q3
                have Y4 := Q4
                clear Q0 Q1 Q2 Q3 Q4
                replace q := q.trans (hb.mono q.size)
                clear hyr1 hyr2
                have z4 := hb.size
                clear hb
                try go_wp2_with fail
                refine hK.out _ _ ?_ ?_
                · (try dsimp only); exact ⟨A0, A1, A2, A3, P0, P1⟩
                clear hHeld hK K
                intro hHeld
                try simp only [Act.put, List.setIfInBounds_toArray, List.set_cons_zero, List.set_cons_succ]
                have zq := q.size
                refine wpAnyH_ready (rs := [8]) (by kernel_rfl) (by simp) ?_
                refine (AllReadyH.cons (o := ⟨_, _, _, _, _, _⟩) rfl (fun K hK => ?_) AllReadyH.nil)
                go_simp
                refine hK.out _ _ ?_ ?_
                · (try dsimp only); exact ⟨set5_other A0 (by omega), set5_other A1 (by omega), set5_other A2 (by omega), set5_other A3 (by omega), set5_other P0 (by omega), set5_other P1 (by omega)⟩
                clear hHeld hK K
                intro hHeld
                try simp only [Act.put, List.setIfInBounds_toArray, List.set_cons_zero, List.set_cons_succ]
                refine wpAnyH_done (by kernel_rfl) ?_ _
                have hcutf := CutG.mk (code := code) (rr := rr) (ww := ww) q (by omega) (by omega) (by omega) (by omega) (by omega) Z0 Z1 Z2 Z3 Z4 hx
                go_wp2
                go_meet
                exact hcutf
            · skip
              go_simp
              have hb : Below V1.heap.size V1 (V1.alloc (.cells #[.int .i64 0, .int .i64 0, .int .i64 0, .slice none 0 0, .slice none 0 0] 26)) := (Below.refl _ _).alloc (Nat.le_refl _) _
              replace A0 := cellb hb A0
              replace A1 := cellb hb A1
              replace A2 := cellb hb A2
              replace A3 := cellb hb A3
              replace P0 := cellb hb P0
              replace P1 := cellb hb P1
              replace hyr1 := hyr1.below hb
              replace hyr2 := hyr2.below hb
              replace q := q.trans (hb.mono q.size)
              have Z0 : (V1.alloc (.cells #[.int .i64 0, .int .i64 0, .int .i64 0, .slice none 0 0, .slice none 0 0] 26)).cell? ⟨V1.heap.size, 0, none⟩ = some (.int .i64 0) := by simp
              have Y0 : (V1.alloc (.cells #[.int .i64 0, .int .i64 0, .int .i64 0, .slice none 0 0, .slice none 0 0] 26)).frozen? ⟨V1.heap.size, 0, none⟩ = false := by simp
              have Z1 : (V1.alloc (.cells #[.int .i64 0, .int .i64 0, .int .i64 0, .slice none 0 0, .slice none 0 0] 26)).cell? ⟨V1.heap.size, 1, none⟩ = some (.int .i64 0) := by simp
              have Y1 : (V1.alloc (.cells #[.int .i64 0, .int .i64 0, .int .i64 0, .slice none 0 0, .slice none 0 0] 26)).frozen? ⟨V1.heap.size, 1, none⟩ = false := by simp
              have Z2 : (V1.alloc (.cells #[.int .i64 0, .int .i64 0, .int .i64 0, .slice none 0 0, .slice none 0 0] 26)).cell? ⟨V1.heap.size, 2, none⟩ = some (.int .i64 0) := by simp
              have Y2 : (V1.alloc (.cells #[.int .i64 0, .int .i64 0, .int .i64 0, .slice none 0 0, .slice none 0 0] 26)).frozen? ⟨V1.heap.size, 2, none⟩ = false := by simp
              have Z3 : (V1.alloc (.cells #[.int .i64 0, .int .i64 0, .int .i64 0, .slice none 0 0, .slice none 0 0] 26)).cell? ⟨V1.heap.size, 3, none⟩ = some (.slice none 0 0) := by simp
              have Y3 : (V1.alloc (.cells #[.int .i64 0, .int .i64 0, .int .i64 0, .slice none 0 0, .slice none 0 0] 26)).frozen? ⟨V1.heap.size, 3, none⟩ = false := by simp
              have Z4 : (V1.alloc (.cells #[.int .i64 0, .int .i64 0, .int .i64 0, .slice none 0 0, .slice none 0 0] 26)).cell? ⟨V1.heap.size, 4, none⟩ = some (.slice none 0 0) := by simp
              have Y4 : (V1.alloc (.cells #[.int .i64 0, .int .i64 0, .int .i64 0, .slice none 0 0, .slice none 0 0] 26)).frozen? ⟨V1.heap.size, 4, none⟩ = false := by simp
              have z2 : V1.heap.size < (V1.alloc (.cells #[.int .i64 0, .int .i64 0, .int .i64 0, .slice none 0 0, .slice none 0 0] 26)).heap.size := by simp
              clear hb
              generalize (V1.alloc (.cells #[.int .i64 0, .int .i64 0, .int .i64 0, .slice none 0 0, .slice none 0 0] 26)) = V2 at *
              refine hK.out _ _ ?_ ?_
              · (try dsimp only); exact ⟨A0, A1, A2, A3, P0, P1⟩
              clear hHeld hK K
              intro hHeld
              try simp only [Act.put, List.setIfInBounds_toArray, List.set_cons_zero, List.set_cons_succ]
              have zq2 := q.size
              refine wpAnyH_ready (rs := [5]) (by kernel_rfl) (by simp) ?_
              refine (AllReadyH.cons (o := ⟨_, _, _, _, _, _⟩) rfl (fun K hK => ?_) AllReadyH.nil)
              go_simp
              go_at_call 17
              refine (toCell_calls c0 g0 _).mono ?_
              rintro e V3 ⟨rfl, hb⟩
              replace A0 := cellb hb A0
              replace A1 := cellb hb A1
              replace A2 := cellb hb A2
              replace A3 := cellb hb A3
              replace P0 := cellb hb P0
              replace P1 := cellb hb P1
              replace hyr1 := hyr1.below hb
              replace hyr2 := hyr2.below hb
              replace Z0 := cellb hb Z0
              replace Z1 := cellb hb Z1
              replace Z2 := cellb hb Z2
              replace Z3 := cellb hb Z3
              replace Z4 := cellb hb Z4
              have Q0 := (hb.frozen (p := ⟨V1.heap.size, 0, none⟩) (by simp; omega)).trans Y0
              have Q1 := (hb.frozen (p := ⟨V1.heap.size, 1, none⟩) (by simp; omega)).trans Y1
              have Q2 := (hb.frozen (p := ⟨V1.heap.size, 2, none⟩) (by simp; omega)).trans Y2
              have Q3 := (hb.frozen (p := ⟨V1.heap.size, 3, none⟩) (by simp; omega)).trans Y3
              have Q4 := (hb.frozen (p := ⟨V1.heap.size, 4, none⟩) (by simp; omega)).trans Y4
              clear Y0 Y1 Y2 Y3 Y4
              have Y0 := Q0
              have Y1 := Q1
              have Y2 := Q2
              have Y3 := Q3
              have Y4 := Q4
              clear Q0 Q1 Q2 Q3 Q4
              replace q := q.trans (hb.mono q.size)
              have z3 := hb.size
              clear hb
              try go_wp2_with fail
              refine hK.out _ _ ?_ ?_
              · (try dsimp only); exact ⟨A0, A1, A2, A3, P0, P1⟩
              clear hHeld hK K
              intro hHeld
              try simp only [Act.put, List.setIfInBounds_toArray, List.set_cons_zero, List.set_cons_succ]
              have zq3 := q.size
              refine wpAnyH_ready (rs := [6]) (by kernel_rfl) (by simp) ?_
              refine (AllReadyH.cons (o := ⟨_, _, _, _, _, _⟩) rfl (fun K hK => ?_) AllReadyH.nil)
              go_simp
              go_at_call 18
              refine (implPutCell_calls r wd cs bs y0 x0 c0 g0 _ _ _ hn1 hn2 hyr1 hyr2).mono ?_
              rintro e V4 ⟨x, y, rfl, hx, hb⟩
              rw [HX.out] at hx ⊢
              dsimp only at hx ⊢
              obtain ⟨aH, cH, dH, eH, rfl, rfl⟩ := hx.forms
              replace A0 := cellb hb A0
              replace A1 := cellb hb A1
              replace A2 := cellb hb A2
              replace A3 := cellb hb A3
              replace P0 := cellb hb P0
              replace P1 := cellb hb P1
              replace hyr1 := hyr1.below hb
              replace hyr2 := hyr2.below hb
              replace Z0 := cellb hb Z0
              replace Z1 := cellb hb Z1
              replace Z2 := cellb hb Z2
              replace Z3 := cellb hb Z3
              replace Z4 := cellb hb Z4
              have Q0 := (hb.frozen (p := ⟨V1.heap.size, 0, none⟩) (by simp; omega)).trans Y0
              have Q1 := (hb.frozen (p := ⟨V1.heap.size, 1, none⟩) (by simp; omega)).trans Y1
              have Q2 := (hb.frozen (p := ⟨V1.heap.size, 2, none⟩) (by simp; omega)).trans Y2
              have Q3 := (hb.frozen (p := ⟨V1.heap.size, 3, none⟩) (by simp; omega)).trans Y3
              have Q4 := (hb.frozen (p := ⟨V1.heap.size, 4, none⟩) (by simp; omega)).trans Y4
              clear Y0 Y1 Y2 Y3 Y4
              have Y0 := Q0
              have Y1 := Q1
              have Y2 := Q2
              have Y3 := Q3
              have Y4 := Q4
              clear Q0 Q1 Q2 Q3 Q4
              replace q := q.trans (hb.mono q.size)
              clear hyr1 hyr2
              have z4 := hb.size
              clear hb
              try go_wp2_with fail
              refine hK.out _ _ ?_ ?_
              · (try dsimp only); exact ⟨A0, A1, A2, A3, P0, P1⟩
              clear hHeld hK K
              intro hHeld
              try simp only [Act.put, List.setIfInBounds_toArray, List.set_cons_zero, List.set_cons_succ]
              have zq := q.size
              refine wpAnyH_ready (rs := [8]) (by kernel_rfl) (by simp) ?_
              refine (AllReadyH.cons (o := ⟨_, _, _, _, _, _⟩) rfl (fun K hK => ?_) AllReadyH.nil)
              go_simp
              refine hK.out _ _ ?_ ?_
              · (try dsimp only); exact ⟨set5_other A0 (by omega), set5_other A1 (by omega), set5_other A2 (by omega), set5_other A3 (by omega), set5_other P0 (by omega), set5_other P1 (by omega)⟩
              clear hHeld hK K
              intro hHeld
              try simp only [Act.put, List.setIfInBounds_toArray, List.set_cons_zero, List.set_cons_succ]
              refine wpAnyH_done (by kernel_rfl) ?_ _
              have hcutf := CutG.mk (code := code) (rr := rr) (ww := ww) q (by omega) (by omega) (by omega) (by omega) (by omega) Z0 Z1 Z2 Z3 Z4 hx
              go_wp2
              go_meet
              exact hcutf
          · skip
            go_simp
            have hb : Below V0.heap.size V0 (V0.alloc (.cells #[.int .i64 0, .int .i64 0, .int .i64 0, .slice none 0 0, .slice none 0 0] 26)) := (Below.refl _ _).alloc (Nat.le_refl _) _
            replace A0 := cellb hb A0
            replace A1 := cellb hb A1
            replace A2 := cellb hb A2
            replace A3 := cellb hb A3
            replace P0 := cellb hb P0
            replace P1 := cellb hb P1
            replace hvr1 := hvr1.below hb
            replace hvr2 := hvr2.below hb
            replace q := q.trans (hb.mono q.size)
            have Z0 : (V0.alloc (.cells #[.int .i64 0, .int .i64 0, .int .i64 0, .slice none 0 0, .slice none 0 0] 26)).cell? ⟨V0.heap.size, 0, none⟩ = some (.int .i64 0) := by simp
            have Y0 : (V0.alloc (.cells #[.int .i64 0, .int .i64 0, .int .i64 0, .slice none 0 0, .slice none 0 0] 26)).frozen? ⟨V0.heap.size, 0, none⟩ = false := by simp
            have Z1 : (V0.alloc (.cells #[.int .i64 0, .int .i64 0, .int .i64 0, .slice none 0 0, .slice none 0 0] 26)).cell? ⟨V0.heap.size, 1, none⟩ = some (.int .i64 0) := by simp
            have Y1 : (V0.alloc (.cells #[.int .i64 0, .int .i64 0, .int .i64 0, .slice none 0 0, .slice none 0 0] 26)).frozen? ⟨V0.heap.size, 1, none⟩ = false := by simp
            have Z2 : (V0.alloc (.cells #[.int .i64 0, .int .i64 0, .int .i64 0, .slice none 0 0, .slice none 0 0] 26)).cell? ⟨V0.heap.size, 2, none⟩ = some (.int .i64 0) := by simp
            have Y2 : (V0.alloc (.cells #[.int .i64 0, .int .i64 0, .int .i64 0, .slice none 0 0, .slice none 0 0] 26)).frozen? ⟨V0.heap.size, 2, none⟩ = false := by simp
            have Z3 : (V0.alloc (.cells #[.int .i64 0, .int .i64 0, .int .i64 0, .slice none 0 0, .slice none 0 0] 26)).cell? ⟨V0.heap.size, 3, none⟩ = some (.slice none 0 0) := by simp
            have Y3 : (V0.alloc (.cells #[.int .i64 0, .int .i64 0, .int .i64 0, .slice none 0 0, .slice none 0 0] 26)).frozen? ⟨V0.heap.size, 3, none⟩ = false := by simp
            have Z4 : (V0.alloc (.cells #[.int .i64 0, .int .i64 0, .int .i64 0, .slice none 0 0, .slice none 0 0] 26)).cell? ⟨V0.heap.size, 4, none⟩ = some (.slice none 0 0) := by simp
            have Y4 : (V0.alloc (.cells #[.int .i64 0, .int .i64 0, .int .i64 0, .slice none 0 0, .slice none 0 0] 26)).frozen? ⟨V0.heap.size, 4, none⟩ = false := by simp
            have z1 : V0.heap.size < (V0.alloc (.cells #[.int .i64 0, .int .i64 0, .int .i64 0, .slice none 0 0, .slice none 0 0] 26)).heap.size := by simp
            clear hb
            generalize (V0.alloc (.cells #[.int .i64 0, .int .i64 0, .int .i64 0, .slice none 0 0, .slice none 0 0] 26)) = V1 at *
            refine hK.out _ _ ?_ ?_
            · (try dsimp only); exact ⟨A0, A1, A2, A3, P0, P1⟩
            clear hHeld hK K
            intro hHeld
            try simp only [Act.put, List.setIfInBounds_toArray, List.set_cons_zero, List.set_cons_succ]
            have zq1 := q.size
            refine wpAnyH_ready (rs := [1]) (by kernel_rfl) (by simp) ?_
            refine (AllReadyH.cons (o := ⟨_, _, _, _, _, _⟩) rfl (fun K hK => ?_) AllReadyH.nil)
            go_simp
            go_at_call 16
            refine (toGrid_calls r wd cs bs _ _ _ hn1 hn2 hvr1 hvr2).mono ?_
            rintro e V2 ⟨yx, yy, rfl, hy, hb⟩
            replace A0 := cellb hb A0
            replace A1 := cellb hb A1
            replace A2 := cellb hb A2
            replace A3 := cellb hb A3
            replace P0 := cellb hb P0
            replace P1 := cellb hb P1
            replace hvr1 := hvr1.below hb
            replace hvr2 := hvr2.below hb
            replace Z0 := cellb hb Z0
            replace Z1 := cellb hb Z1
            replace Z2 := cellb hb Z2
            replace Z3 := cellb hb Z3
            replace Z4 := cellb hb Z4
            have Q0 := (hb.frozen (p := ⟨V0.heap.size, 0, none⟩) (by simp; omega)).trans Y0
            have Q1 := (hb.frozen (p := ⟨V0.heap.size, 1, none⟩) (by simp; omega)).trans Y1
            have Q2 := (hb.frozen (p := ⟨V0.heap.size, 2, none⟩) (by simp; omega)).trans Y2
            have Q3 := (hb.frozen (p := ⟨V0.heap.size, 3, none⟩) (by simp; omega)).trans Y3
            have Q4 := (hb.frozen (p := ⟨V0.heap.size, 4, none⟩) (by simp; omega)).trans Y4
            clear Y0 Y1 Y2 Y3 Y4
            have Y0 := Q0
            have Y1 := Q1
            have Y2 := Q2
            have Y3 := Q3
            have Y4 := Q4
            clear Q0 Q1 Q2 Q3 Q4
            replace q := q.trans (hb.mono q.size)
            have hyr1 := hy.read1
            have hyr2 := hy.read2
            obtain ⟨ayr, cyr, dyr, eyr, rfl, rfl⟩ := hy.forms
            clear hy hvr1 hvr2
            have z2 := hb.size
            clear hb
            try go_wp2_with fail
            refine hK.out _ _ ?_ ?_
            · (try dsimp only); exact ⟨A0, A1, A2, A3, P0, P1⟩
            clear hHeld hK K
            intro hHeld
            try simp only [Act.put, List.setIfInBounds_toArray, List.set_cons_zero, List.set_cons_succ]
            have zq2 := q.size
            refine wpAnyH_ready (rs := [5]) (by kernel_rfl) (by simp) ?_
            refine (AllReadyH.cons (o := ⟨_, _, _, _, _, _⟩) rfl (fun K hK => ?_) AllReadyH.nil)
            go_simp
            go_at_call 17
            refine (toCell_calls c0 g0 _).mono ?_
            rintro e V3 ⟨rfl, hb⟩
            replace A0 := cellb hb A0
            replace A1 := cellb hb A1
            replace A2 := cellb hb A2
            replace A3 := cellb hb A3
            replace P0 := cellb hb P0
            replace P1 := cellb hb P1
            replace hyr1 := hyr1.below hb
            replace hyr2 := hyr2.below hb
            replace Z0 := cellb hb Z0
            replace Z1 := cellb hb Z1
            replace Z2 := cellb hb Z2
            replace Z3 := cellb hb Z3
            replace Z4 := cellb hb Z4
            have Q0 := (hb.frozen (p := ⟨V0.heap.size, 0, none⟩) (by simp; omega)).trans Y0
            have Q1 := (hb.frozen (p := ⟨V0.heap.size, 1, none⟩) (by simp; omega)).trans Y1
            have Q2 := (hb.frozen (p := ⟨V0.heap.size, 2, none⟩) (by simp; omega)).trans Y2
            have Q3 := (hb.frozen (p := ⟨V0.heap.size, 3, none⟩) (by simp; omega)).trans Y3
            have Q4 := (hb.frozen (p := ⟨V0.heap.size, 4, none⟩) (by simp; omega)).trans Y4
            clear Y0 Y1 Y2 Y3 Y4
            have Y0 := Q0
            have Y1 := Q1
            have Y2 := Q2
            have Y3 := Q3
            have Y4 := Q4
            clear Q0 Q1 Q2 Q3 Q4
            replace q := q.trans (hb.mono q.size)
            have z3 := hb.size
            clear hb
            try go_wp2_with fail
            refine hK.out _ _ ?_ ?_
            · (try dsimp only); exact ⟨A0, A1, A2, A3, P0, P1⟩
            clear hHeld hK K
            intro hHeld
            try simp only [Act.put, List.setIfInBounds_toArray, List.set_cons_zero, List.set_cons_succ]
            have zq3 := q.size
            refine wpAnyH_ready (rs := [6]) (by kernel_rfl) (by simp) ?_
            refine (AllReadyH.cons (o := ⟨_, _, _, _, _, _⟩) rfl (fun K hK => ?_) AllReadyH.nil)
            go_simp
            go_at_call 18
            refine (implPutCell_calls r wd cs bs y0 x0 c0 g0 _ _ _ hn1 hn2 hyr1 hyr2).mono ?_
            rintro e V4 ⟨x, y, rfl, hx, hb⟩
            rw [HX.out] at hx ⊢
            dsimp only at hx ⊢
            obtain ⟨aH, cH, dH, eH, rfl, rfl⟩ := hx.forms
            replace A0 := cellb hb A0
            replace A1 := cellb hb A1
            replace A2 := cellb hb A2
            replace A3 := cellb hb A3
            replace P0 := cellb hb P0
            replace P1 := cellb hb P1
            replace hyr1 := hyr1.below hb
            replace hyr2 := hyr2.below hb
            replace Z0 := cellb hb Z0
            replace Z1 := cellb hb Z1
            replace Z2 := cellb hb Z2
            replace Z3 := cellb hb Z3
            replace Z4 := cellb hb Z4
            have Q0 := (hb.frozen (p := ⟨V0.heap.size, 0, none⟩) (by simp; omega)).trans Y0
            have Q1 := (hb.frozen (p := ⟨V0.heap.size, 1, none⟩) (by simp; omega)).trans Y1
            have Q2 := (hb.frozen (p := ⟨V0.heap.size, 2, none⟩) (by simp; omega)).trans Y2
            have Q3 := (hb.frozen (p := ⟨V0.heap.size, 3, none⟩) (by simp; omega)).trans Y3
            have Q4 := (hb.frozen (p := ⟨V0.heap.size, 4, none⟩) (by simp; omega)).trans Y4
            clear Y0 Y1 Y2 Y3 Y4
            have Y0 := Q0
            have Y1 := Q1
            have Y2 := Q2
            have Y3 := Q3
            have Y4 := Q4
            clear Q0 Q1 Q2 Q3 Q4
            replace q := q.trans (hb.mono q.size)
            clear hyr1 hyr2
            have z4 := hb.size
            clear hb
            try go_wp2_with fail
            refine hK.out _ _ ?_ ?_
            · (try dsimp only); exact ⟨A0, A1, A2, A3, P0, P1⟩
            clear hHeld hK K
            intro hHeld
            try simp only [Act.put, List.setIfInBounds_toArray, List.set_cons_zero, List.set_cons_succ]
            have zq := q.size
            refine wpAnyH_ready (rs := [8]) (by kernel_rfl) (by simp) ?_
            refine (AllReadyH.cons (o := ⟨_, _, _, _, _, _⟩) rfl (fun K hK => ?_) AllReadyH.nil)
            go_simp
            refine hK.out _ _ ?_ ?_
            · (try dsimp only); exact ⟨set5_other A0 (by omega), set5_other A1 (by omega), set5_other A2 (by omega), set5_other A3 (by omega), set5_other P0 (by omega), set5_other P1 (by omega)⟩
            clear hHeld hK K
            intro hHeld
            try simp only [Act.put, List.setIfInBounds_toArray, List.set_cons_zero, List.set_cons_succ]
            refine wpAnyH_done (by kernel_rfl) ?_ _
            have hcutf := CutG.mk (code := code) (rr := rr) (ww := ww) q (by omega) (by omega) (by omega) (by omega) (by omega) Z0 Z1 Z2 Z3 Z4 hx
            go_wp2
            go_meet
            exact hcutf
        case rest =>
          obtain ⟨FH, loH, hiH, aH, cH, dH, eH, rfl, r12, hFH, hCH, hxH⟩ := hcut
          rename World => w12
          obtain ⟨H0, H1, H2, H3, H4⟩ := hCH
          have z12 : w11.heap.size ≤ w12.heap.size := r12.size
          replace A0 := cellb r12 A0
          replace A1 := cellb r12 A1
          replace A2 := cellb r12 A2
          replace A3 := cellb r12 A3
          replace P0 := cellb r12 P0
          replace P1 := cellb r12 P1
          replace B0 := cellb r12 B0
          replace B1 := cellb r12 B1
          replace B2 := cellb r12 B2
          replace B3 := cellb r12 B3
          replace B4 := cellb r12 B4
          replace X0 := cellb r12 X0
          replace X1 := cellb r12 X1
          replace X2 := cellb r12 X2
          replace X3 := cellb r12 X3
          replace G0 := cellb r12 G0
          replace G1 := cellb r12 G1
          replace G2 := cellb r12 G2
          replace G3 := cellb r12 G3
          replace G4 := cellb r12 G4
          replace hxB := hxB.below r12 (by omega)
          replace hm1' := hm1'.below r12 (by omega)
          have b12 : Below w.heap.size w w12 := b11.trans (r12.mono (by omega))
          clear r12 b11
          clear lt11_0 lt11_1 lt11_2 lt11_3 lt11_4
          have lt12_0 : w.heap.size < w12.heap.size := by omega
          have lt12_1 : w.heap.size + 1 < w12.heap.size := by omega
          have lt12_2 : FB < w12.heap.size := by omega
          have lt12_3 : w3.heap.size < w12.heap.size := by omega
          have lt12_4 : FG < w12.heap.size := by omega
          have lt12_5 : FH < w12.heap.size := by omega
          go_wp2_with fail
          refine (eqGridResult_calls code rr ww xs ys _ _ _ _ _ (by omega) (by omega) (hxH.read1) (hxH.read2) (hxB.read1) (hxB.read2)).mono ?_
          rintro e w13 ⟨rfl, hb13⟩
          have z13 : w12.heap.size ≤ w13.heap.size := hb13.size
          have r13 := hb13
          clear hb13
          replace A0 := cellb r13 A0
          replace A1 := cellb r13 A1
          replace A2 := cellb r13 A2
          replace A3 := cellb r13 A3
          replace P0 := cellb r13 P0
          replace P1 := cellb r13 P1
          replace B0 := cellb r13 B0
          replace B1 := cellb r13 B1
          replace B2 := cellb r13 B2
          replace B3 := cellb r13 B3
          replace B4 := cellb r13 B4
          replace X0 := cellb r13 X0
          replace X1 := cellb r13 X1
          replace X2 := cellb r13 X2
          replace X3 := cellb r13 X3
          replace G0 := cellb r13 G0
          replace G1 := cellb r13 G1
          replace G2 := cellb r13 G2
          replace G3 := cellb r13 G3
          replace G4 := cellb r13 G4
          replace H0 := cellb r13 H0
          replace H1 := cellb r13 H1
          replace H2 := cellb r13 H2
          replace H3 := cellb r13 H3
          replace H4 := cellb r13 H4
          replace hxB := hxB.below r13 (by omega)
          replace hm1' := hm1'.below r13 (by omega)
          replace hxH := hxH.below r13 (by omega)
          have b13 : Below w.heap.size w w13 := b12.trans (r13.mono (by omega))
          clear r13 b12
          clear lt12_0 lt12_1 lt12_2 lt12_3 lt12_4 lt12_5
          have lt13_0 : w.heap.size < w13.heap.size := by omega
          have lt13_1 : w.heap.size + 1 < w13.heap.size := by omega
          have lt13_2 : FB < w13.heap.size := by omega
          have lt13_3 : w3.heap.size < w13.heap.size := by omega
          have lt13_4 : FG < w13.heap.size := by omega
          have lt13_5 : FH < w13.heap.size := by omega
          go_wp2_with fail
          refine (heldGridResult_calls code rr ww (marksP 1 xs.length) (marksP (1 + 2 * xs.length) ys.length) 1 (.slice aG xs.length cG) (.slice dG ys.length eG) _ (by rw [marksP_length]; omega) (by rw [marksP_length]; omega) (by omega) (by omega) hm1'.read1 hm1'.read2 (marksP_at 1 _) (by rw [marksP_length 1]; exact marksP_at _ _)).mono ?_
          rintro e w14 ⟨rfl, hb14⟩
          have z14 : w13.heap.size ≤ w14.heap.size := hb14.size
          have r14 := hb14
          clear hb14
          replace A0 := cellb r14 A0
          replace A1 := cellb r14 A1
          replace A2 := cellb r14 A2
          replace A3 := cellb r14 A3
          replace P0 := cellb r14 P0
          replace P1 := cellb r14 P1
          replace B0 := cellb r14 B0
          replace B1 := cellb r14 B1
          replace B2 := cellb r14 B2
          replace B3 := cellb r14 B3
          replace B4 := cellb r14 B4
          replace X0 := cellb r14 X0
          replace X1 := cellb r14 X1
          replace X2 := cellb r14 X2
          replace X3 := cellb r14 X3
          replace G0 := cellb r14 G0
          replace G1 := cellb r14 G1
          replace G2 := cellb r14 G2
          replace G3 := cellb r14 G3
          replace G4 := cellb r14 G4
          replace H0 := cellb r14 H0
          replace H1 := cellb r14 H1
          replace H2 := cellb r14 H2
          replace H3 := cellb r14 H3
          replace H4 := cellb r14 H4
          replace hxB := hxB.below r14 (by omega)
          replace hm1' := hm1'.below r14 (by omega)
          replace hxH := hxH.below r14 (by omega)
          have b14 : Below w.heap.size w w14 := b13.trans (r14.mono (by omega))
          clear r14 b13
          clear lt13_0 lt13_1 lt13_2 lt13_3 lt13_4 lt13_5
          have lt14_0 : w.heap.size < w14.heap.size := by omega
          have lt14_1 : w.heap.size + 1 < w14.heap.size := by omega
          have lt14_2 : FB < w14.heap.size := by omega
          have lt14_3 : w3.heap.size < w14.heap.size := by omega
          have lt14_4 : FG < w14.heap.size := by omega
          have lt14_5 : FH < w14.heap.size := by omega
          rw [marksP_length, marksP_length]
          go_wp2
          go_ret
          exact ⟨rfl, b14⟩
  · go_enter Try.func4, Try.ntmps4
    go_wp2_with fail
    refine (szGrid_calls r wd cs.length bs.length av bv cv dv 1048576 (by omega) (by omega) _ hm1 hm2).mono ?_
    rintro e w1 ⟨rfl, hb1⟩
    rw [if_neg (by omega)]
    go_wp2
    go_ret
    exact ⟨rfl, (show Below w.heap.size w _ from (by repeat' (first | with_reducible exact Below.refl _ _ | with_reducible assumption | with_reducible refine Below.drew ?_ | with_reducible refine Below.alloc ?_ ?_ _ | with_reducible refine Below.setCell ?_ ?_ _ | (simp; done) | (simp; omega) | omega))).trans (hb1.mono (by simp; try omega))⟩

theorem lawPC_laid : laidOutB Try.prog = true := by kernel_rfl
theorem lawPC_own : ownKnob Try.prog.godebug = none := by kernel_rfl
set_option maxRecDepth 100000 in
theorem lawPC_lifted (os : Os) (started : os.Started) (H : Type) (enc : TypeId × Value → H) :
    ReturnsInHanded {} Try.checked os 4 .any (Rows.fnExactPutCellSpec.pre6 enc Try.prog Try.f4 Rows.fnExactPutCellRow.domain false) (Rows.fnExactPutCellSpec.post enc Try.prog Try.f4 false true false false) := by
  refine returnsInHanded_of_change (C := Try.checked) lawPC_own started (by kernel_rfl) Try.func4
    (ChangeSpec.witness6 (enc := enc) (C := Try.checked) false ⟨#[], #[.agg #[.int .i64 0, .int .i64 0, .slice none 0 0, .slice none 0 0], .int .i64 0, .int .i64 0, .agg #[.int .i64 0, .int .i64 0]], []⟩ 8 (by kernel_rfl) (by kernel_rfl) (by kernel_rfl) (by kernel_rfl)) ?_
  intro W base args ds gs before hval0 hW hcnd _
  have hval : ∀ (j : Nat) t v, Try.f4.params[j]? = some t → args[j]? = some v → Value.okWide Try.prog W .any base t v := hval0
  have hW' := hW
  obtain ⟨p, q, hA0, hV, rfl, hfz, hnd⟩ := hW
  have hA : DataW.TrodAll enc Try.prog W 0 (fun _ => true) true Try.f4.params.toList args.toList ds p := hA0
  rw [Try.params4] at hA hval
  obtain ⟨v0, v1, v2, v3, d0, d1, d2, d3, p0, p1, p2, p3, rfl, rfl, rfl, h0, h1, h2, h3⟩ := trodAll_four hA
  obtain ⟨rfl, rfl⟩ := trodVars_none hV
  have k0 := h0
  have lt0 : ∀ x ∈ p0, x.block < W.heap.size := by obtain ⟨m, hm⟩ := k0; exact DataW.trod_lt m _ _ _ hm
  obtain ⟨r, wd, x, y, cs, bs, rfl, hx, hy, hm1, hm2⟩ := open_grid (hval 0 33 v0 rfl rfl) h0
  obtain ⟨y0, rfl, rfl, rfl, wf1⟩ := open_int Try.underlying2 (hval 1 2 v1 rfl rfl) h1
  obtain ⟨x0, rfl, rfl, rfl, wf2⟩ := open_int Try.underlying2 (hval 2 2 v2 rfl rfl) h2
  have k3 := h3
  have lt3 : ∀ x ∈ p3, x.block < W.heap.size := by obtain ⟨m, hm⟩ := k3; exact DataW.trod_lt m _ _ _ hm
  obtain ⟨c0, g0, rfl⟩ := open_cell (hval 3 35 v3 rfl rfl) h3
  clear hA0 hval0

  refine (lawPC_walk r wd x y cs bs y0 x0 c0 g0 W hx hy hm1 hm2).mono fun e W' ⟨he, bel⟩ => ?_
  subst he
  exact ⟨_, rfl, _, _, _, [], _, [], hW', trodAll_mk1 (shut_bool Try.underlying4 _), trodAll_mk4 (Below.trod lawPC_laid (by kernel_rfl) (of_decide_eq_true (by kernel_rfl)) k0 bel lt0) (shut_int Try.underlying2 wf1) (shut_int Try.underlying2 wf2) (Below.trod lawPC_laid (by kernel_rfl) (of_decide_eq_true (by kernel_rfl)) k3 bel lt3), rfl, bel.frame _, fun h => by cases h⟩

theorem lawPC_over : Rows.fnExactPutCellRow.holds Try.pinned (OpenSpec.ofChange Rows.fnExactPutCellSpec) :=
  OpenClaim.holds_of_wide 4 Try.f4 rfl rfl rfl rfl rfl rfl rfl ⟨rfl, rfl, rfl, rfl, rfl⟩ rfl rfl rfl rfl rfl (by kernel_rfl) Try.func4 (by kernel_rfl)
    (of_decide_eq_true (by kernel_rfl)) (by unfold Func.isWrapper; first | (rw [if_pos (by decide +kernel)]; kernel_rfl) | (rw [if_neg (by decide +kernel)]; exact ⟨rfl, rfl⟩))
    (fun os started H enc _ => lawPC_lifted os started H enc)

theorem lawPC_proved : Rows.FnExactPutCellSaid := lawPC_over
#print axioms lawPC_proved
end Go.Proofs.Ytbndncfkkhjkoai
