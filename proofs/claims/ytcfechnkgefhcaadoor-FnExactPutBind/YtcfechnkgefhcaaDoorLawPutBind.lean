/-
  For every list of binds and every bind the law FnExactPutBind returns true: impl.PutBind answers there what the model's PutBind answers, every field; it turns no argument, and its binds are memory of its own (the law itself passes lists of more than 1048576 binds by). The program's table fewSyms reads as its text lays it: the card ties that.
-/
import Derived.Test.YtcfechnkgefhcaaDoorRows
import Derived.Test.YtcfechnkgefhcaaDoorCards
import Derived.Test.YtcfechnkgefhcaaDoorTie
import Derived.Test.YtcfechnkgefhcaaDoorPutFns8
import Derived.Test.YtcfechnkgefhcaaDoorBindOpen
import Derived.Test.YtcfechnkgefhcaaDoorCardFew
import Derived.Deep.Cut
import Derived.Deep.CutRange
import Derived.Deep.RegionHeld
import Derived.ChangeVars
import Derived.ShutString
import Derived.ChangeOld
import Derived.Lib.SmallJoins
import Derived.LaidMore
import Derived.LaidLaws
import Derived.LaidSub
import Derived.Lib.LaidTab
import Derived.Stop.Joined
import Derived.SevenTiedAt
namespace Go.Proofs.YtcfechnkgefhcaaDoor
set_option maxRecDepth 20000
open Go.ChangeShapes Go.WideShapes Go.ChangeAt Go.RowKit Go.Joins
set_option linter.unusedVariables false
set_option linter.unusedSimpArgs false

set_option maxRecDepth 20000
theorem Q4.within {lo hi : Nat} {w w' : World} {b o : Nat} {p : Bd} (h : Q4 w b o p) (hw : Within lo hi w w') (hb : b < lo ∨ hi ≤ b) : Q4 w' b o p := h.of_block (hw.block b (lt_of_cell h.1) hb)
theorem cellw {lo hi : Nat} {w w' : World} {b o : Nat} {u : Value} (hw : Within lo hi w w') (hb : b < lo ∨ hi ≤ b) (hc : w.cell? ⟨b, o, none⟩ = some u) : w'.cell? ⟨b, o, none⟩ = some u := hw.cell (lt_of_cell hc) hb hc
def CutQ (W wx : World) (code : Int) (xs : List Bd) (s : Value) : Prop :=
  ∃ (F lo hi : Nat) (a : Option Addr) (c : Nat), s = .pointer (some ⟨F, 0, none⟩) ∧ Below W.heap.size W wx ∧ (W.heap.size ≤ F ∧ F < wx.heap.size ∧ W.heap.size ≤ lo ∧ hi ≤ wx.heap.size ∧ (F < lo ∨ hi ≤ F)) ∧
    (wx.cell? ⟨F, 0, none⟩ = some (.int .i64 code) ∧ wx.cell? ⟨F, 1, none⟩ = some (.slice a xs.length c)) ∧ QAt lo hi wx (.slice a xs.length c) xs
theorem CutQ.mk {W V : World} {code : Int} {xs : List Bd} {F lo hi : Nat} {a : Option Addr} {c : Nat} {u0 u1 : Value} (q : Below W.heap.size W V) (h1 : W.heap.size ≤ F) (h2 : F < V.heap.size) (h3 : W.heap.size ≤ lo) (h4 : hi ≤ V.heap.size) (h5 : F < lo ∨ hi ≤ F)
    (z0 : V.cell? ⟨F, 0, none⟩ = some u0) (z1 : V.cell? ⟨F, 1, none⟩ = some u1) (hx : QAt lo hi V (.slice a xs.length c) xs) :
    CutQ W ((V.setCell ⟨F, 0, none⟩ (.int .i64 code)).setCell ⟨F, 1, none⟩ (.slice a xs.length c)) code xs (.pointer (some ⟨F, 0, none⟩)) := by
  have g1 : (V.setCell ⟨F, 0, none⟩ (.int .i64 code)).cell? ⟨F, 1, none⟩ = some u1 := by rw [World.cell?_setCell_other _ _ _ _ (addr_ne (by omega))]; exact z1
  refine ⟨F, lo, hi, a, c, rfl, (q.setCell h1 _).setCell h1 _, ⟨h1, by simpa [World.setCell] using h2, h3, by simpa [World.setCell] using h4, h5⟩, ⟨?_, World.cell?_setCell_same _ _ _ g1⟩, ?_⟩
  · rw [World.cell?_setCell_other _ _ _ _ (addr_ne (by omega))]; exact World.cell?_setCell_same _ _ _ z0
  refine hx.of_blocks ?_
  intro i hi1 hi2
  simp only [World.setCell, Array.getElem?_modify]
  repeat rw [if_neg (by omega)]
theorem Q4.set2 {V : World} {F b o : Nat} {x y : Value} {p : Bd} (h : Q4 V b o p) (hne : b ≠ F) : Q4 ((V.setCell ⟨F, 0, none⟩ x).setCell ⟨F, 1, none⟩ y) b o p :=
  h.of_block (by simp only [World.setCell, Array.getElem?_modify]; rw [if_neg (by omega), if_neg (by omega)])
set_option maxHeartbeats 8000000 in
theorem lawPB_walk (v : Value) (bs : List Bd) (q : Bd) (w : World) (hr : QRead w v bs) (hm : bs.length ≤ maxLen) (hT : FewAt w) :
    Calls Tryd.prog 7 #[v, .agg (bcs q).toArray] w fun e w' => e = .returned (.bool true) ∧ Below w.heap.size w w' := by
  obtain ⟨q0, q1, q2, q3⟩ := q
  show Calls _ _ #[_, .agg #[.int .i64 q0, .int .i64 q1, .int .i64 q2, .int .i64 q3]] _ _
  generalize hcd : putCd bs (q0, q1, q2, q3) = cd
  generalize hrs : putRs bs (q0, q1, q2, q3) = rs
  have hrl : rs.length ≤ 24 := by rw [← hrs]; exact putRs_len _ _
  have HC := hide hcd
  have HX := hide hrs
  clear hcd hrs
  have HT : Hid (∀ w', Below w.heap.size w w' → FewAt w') := hide (fun w' hb => hT.below hb)
  clear hT
  obtain ⟨av, cv, rfl, hr'⟩ := hr
  have HRD : Hid (∀ w', Below w.heap.size w w' → QRead w' (.slice av bs.length cv) bs) := hide (fun w' hb => (show QRead w (.slice av bs.length cv) bs from ⟨_, _, rfl, hr'⟩).below hb)
  clear hr'
  by_cases hn0 : (bs.length : Int) ≤ 1048576
  · have hn : bs.length ≤ 1048576 := by omega
    have hge : ¬ (1048576 - (bs.length : Int) < 0) := by omega
    go_enter Tryd.func7, Tryd.ntmps7
    have P : Q4 (w.alloc (.cells #[.int .i64 q0, .int .i64 q1, .int .i64 q2, .int .i64 q3] 61)) w.heap.size 0 (q0, q1, q2, q3) := ⟨by simp, by simp, by simp, by simp⟩
    have b1 : Below w.heap.size w (w.alloc (.cells #[.int .i64 q0, .int .i64 q1, .int .i64 q2, .int .i64 q3] 61)) := (by repeat' (first | with_reducible exact Below.refl _ _ | with_reducible assumption | with_reducible refine Below.drew ?_ | with_reducible refine Below.alloc ?_ ?_ _ | with_reducible refine Below.setCell ?_ ?_ _ | (simp; done) | (simp; omega) | omega))
    have z1 : w.heap.size < (w.alloc (.cells #[.int .i64 q0, .int .i64 q1, .int .i64 q2, .int .i64 q3] 61)).heap.size := by simp
    go_wp2_with fail
    generalize (w.alloc (.cells #[.int .i64 q0, .int .i64 q1, .int .i64 q2, .int .i64 q3] 61)) = w1 at *
    refine (szBindS_calls bs.length 1048576 (by omega) (by omega) av cv _ hm).mono ?_
    rintro e w' ⟨rfl, hw⟩
    rw [hw, if_pos (by omega)]
    clear hw w'
    go_wp2_with fail
    go_cut [6] from 18 to 22 (fun s wx => CutQ w1 wx cd rs s)
    case first =>
      refine wp_region_held_drew (S := (fun w' => Q4 w' w.heap.size 0 (q0, q1, q2, q3))) (by kernel_rfl) ?_ (fun hHeld => ?_)
      · (try dsimp only); exact P.below (Below.drew (Below.refl _ w1))
      have P1 := P.below (Below.drew (Below.refl _ w1))
      have q : Below w1.heap.size w1 w1.drew := Below.drew (Below.refl _ _)
      have hwlt : w.heap.size < w1.heap.size := lt_of_cell P.1
      generalize w1.drew = V0 at *
      refine wpAnyH_take (i := 0) (oi := ⟨_, _, _, _, _, _⟩) (v := ?_) rfl (by kernel_rfl) (by kernel_rfl) (by kernel_rfl) (fun _ _ _ h => h) (Or.inl ⟨by rfl, ?_⟩) hHeld ?_
      rotate_left
      · (intro w hSw; (try dsimp only at hSw); obtain ⟨s0, s1, s2, s3⟩ := hSw; (try dsimp only at s0 s1 s2 s3); (try simp only [Nat.zero_add] at s1 s2 s3); go_simp; try (with_reducible rfl))
      try simp only [Act.put, List.setIfInBounds_toArray, List.set_cons_zero, List.set_cons_succ]
      refine wpAnyH_take (i := 2) (oi := ⟨_, _, _, _, _, _⟩) (v := ?_) rfl (by kernel_rfl) (by kernel_rfl) (by kernel_rfl) (fun _ _ _ h => h) (Or.inl ⟨by rfl, ?_⟩) hHeld ?_
      rotate_left
      · (intro w hSw; (try dsimp only at hSw); obtain ⟨s0, s1, s2, s3⟩ := hSw; (try dsimp only at s0 s1 s2 s3); (try simp only [Nat.zero_add] at s1 s2 s3); go_simp; try (with_reducible rfl))
      try simp only [Act.put, List.setIfInBounds_toArray, List.set_cons_zero, List.set_cons_succ]
      have zq0 := q.size
      refine wpAnyH_ready (rs := [1, 5]) (by kernel_rfl) (by simp) ?_
      refine (AllReadyH.cons (o := ⟨_, _, _, _, _, _⟩) rfl (fun K hK => ?_) (AllReadyH.cons (o := ⟨_, _, _, _, _, _⟩) rfl (fun K hK => ?_) AllReadyH.nil))
      · skip
        go_simp
        go_at_call 30
        refine (toBindS_calls bs _ _ hn (HRD.out _ (b1.trans (q.mono b1.size)))).mono ?_
        rintro e V1 ⟨y, rfl, hy, hb⟩
        replace P1 := P1.below hb
        replace q := q.trans (hb.mono q.size)
        replace hy := hy.read
        have zz1 := hb.size
        clear hb
        try go_wp2_with fail
        refine hK.out _ _ ?_ ?_
        · (try dsimp only); exact P1
        clear hHeld hK K
        intro hHeld
        try simp only [Act.put, List.setIfInBounds_toArray, List.set_cons_zero, List.set_cons_succ]
        have zq1 := q.size
        refine wpAnyH_ready (rs := [3, 5]) (by kernel_rfl) (by simp) ?_
        refine (AllReadyH.cons (o := ⟨_, _, _, _, _, _⟩) rfl (fun K hK => ?_) (AllReadyH.cons (o := ⟨_, _, _, _, _, _⟩) rfl (fun K hK => ?_) AllReadyH.nil))
        · skip
          go_simp
          go_at_call 32
          refine (toBind_calls q0 q1 q2 q3 _).mono ?_
          rintro e V2 ⟨rfl, hb⟩
          replace P1 := P1.below hb
          replace hy := hy.below hb
          replace q := q.trans (hb.mono q.size)
          have zz2 := hb.size
          clear hb
          try go_wp2_with fail
          refine hK.out _ _ ?_ ?_
          · (try dsimp only); exact P1
          clear hHeld hK K
          intro hHeld
          try simp only [Act.put, List.setIfInBounds_toArray, List.set_cons_zero, List.set_cons_succ]
          have zq2 := q.size
          refine wpAnyH_ready (rs := [4, 5]) (by kernel_rfl) (by simp) ?_
          refine (AllReadyH.cons (o := ⟨_, _, _, _, _, _⟩) rfl (fun K hK => ?_) (AllReadyH.cons (o := ⟨_, _, _, _, _, _⟩) rfl (fun K hK => ?_) AllReadyH.nil))
          · skip
            go_simp
            go_at_call 12
            refine (specPutBind_calls bs _ (q0, q1, q2, q3) _ hn hy).mono ?_
            rintro e V3 ⟨x, rfl, hx, hb⟩
            rw [HC.out]
            rw [HX.out] at hx
            obtain ⟨aB, cB, rfl, hcx, hx'⟩ := hx
            have hx : QAt V2.heap.size V3.heap.size V3 (.slice aB rs.length cB) rs := ⟨aB, cB, rfl, hcx, hx'⟩
            clear hx' hcx
            replace P1 := P1.below hb
            replace q := q.trans (hb.mono q.size)
            clear hy
            have zz3 := hb.size
            clear hb
            try go_wp2_with fail
            refine hK.out _ _ ?_ ?_
            · (try dsimp only); exact P1
            clear hHeld hK K
            intro hHeld
            try simp only [Act.put, List.setIfInBounds_toArray, List.set_cons_zero, List.set_cons_succ]
            have zq3 := q.size
            refine wpAnyH_ready (rs := [5]) (by kernel_rfl) (by simp) ?_
            refine (AllReadyH.cons (o := ⟨_, _, _, _, _, _⟩) rfl (fun K hK => ?_) AllReadyH.nil)
            go_simp
            have hb : Below V3.heap.size V3 (V3.alloc (.cells #[.int .i64 0, .slice none 0 0] 32)) := (Below.refl _ _).alloc (Nat.le_refl _) _
            replace P1 := P1.below hb
            replace hx := hx.below hb (Nat.le_refl _)
            replace q := q.trans (hb.mono q.size)
            have ZB : Blk (V3.alloc (.cells #[.int .i64 0, .slice none 0 0] 32)) V3.heap.size #[.int .i64 0, .slice none 0 0] := Blk.new _ _ _
            have zz4 : V3.heap.size < (V3.alloc (.cells #[.int .i64 0, .slice none 0 0] 32)).heap.size := by simp
            clear hb
            generalize (V3.alloc (.cells #[.int .i64 0, .slice none 0 0] 32)) = V4 at *
            refine hK.out _ _ ?_ ?_
            · (try dsimp only); exact P1
            clear hHeld hK K
            intro hHeld
            try simp only [Act.put, List.setIfInBounds_toArray, List.set_cons_zero, List.set_cons_succ]
            have zq := q.size
            have Z0 := ZB.at 0 (v := .int .i64 0) rfl
            have Z1 := ZB.at 1 (v := .slice none 0 0) rfl
            have ZF := ZB.froz
            refine wpAnyH_ready (rs := [6]) (by kernel_rfl) (by simp) ?_
            refine (AllReadyH.cons (o := ⟨_, _, _, _, _, _⟩) rfl (fun K hK => ?_) AllReadyH.nil)
            go_simp
            refine hK.out _ _ ?_ ?_
            · (try dsimp only); exact P1.set2 (by omega)
            clear hHeld hK K
            intro hHeld
            try simp only [Act.put, List.setIfInBounds_toArray, List.set_cons_zero, List.set_cons_succ]
            refine wpAnyH_done (by kernel_rfl) ?_ _
            have hcutf := CutQ.mk (code := cd) q (by omega) (by omega) (by omega) (by omega) (by omega) Z0 Z1 hx
            go_wp2
            go_meet
            exact hcutf
          · skip
            go_simp
            have hb : Below V2.heap.size V2 (V2.alloc (.cells #[.int .i64 0, .slice none 0 0] 32)) := (Below.refl _ _).alloc (Nat.le_refl _) _
            replace P1 := P1.below hb
            replace hy := hy.below hb
            replace q := q.trans (hb.mono q.size)
            have ZB : Blk (V2.alloc (.cells #[.int .i64 0, .slice none 0 0] 32)) V2.heap.size #[.int .i64 0, .slice none 0 0] := Blk.new _ _ _
            have zz3 : V2.heap.size < (V2.alloc (.cells #[.int .i64 0, .slice none 0 0] 32)).heap.size := by simp
            clear hb
            generalize (V2.alloc (.cells #[.int .i64 0, .slice none 0 0] 32)) = V3 at *
            refine hK.out _ _ ?_ ?_
            · (try dsimp only); exact P1
            clear hHeld hK K
            intro hHeld
            try simp only [Act.put, List.setIfInBounds_toArray, List.set_cons_zero, List.set_cons_succ]
            have zq3 := q.size
            refine wpAnyH_ready (rs := [4]) (by kernel_rfl) (by simp) ?_
            refine (AllReadyH.cons (o := ⟨_, _, _, _, _, _⟩) rfl (fun K hK => ?_) AllReadyH.nil)
            go_simp
            go_at_call 12
            refine (specPutBind_calls bs _ (q0, q1, q2, q3) _ hn hy).mono ?_
            rintro e V4 ⟨x, rfl, hx, hb⟩
            rw [HC.out]
            rw [HX.out] at hx
            obtain ⟨aB, cB, rfl, hcx, hx'⟩ := hx
            have hx : QAt V3.heap.size V4.heap.size V4 (.slice aB rs.length cB) rs := ⟨aB, cB, rfl, hcx, hx'⟩
            clear hx' hcx
            replace P1 := P1.below hb
            replace ZB := ZB.belowb hb
            replace q := q.trans (hb.mono q.size)
            clear hy
            have zz4 := hb.size
            clear hb
            try go_wp2_with fail
            refine hK.out _ _ ?_ ?_
            · (try dsimp only); exact P1
            clear hHeld hK K
            intro hHeld
            try simp only [Act.put, List.setIfInBounds_toArray, List.set_cons_zero, List.set_cons_succ]
            have zq := q.size
            have Z0 := ZB.at 0 (v := .int .i64 0) rfl
            have Z1 := ZB.at 1 (v := .slice none 0 0) rfl
            have ZF := ZB.froz
            refine wpAnyH_ready (rs := [6]) (by kernel_rfl) (by simp) ?_
            refine (AllReadyH.cons (o := ⟨_, _, _, _, _, _⟩) rfl (fun K hK => ?_) AllReadyH.nil)
            go_simp
            refine hK.out _ _ ?_ ?_
            · (try dsimp only); exact P1.set2 (by omega)
            clear hHeld hK K
            intro hHeld
            try simp only [Act.put, List.setIfInBounds_toArray, List.set_cons_zero, List.set_cons_succ]
            refine wpAnyH_done (by kernel_rfl) ?_ _
            have hcutf := CutQ.mk (code := cd) q (by omega) (by omega) (by omega) (by omega) (by omega) Z0 Z1 hx
            go_wp2
            go_meet
            exact hcutf
        · skip
          go_simp
          have hb : Below V1.heap.size V1 (V1.alloc (.cells #[.int .i64 0, .slice none 0 0] 32)) := (Below.refl _ _).alloc (Nat.le_refl _) _
          replace P1 := P1.below hb
          replace hy := hy.below hb
          replace q := q.trans (hb.mono q.size)
          have ZB : Blk (V1.alloc (.cells #[.int .i64 0, .slice none 0 0] 32)) V1.heap.size #[.int .i64 0, .slice none 0 0] := Blk.new _ _ _
          have zz2 : V1.heap.size < (V1.alloc (.cells #[.int .i64 0, .slice none 0 0] 32)).heap.size := by simp
          clear hb
          generalize (V1.alloc (.cells #[.int .i64 0, .slice none 0 0] 32)) = V2 at *
          refine hK.out _ _ ?_ ?_
          · (try dsimp only); exact P1
          clear hHeld hK K
          intro hHeld
          try simp only [Act.put, List.setIfInBounds_toArray, List.set_cons_zero, List.set_cons_succ]
          have zq2 := q.size
          refine wpAnyH_ready (rs := [3]) (by kernel_rfl) (by simp) ?_
          refine (AllReadyH.cons (o := ⟨_, _, _, _, _, _⟩) rfl (fun K hK => ?_) AllReadyH.nil)
          go_simp
          go_at_call 32
          refine (toBind_calls q0 q1 q2 q3 _).mono ?_
          rintro e V3 ⟨rfl, hb⟩
          replace P1 := P1.below hb
          replace hy := hy.below hb
          replace ZB := ZB.belowb hb
          replace q := q.trans (hb.mono q.size)
          have zz3 := hb.size
          clear hb
          try go_wp2_with fail
          refine hK.out _ _ ?_ ?_
          · (try dsimp only); exact P1
          clear hHeld hK K
          intro hHeld
          try simp only [Act.put, List.setIfInBounds_toArray, List.set_cons_zero, List.set_cons_succ]
          have zq3 := q.size
          refine wpAnyH_ready (rs := [4]) (by kernel_rfl) (by simp) ?_
          refine (AllReadyH.cons (o := ⟨_, _, _, _, _, _⟩) rfl (fun K hK => ?_) AllReadyH.nil)
          go_simp
          go_at_call 12
          refine (specPutBind_calls bs _ (q0, q1, q2, q3) _ hn hy).mono ?_
          rintro e V4 ⟨x, rfl, hx, hb⟩
          rw [HC.out]
          rw [HX.out] at hx
          obtain ⟨aB, cB, rfl, hcx, hx'⟩ := hx
          have hx : QAt V3.heap.size V4.heap.size V4 (.slice aB rs.length cB) rs := ⟨aB, cB, rfl, hcx, hx'⟩
          clear hx' hcx
          replace P1 := P1.below hb
          replace ZB := ZB.belowb hb
          replace q := q.trans (hb.mono q.size)
          clear hy
          have zz4 := hb.size
          clear hb
          try go_wp2_with fail
          refine hK.out _ _ ?_ ?_
          · (try dsimp only); exact P1
          clear hHeld hK K
          intro hHeld
          try simp only [Act.put, List.setIfInBounds_toArray, List.set_cons_zero, List.set_cons_succ]
          have zq := q.size
          have Z0 := ZB.at 0 (v := .int .i64 0) rfl
          have Z1 := ZB.at 1 (v := .slice none 0 0) rfl
          have ZF := ZB.froz
          refine wpAnyH_ready (rs := [6]) (by kernel_rfl) (by simp) ?_
          refine (AllReadyH.cons (o := ⟨_, _, _, _, _, _⟩) rfl (fun K hK => ?_) AllReadyH.nil)
          go_simp
          refine hK.out _ _ ?_ ?_
          · (try dsimp only); exact P1.set2 (by omega)
          clear hHeld hK K
          intro hHeld
          try simp only [Act.put, List.setIfInBounds_toArray, List.set_cons_zero, List.set_cons_succ]
          refine wpAnyH_done (by kernel_rfl) ?_ _
          have hcutf := CutQ.mk (code := cd) q (by omega) (by omega) (by omega) (by omega) (by omega) Z0 Z1 hx
          go_wp2
          go_meet
          exact hcutf
      · skip
        go_simp
        have hb : Below V0.heap.size V0 (V0.alloc (.cells #[.int .i64 0, .slice none 0 0] 32)) := (Below.refl _ _).alloc (Nat.le_refl _) _
        replace P1 := P1.below hb
        replace q := q.trans (hb.mono q.size)
        have ZB : Blk (V0.alloc (.cells #[.int .i64 0, .slice none 0 0] 32)) V0.heap.size #[.int .i64 0, .slice none 0 0] := Blk.new _ _ _
        have zz1 : V0.heap.size < (V0.alloc (.cells #[.int .i64 0, .slice none 0 0] 32)).heap.size := by simp
        clear hb
        generalize (V0.alloc (.cells #[.int .i64 0, .slice none 0 0] 32)) = V1 at *
        refine hK.out _ _ ?_ ?_
        · (try dsimp only); exact P1
        clear hHeld hK K
        intro hHeld
        try simp only [Act.put, List.setIfInBounds_toArray, List.set_cons_zero, List.set_cons_succ]
        have zq1 := q.size
        refine wpAnyH_ready (rs := [1]) (by kernel_rfl) (by simp) ?_
        refine (AllReadyH.cons (o := ⟨_, _, _, _, _, _⟩) rfl (fun K hK => ?_) AllReadyH.nil)
        go_simp
        go_at_call 30
        refine (toBindS_calls bs _ _ hn (HRD.out _ (b1.trans (q.mono b1.size)))).mono ?_
        rintro e V2 ⟨y, rfl, hy, hb⟩
        replace P1 := P1.below hb
        replace ZB := ZB.belowb hb
        replace q := q.trans (hb.mono q.size)
        replace hy := hy.read
        have zz2 := hb.size
        clear hb
        try go_wp2_with fail
        refine hK.out _ _ ?_ ?_
        · (try dsimp only); exact P1
        clear hHeld hK K
        intro hHeld
        try simp only [Act.put, List.setIfInBounds_toArray, List.set_cons_zero, List.set_cons_succ]
        have zq2 := q.size
        refine wpAnyH_ready (rs := [3]) (by kernel_rfl) (by simp) ?_
        refine (AllReadyH.cons (o := ⟨_, _, _, _, _, _⟩) rfl (fun K hK => ?_) AllReadyH.nil)
        go_simp
        go_at_call 32
        refine (toBind_calls q0 q1 q2 q3 _).mono ?_
        rintro e V3 ⟨rfl, hb⟩
        replace P1 := P1.below hb
        replace hy := hy.below hb
        replace ZB := ZB.belowb hb
        replace q := q.trans (hb.mono q.size)
        have zz3 := hb.size
        clear hb
        try go_wp2_with fail
        refine hK.out _ _ ?_ ?_
        · (try dsimp only); exact P1
        clear hHeld hK K
        intro hHeld
        try simp only [Act.put, List.setIfInBounds_toArray, List.set_cons_zero, List.set_cons_succ]
        have zq3 := q.size
        refine wpAnyH_ready (rs := [4]) (by kernel_rfl) (by simp) ?_
        refine (AllReadyH.cons (o := ⟨_, _, _, _, _, _⟩) rfl (fun K hK => ?_) AllReadyH.nil)
        go_simp
        go_at_call 12
        refine (specPutBind_calls bs _ (q0, q1, q2, q3) _ hn hy).mono ?_
        rintro e V4 ⟨x, rfl, hx, hb⟩
        rw [HC.out]
        rw [HX.out] at hx
        obtain ⟨aB, cB, rfl, hcx, hx'⟩ := hx
        have hx : QAt V3.heap.size V4.heap.size V4 (.slice aB rs.length cB) rs := ⟨aB, cB, rfl, hcx, hx'⟩
        clear hx' hcx
        replace P1 := P1.below hb
        replace ZB := ZB.belowb hb
        replace q := q.trans (hb.mono q.size)
        clear hy
        have zz4 := hb.size
        clear hb
        try go_wp2_with fail
        refine hK.out _ _ ?_ ?_
        · (try dsimp only); exact P1
        clear hHeld hK K
        intro hHeld
        try simp only [Act.put, List.setIfInBounds_toArray, List.set_cons_zero, List.set_cons_succ]
        have zq := q.size
        have Z0 := ZB.at 0 (v := .int .i64 0) rfl
        have Z1 := ZB.at 1 (v := .slice none 0 0) rfl
        have ZF := ZB.froz
        refine wpAnyH_ready (rs := [6]) (by kernel_rfl) (by simp) ?_
        refine (AllReadyH.cons (o := ⟨_, _, _, _, _, _⟩) rfl (fun K hK => ?_) AllReadyH.nil)
        go_simp
        refine hK.out _ _ ?_ ?_
        · (try dsimp only); exact P1.set2 (by omega)
        clear hHeld hK K
        intro hHeld
        try simp only [Act.put, List.setIfInBounds_toArray, List.set_cons_zero, List.set_cons_succ]
        refine wpAnyH_done (by kernel_rfl) ?_ _
        have hcutf := CutQ.mk (code := cd) q (by omega) (by omega) (by omega) (by omega) (by omega) Z0 Z1 hx
        go_wp2
        go_meet
        exact hcutf
    case rest =>
      obtain ⟨FB, loB, hiB, aB, cB, rfl, q, hFB, ⟨B0, B1⟩, hxB⟩ := hcut
      rename World => w2
      have dB : QAt loB hiB w2 _ _ := hxB
      clear hxB
      have hxB := dB
      clear dB
      replace P := P.below q
      have z2 : w1.heap.size ≤ w2.heap.size := q.size
      have b2 := b1.trans (q.mono b1.size)
      clear q
      obtain ⟨eB1, eB2, eB3, eB4, eB5⟩ := hFB
      go_wp2_with fail
      refine (toBindS_calls bs _ _ hn (HRD.out _ b2)).mono ?_
      rintro e w3 ⟨x, rfl, hx, q⟩
      replace P := P.below q
      replace B0 := cellb q B0
      replace B1 := cellb q B1
      replace hxB := hxB.below q (by omega)
      have z3 : w2.heap.size ≤ w3.heap.size := q.size
      have b3 := b2.trans (q.mono b2.size)
      clear q
      obtain ⟨ax, cx, rfl, hcx, hx'⟩ := hx
      have hx : QAt w2.heap.size w3.heap.size w3 (.slice ax bs.length cx) bs := ⟨ax, cx, rfl, hcx, hx'⟩
      clear hx' hcx
      have g0 := P.1
      have g1 := P.2.1
      have g2 := P.2.2.1
      have g3 := P.2.2.2
      dsimp only at g0 g1 g2 g3
      simp only [Nat.zero_add] at g1 g2 g3
      go_wp2_with fail
      clear g0 g1 g2 g3
      refine (toBind_calls q0 q1 q2 q3 _).mono ?_
      rintro e w4 ⟨rfl, q⟩
      replace P := P.below q
      replace B0 := cellb q B0
      replace B1 := cellb q B1
      replace hxB := hxB.below q (by omega)
      replace hx := hx.below q (by omega)
      have z4 : w3.heap.size ≤ w4.heap.size := q.size
      have b4 := b3.trans (q.mono b3.size)
      clear q
      go_wp2_with fail
      refine (implPutBind_calls bs _ (q0, q1, q2, q3) _ hn hx.read (HT.out _ b4)).mono ?_
      rintro e w5 ⟨x, rfl, hg, q⟩
      rw [HC.out]
      rw [HX.out] at hg
      replace P := P.below q
      replace B0 := cellb q B0
      replace B1 := cellb q B1
      replace hxB := hxB.below q (by omega)
      replace hx := hx.below q (by omega)
      have z5 : w4.heap.size ≤ w5.heap.size := q.size
      have b5 := b4.trans (q.mono b4.size)
      clear q
      obtain ⟨aG, cG, rfl, hcG, hg'⟩ := hg
      have hxG : QAt w4.heap.size w5.heap.size w5 (.slice aG rs.length cG) rs := ⟨aG, cG, rfl, hcG, hg'⟩
      clear hg' hcG
      have q : Below w5.heap.size w5 (w5.alloc (.cells #[.int .i64 cd, .slice aG rs.length cG] 32)) := (by repeat' (first | with_reducible exact Below.refl _ _ | with_reducible assumption | with_reducible refine Below.drew ?_ | with_reducible refine Below.alloc ?_ ?_ _ | with_reducible refine Below.setCell ?_ ?_ _ | (simp; done) | (simp; omega) | omega))
      have G0 : (w5.alloc (.cells #[.int .i64 cd, .slice aG rs.length cG] 32)).cell? ⟨w5.heap.size, 0, none⟩ = some (.int .i64 cd) := by simp
      have G1 : (w5.alloc (.cells #[.int .i64 cd, .slice aG rs.length cG] 32)).cell? ⟨w5.heap.size, 1, none⟩ = some (.slice aG rs.length cG) := by simp
      have y6 : w5.heap.size < (w5.alloc (.cells #[.int .i64 cd, .slice aG rs.length cG] 32)).heap.size := by simp
      replace P := P.below q
      replace B0 := cellb q B0
      replace B1 := cellb q B1
      replace hxB := hxB.below q (by omega)
      replace hx := hx.below q (by omega)
      replace hxG := hxG.below q (by omega)
      have b6 := b5.trans (q.mono b5.size)
      clear q
      go_wp2_with fail
      generalize (w5.alloc (.cells #[.int .i64 cd, .slice aG rs.length cG] 32)) = w6 at *
      go_wp2_with fail
      refine (eqBindsResult_calls cd rs _ _ _ (by omega) hxG.read hxB.read).mono ?_
      rintro e w7 ⟨rfl, q⟩
      replace P := P.below q
      replace B0 := cellb q B0
      replace B1 := cellb q B1
      replace G0 := cellb q G0
      replace G1 := cellb q G1
      replace hxB := hxB.below q (by omega)
      replace hx := hx.below q (by omega)
      replace hxG := hxG.below q (by omega)
      have z7 : w6.heap.size ≤ w7.heap.size := q.size
      have b7 := b6.trans (q.mono b6.size)
      clear q
      go_wp2_with fail
      refine (toBindS_calls bs _ _ hn (HRD.out _ b7)).mono ?_
      rintro e w8 ⟨y, rfl, hy, q⟩
      replace hy := hy.read
      replace P := P.below q
      replace B0 := cellb q B0
      replace B1 := cellb q B1
      replace G0 := cellb q G0
      replace G1 := cellb q G1
      replace hxB := hxB.below q (by omega)
      replace hx := hx.below q (by omega)
      replace hxG := hxG.below q (by omega)
      have z8 : w7.heap.size ≤ w8.heap.size := q.size
      have b8 := b7.trans (q.mono b7.size)
      clear q
      go_wp2_with fail
      refine (eqBindS_calls bs _ _ _ (by omega) hx.read hy).mono ?_
      rintro e w9 ⟨rfl, q⟩
      clear hy
      replace P := P.below q
      replace B0 := cellb q B0
      replace B1 := cellb q B1
      replace G0 := cellb q G0
      replace G1 := cellb q G1
      replace hxB := hxB.below q (by omega)
      replace hx := hx.below q (by omega)
      replace hxG := hxG.below q (by omega)
      have z9 : w8.heap.size ≤ w9.heap.size := q.size
      have b9 := b8.trans (q.mono b8.size)
      clear q
      go_wp2_with fail
      refine (markBindS_calls bs 1 w2.heap.size w3.heap.size _ _ (by omega) (by omega) (by omega) hx).mono ?_
      rintro e w10 ⟨rfl, hm0, hw⟩
      replace P := P.within hw (by omega)
      replace B0 := cellw hw (by omega) B0
      replace B1 := cellw hw (by omega) B1
      replace G0 := cellw hw (by omega) G0
      replace G1 := cellw hw (by omega) G1
      replace hxB := hxB.within hw (by omega) (by omega)
      replace hxG := hxG.within hw (by omega) (by omega)
      have z10 : w9.heap.size ≤ w10.heap.size := hw.size
      have b10 := b9.trans (hw.below (by omega) (by omega))
      clear hw
      clear hx hm0
      have hk0 : ¬ ((1 : Int) + 4 * (bs.length : Int) < 0) := by omega
      go_wp2_with fail
      refine (eqBindsResult_calls cd rs _ _ _ (by omega) hxG.read hxB.read).mono ?_
      rintro e w11 ⟨rfl, q⟩
      replace P := P.below q
      replace B0 := cellb q B0
      replace B1 := cellb q B1
      replace G0 := cellb q G0
      replace G1 := cellb q G1
      replace hxB := hxB.below q (by omega)
      replace hxG := hxG.below q (by omega)
      have z11 : w10.heap.size ≤ w11.heap.size := q.size
      have b11 := b10.trans (q.mono b10.size)
      clear q
      go_wp2_with fail
      refine (markBindsResult_calls cd rs 1 w4.heap.size w5.heap.size _ _ (by omega) (by omega) (by omega) (by omega) hxG).mono ?_
      rintro e w12 ⟨rfl, hm1, hw⟩
      replace P := P.within hw (by omega)
      replace B0 := cellw hw (by omega) B0
      replace B1 := cellw hw (by omega) B1
      replace G0 := cellw hw (by omega) G0
      replace G1 := cellw hw (by omega) G1
      replace hxB := hxB.within hw (by omega) (by omega)
      have z12 : w11.heap.size ≤ w12.heap.size := hw.size
      have b12 := b11.trans (hw.below (by omega) (by omega))
      clear hw
      clear hxG
      go_wp2_with fail
      refine (heldBindsResult_calls cd (marksB4 1 rs.length) 1 (.slice aG rs.length cG) _ (by rw [marksB4_length]; omega) (by omega) (by omega) hm1.read (marksB4_at 1 _)).mono ?_
      rintro e w13 ⟨rfl, q⟩
      rw [marksB4_length]
      replace P := P.below q
      replace B0 := cellb q B0
      replace B1 := cellb q B1
      replace G0 := cellb q G0
      replace G1 := cellb q G1
      replace hxB := hxB.below q (by omega)
      replace hm1 := hm1.below q (by omega)
      have z13 : w12.heap.size ≤ w13.heap.size := q.size
      have b13 := b12.trans (q.mono b12.size)
      clear q
      have hk1 : ¬ ((1 : Int) + 4 * (rs.length : Int) < 0) := by omega
      have hk2 : (((1 : Int) + 4 * (rs.length : Int)) != (1 + 4 * (rs.length : Int))) = false := by simp
      go_wp2_with fail
      go_cut [12] from 60 to 64 (fun s wx => CutQ w13 wx cd rs s)
      case first =>
        refine wp_region_held_drew (S := (fun w' => Q4 w' w.heap.size 0 (q0, q1, q2, q3))) (by kernel_rfl) ?_ (fun hHeld => ?_)
        · (try dsimp only); exact P.below (Below.drew (Below.refl _ w13))
        have P1 := P.below (Below.drew (Below.refl _ w13))
        have q : Below w13.heap.size w13 w13.drew := Below.drew (Below.refl _ _)
        have hwlt : w.heap.size < w13.heap.size := lt_of_cell P.1
        generalize w13.drew = V0 at *
        refine wpAnyH_take (i := 0) (oi := ⟨_, _, _, _, _, _⟩) (v := ?_) rfl (by kernel_rfl) (by kernel_rfl) (by kernel_rfl) (fun _ _ _ h => h) (Or.inl ⟨by rfl, ?_⟩) hHeld ?_
        rotate_left
        · (intro w hSw; (try dsimp only at hSw); obtain ⟨s0, s1, s2, s3⟩ := hSw; (try dsimp only at s0 s1 s2 s3); (try simp only [Nat.zero_add] at s1 s2 s3); go_simp; try (with_reducible rfl))
        try simp only [Act.put, List.setIfInBounds_toArray, List.set_cons_zero, List.set_cons_succ]
        refine wpAnyH_take (i := 2) (oi := ⟨_, _, _, _, _, _⟩) (v := ?_) rfl (by kernel_rfl) (by kernel_rfl) (by kernel_rfl) (fun _ _ _ h => h) (Or.inl ⟨by rfl, ?_⟩) hHeld ?_
        rotate_left
        · (intro w hSw; (try dsimp only at hSw); obtain ⟨s0, s1, s2, s3⟩ := hSw; (try dsimp only at s0 s1 s2 s3); (try simp only [Nat.zero_add] at s1 s2 s3); go_simp; try (with_reducible rfl))
        try simp only [Act.put, List.setIfInBounds_toArray, List.set_cons_zero, List.set_cons_succ]
        have zq0 := q.size
        refine wpAnyH_ready (rs := [1, 5]) (by kernel_rfl) (by simp) ?_
        refine (AllReadyH.cons (o := ⟨_, _, _, _, _, _⟩) rfl (fun K hK => ?_) (AllReadyH.cons (o := ⟨_, _, _, _, _, _⟩) rfl (fun K hK => ?_) AllReadyH.nil))
        · skip
          go_simp
          go_at_call 30
          refine (toBindS_calls bs _ _ hn (HRD.out _ (b13.trans (q.mono b13.size)))).mono ?_
          rintro e V1 ⟨y, rfl, hy, hb⟩
          replace P1 := P1.below hb
          replace q := q.trans (hb.mono q.size)
          replace hy := hy.read
          have zz1 := hb.size
          clear hb
          try go_wp2_with fail
          refine hK.out _ _ ?_ ?_
          · (try dsimp only); exact P1
          clear hHeld hK K
          intro hHeld
          try simp only [Act.put, List.setIfInBounds_toArray, List.set_cons_zero, List.set_cons_succ]
          have zq1 := q.size
          refine wpAnyH_ready (rs := [3, 5]) (by kernel_rfl) (by simp) ?_
          refine (AllReadyH.cons (o := ⟨_, _, _, _, _, _⟩) rfl (fun K hK => ?_) (AllReadyH.cons (o := ⟨_, _, _, _, _, _⟩) rfl (fun K hK => ?_) AllReadyH.nil))
          · skip
            go_simp
            go_at_call 32
            refine (toBind_calls q0 q1 q2 q3 _).mono ?_
            rintro e V2 ⟨rfl, hb⟩
            replace P1 := P1.below hb
            replace hy := hy.below hb
            replace q := q.trans (hb.mono q.size)
            have zz2 := hb.size
            clear hb
            try go_wp2_with fail
            refine hK.out _ _ ?_ ?_
            · (try dsimp only); exact P1
            clear hHeld hK K
            intro hHeld
            try simp only [Act.put, List.setIfInBounds_toArray, List.set_cons_zero, List.set_cons_succ]
            have zq2 := q.size
            refine wpAnyH_ready (rs := [4, 5]) (by kernel_rfl) (by simp) ?_
            refine (AllReadyH.cons (o := ⟨_, _, _, _, _, _⟩) rfl (fun K hK => ?_) (AllReadyH.cons (o := ⟨_, _, _, _, _, _⟩) rfl (fun K hK => ?_) AllReadyH.nil))
            · skip
              go_simp
              go_at_call 11
              refine (implPutBind_calls bs _ (q0, q1, q2, q3) _ hn hy (HT.out _ (b13.trans (q.mono b13.size)))).mono ?_
              rintro e V3 ⟨x, rfl, hx, hb⟩
              rw [HC.out]
              rw [HX.out] at hx
              obtain ⟨aH, cH, rfl, hcx, hx'⟩ := hx
              have hx : QAt V2.heap.size V3.heap.size V3 (.slice aH rs.length cH) rs := ⟨aH, cH, rfl, hcx, hx'⟩
              clear hx' hcx
              replace P1 := P1.below hb
              replace q := q.trans (hb.mono q.size)
              clear hy
              have zz3 := hb.size
              clear hb
              try go_wp2_with fail
              refine hK.out _ _ ?_ ?_
              · (try dsimp only); exact P1
              clear hHeld hK K
              intro hHeld
              try simp only [Act.put, List.setIfInBounds_toArray, List.set_cons_zero, List.set_cons_succ]
              have zq3 := q.size
              refine wpAnyH_ready (rs := [5]) (by kernel_rfl) (by simp) ?_
              refine (AllReadyH.cons (o := ⟨_, _, _, _, _, _⟩) rfl (fun K hK => ?_) AllReadyH.nil)
              go_simp
              have hb : Below V3.heap.size V3 (V3.alloc (.cells #[.int .i64 0, .slice none 0 0] 32)) := (Below.refl _ _).alloc (Nat.le_refl _) _
              replace P1 := P1.below hb
              replace hx := hx.below hb (Nat.le_refl _)
              replace q := q.trans (hb.mono q.size)
              have ZB : Blk (V3.alloc (.cells #[.int .i64 0, .slice none 0 0] 32)) V3.heap.size #[.int .i64 0, .slice none 0 0] := Blk.new _ _ _
              have zz4 : V3.heap.size < (V3.alloc (.cells #[.int .i64 0, .slice none 0 0] 32)).heap.size := by simp
              clear hb
              generalize (V3.alloc (.cells #[.int .i64 0, .slice none 0 0] 32)) = V4 at *
              refine hK.out _ _ ?_ ?_
              · (try dsimp only); exact P1
              clear hHeld hK K
              intro hHeld
              try simp only [Act.put, List.setIfInBounds_toArray, List.set_cons_zero, List.set_cons_succ]
              have zq := q.size
              have Z0 := ZB.at 0 (v := .int .i64 0) rfl
              have Z1 := ZB.at 1 (v := .slice none 0 0) rfl
              have ZF := ZB.froz
              refine wpAnyH_ready (rs := [6]) (by kernel_rfl) (by simp) ?_
              refine (AllReadyH.cons (o := ⟨_, _, _, _, _, _⟩) rfl (fun K hK => ?_) AllReadyH.nil)
              go_simp
              refine hK.out _ _ ?_ ?_
              · (try dsimp only); exact P1.set2 (by omega)
              clear hHeld hK K
              intro hHeld
              try simp only [Act.put, List.setIfInBounds_toArray, List.set_cons_zero, List.set_cons_succ]
              refine wpAnyH_done (by kernel_rfl) ?_ _
              have hcutf := CutQ.mk (code := cd) q (by omega) (by omega) (by omega) (by omega) (by omega) Z0 Z1 hx
              go_wp2
              go_meet
              exact hcutf
            · skip
              go_simp
              have hb : Below V2.heap.size V2 (V2.alloc (.cells #[.int .i64 0, .slice none 0 0] 32)) := (Below.refl _ _).alloc (Nat.le_refl _) _
              replace P1 := P1.below hb
              replace hy := hy.below hb
              replace q := q.trans (hb.mono q.size)
              have ZB : Blk (V2.alloc (.cells #[.int .i64 0, .slice none 0 0] 32)) V2.heap.size #[.int .i64 0, .slice none 0 0] := Blk.new _ _ _
              have zz3 : V2.heap.size < (V2.alloc (.cells #[.int .i64 0, .slice none 0 0] 32)).heap.size := by simp
              clear hb
              generalize (V2.alloc (.cells #[.int .i64 0, .slice none 0 0] 32)) = V3 at *
              refine hK.out _ _ ?_ ?_
              · (try dsimp only); exact P1
              clear hHeld hK K
              intro hHeld
              try simp only [Act.put, List.setIfInBounds_toArray, List.set_cons_zero, List.set_cons_succ]
              have zq3 := q.size
              refine wpAnyH_ready (rs := [4]) (by kernel_rfl) (by simp) ?_
              refine (AllReadyH.cons (o := ⟨_, _, _, _, _, _⟩) rfl (fun K hK => ?_) AllReadyH.nil)
              go_simp
              go_at_call 11
              refine (implPutBind_calls bs _ (q0, q1, q2, q3) _ hn hy (HT.out _ (b13.trans (q.mono b13.size)))).mono ?_
              rintro e V4 ⟨x, rfl, hx, hb⟩
              rw [HC.out]
              rw [HX.out] at hx
              obtain ⟨aH, cH, rfl, hcx, hx'⟩ := hx
              have hx : QAt V3.heap.size V4.heap.size V4 (.slice aH rs.length cH) rs := ⟨aH, cH, rfl, hcx, hx'⟩
              clear hx' hcx
              replace P1 := P1.below hb
              replace ZB := ZB.belowb hb
              replace q := q.trans (hb.mono q.size)
              clear hy
              have zz4 := hb.size
              clear hb
              try go_wp2_with fail
              refine hK.out _ _ ?_ ?_
              · (try dsimp only); exact P1
              clear hHeld hK K
              intro hHeld
              try simp only [Act.put, List.setIfInBounds_toArray, List.set_cons_zero, List.set_cons_succ]
              have zq := q.size
              have Z0 := ZB.at 0 (v := .int .i64 0) rfl
              have Z1 := ZB.at 1 (v := .slice none 0 0) rfl
              have ZF := ZB.froz
              refine wpAnyH_ready (rs := [6]) (by kernel_rfl) (by simp) ?_
              refine (AllReadyH.cons (o := ⟨_, _, _, _, _, _⟩) rfl (fun K hK => ?_) AllReadyH.nil)
              go_simp
              refine hK.out _ _ ?_ ?_
              · (try dsimp only); exact P1.set2 (by omega)
              clear hHeld hK K
              intro hHeld
              try simp only [Act.put, List.setIfInBounds_toArray, List.set_cons_zero, List.set_cons_succ]
              refine wpAnyH_done (by kernel_rfl) ?_ _
              have hcutf := CutQ.mk (code := cd) q (by omega) (by omega) (by omega) (by omega) (by omega) Z0 Z1 hx
              go_wp2
              go_meet
              exact hcutf
          · skip
            go_simp
            have hb : Below V1.heap.size V1 (V1.alloc (.cells #[.int .i64 0, .slice none 0 0] 32)) := (Below.refl _ _).alloc (Nat.le_refl _) _
            replace P1 := P1.below hb
            replace hy := hy.below hb
            replace q := q.trans (hb.mono q.size)
            have ZB : Blk (V1.alloc (.cells #[.int .i64 0, .slice none 0 0] 32)) V1.heap.size #[.int .i64 0, .slice none 0 0] := Blk.new _ _ _
            have zz2 : V1.heap.size < (V1.alloc (.cells #[.int .i64 0, .slice none 0 0] 32)).heap.size := by simp
            clear hb
            generalize (V1.alloc (.cells #[.int .i64 0, .slice none 0 0] 32)) = V2 at *
            refine hK.out _ _ ?_ ?_
            · (try dsimp only); exact P1
            clear hHeld hK K
            intro hHeld
            try simp only [Act.put, List.setIfInBounds_toArray, List.set_cons_zero, List.set_cons_succ]
            have zq2 := q.size
            refine wpAnyH_ready (rs := [3]) (by kernel_rfl) (by simp) ?_
            refine (AllReadyH.cons (o := ⟨_, _, _, _, _, _⟩) rfl (fun K hK => ?_) AllReadyH.nil)
            go_simp
            go_at_call 32
            refine (toBind_calls q0 q1 q2 q3 _).mono ?_
            rintro e V3 ⟨rfl, hb⟩
            replace P1 := P1.below hb
            replace hy := hy.below hb
            replace ZB := ZB.belowb hb
            replace q := q.trans (hb.mono q.size)
            have zz3 := hb.size
            clear hb
            try go_wp2_with fail
            refine hK.out _ _ ?_ ?_
            · (try dsimp only); exact P1
            clear hHeld hK K
            intro hHeld
            try simp only [Act.put, List.setIfInBounds_toArray, List.set_cons_zero, List.set_cons_succ]
            have zq3 := q.size
            refine wpAnyH_ready (rs := [4]) (by kernel_rfl) (by simp) ?_
            refine (AllReadyH.cons (o := ⟨_, _, _, _, _, _⟩) rfl (fun K hK => ?_) AllReadyH.nil)
            go_simp
            go_at_call 11
            refine (implPutBind_calls bs _ (q0, q1, q2, q3) _ hn hy (HT.out _ (b13.trans (q.mono b13.size)))).mono ?_
            rintro e V4 ⟨x, rfl, hx, hb⟩
            rw [HC.out]
            rw [HX.out] at hx
            obtain ⟨aH, cH, rfl, hcx, hx'⟩ := hx
            have hx : QAt V3.heap.size V4.heap.size V4 (.slice aH rs.length cH) rs := ⟨aH, cH, rfl, hcx, hx'⟩
            clear hx' hcx
            replace P1 := P1.below hb
            replace ZB := ZB.belowb hb
            replace q := q.trans (hb.mono q.size)
            clear hy
            have zz4 := hb.size
            clear hb
            try go_wp2_with fail
            refine hK.out _ _ ?_ ?_
            · (try dsimp only); exact P1
            clear hHeld hK K
            intro hHeld
            try simp only [Act.put, List.setIfInBounds_toArray, List.set_cons_zero, List.set_cons_succ]
            have zq := q.size
            have Z0 := ZB.at 0 (v := .int .i64 0) rfl
            have Z1 := ZB.at 1 (v := .slice none 0 0) rfl
            have ZF := ZB.froz
            refine wpAnyH_ready (rs := [6]) (by kernel_rfl) (by simp) ?_
            refine (AllReadyH.cons (o := ⟨_, _, _, _, _, _⟩) rfl (fun K hK => ?_) AllReadyH.nil)
            go_simp
            refine hK.out _ _ ?_ ?_
            · (try dsimp only); exact P1.set2 (by omega)
            clear hHeld hK K
            intro hHeld
            try simp only [Act.put, List.setIfInBounds_toArray, List.set_cons_zero, List.set_cons_succ]
            refine wpAnyH_done (by kernel_rfl) ?_ _
            have hcutf := CutQ.mk (code := cd) q (by omega) (by omega) (by omega) (by omega) (by omega) Z0 Z1 hx
            go_wp2
            go_meet
            exact hcutf
        · skip
          go_simp
          have hb : Below V0.heap.size V0 (V0.alloc (.cells #[.int .i64 0, .slice none 0 0] 32)) := (Below.refl _ _).alloc (Nat.le_refl _) _
          replace P1 := P1.below hb
          replace q := q.trans (hb.mono q.size)
          have ZB : Blk (V0.alloc (.cells #[.int .i64 0, .slice none 0 0] 32)) V0.heap.size #[.int .i64 0, .slice none 0 0] := Blk.new _ _ _
          have zz1 : V0.heap.size < (V0.alloc (.cells #[.int .i64 0, .slice none 0 0] 32)).heap.size := by simp
          clear hb
          generalize (V0.alloc (.cells #[.int .i64 0, .slice none 0 0] 32)) = V1 at *
          refine hK.out _ _ ?_ ?_
          · (try dsimp only); exact P1
          clear hHeld hK K
          intro hHeld
          try simp only [Act.put, List.setIfInBounds_toArray, List.set_cons_zero, List.set_cons_succ]
          have zq1 := q.size
          refine wpAnyH_ready (rs := [1]) (by kernel_rfl) (by simp) ?_
          refine (AllReadyH.cons (o := ⟨_, _, _, _, _, _⟩) rfl (fun K hK => ?_) AllReadyH.nil)
          go_simp
          go_at_call 30
          refine (toBindS_calls bs _ _ hn (HRD.out _ (b13.trans (q.mono b13.size)))).mono ?_
          rintro e V2 ⟨y, rfl, hy, hb⟩
          replace P1 := P1.below hb
          replace ZB := ZB.belowb hb
          replace q := q.trans (hb.mono q.size)
          replace hy := hy.read
          have zz2 := hb.size
          clear hb
          try go_wp2_with fail
          refine hK.out _ _ ?_ ?_
          · (try dsimp only); exact P1
          clear hHeld hK K
          intro hHeld
          try simp only [Act.put, List.setIfInBounds_toArray, List.set_cons_zero, List.set_cons_succ]
          have zq2 := q.size
          refine wpAnyH_ready (rs := [3]) (by kernel_rfl) (by simp) ?_
          refine (AllReadyH.cons (o := ⟨_, _, _, _, _, _⟩) rfl (fun K hK => ?_) AllReadyH.nil)
          go_simp
          go_at_call 32
          refine (toBind_calls q0 q1 q2 q3 _).mono ?_
          rintro e V3 ⟨rfl, hb⟩
          replace P1 := P1.below hb
          replace hy := hy.below hb
          replace ZB := ZB.belowb hb
          replace q := q.trans (hb.mono q.size)
          have zz3 := hb.size
          clear hb
          try go_wp2_with fail
          refine hK.out _ _ ?_ ?_
          · (try dsimp only); exact P1
          clear hHeld hK K
          intro hHeld
          try simp only [Act.put, List.setIfInBounds_toArray, List.set_cons_zero, List.set_cons_succ]
          have zq3 := q.size
          refine wpAnyH_ready (rs := [4]) (by kernel_rfl) (by simp) ?_
          refine (AllReadyH.cons (o := ⟨_, _, _, _, _, _⟩) rfl (fun K hK => ?_) AllReadyH.nil)
          go_simp
          go_at_call 11
          refine (implPutBind_calls bs _ (q0, q1, q2, q3) _ hn hy (HT.out _ (b13.trans (q.mono b13.size)))).mono ?_
          rintro e V4 ⟨x, rfl, hx, hb⟩
          rw [HC.out]
          rw [HX.out] at hx
          obtain ⟨aH, cH, rfl, hcx, hx'⟩ := hx
          have hx : QAt V3.heap.size V4.heap.size V4 (.slice aH rs.length cH) rs := ⟨aH, cH, rfl, hcx, hx'⟩
          clear hx' hcx
          replace P1 := P1.below hb
          replace ZB := ZB.belowb hb
          replace q := q.trans (hb.mono q.size)
          clear hy
          have zz4 := hb.size
          clear hb
          try go_wp2_with fail
          refine hK.out _ _ ?_ ?_
          · (try dsimp only); exact P1
          clear hHeld hK K
          intro hHeld
          try simp only [Act.put, List.setIfInBounds_toArray, List.set_cons_zero, List.set_cons_succ]
          have zq := q.size
          have Z0 := ZB.at 0 (v := .int .i64 0) rfl
          have Z1 := ZB.at 1 (v := .slice none 0 0) rfl
          have ZF := ZB.froz
          refine wpAnyH_ready (rs := [6]) (by kernel_rfl) (by simp) ?_
          refine (AllReadyH.cons (o := ⟨_, _, _, _, _, _⟩) rfl (fun K hK => ?_) AllReadyH.nil)
          go_simp
          refine hK.out _ _ ?_ ?_
          · (try dsimp only); exact P1.set2 (by omega)
          clear hHeld hK K
          intro hHeld
          try simp only [Act.put, List.setIfInBounds_toArray, List.set_cons_zero, List.set_cons_succ]
          refine wpAnyH_done (by kernel_rfl) ?_ _
          have hcutf := CutQ.mk (code := cd) q (by omega) (by omega) (by omega) (by omega) (by omega) Z0 Z1 hx
          go_wp2
          go_meet
          exact hcutf
      case rest =>
        obtain ⟨FH, loH, hiH, aH, cH, rfl, q, hFH, ⟨H0, H1⟩, hxH⟩ := hcut
        rename World => w14
        have dH : QAt loH hiH w14 _ _ := hxH
        clear hxH
        have hxH := dH
        clear dH
        replace P := P.below q
        replace B0 := cellb q B0
        replace B1 := cellb q B1
        replace G0 := cellb q G0
        replace G1 := cellb q G1
        replace hxB := hxB.below q (by omega)
        replace hm1 := hm1.below q (by omega)
        have z14 : w13.heap.size ≤ w14.heap.size := q.size
        have b14 := b13.trans (q.mono b13.size)
        clear q
        obtain ⟨eH1, eH2, eH3, eH4, eH5⟩ := hFH
        go_wp2_with fail
        refine (eqBindsResult_calls cd rs _ _ _ (by omega) hxH.read hxB.read).mono ?_
        rintro e w15 ⟨rfl, q⟩
        replace P := P.below q
        replace B0 := cellb q B0
        replace B1 := cellb q B1
        replace G0 := cellb q G0
        replace G1 := cellb q G1
        replace H0 := cellb q H0
        replace H1 := cellb q H1
        replace hxB := hxB.below q (by omega)
        replace hm1 := hm1.below q (by omega)
        replace hxH := hxH.below q (by omega)
        have z15 : w14.heap.size ≤ w15.heap.size := q.size
        have b15 := b14.trans (q.mono b14.size)
        clear q
        go_wp2_with fail
        refine (heldBindsResult_calls cd (marksB4 1 rs.length) 1 (.slice aG rs.length cG) _ (by rw [marksB4_length]; omega) (by omega) (by omega) hm1.read (marksB4_at 1 _)).mono ?_
        rintro e w16 ⟨rfl, q⟩
        rw [marksB4_length]
        replace P := P.below q
        replace B0 := cellb q B0
        replace B1 := cellb q B1
        replace G0 := cellb q G0
        replace G1 := cellb q G1
        replace H0 := cellb q H0
        replace H1 := cellb q H1
        replace hxB := hxB.below q (by omega)
        replace hm1 := hm1.below q (by omega)
        replace hxH := hxH.below q (by omega)
        have z16 : w15.heap.size ≤ w16.heap.size := q.size
        have b16 := b15.trans (q.mono b15.size)
        clear q
        go_wp2
        go_ret
        exact ⟨rfl, b16⟩
  · have hlt : 1048576 - (bs.length : Int) < 0 := by omega
    go_enter Tryd.func7, Tryd.ntmps7
    go_wp2_with fail
    refine (szBindS_calls bs.length 1048576 (by omega) (by omega) av cv _ hm).mono ?_
    rintro e w' ⟨rfl, hw⟩
    rw [hw, if_neg (by omega)]
    clear hw w'
    go_wp2
    go_ret
    exact ⟨rfl, (Below.refl _ _).alloc (Nat.le_refl _) _⟩

theorem lawPB_laid : laidOutB Tryd.prog = true := by kernel_rfl
theorem lawPB_own : ownKnob Tryd.prog.godebug = none := by kernel_rfl
def lawPB_laidlist : List (String × DataW Unit) := [("loop.example/g00523/impl.fewSyms", Rows.laid_loop_example_g00523_impl_fewSyms)]
theorem lawPB_door (os : Os) (args : Array Value) : laidMetH Tryd.prog lawPB_laidlist ((World.doorLaid Tryd.prog 24 os).forCall (fun _ _ => 0) ⟨#[], args, []⟩).memory :=
  laidMetH_of_parts3 (fuel := 8) (laidMet_of_run' 8 (by kernel_rfl) (by kernel_rfl)) (by kernel_rfl) (by kernel_rfl)
theorem lawPB_kw {W : World} (h : laidMetH Tryd.prog lawPB_laidlist W) : W.var? Tryd.prog "loop.example/g00523/impl.fewSyms" = some few_arr := by
  rw [MakeChecks.laidMetH_plain _ _ _ (by kernel_rfl)] at h
  have e : (lawPB_laidlist : List (String × DataW Unit)) = [("loop.example/g00523/impl.fewSyms", rowsData few_zs)] := by kernel_rfl
  rw [e] at h
  exact few_met h
set_option maxRecDepth 100000 in
theorem lawPB_lifted (os : Os) (started : os.Started) (H : Type) (enc : TypeId × Value → H) :
    ReturnsInHanded {} Tryd.checked os 7 .any (fun w args => (Rows.fnExactPutBindSpec.pre enc Tryd.prog Tryd.f7 [] false w args ∧ laidMetH Tryd.prog lawPB_laidlist w) ∧ sizedMet enc Tryd.prog Tryd.f7 (OpenSpec.ofChange Rows.fnExactPutBindSpec) false w args)
      (Rows.fnExactPutBindSpec.post enc Tryd.prog Tryd.f7 false true false false) := by
  refine returnsInHanded_of_change_and (C := Tryd.checked) (X := fun w _ => laidMetH Tryd.prog lawPB_laidlist w) (fun _ _ _ hh h => h.of_heap hh) lawPB_own started (by kernel_rfl) Tryd.func7
    (ChangeSpec.witness_shaped (enc := enc) (C := Tryd.checked) (os := os) (X := fun w _ => laidMetH Tryd.prog lawPB_laidlist w) false (World.doorLaid Tryd.prog 24 os) #[.slice none 0 0, .agg #[.int .i64 0, .int .i64 0, .int .i64 0, .int .i64 0]] 8 rfl (World.shaped_of_RefB (by kernel_rfl) (by kernel_rfl)) (by kernel_rfl) (by kernel_rfl) (by kernel_rfl) (lawPB_door os _)) ?_
  intro W base args ds gs before hval0 hW _ _ hL _
  have hval : ∀ (j : Nat) t v, Tryd.f7.params[j]? = some t → args[j]? = some v → Value.okWide Tryd.prog W .any base t v := hval0
  have hW' := hW
  obtain ⟨p, q, hA0, hV, rfl, hfz, hnd⟩ := hW
  have hA : DataW.TrodAll enc Tryd.prog W 0 (fun _ => true) true Tryd.f7.params.toList args.toList ds p := hA0
  rw [Tryd.params7] at hA hval
  obtain ⟨z0, z1, d0, d1, p0, p1, rfl, rfl, rfl, h0, h1⟩ := trodAll_two hA
  have k0 := h0
  have lt0 : ∀ x ∈ p0, x.block < W.heap.size := by obtain ⟨m, hm⟩ := k0; exact DataW.trod_lt m _ _ _ hm
  have k1 := h1
  have lt1 : ∀ x ∈ p1, x.block < W.heap.size := by obtain ⟨m, hm⟩ := k1; exact DataW.trod_lt m _ _ _ hm
  have hvw := lawPB_kw hL
  obtain ⟨g, tt, cs, fuel, dv, pv', rfl, hg, ht, hvar, hd, rfl⟩ := trodVars_one hV
  obtain rfl := Option.some.inj (few_named.symm.trans hg)
  obtain rfl := Option.some.inj (few_type.symm.trans ht)
  obtain rfl : cs = few_arr := Option.some.inj (hvar.symm.trans hvw)
  obtain ⟨rfl, rfl⟩ := DataW.Trod.unique (v := .agg few_arr) ⟨fuel, hd⟩ ⟨3, few_reads enc W _⟩
  obtain ⟨a0, n0, c0, rfl⟩ := Go.WideShapes.okWide_slice Tryd.underlying55 (hval 0 55 z0 rfl rfl)
  obtain ⟨bs, hr, hm⟩ := open_binds rfl h0
  obtain ⟨q, rfl⟩ := open_bind (hval 1 61 z1 rfl rfl) h1
  have hcells := few_cells hvw
  clear hA0 hval0
  refine (lawPB_walk _ bs q W hr hm hcells).mono fun e W' ⟨he, bel⟩ => ?_
  subst he
  exact ⟨_, rfl, _, _, _, [], _, _, hW', trodAll_mk1 (shut_bool Tryd.underlying4 _), trodAll_mk2 (Below.trod lawPB_laid (by kernel_rfl) (of_decide_eq_true (by kernel_rfl)) k0 bel lt0) (Below.trod lawPB_laid (by kernel_rfl) (of_decide_eq_true (by kernel_rfl)) k1 bel lt1), trodVars_mk1 few_named few_type (few_below bel hvw) (few_reads enc W' _), bel.frame _, fun h => by cases h⟩

theorem lawPB_over : Rows.FnExactPutBindSaid :=
  OpenClaim.holds_of_wide 7 Tryd.f7 rfl rfl rfl rfl rfl rfl rfl ⟨rfl, rfl, rfl, rfl, rfl⟩ rfl rfl rfl rfl rfl (by kernel_rfl) Tryd.func7 (by kernel_rfl)
    (of_decide_eq_true (by kernel_rfl)) (by unfold Func.isWrapper; first | (rw [if_pos (by decide +kernel)]; kernel_rfl) | (rw [if_neg (by decide +kernel)]; exact ⟨rfl, rfl⟩))
    (fun os started H enc _ => lawPB_lifted os started H enc)

theorem lawPB_proved : Rows.FnExactPutBindCardSaid :=
  Claim7.holds_tied_plain_at .later [] [.data] true (true, "6dcc3b21a1cbd413541c898d60a5999d1e936ded4def648f8bdd9664439aae71") false
    lawPB_over (fun _ h => by cases h) (by kernel_rfl) (fun _ h => by cases h) fnExactPutBind_row_tie rfl ⟨rfl, rfl⟩ (by kernel_rfl) rfl
    (fun f fn hf hfn => by
      obtain rfl : f = 7 := Option.some.inj ((show Tryd.prog.funcNamed Rows.fnExactPutBindRow.func = some 7 by kernel_rfl).symm.trans hf) |>.symm
      obtain rfl : fn = Tryd.f7 := (Option.some.inj (Tryd.func7.symm.trans hfn)).symm
      exact ⟨by kernel_rfl, fun j t ht => by
        rw [Tryd.params7] at ht
        have hm : t ∈ [55, 61] := by simpa using Array.mem_of_getElem? ht
        have hall : ([55, 61].all fun u => !Tryd.prog.wantsStandIn u) = true := by kernel_rfl
        exact (show Tryd.prog.wantsStandIn t = false by simpa using List.all_eq_true.1 hall t hm)⟩)
    (by kernel_rfl)
#print axioms lawPB_proved
end Go.Proofs.YtcfechnkgefhcaaDoor
