/-
  A grid that is turned in place (GSt), and spec.l3Keep: a row that left at the top is kept.
-/
import Derived.Test.YtbndncfkkhjkoaiScrollFns
import Derived.Test.YtbndncfkkhjkoaiNewFns
import Derived.Test.YtbndncfkkhjkoaiRowFns3
import Derived.Test.YtbndncfkkhjkoaiUntil
namespace Go.Proofs.Ytbndncfkkhjkoai
open Go.ChangeShapes Go.WideShapes Go.ChangeAt Go.RowKit
set_option linter.unusedVariables false
set_option linter.unusedSimpArgs false
set_option maxRecDepth 20000

/-- A copied grid in its box pb: its cells lie in block bx, the row of those that left is owned. -/
structure GSt (B0 pb bx N cx : Nat) (r wd : Int) (f : Nat → Int × Int) (bs : List (Int × Int)) (w : World) : Prop where
  s0 : w.cell? ⟨pb, 0, none⟩ = some (.int .i64 r)
  s1 : w.cell? ⟨pb, 1, none⟩ = some (.int .i64 wd)
  s2 : w.cell? ⟨pb, 2, none⟩ = some (.slice (some ⟨bx, 0, none⟩) N cx)
  z3 : w.frozen? ⟨pb, 3, none⟩ = false
  row : Row w bx 0 N f
  lo : B0 ≤ pb ∧ B0 ≤ bx ∧ pb ≠ bx ∧ pb < w.heap.size ∧ bx < w.heap.size
  ex : ∃ v, w.cell? ⟨pb, 3, none⟩ = some v ∧ w.ownsRow B0 39 2 v bs.length (pvs bs) ∧ (∀ k, v.ownBlock = some k → k ≠ pb ∧ k ≠ bx)
theorem GSt.congr {B0 pb bx N cx : Nat} {r wd : Int} {f g : Nat → Int × Int} {bs : List (Int × Int)} {w : World} (h : GSt B0 pb bx N cx r wd f bs w) (e : ∀ i, i < N → f i = g i) : GSt B0 pb bx N cx r wd g bs w := ⟨h.s0, h.s1, h.s2, h.z3, h.row.congr e, h.lo, h.ex⟩
theorem GSt.below {B0 pb bx N cx : Nat} {r wd : Int} {f : Nat → Int × Int} {bs : List (Int × Int)} {w w' : World} (h : GSt B0 pb bx N cx r wd f bs w) (hb : Below w.heap.size w w') : GSt B0 pb bx N cx r wd f bs w' := by
  obtain ⟨v, c, o, a⟩ := h.ex
  have l := h.lo
  have hs := hb.size
  exact ⟨cellb hb h.s0, cellb hb h.s1, cellb hb h.s2, (hb.frozen (p := ⟨pb, 3, none⟩) l.2.2.2.1).trans h.z3, h.row.below hb l.2.2.2.2, ⟨l.1, l.2.1, l.2.2.1, by omega, by omega⟩, v, cellb hb c, own_below o hb, a⟩
theorem GSt.touch {B0 pb bx N cx p q : Nat} {r wd : Int} {f g : Nat → Int × Int} {bs : List (Int × Int)} {w w' : World} (h : GSt B0 pb bx N cx r wd f bs w) (t : Touch bx p q w w') (hr : Row w' bx 0 N g) : GSt B0 pb bx N cx r wd g bs w' := by
  obtain ⟨v, c, o, a⟩ := h.ex
  have l := h.lo
  have hs := t.size
  exact ⟨t.cellAt h.s0 (by omega), t.cellAt h.s1 (by omega), t.cellAt h.s2 (by omega), t.frozenAt (by omega) h.z3, hr, ⟨l.1, l.2.1, l.2.2.1, by omega, by omega⟩, v, t.cellAt c (by omega), own_touch o t (fun k hk => (a k hk).2), a⟩
theorem GSt.base {B0 pb bx N cx : Nat} {r wd : Int} {f : Nat → Int × Int} {bs : List (Int × Int)} {w : World} (h : GSt B0 pb bx N cx r wd f bs w) : B0 ≤ w.heap.size := by have := h.lo; omega
/-- A new value is laid into the box. -/
theorem GSt.keep {B0 pb bx N cx : Nat} {r wd : Int} {f : Nat → Int × Int} {bs bs' : List (Int × Int)} {w w' : World} {v v' : Value} (h : GSt B0 pb bx N cx r wd f bs w) (g : GrowTo w w' v v') (c : w.cell? ⟨pb, 3, none⟩ = some v) (a : ∀ k, v.ownBlock = some k → k ≠ pb ∧ k ≠ bx) (o : w'.ownsRow B0 39 2 v' bs'.length (pvs bs')) : GSt B0 pb bx N cx r wd f bs' (w'.setCell ⟨pb, 3, none⟩ v') := by
  have l := h.lo
  have n1 : some pb ≠ v.ownBlock := fun e => (a pb e.symm).1 rfl
  have n2 : some bx ≠ v.ownBlock := fun e => (a bx e.symm).2 rfl
  have a' : ∀ k, v'.ownBlock = some k → k ≠ pb ∧ k ≠ bx := by
    intro k hk
    rcases g.spot with e | ⟨q, e, hq⟩
    · exact a k (e.symm.trans hk)
    · rw [hk] at e
      injection e with e
      omega
  have hs := g.grown.size
  have d3 := g.cellAt c n1
  have t : Touch pb 3 4 w' (w'.setCell ⟨pb, 3, none⟩ v') := (Touch.refl _ _ _ _).setCell (by omega) (by omega) _
  refine ⟨t.cellAt (g.cellAt h.s0 n1) (by omega), t.cellAt (g.cellAt h.s1 n1) (by omega), t.cellAt (g.cellAt h.s2 n1) (by omega), t.frozenAt (by omega) ((g.frozen l.2.2.2.1 n1).trans h.z3), (h.row.block (g.block l.2.2.2.2 n2)).touch t (by omega), ⟨l.1, l.2.1, l.2.2.1, ?_, ?_⟩, v', World.cell?_setCell_same _ _ _ d3, own_setCell o (fun e => (a' pb e.symm).1 rfl), a'⟩
  · have := t.size; omega
  · have := t.size; omega

theorem spot_of_new {w : World} {base n : Nat} {e : TypeId} {v v0 : Value} {xs : List Value} (h : w.ownsRow base e 2 v n xs) (hn : 0 < n) : v.ownBlock = v0.ownBlock ∨ ∃ k, v.ownBlock = some k ∧ base ≤ k := by
  rcases h.2 with ⟨_, h0⟩ | ⟨g, cap, cur, rfl, hb, _⟩
  · omega
  · exact .inr ⟨g, rfl, hb⟩
set_option maxHeartbeats 2000000 in
theorem l3Keep_calls (B0 pb bx N cx br cr W Hb : Nat) (r : Int) (f g : Nat → Int × Int) (bs : List (Int × Int)) (w : World) (st : GSt B0 pb bx N cx r (W : Int) f bs w) (hg : RowR w br 0 W g) (h2 : 2 ≤ W) (h12 : W ≤ 12) (hb : bs.length = Hb * W) (h5 : Hb ≤ 5) :
    Calls Try.prog 79 #[.pointer (some ⟨pb, 0, none⟩), .slice (some ⟨br, 0, none⟩) W cr] w fun e w' => (∃ u, e = .returned u) ∧ GSt B0 pb bx N cx r (W : Int) f (lastL (5 * W) (bs ++ mkL W g)) w' ∧ Below B0 w w' := by
  obtain ⟨i0, hi, hz0, hz1, hz2⟩ := info_parts info_cell
  obtain ⟨v, c3, ho, hap⟩ := st.ex
  obtain ⟨av, cv, rfl, hcv⟩ := own_room2 ho
  have hlt := ho.lt
  have hbm : bs.length ≤ 5 * W := by rw [hb]; exact Nat.mul_le_mul_right W h5
  have hbs := st.base
  obtain ⟨L, hL⟩ : ∃ L, bs.length + W = L := ⟨_, rfl⟩
  have HLL := hide hL
  have hL1 : W ≤ L := by omega
  have hL2 : L ≤ 6 * W := by omega
  clear hL
  have s1 := st.s1
  have z3 := st.z3
  have n1 : some pb ≠ (Value.slice av bs.length cv).ownBlock := fun e => (hap pb e.symm).1 rfl
  have ST := hide st
  have HAP := hide hap
  have HB := hide hb
  have HG := hide hg
  have HLT := hide hlt
  have N1 := hide n1
  clear st hap hb hg hlt n1
  go_enter Try.func79, Try.ntmps79
  go_wp2_with (at_builtin; refine wpList_append_grow _ rfl (.tmp 8) (.tmp 9) 22 rfl B0 39 i0 (.agg #[.int .i64 0, .int .i64 0]) 2 16 Try.underlying22 hi hz0 hz1 hz2 rfl (by decide) (.slice av bs.length cv) bs.length (pvs bs) rfl ho ⟨br, 0, none⟩ W cr (cvs W g) rfl (cvs_length _ _) (rowr_cells HG.out) (cvs_one _ _) (by unfold maxLen; omega) (by omega) hbs ?_; intro v2 w1 o2 g2; obtain ⟨a2, c2, rfl, hc2⟩ := own_room2 o2; rw [HLL.out] at o2 hc2 g2 ⊢; have D3 := g2.cellAt c3 N1.out; have E3 := (g2.frozen (o := 3) (by have := ST.out.lo; omega) N1.out).trans z3; have G2 := hide g2; have O2 := hide o2; clear g2 o2)
  have plo : B0 ≤ pb := ST.out.lo.1
  have C3 := World.cell?_setCell_same w1 ⟨pb, 3, none⟩ (.slice a2 L c2) D3
  have HK := hide (GSt.keep ST.out G2.out c3 HAP.out (bs' := bs ++ mkL W g) (by rw [List.length_append, mkL_length, HLL.out, pvs_append, ← cvs_mk]; exact O2.out))
  have HBW := hide ((G2.out.below hbs (fun k hk => HLT.out k hk)).trans (show Below B0 w1 (w1.setCell ⟨pb, 3, none⟩ (.slice a2 L c2)) from (by repeat' (first | with_reducible exact Below.refl _ _ | with_reducible assumption | with_reducible refine Below.drew ?_ | with_reducible refine Below.alloc ?_ ?_ _ | with_reducible refine Below.setCell ?_ ?_ _ | (simp; done) | (simp; omega) | omega))))
  generalize (w1.setCell ⟨pb, 3, none⟩ (.slice a2 L c2)) = wA at *
  clear D3 E3 G2 O2 ho c3 s1 z3 ST HAP HLT N1 HG
  have s1 := HK.out.s1
  have z3 := HK.out.z3
  have hba := HK.out.base
  have z5 : IntKind.i64.wrap (5 * (W : Int)) = 5 * (W : Int) := wrap_small (by omega) (by omega)
  by_cases hbig : 5 * W < L
  · have hbI : 5 * (W : Int) < (L : Int) := by omega
    have e1 : (W : Int) ≤ (L : Int) := by omega
    have e2 : ¬ c2 = W := by omega
    have e3 : ¬ W = c2 := by omega
    refine wp_region_held_drew (S := (fun w' => w'.cell? ⟨pb, 1, none⟩ = some (.int .i64 (W : Int)) ∧ w'.cell? ⟨pb, 3, none⟩ = some (.slice a2 L c2))) (by kernel_rfl) ?_ (fun hHeld => ?_)
    · (try dsimp only); exact ⟨s1, C3⟩
    refine wpAnyH_take (i := 0) (oi := ⟨_, _, _, _, _, _⟩) (v := ?_) rfl (by kernel_rfl) (by kernel_rfl) (by kernel_rfl) (fun _ _ _ h => h) (Or.inl ⟨by rfl, ?_⟩) hHeld ?_
    rotate_left
    · (intro w hSw; (try dsimp only at hSw); go_simp; try (with_reducible rfl))
    try simp only [Act.put, List.setIfInBounds_toArray, List.set_cons_zero, List.set_cons_succ]
    refine wpAnyH_take (i := 1) (oi := ⟨_, _, _, _, _, _⟩) (v := ?_) rfl (by kernel_rfl) (by kernel_rfl) (by kernel_rfl) (fun _ _ _ h => h) (Or.inl ⟨by rfl, ?_⟩) hHeld ?_
    rotate_left
    · (intro w hSw; (try dsimp only at hSw); go_simp; try (with_reducible rfl))
    try simp only [Act.put, List.setIfInBounds_toArray, List.set_cons_zero, List.set_cons_succ]
    refine wpAnyH_take (i := 2) (oi := ⟨_, _, _, _, _, _⟩) (v := ?_) rfl (by kernel_rfl) (by kernel_rfl) (by kernel_rfl) (fun _ _ _ h => h) (Or.inl ⟨by rfl, ?_⟩) hHeld ?_
    rotate_left
    · (intro w hSw; (try dsimp only at hSw); go_simp; try (with_reducible rfl))
    try simp only [Act.put, List.setIfInBounds_toArray, List.set_cons_zero, List.set_cons_succ]
    refine wpAnyH_take (i := 3) (oi := ⟨_, _, _, _, _, _⟩) (v := ?_) rfl (by kernel_rfl) (by kernel_rfl) (by kernel_rfl) (fun _ _ _ h => h) (Or.inl ⟨by rfl, ?_⟩) hHeld ?_
    rotate_left
    · (intro w hSw; (try dsimp only at hSw); go_simp; try (with_reducible rfl))
    try simp only [Act.put, List.setIfInBounds_toArray, List.set_cons_zero, List.set_cons_succ]
    refine wpAnyH_take (i := 4) (oi := ⟨_, _, _, _, _, _⟩) (v := ?_) rfl (by kernel_rfl) (by kernel_rfl) (by kernel_rfl) (fun _ _ _ h => h) (Or.inl ⟨by rfl, ?_⟩) hHeld ?_
    rotate_left
    · (intro w hSw; (try dsimp only at hSw); go_simp; try (with_reducible rfl))
    try simp only [Act.put, List.setIfInBounds_toArray, List.set_cons_zero, List.set_cons_succ]
    refine wpAnyH_take (i := 5) (oi := ⟨_, _, _, _, _, _⟩) (v := ?_) rfl (by kernel_rfl) (by kernel_rfl) (by kernel_rfl) (fun _ _ _ h => h) (Or.inl ⟨by rfl, ?_⟩) hHeld ?_
    rotate_left
    · (intro w hSw; (try dsimp only at hSw); go_simp; try (with_reducible rfl))
    try simp only [Act.put, List.setIfInBounds_toArray, List.set_cons_zero, List.set_cons_succ]
    refine wpAnyH_take (i := 6) (oi := ⟨_, _, _, _, _, _⟩) (v := ?_) rfl (by kernel_rfl) (by kernel_rfl) (by kernel_rfl) (fun _ _ _ h => h) (Or.inl ⟨by rfl, ?_⟩) hHeld ?_
    rotate_left
    · (intro w hSw; (try dsimp only at hSw); go_simp; try (with_reducible rfl))
    try simp only [Act.put, List.setIfInBounds_toArray, List.set_cons_zero, List.set_cons_succ]
    refine wpAnyH_take (i := 7) (oi := ⟨_, _, _, _, _, _⟩) (v := ?_) rfl (by kernel_rfl) (by kernel_rfl) (by kernel_rfl) (fun _ _ _ h => h) (Or.inl ⟨by rfl, ?_⟩) hHeld ?_
    rotate_left
    · (intro w hSw; (try dsimp only at hSw); go_simp; try (with_reducible rfl))
    try simp only [Act.put, List.setIfInBounds_toArray, List.set_cons_zero, List.set_cons_succ]
    refine wpAnyH_take (i := 8) (oi := ⟨_, _, _, _, _, _⟩) (v := ?_) rfl (by kernel_rfl) (by kernel_rfl) (by kernel_rfl) (fun _ _ _ h => h) (Or.inl ⟨by rfl, ?_⟩) hHeld ?_
    rotate_left
    · (intro w hSw; (try dsimp only at hSw); go_simp; try (with_reducible rfl))
    try simp only [Act.put, List.setIfInBounds_toArray, List.set_cons_zero, List.set_cons_succ]
    refine wpAnyH_take (i := 9) (oi := ⟨_, _, _, _, _, _⟩) (v := ?_) rfl (by kernel_rfl) (by kernel_rfl) (by kernel_rfl) (fun _ _ _ h => h) (Or.inl ⟨by rfl, ?_⟩) hHeld ?_
    rotate_left
    · (intro w hSw; (try dsimp only at hSw); go_simp; try (with_reducible rfl))
    try simp only [Act.put, List.setIfInBounds_toArray, List.set_cons_zero, List.set_cons_succ]
    refine wpAnyH_take (i := 10) (oi := ⟨_, _, _, _, _, _⟩) (v := ?_) rfl (by kernel_rfl) (by kernel_rfl) (by kernel_rfl) (fun _ _ _ h => h) (Or.inl ⟨by rfl, ?_⟩) hHeld ?_
    rotate_left
    · (intro w hSw; (try dsimp only at hSw); go_simp; try (with_reducible rfl))
    try simp only [Act.put, List.setIfInBounds_toArray, List.set_cons_zero, List.set_cons_succ]
    refine wpAnyH_done (by kernel_rfl) ?_ _
    clear hHeld
    replace HK := hide (HK.out.below (show Below wA.heap.size wA wA.drew from below_drewN (Below.refl _ _) 1))
    replace HBW := hide (HBW.out.trans (show Below B0 wA wA.drew from below_drewN (Below.refl _ _) 1))
    replace C3 : wA.drew.cell? ⟨pb, 3, none⟩ = some (.slice a2 L c2) := C3
    replace s1 : wA.drew.cell? ⟨pb, 1, none⟩ = some (.int .i64 (W : Int)) := s1
    replace z3 : wA.drew.frozen? ⟨pb, 3, none⟩ = false := z3
    replace hba : B0 ≤ wA.drew.heap.size := hba
    generalize wA.drew = wC at *
    clear wA
    rename World => wA
    go_wp2_with fail
    obtain ⟨v', c', o', a'⟩ := HK.out.ex
    rw [C3] at c'
    injection c' with c'
    subst c'
    have hpv : PRead wA (.slice a2 L c2) (bs ++ mkL W g) := (own_pairs o' (Nat.le_refl _)).read
    have hlow := pread_low hpv hc2 W (by rw [List.length_append, mkL_length]; omega)
    rw [if_neg e2] at hlow
    obtain ⟨ba, hba2⟩ : ∃ ba, a2 = some ⟨ba, 0, none⟩ := by
      obtain ⟨b9, c9, e9, _⟩ := own_row o' (by rw [List.length_append, mkL_length]; omega)
      injection e9 with e9
      exact ⟨b9, e9⟩
    subst hba2
    have hpr : PRead (wA.drew.alloc (.cells #[] 39)) (.slice (some ⟨ba, W * 2, none⟩) (L - W) (c2 - W)) ((bs ++ mkL W g).drop W) := by
      have h := hlow.below (w' := wA.drew.alloc (.cells #[] 39)) (by repeat' (first | with_reducible exact Below.refl _ _ | with_reducible assumption | with_reducible refine Below.drew ?_ | with_reducible refine Below.alloc ?_ ?_ _ | with_reducible refine Below.setCell ?_ ?_ _ | (simp; done) | (simp; omega) | omega))
      have hw0 : ¬ W * 2 = 0 := by omega
      simpa [Addr.add, hw0] using h
    have HA := hide a'
    clear o' a' hpv hlow
    have hlit : (wA.drew.alloc (.cells #[] 39)).ownsRow wA.heap.size 39 2 (.slice (some ⟨wA.heap.size, 0, none⟩) 0 0) 0 (pvs []) := World.ownsRow_lit (base := wA.heap.size) (e := 39) (size := 2) wA.drew #[] 0 (Nat.le_refl _) (by simp) rfl
    have hbal : Below wA.heap.size wA (wA.alloc (.cells #[] 39)) := (by repeat' (first | with_reducible exact Below.refl _ _ | with_reducible assumption | with_reducible refine Below.drew ?_ | with_reducible refine Below.alloc ?_ ?_ _ | with_reducible refine Below.setCell ?_ ?_ _ | (simp; done) | (simp; omega) | omega))
    have K1 := cellb hbal s1
    have K3 := cellb hbal C3
    refine till_region [14] (S := (fun w' => w'.cell? ⟨pb, 1, none⟩ = some (.int .i64 (W : Int)) ∧ w'.cell? ⟨pb, 3, none⟩ = some (.slice (some ⟨ba, 0, none⟩) L c2))) (by kernel_rfl) ?_ (fun hHeld => ?_)
    · (try dsimp only); exact ⟨s1, C3⟩
    refine till_take (i := 0) (oi := ⟨_, _, _, _, _, _⟩) (v := ?_) rfl (by kernel_rfl) (by kernel_rfl) (by kernel_rfl) (by kernel_rfl) (fun _ _ _ h => h) (Or.inl ⟨by rfl, ?_⟩) hHeld ?_
    rotate_left
    · (intro w hSw; (try dsimp only at hSw); go_simp; try (with_reducible rfl))
    try simp only [Act.put, List.setIfInBounds_toArray, List.set_cons_zero, List.set_cons_succ]
    refine till_take (i := 2) (oi := ⟨_, _, _, _, _, _⟩) (v := ?_) rfl (by kernel_rfl) (by kernel_rfl) (by kernel_rfl) (by kernel_rfl) (fun _ _ _ h => h) (Or.inl ⟨by rfl, ?_⟩) hHeld ?_
    rotate_left
    · (intro w hSw; (try dsimp only at hSw); go_simp; try (with_reducible rfl))
    try simp only [Act.put, List.setIfInBounds_toArray, List.set_cons_zero, List.set_cons_succ]
    refine till_take (i := 3) (oi := ⟨_, _, _, _, _, _⟩) (v := ?_) rfl (by kernel_rfl) (by kernel_rfl) (by kernel_rfl) (by kernel_rfl) (fun _ _ _ h => h) (Or.inl ⟨by rfl, ?_⟩) hHeld ?_
    rotate_left
    · (intro w hSw; (try dsimp only at hSw); go_simp; try (with_reducible rfl))
    try simp only [Act.put, List.setIfInBounds_toArray, List.set_cons_zero, List.set_cons_succ]
    refine till_take (i := 4) (oi := ⟨_, _, _, _, _, _⟩) (v := ?_) rfl (by kernel_rfl) (by kernel_rfl) (by kernel_rfl) (by kernel_rfl) (fun _ _ _ h => h) (Or.inl ⟨by rfl, ?_⟩) hHeld ?_
    rotate_left
    · (intro w hSw; (try dsimp only at hSw); go_simp; try (with_reducible rfl))
    try simp only [Act.put, List.setIfInBounds_toArray, List.set_cons_zero, List.set_cons_succ]
    refine till_take (i := 5) (oi := ⟨_, _, _, _, _, _⟩) (v := ?_) rfl (by kernel_rfl) (by kernel_rfl) (by kernel_rfl) (by kernel_rfl) (fun _ _ _ h => h) (Or.inl ⟨by rfl, ?_⟩) hHeld ?_
    rotate_left
    · (intro w hSw; (try dsimp only at hSw); go_simp; try (with_reducible rfl))
    try simp only [Act.put, List.setIfInBounds_toArray, List.set_cons_zero, List.set_cons_succ]
    refine till_take (i := 6) (oi := ⟨_, _, _, _, _, _⟩) (v := ?_) rfl (by kernel_rfl) (by kernel_rfl) (by kernel_rfl) (by kernel_rfl) (fun _ _ _ h => h) (Or.inl ⟨by rfl, ?_⟩) hHeld ?_
    rotate_left
    · (intro w hSw; (try dsimp only at hSw); go_simp; try (with_reducible rfl))
    try simp only [Act.put, List.setIfInBounds_toArray, List.set_cons_zero, List.set_cons_succ]
    refine till_take (i := 7) (oi := ⟨_, _, _, _, _, _⟩) (v := ?_) rfl (by kernel_rfl) (by kernel_rfl) (by kernel_rfl) (by kernel_rfl) (fun _ _ _ h => h) (Or.inl ⟨by rfl, ?_⟩) hHeld ?_
    rotate_left
    · (intro w hSw; (try dsimp only at hSw); go_simp; try (with_reducible rfl))
    try simp only [Act.put, List.setIfInBounds_toArray, List.set_cons_zero, List.set_cons_succ]
    refine till_take (i := 8) (oi := ⟨_, _, _, _, _, _⟩) (v := ?_) rfl (by kernel_rfl) (by kernel_rfl) (by kernel_rfl) (by kernel_rfl) (fun _ _ _ h => h) (Or.inl ⟨by rfl, ?_⟩) hHeld ?_
    rotate_left
    · (intro w hSw; (try dsimp only at hSw); go_simp; try (with_reducible rfl))
    try simp only [Act.put, List.setIfInBounds_toArray, List.set_cons_zero, List.set_cons_succ]
    refine till_take (i := 9) (oi := ⟨_, _, _, _, _, _⟩) (v := ?_) rfl (by kernel_rfl) (by kernel_rfl) (by kernel_rfl) (by kernel_rfl) (fun _ _ _ h => h) (Or.inl ⟨by rfl, ?_⟩) hHeld ?_
    rotate_left
    · (intro w hSw; (try dsimp only at hSw); go_simp; try (with_reducible rfl))
    try simp only [Act.put, List.setIfInBounds_toArray, List.set_cons_zero, List.set_cons_succ]
    refine till_take (i := 10) (oi := ⟨_, _, _, _, _, _⟩) (v := ?_) rfl (by kernel_rfl) (by kernel_rfl) (by kernel_rfl) (by kernel_rfl) (fun _ _ _ h => h) (Or.inl ⟨by rfl, ?_⟩) hHeld ?_
    rotate_left
    · (intro w hSw; (try dsimp only at hSw); go_simp; try (with_reducible rfl))
    try simp only [Act.put, List.setIfInBounds_toArray, List.set_cons_zero, List.set_cons_succ]
    refine till_ready (rs := [1]) (by kernel_rfl) (by simp) ?_
    refine (EachTill.cons (o := ⟨_, _, _, _, _, _⟩) rfl (fun K hK => ?_) EachTill.nil)
    go_simp
    refine hK.out _ _ ?_ ?_
    · (try dsimp only); exact ⟨K1, K3⟩
    clear hHeld hK K
    intro hHeld
    try simp only [Act.put, List.setIfInBounds_toArray, List.set_cons_zero, List.set_cons_succ]
    refine till_ready (rs := [11]) (by kernel_rfl) (by simp) ?_
    refine (EachTill.cons (o := ⟨_, _, _, _, _, _⟩) rfl (fun K hK => ?_) EachTill.nil)
    refine step_append_pread rfl (.tmp 25) (.tmp 34) 22 rfl wA.heap.size 39 i0 (.agg #[.int .i64 0, .int .i64 0]) 16 Try.underlying22 hi hz0 hz1 hz2 rfl _ 0 [] rfl hlit (some ⟨ba, W * 2, none⟩) ((bs ++ mkL W g).drop W) (L - W) (c2 - W) rfl (by rw [List.length_drop, List.length_append, mkL_length, HLL.out]) hpr (by unfold maxLen; omega) (by omega) (by show wA.heap.size ≤ (wA.drew.alloc _).heap.size; simp) ?_
    intro v3 w3 hown3 hgr3
    have hb3 : Below wA.heap.size wA w3 := (((below_drewN (Below.refl _ _) 1).alloc (Nat.le_refl _) _) : Below wA.heap.size wA (wA.drew.alloc (.cells #[] 39))).grown hgr3 (by show wA.heap.size ≤ (wA.drew.alloc _).heap.size; simp) (fun q hq => (hlit.lt q hq).1)
    replace K1 := cellb hb3 s1
    replace K3 := cellb hb3 C3
    have F3 : w3.frozen? ⟨pb, 3, none⟩ = false := (hb3.frozen (p := ⟨pb, 3, none⟩) (by have := HK.out.lo; show pb < _; omega)).trans z3
    try simp only [List.nil_append, Nat.zero_add] at hown3
    obtain ⟨a3, c3, rfl, hvc⟩ := own_room2 hown3
    have HO := hide hown3
    have HB3 := hide hb3
    clear hown3 hgr3 hb3
    refine hK.out _ _ ?_ ?_
    · (try dsimp only); exact ⟨K1, K3⟩
    clear hHeld hK K
    intro hHeld
    try simp only [Act.put, List.setIfInBounds_toArray, List.set_cons_zero, List.set_cons_succ]
    refine till_ready (rs := [12]) (by kernel_rfl) (by simp) ?_
    refine (EachTill.cons (o := ⟨_, _, _, _, _, _⟩) rfl (fun K hK => ?_) EachTill.nil)
    go_simp
    refine hK.out _ _ ?_ ?_
    · (try dsimp only); exact ⟨K1, K3⟩
    clear hHeld hK K
    intro hHeld
    try simp only [Act.put, List.setIfInBounds_toArray, List.set_cons_zero, List.set_cons_succ]
    refine till_ready (rs := [13]) (by kernel_rfl) (by simp) ?_
    refine (EachTill.cons (o := ⟨_, _, _, _, _, _⟩) rfl (fun K hK => ?_) EachTill.nil)
    go_simp
    refine hK.out _ _ ?_ ?_
    · (try dsimp only); exact ⟨K1, K3⟩
    clear hHeld hK K
    intro hHeld
    try simp only [Act.put, List.setIfInBounds_toArray, List.set_cons_zero, List.set_cons_succ]
    refine till_ready (rs := [14]) (by kernel_rfl) (by simp) ?_
    refine (EachTill.last (o := ⟨_, _, _, _, _, _⟩) rfl rfl (fun K hK => ?_) EachTill.nil)
    go_simp
    have HK3 := hide (GSt.keep (v := .slice (some ⟨ba, 0, none⟩) L c2) (v' := .slice a3 (L - W) c3) (bs' := (bs ++ mkL W g).drop W) HK.out ⟨(GrowTo.of_below HB3.out (.slice (some ⟨ba, 0, none⟩) L c2)).grown, spot_of_new HO.out (by omega)⟩ C3 HA.out (own_base (by rw [show ((bs ++ mkL W g).drop W).length = L - W by rw [List.length_drop, List.length_append, mkL_length, HLL.out]]; exact HO.out) hba))
    replace HB3 := hide ((HB3.out.mono hba).trans (show Below B0 w3 (w3.setCell ⟨pb, 3, none⟩ (.slice a3 (L - W) c3)) from (by repeat' (first | with_reducible exact Below.refl _ _ | with_reducible assumption | with_reducible refine Below.drew ?_ | with_reducible refine Below.alloc ?_ ?_ _ | with_reducible refine Below.setCell ?_ ?_ _ | (simp; done) | (simp; omega) | omega))))
    generalize (w3.setCell ⟨pb, 3, none⟩ (.slice a3 (L - W) c3)) = wB at *
    refine hK.out _ _ ?_ ?_
    · (try dsimp only); skip
    clear hHeld hK K
    intro hHeld
    try simp only [Act.put, List.setIfInBounds_toArray, List.set_cons_zero, List.set_cons_succ]
    refine till_done (by kernel_rfl) ?_ _
    clear hHeld
    go_wp2
    go_end0
    have hl : (bs ++ mkL W g).length = L := by rw [List.length_append, mkL_length]; exact HLL.out
    have hlast : lastL (5 * W) (bs ++ mkL W g) = (bs ++ mkL W g).drop W := by
      have h1 := HB.out
      have h2 : L = 6 * W := by
        have h3 := HLL.out
        have h4 : Hb = 5 := by
          rcases Nat.lt_or_ge Hb 5 with h | h
          · have := Nat.mul_le_mul_right W (show Hb ≤ 4 by omega)
            omega
          · omega
        rw [h4] at h1
        omega
      unfold lastL
      rw [hl, show L - 5 * W = W by omega]
    rw [hlast]
    exact ⟨⟨_, rfl⟩, HK3.out, HBW.out.trans HB3.out⟩
  · have hbI : ¬ 5 * (W : Int) < (L : Int) := by omega
    refine wp_region_held_drew (S := (fun w' => w'.cell? ⟨pb, 1, none⟩ = some (.int .i64 (W : Int)) ∧ w'.cell? ⟨pb, 3, none⟩ = some (.slice a2 L c2))) (by kernel_rfl) ?_ (fun hHeld => ?_)
    · (try dsimp only); exact ⟨s1, C3⟩
    refine wpAnyH_take (i := 0) (oi := ⟨_, _, _, _, _, _⟩) (v := ?_) rfl (by kernel_rfl) (by kernel_rfl) (by kernel_rfl) (fun _ _ _ h => h) (Or.inl ⟨by rfl, ?_⟩) hHeld ?_
    rotate_left
    · (intro w hSw; (try dsimp only at hSw); go_simp; try (with_reducible rfl))
    try simp only [Act.put, List.setIfInBounds_toArray, List.set_cons_zero, List.set_cons_succ]
    refine wpAnyH_take (i := 1) (oi := ⟨_, _, _, _, _, _⟩) (v := ?_) rfl (by kernel_rfl) (by kernel_rfl) (by kernel_rfl) (fun _ _ _ h => h) (Or.inl ⟨by rfl, ?_⟩) hHeld ?_
    rotate_left
    · (intro w hSw; (try dsimp only at hSw); go_simp; try (with_reducible rfl))
    try simp only [Act.put, List.setIfInBounds_toArray, List.set_cons_zero, List.set_cons_succ]
    refine wpAnyH_take (i := 2) (oi := ⟨_, _, _, _, _, _⟩) (v := ?_) rfl (by kernel_rfl) (by kernel_rfl) (by kernel_rfl) (fun _ _ _ h => h) (Or.inl ⟨by rfl, ?_⟩) hHeld ?_
    rotate_left
    · (intro w hSw; (try dsimp only at hSw); go_simp; try (with_reducible rfl))
    try simp only [Act.put, List.setIfInBounds_toArray, List.set_cons_zero, List.set_cons_succ]
    refine wpAnyH_take (i := 3) (oi := ⟨_, _, _, _, _, _⟩) (v := ?_) rfl (by kernel_rfl) (by kernel_rfl) (by kernel_rfl) (fun _ _ _ h => h) (Or.inl ⟨by rfl, ?_⟩) hHeld ?_
    rotate_left
    · (intro w hSw; (try dsimp only at hSw); go_simp; try (with_reducible rfl))
    try simp only [Act.put, List.setIfInBounds_toArray, List.set_cons_zero, List.set_cons_succ]
    refine wpAnyH_take (i := 4) (oi := ⟨_, _, _, _, _, _⟩) (v := ?_) rfl (by kernel_rfl) (by kernel_rfl) (by kernel_rfl) (fun _ _ _ h => h) (Or.inl ⟨by rfl, ?_⟩) hHeld ?_
    rotate_left
    · (intro w hSw; (try dsimp only at hSw); go_simp; try (with_reducible rfl))
    try simp only [Act.put, List.setIfInBounds_toArray, List.set_cons_zero, List.set_cons_succ]
    refine wpAnyH_take (i := 5) (oi := ⟨_, _, _, _, _, _⟩) (v := ?_) rfl (by kernel_rfl) (by kernel_rfl) (by kernel_rfl) (fun _ _ _ h => h) (Or.inl ⟨by rfl, ?_⟩) hHeld ?_
    rotate_left
    · (intro w hSw; (try dsimp only at hSw); go_simp; try (with_reducible rfl))
    try simp only [Act.put, List.setIfInBounds_toArray, List.set_cons_zero, List.set_cons_succ]
    refine wpAnyH_take (i := 6) (oi := ⟨_, _, _, _, _, _⟩) (v := ?_) rfl (by kernel_rfl) (by kernel_rfl) (by kernel_rfl) (fun _ _ _ h => h) (Or.inl ⟨by rfl, ?_⟩) hHeld ?_
    rotate_left
    · (intro w hSw; (try dsimp only at hSw); go_simp; try (with_reducible rfl))
    try simp only [Act.put, List.setIfInBounds_toArray, List.set_cons_zero, List.set_cons_succ]
    refine wpAnyH_take (i := 7) (oi := ⟨_, _, _, _, _, _⟩) (v := ?_) rfl (by kernel_rfl) (by kernel_rfl) (by kernel_rfl) (fun _ _ _ h => h) (Or.inl ⟨by rfl, ?_⟩) hHeld ?_
    rotate_left
    · (intro w hSw; (try dsimp only at hSw); go_simp; try (with_reducible rfl))
    try simp only [Act.put, List.setIfInBounds_toArray, List.set_cons_zero, List.set_cons_succ]
    refine wpAnyH_take (i := 8) (oi := ⟨_, _, _, _, _, _⟩) (v := ?_) rfl (by kernel_rfl) (by kernel_rfl) (by kernel_rfl) (fun _ _ _ h => h) (Or.inl ⟨by rfl, ?_⟩) hHeld ?_
    rotate_left
    · (intro w hSw; (try dsimp only at hSw); go_simp; try (with_reducible rfl))
    try simp only [Act.put, List.setIfInBounds_toArray, List.set_cons_zero, List.set_cons_succ]
    refine wpAnyH_take (i := 9) (oi := ⟨_, _, _, _, _, _⟩) (v := ?_) rfl (by kernel_rfl) (by kernel_rfl) (by kernel_rfl) (fun _ _ _ h => h) (Or.inl ⟨by rfl, ?_⟩) hHeld ?_
    rotate_left
    · (intro w hSw; (try dsimp only at hSw); go_simp; try (with_reducible rfl))
    try simp only [Act.put, List.setIfInBounds_toArray, List.set_cons_zero, List.set_cons_succ]
    refine wpAnyH_take (i := 10) (oi := ⟨_, _, _, _, _, _⟩) (v := ?_) rfl (by kernel_rfl) (by kernel_rfl) (by kernel_rfl) (fun _ _ _ h => h) (Or.inl ⟨by rfl, ?_⟩) hHeld ?_
    rotate_left
    · (intro w hSw; (try dsimp only at hSw); go_simp; try (with_reducible rfl))
    try simp only [Act.put, List.setIfInBounds_toArray, List.set_cons_zero, List.set_cons_succ]
    refine wpAnyH_done (by kernel_rfl) ?_ _
    clear hHeld
    replace HK := hide (HK.out.below (show Below wA.heap.size wA wA.drew from below_drewN (Below.refl _ _) 1))
    replace HBW := hide (HBW.out.trans (show Below B0 wA wA.drew from below_drewN (Below.refl _ _) 1))
    replace C3 : wA.drew.cell? ⟨pb, 3, none⟩ = some (.slice a2 L c2) := C3
    replace s1 : wA.drew.cell? ⟨pb, 1, none⟩ = some (.int .i64 (W : Int)) := s1
    replace z3 : wA.drew.frozen? ⟨pb, 3, none⟩ = false := z3
    replace hba : B0 ≤ wA.drew.heap.size := hba
    generalize wA.drew = wC at *
    clear wA
    rename World => wA
    go_wp2
    go_end0
    have hl : (bs ++ mkL W g).length = L := by rw [List.length_append, mkL_length]; exact HLL.out
    rw [lastL_short (by omega)]
    exact ⟨⟨_, rfl⟩, HK.out, HBW.out⟩
end Go.Proofs.Ytbndncfkkhjkoai
