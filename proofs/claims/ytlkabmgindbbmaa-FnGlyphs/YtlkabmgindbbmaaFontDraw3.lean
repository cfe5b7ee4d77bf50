/-
  Fonts that are drawn: l2Bent, walked.
-/
import Derived.Test.YtlkabmgindbbmaaRows
import Derived.Test.YtlkabmgindbbmaaFontDraw2
import Derived.WalkKit
import Derived.ProofKit
import Derived.OpenShut
import Derived.Below
import Derived.OwnWalk
import Derived.WalkSpells
import Derived.Deep.RegionHeld
namespace Go.Proofs.Ytlkabmgindbbmaa
set_option maxRecDepth 20000
open Go.ChangeShapes Go.WideShapes Go.ChangeAt Go.RowKit
set_option linter.unusedVariables false
set_option linter.unusedSimpArgs false

theorem new_intsf {w : World} {k : IntKind} {C : Array Value} {t : TypeId} {xs : List Int} (hC : C.toList = xs.map (Value.int k)) : ∀ i, i < xs.length → (w.alloc (.cells C t)).cell? ⟨w.heap.size, i, none⟩ = some (.int k (xs.getD i 0)) := by
  intro i hi
  rw [World.cell?_alloc_mark, ← Array.getElem?_toList, hC]
  simp [hi]
theorem GrowTo.made {w w' : World} {v v' : Value} {k : Nat} (h : w.grownBy w' none) (hk : v'.ownBlock = some k) (hs : w.heap.size ≤ k) : GrowTo w w' v v' := ⟨⟨h.os, h.tape, h.output, h.size, fun i hi _ => h.block i hi (by simp)⟩, .inr ⟨k, hk, hs⟩⟩

theorem e21 : (madeCells (Value.agg #[.int .i64 0, .int .i64 0]).cells (21 * 2)).toList = pvs (List.replicate 21 (0, 0)) := by kernel_rfl

set_option maxHeartbeats 8000000 in
theorem l2Bent_calls (zs : List Int) (a : Option Addr) (cap B : Nat) (p : Int) (w0 w : World) (hv : ReadAt .u8 w0 (.slice a zs.length cap) zs) (hz : ∀ z ∈ zs, 0 ≤ z ∧ z ≤ 255) (hlen : zs.length ≤ 1048576) (hs : Src w0 w B (.slice a zs.length cap) p) (hp0 : 0 ≤ p) (hp1 : p ≤ 800000) :
    Calls Try.prog 56 #[.pointer (some ⟨B, 0, none⟩)] w fun e w' => ∃ (fb : Int) (x : Value) (ps : List (Int × Int)) (q : Int), e = .returned (.agg #[.int .i64 fb, x]) ∧ (ps.length ≤ 21 ∧ p ≤ q ∧ q ≤ p + 60) ∧ PairsAt w.heap.size w'.heap.size w' x ps ∧ Src w0 w' B (.slice a zs.length cap) q ∧ Within B (B + 1) w w' := by
  have HZ := hide hz
  clear hz
  have hB := hs.lt
  have hw0 := hs.old.size
  obtain ⟨i0, hi, hz0, hz1, hz2⟩ := info_parts info_pairD
  go_enter Try.func56, Try.ntmps56
  go_wp2_with fail
  have s1 := hs.allocf (.cells #[.int .i64 0, .slice none 0 0] 50)
  have r0 : (w.alloc (.cells #[.int .i64 0, .slice none 0 0] 50)).cell? ⟨w.heap.size, 0, none⟩ = some (.int .i64 0) := by simp
  have r1 : (w.alloc (.cells #[.int .i64 0, .slice none 0 0] 50)).cell? ⟨w.heap.size, 1, none⟩ = some (.slice none 0 0) := by simp
  have rz : ∀ k, (w.alloc (.cells #[.int .i64 0, .slice none 0 0] 50)).frozen? ⟨w.heap.size, k, none⟩ = false := fun k => by simp
  have x1 : Within B (B + 1) w (w.alloc (.cells #[.int .i64 0, .slice none 0 0] 50)) := Within.of_below ((Below.refl _ _).alloc (Nat.le_refl _) _) (Nat.le_refl _)
  have zz : (w.alloc (.cells #[.int .i64 0, .slice none 0 0] 50)).heap.size = w.heap.size + 1 := by simp
  have ZZ := hide zz
  clear zz
  refine (l2Draw_calls zs a cap B p w0 _ hv HZ.out hlen s1 (by omega) (by omega)).mono ?_
  rintro e w2 ⟨fb, x, ps, q0, rfl, ⟨hps, hq0, hq1⟩, hrow, hxB, s2, x2⟩
  have hz2' := x2.size
  rw [ZZ.out] at hz2' hrow
  obtain ⟨ax, cx, rfl⟩ := own_shapeD hrow
  have D3 : DF w0 w (w2.alloc (.cells #[.int .i64 fb, .slice ax ps.length cx] 50)) B w.heap.size w2.heap.size (w.heap.size + 1 + 1) (.slice a zs.length cap) q0 fb (.slice ax ps.length cx) (.slice ax ps.length cx) ps := by
    have hb : Below w2.heap.size w2 (w2.alloc (.cells #[.int .i64 fb, .slice ax ps.length cx] 50)) := (Below.refl _ _).alloc (Nat.le_refl _) _
    refine ⟨s2.below hb, (x1.trans x2).then (hb.mono (by have := hz2'; omega)), ⟨_, cellb hb (x2.cellf (by omega) r0)⟩, ⟨_, cellb hb (x2.cellf (by omega) r1)⟩, fun k => (hb.frozen (p := ⟨w.heap.size, k, none⟩) (by simp; omega)).trans (x2.frozenf (by rw [ZZ.out]; omega) (by omega) (rz k)), by simp, by simp, (fun k => by simp), own_below hrow hb, (fun k hk => ⟨by have := (hrow.lt k hk).2; omega, by have := (hrow.lt k hk).1; omega, hxB k hk⟩), ⟨by omega, by omega, by simp, by omega, by omega, hw0, ?_⟩⟩
    have : w.heap.size + 1 ≤ w2.heap.size := hz2'
    simp
    omega
  clear s1 r0 r1 rz x1 x2 s2 hs hrow hxB
  go_wp2_with fail
  generalize (w2.alloc (.cells #[.int .i64 fb, .slice ax ps.length cx] 50)) = w3 at *
  refine (l1Next_calls zs a cap B q0 14 w0 _ hv HZ.out hlen D3.src (by omega) (by omega) (by omega) (by omega)).mono ?_
  rintro e w4 ⟨r, rfl, hr0, hr1, s4, x4⟩
  have D := D3.within s4 x4
  clear D3 s4 x4
  generalize hS : w.heap.size = S at *
  generalize w2.heap.size = t at *
  have HS := hide hS
  clear hS ZZ
  generalize hbs : S + 1 + 1 = bs at D
  have hbs' : S < bs := by omega
  clear hbs
  generalize hq2 : q0 + 1 = q at D
  have hq' : p ≤ q ∧ q ≤ p + 52 := by omega
  clear hq2 hq0 hq1
  by_cases h0 : r = 0
  · subst h0
    have hst := D.st
    have hb : Below w4.heap.size w4 (w4.alloc (.cells #[.int .i64 (-1), .int .i64 255, .int .i64 256] 2)) := (Below.refl _ _).alloc (Nat.le_refl _) _
    have hA : ∀ i, i < ([-1, 255, 256] : List Int).length → (w4.alloc (.cells #[.int .i64 (-1), .int .i64 255, .int .i64 256] 2)).cell? ⟨w4.heap.size, i, none⟩ = some (.int .i64 (([-1, 255, 256] : List Int).getD i 0)) := new_intsf rfl
    replace D := D.below hb
    clear hb
    go_wp2_with fail
    refine (l1Pick_f zs [-1, 255, 256] a cap B w4.heap.size 3 3 q w0 _ hv HZ.out hlen D.src (by omega) (by omega) rfl (by omega) (by omega) (by omega) hA).mono ?_
    rintro e w5 ⟨fb2, rfl, _, s5, x5⟩
    replace D := D.within s5 x5
    clear s5 x5 hA
    have k0 := D.f0
    have kz := D.fz 0
    replace D := D.setfb fb2
    have hF := D.finish
    have f0 := D.f0
    have f1 := D.f1
    obtain ⟨u0, k0⟩ := D.r0
    obtain ⟨u1, k1⟩ := D.r1
    have z0 := D.rz 0
    have z1 := D.rz 1
    have hst := D.st
    obtain ⟨hr, hrow, hsrc, hwi⟩ := hF
    have hsz9 := hrow.1
    clear D
    go_wp2
    refine bodyPost_ret (v := .agg #[.int .i64 fb2, .slice ax ps.length cx]) (by simp only [results, Try.results56]; simp [go_sem, hr.1, hr.2]) rfl ?_
    first | refine ⟨fb2, _, ps, (q + 1), rfl, ⟨by omega, by omega, by omega⟩, ?_, hsrc, hwi⟩ | refine ⟨fb2, _, rfl, ps, (q + 1), ⟨by omega, by omega, by omega⟩, ?_, hsrc, hwi⟩ | refine ⟨_, rfl, ps, ⟨by omega, by omega, by omega⟩, ?_, hsrc, hwi⟩
    exact (own_pairs hrow (Nat.le_refl _)).mono (by have := HS.out; omega) (Nat.le_refl _)
  · have h0b : (r == 0) = false := by simpa using h0
    by_cases h1 : r = 1
    · subst h1
      go_wp2_with fail
      refine wp_region_held_drew (S := (fun _ => True)) (by kernel_rfl) ?_ (fun hHeld => ?_)
      · (try dsimp only); all_goals trivial
      replace D := D.below (Below.drew (Below.refl _ w4))
      generalize w4.drew = V0 at *
      refine wpAnyH_take (i := 0) (oi := ⟨_, _, _, _, _, _⟩) (v := ?_) rfl (by kernel_rfl) (by kernel_rfl) (by kernel_rfl) (fun _ _ _ h => h) (Or.inl ⟨by rfl, ?_⟩) hHeld ?_
      rotate_left
      · (intro w hSw; (try dsimp only at hSw); go_simp; try (with_reducible rfl))
      try simp only [Act.put, List.setIfInBounds_toArray, List.set_cons_zero, List.set_cons_succ]
      refine wpAnyH_take (i := 2) (oi := ⟨_, _, _, _, _, _⟩) (v := ?_) rfl (by kernel_rfl) (by kernel_rfl) (by kernel_rfl) (fun _ _ _ h => h) (Or.inl ⟨by rfl, ?_⟩) hHeld ?_
      rotate_left
      · (intro w hSw; (try dsimp only at hSw); go_simp; try (with_reducible rfl))
      try simp only [Act.put, List.setIfInBounds_toArray, List.set_cons_zero, List.set_cons_succ]
      refine wpAnyH_take (i := 5) (oi := ⟨_, _, _, _, _, _⟩) (v := ?_) rfl (by kernel_rfl) (by kernel_rfl) (by kernel_rfl) (fun _ _ _ h => h) (Or.inl ⟨by rfl, ?_⟩) hHeld ?_
      rotate_left
      · (intro w hSw; (try dsimp only at hSw); go_simp; try (with_reducible rfl))
      try simp only [Act.put, List.setIfInBounds_toArray, List.set_cons_zero, List.set_cons_succ]
      refine wpAnyH_ready (rs := [1, 3, 6]) (by kernel_rfl) (by simp) ?_
      refine (AllReadyH.cons (o := ⟨_, _, _, _, _, _⟩) rfl (fun K hK => ?_) (AllReadyH.cons (o := ⟨_, _, _, _, _, _⟩) rfl (fun K hK => ?_) (AllReadyH.cons (o := ⟨_, _, _, _, _, _⟩) rfl (fun K hK => ?_) AllReadyH.nil)))
      · skip
        have k1 := D.f1
        go_simp
        clear k1
        refine hK.out _ _ ?_ ?_
        · (try dsimp only); all_goals trivial
        clear hHeld hK K
        intro hHeld
        try simp only [Act.put, List.setIfInBounds_toArray, List.set_cons_zero, List.set_cons_succ]
        refine wpAnyH_ready (rs := [3, 6]) (by kernel_rfl) (by simp) ?_
        refine (AllReadyH.cons (o := ⟨_, _, _, _, _, _⟩) rfl (fun K hK => ?_) (AllReadyH.cons (o := ⟨_, _, _, _, _, _⟩) rfl (fun K hK => ?_) AllReadyH.nil))
        · skip
          go_simp
          have hst0 := D.st
          have hb : Below V0.heap.size V0 (V0.alloc (.cells #[.int .i64 61, .int .i64 55296, .int .i64 9999] 2)) := (Below.refl _ _).alloc (Nat.le_refl _) _
          replace D := D.below hb
          have hA : ∀ i, i < ([61, 55296, 9999] : List Int).length → (V0.alloc (.cells #[.int .i64 61, .int .i64 55296, .int .i64 9999] 2)).cell? ⟨V0.heap.size, i, none⟩ = some (.int .i64 (([61, 55296, 9999] : List Int).getD i 0)) := new_intsf rfl
          clear hb
          generalize (V0.alloc (.cells #[.int .i64 61, .int .i64 55296, .int .i64 9999] 2)) = V1 at *
          refine hK.out _ _ ?_ ?_
          · (try dsimp only); all_goals trivial
          clear hHeld hK K
          intro hHeld
          try simp only [Act.put, List.setIfInBounds_toArray, List.set_cons_zero, List.set_cons_succ]
          refine wpAnyH_ready (rs := [4, 6]) (by kernel_rfl) (by simp) ?_
          refine (AllReadyH.cons (o := ⟨_, _, _, _, _, _⟩) rfl (fun K hK => ?_) (AllReadyH.cons (o := ⟨_, _, _, _, _, _⟩) rfl (fun K hK => ?_) AllReadyH.nil))
          · skip
            go_simp
            go_at_call 50
            refine (l1Pick_f zs [61, 55296, 9999] a cap B V0.heap.size 3 3 q w0 _ hv HZ.out hlen D.src (by omega) (by omega) rfl (by omega) (by omega) (by omega) hA).mono ?_
            rintro e V2 ⟨ch, rfl, _, sN, xN⟩
            replace D := D.within sN xN
            clear hA
            clear sN xN
            try go_wp2_with fail
            refine hK.out _ _ ?_ ?_
            · (try dsimp only); all_goals trivial
            clear hHeld hK K
            intro hHeld
            try simp only [Act.put, List.setIfInBounds_toArray, List.set_cons_zero, List.set_cons_succ]
            refine wpAnyH_ready (rs := [6]) (by kernel_rfl) (by simp) ?_
            refine (AllReadyH.cons (o := ⟨_, _, _, _, _, _⟩) rfl (fun K hK => ?_) AllReadyH.nil)
            go_simp
            have hst2 := D.st
            have hb : Below V2.heap.size V2 (V2.alloc (.cells #[.int .i64 0, .int .i64 256] 2)) := (Below.refl _ _).alloc (Nat.le_refl _) _
            replace D := D.below hb
            have hBk : ∀ i, i < ([0, 256] : List Int).length → (V2.alloc (.cells #[.int .i64 0, .int .i64 256] 2)).cell? ⟨V2.heap.size, i, none⟩ = some (.int .i64 (([0, 256] : List Int).getD i 0)) := new_intsf rfl
            clear hb
            generalize (V2.alloc (.cells #[.int .i64 0, .int .i64 256] 2)) = V3 at *
            refine hK.out _ _ ?_ ?_
            · (try dsimp only); all_goals trivial
            clear hHeld hK K
            intro hHeld
            try simp only [Act.put, List.setIfInBounds_toArray, List.set_cons_zero, List.set_cons_succ]
            refine wpAnyH_ready (rs := [7]) (by kernel_rfl) (by simp) ?_
            refine (AllReadyH.cons (o := ⟨_, _, _, _, _, _⟩) rfl (fun K hK => ?_) AllReadyH.nil)
            go_simp
            go_at_call 50
            refine (l1Pick_f zs [0, 256] a cap B V2.heap.size 2 2 (q + 1) w0 _ hv HZ.out hlen D.src (by omega) (by omega) rfl (by omega) (by omega) (by omega) hBk).mono ?_
            rintro e V4 ⟨gl, rfl, _, sN, xN⟩
            replace D := D.within sN xN
            clear hBk
            clear sN xN
            try go_wp2_with fail
            refine hK.out _ _ ?_ ?_
            · (try dsimp only); all_goals trivial
            clear hHeld hK K
            intro hHeld
            try simp only [Act.put, List.setIfInBounds_toArray, List.set_cons_zero, List.set_cons_succ]
            refine wpAnyH_take (i := 8) (oi := ⟨_, _, _, _, _, _⟩) (v := ?_) rfl (by kernel_rfl) (by kernel_rfl) (by kernel_rfl) (fun _ _ _ h => h) (Or.inl ⟨by rfl, ?_⟩) hHeld ?_
            rotate_left
            · (intro w hSw; (try dsimp only at hSw); go_simp; try (with_reducible rfl))
            try simp only [Act.put, List.setIfInBounds_toArray, List.set_cons_zero, List.set_cons_succ]
            refine wpAnyH_ready (rs := [9]) (by kernel_rfl) (by simp) ?_
            refine (AllReadyH.cons (o := ⟨_, _, _, _, _, _⟩) rfl (fun K hK => ?_) AllReadyH.nil)
            go_simp
            have hst4 := D.st
            have hb : Below V4.heap.size V4 (V4.alloc (.cells #[.int .i64 ch, .int .i64 gl] 52)) := (Below.refl _ _).alloc (Nat.le_refl _) _
            replace D := D.below hb
            have hnew : ∀ j u, (pvs [(ch, gl)])[j]? = some u → (V4.alloc (.cells #[.int .i64 ch, .int .i64 gl] 52)).cell? ((⟨V4.heap.size, 0, none⟩ : Addr).add j) = some u := new_row_at rfl rfl
            clear hb
            generalize (V4.alloc (.cells #[.int .i64 ch, .int .i64 gl] 52)) = V5 at *
            refine hK.out _ _ ?_ ?_
            · (try dsimp only); all_goals trivial
            clear hHeld hK K
            intro hHeld
            try simp only [Act.put, List.setIfInBounds_toArray, List.set_cons_zero, List.set_cons_succ]
            refine wpAnyH_ready (rs := [10]) (by kernel_rfl) (by simp) ?_
            refine (AllReadyH.cons (o := ⟨_, _, _, _, _, _⟩) rfl (fun K hK => ?_) AllReadyH.nil)
            refine step_append_g rfl (.tmp 18) (.tmp 26) 48 rfl bs 52 i0 (.agg #[.int .i64 0, .int .i64 0]) 2 16 Try.underlying48 hi hz0 hz1 hz2 rfl (by decide) _ _ _ rfl D.row ⟨V4.heap.size, 0, none⟩ 1 1 (pvs [(ch, gl)]) rfl rfl hnew (pvs_one _) (by unfold maxLen; omega) (by omega) (by have := D.st; omega) ?_
            intro v5 w5 hown5 hg5
            rw [← pvs_append] at hown5
            have D5 := D.append hg5 (ps' := ps ++ [(ch, gl)]) (by simpa using hown5)
            obtain ⟨a5, n5, rfl⟩ := own_shapeD D5.row
            have hL : (ps ++ [(ch, gl)]).length = ps.length + 1 := by simp
            rw [hL] at D5
            clear D hown5 hg5 hnew hL
            refine hK.out _ _ ?_ ?_
            · (try dsimp only); all_goals trivial
            clear hHeld hK K
            intro hHeld
            try simp only [Act.put, List.setIfInBounds_toArray, List.set_cons_zero, List.set_cons_succ]
            refine wpAnyH_take (i := 11) (oi := ⟨_, _, _, _, _, _⟩) (v := ?_) rfl (by kernel_rfl) (by kernel_rfl) (by kernel_rfl) (fun _ _ _ h => h) (Or.inl ⟨by rfl, ?_⟩) hHeld ?_
            rotate_left
            · (intro w hSw; (try dsimp only at hSw); go_simp; try (with_reducible rfl))
            try simp only [Act.put, List.setIfInBounds_toArray, List.set_cons_zero, List.set_cons_succ]
            refine wpAnyH_ready (rs := [12]) (by kernel_rfl) (by simp) ?_
            refine (AllReadyH.cons (o := ⟨_, _, _, _, _, _⟩) rfl (fun K hK => ?_) AllReadyH.nil)
            have k1 := D5.f1
            have kz := D5.fz 1
            go_simp
            clear k1 kz
            refine hK.out _ _ ?_ ?_
            · (try dsimp only); all_goals trivial
            clear hHeld hK K
            intro hHeld
            try simp only [Act.put, List.setIfInBounds_toArray, List.set_cons_zero, List.set_cons_succ]
            refine wpAnyH_done (by kernel_rfl) ?_ _
            have D := D5.stored
            clear D5
            generalize (w5.setCell ⟨t, 1, none⟩ (.slice a5 (ps.length + 1) n5)) = w9 at *
            have hF := D.finish
            have f0 := D.f0
            have f1 := D.f1
            obtain ⟨u0, k0⟩ := D.r0
            obtain ⟨u1, k1⟩ := D.r1
            have z0 := D.rz 0
            have z1 := D.rz 1
            have hst := D.st
            obtain ⟨hr, hrow, hsrc, hwi⟩ := hF
            have hsz9 := hrow.1
            clear D
            go_wp2
            refine bodyPost_ret (v := .agg #[.int .i64 fb, .slice a5 (ps.length + 1) n5]) (by simp only [results, Try.results56]; simp [go_sem, hr.1, hr.2]) rfl ?_
            first | refine ⟨fb, _, (ps ++ [(ch, gl)]), (q + 1 + 1), rfl, ⟨by simp; omega, by omega, by omega⟩, ?_, hsrc, hwi⟩ | refine ⟨fb, _, rfl, (ps ++ [(ch, gl)]), (q + 1 + 1), ⟨by simp; omega, by omega, by omega⟩, ?_, hsrc, hwi⟩ | refine ⟨_, rfl, (ps ++ [(ch, gl)]), ⟨by simp; omega, by omega, by omega⟩, ?_, hsrc, hwi⟩
            exact (own_pairs hrow (Nat.le_refl _)).mono (by have := HS.out; omega) (Nat.le_refl _)
          · skip
            go_simp
            have hst1 := D.st
            have hb : Below V1.heap.size V1 (V1.alloc (.cells #[.int .i64 0, .int .i64 256] 2)) := (Below.refl _ _).alloc (Nat.le_refl _) _
            replace D := D.below hb
            replace hA := fun i hi => cellb hb (hA i hi)
            have hBk : ∀ i, i < ([0, 256] : List Int).length → (V1.alloc (.cells #[.int .i64 0, .int .i64 256] 2)).cell? ⟨V1.heap.size, i, none⟩ = some (.int .i64 (([0, 256] : List Int).getD i 0)) := new_intsf rfl
            clear hb
            generalize (V1.alloc (.cells #[.int .i64 0, .int .i64 256] 2)) = V2 at *
            refine hK.out _ _ ?_ ?_
            · (try dsimp only); all_goals trivial
            clear hHeld hK K
            intro hHeld
            try simp only [Act.put, List.setIfInBounds_toArray, List.set_cons_zero, List.set_cons_succ]
            refine wpAnyH_ready (rs := [4]) (by kernel_rfl) (by simp) ?_
            refine (AllReadyH.cons (o := ⟨_, _, _, _, _, _⟩) rfl (fun K hK => ?_) AllReadyH.nil)
            go_simp
            go_at_call 50
            refine (l1Pick_f zs [61, 55296, 9999] a cap B V0.heap.size 3 3 q w0 _ hv HZ.out hlen D.src (by omega) (by omega) rfl (by omega) (by omega) (by omega) hA).mono ?_
            rintro e V3 ⟨ch, rfl, _, sN, xN⟩
            replace D := D.within sN xN
            clear hA
            replace hBk := fun i hi => xN.cellf (by omega) (hBk i hi)
            clear sN xN
            try go_wp2_with fail
            refine hK.out _ _ ?_ ?_
            · (try dsimp only); all_goals trivial
            clear hHeld hK K
            intro hHeld
            try simp only [Act.put, List.setIfInBounds_toArray, List.set_cons_zero, List.set_cons_succ]
            refine wpAnyH_ready (rs := [7]) (by kernel_rfl) (by simp) ?_
            refine (AllReadyH.cons (o := ⟨_, _, _, _, _, _⟩) rfl (fun K hK => ?_) AllReadyH.nil)
            go_simp
            go_at_call 50
            refine (l1Pick_f zs [0, 256] a cap B V1.heap.size 2 2 (q + 1) w0 _ hv HZ.out hlen D.src (by omega) (by omega) rfl (by omega) (by omega) (by omega) hBk).mono ?_
            rintro e V4 ⟨gl, rfl, _, sN, xN⟩
            replace D := D.within sN xN
            clear hBk
            clear sN xN
            try go_wp2_with fail
            refine hK.out _ _ ?_ ?_
            · (try dsimp only); all_goals trivial
            clear hHeld hK K
            intro hHeld
            try simp only [Act.put, List.setIfInBounds_toArray, List.set_cons_zero, List.set_cons_succ]
            refine wpAnyH_take (i := 8) (oi := ⟨_, _, _, _, _, _⟩) (v := ?_) rfl (by kernel_rfl) (by kernel_rfl) (by kernel_rfl) (fun _ _ _ h => h) (Or.inl ⟨by rfl, ?_⟩) hHeld ?_
            rotate_left
            · (intro w hSw; (try dsimp only at hSw); go_simp; try (with_reducible rfl))
            try simp only [Act.put, List.setIfInBounds_toArray, List.set_cons_zero, List.set_cons_succ]
            refine wpAnyH_ready (rs := [9]) (by kernel_rfl) (by simp) ?_
            refine (AllReadyH.cons (o := ⟨_, _, _, _, _, _⟩) rfl (fun K hK => ?_) AllReadyH.nil)
            go_simp
            have hst4 := D.st
            have hb : Below V4.heap.size V4 (V4.alloc (.cells #[.int .i64 ch, .int .i64 gl] 52)) := (Below.refl _ _).alloc (Nat.le_refl _) _
            replace D := D.below hb
            have hnew : ∀ j u, (pvs [(ch, gl)])[j]? = some u → (V4.alloc (.cells #[.int .i64 ch, .int .i64 gl] 52)).cell? ((⟨V4.heap.size, 0, none⟩ : Addr).add j) = some u := new_row_at rfl rfl
            clear hb
            generalize (V4.alloc (.cells #[.int .i64 ch, .int .i64 gl] 52)) = V5 at *
            refine hK.out _ _ ?_ ?_
            · (try dsimp only); all_goals trivial
            clear hHeld hK K
            intro hHeld
            try simp only [Act.put, List.setIfInBounds_toArray, List.set_cons_zero, List.set_cons_succ]
            refine wpAnyH_ready (rs := [10]) (by kernel_rfl) (by simp) ?_
            refine (AllReadyH.cons (o := ⟨_, _, _, _, _, _⟩) rfl (fun K hK => ?_) AllReadyH.nil)
            refine step_append_g rfl (.tmp 18) (.tmp 26) 48 rfl bs 52 i0 (.agg #[.int .i64 0, .int .i64 0]) 2 16 Try.underlying48 hi hz0 hz1 hz2 rfl (by decide) _ _ _ rfl D.row ⟨V4.heap.size, 0, none⟩ 1 1 (pvs [(ch, gl)]) rfl rfl hnew (pvs_one _) (by unfold maxLen; omega) (by omega) (by have := D.st; omega) ?_
            intro v5 w5 hown5 hg5
            rw [← pvs_append] at hown5
            have D5 := D.append hg5 (ps' := ps ++ [(ch, gl)]) (by simpa using hown5)
            obtain ⟨a5, n5, rfl⟩ := own_shapeD D5.row
            have hL : (ps ++ [(ch, gl)]).length = ps.length + 1 := by simp
            rw [hL] at D5
            clear D hown5 hg5 hnew hL
            refine hK.out _ _ ?_ ?_
            · (try dsimp only); all_goals trivial
            clear hHeld hK K
            intro hHeld
            try simp only [Act.put, List.setIfInBounds_toArray, List.set_cons_zero, List.set_cons_succ]
            refine wpAnyH_take (i := 11) (oi := ⟨_, _, _, _, _, _⟩) (v := ?_) rfl (by kernel_rfl) (by kernel_rfl) (by kernel_rfl) (fun _ _ _ h => h) (Or.inl ⟨by rfl, ?_⟩) hHeld ?_
            rotate_left
            · (intro w hSw; (try dsimp only at hSw); go_simp; try (with_reducible rfl))
            try simp only [Act.put, List.setIfInBounds_toArray, List.set_cons_zero, List.set_cons_succ]
            refine wpAnyH_ready (rs := [12]) (by kernel_rfl) (by simp) ?_
            refine (AllReadyH.cons (o := ⟨_, _, _, _, _, _⟩) rfl (fun K hK => ?_) AllReadyH.nil)
            have k1 := D5.f1
            have kz := D5.fz 1
            go_simp
            clear k1 kz
            refine hK.out _ _ ?_ ?_
            · (try dsimp only); all_goals trivial
            clear hHeld hK K
            intro hHeld
            try simp only [Act.put, List.setIfInBounds_toArray, List.set_cons_zero, List.set_cons_succ]
            refine wpAnyH_done (by kernel_rfl) ?_ _
            have D := D5.stored
            clear D5
            generalize (w5.setCell ⟨t, 1, none⟩ (.slice a5 (ps.length + 1) n5)) = w9 at *
            have hF := D.finish
            have f0 := D.f0
            have f1 := D.f1
            obtain ⟨u0, k0⟩ := D.r0
            obtain ⟨u1, k1⟩ := D.r1
            have z0 := D.rz 0
            have z1 := D.rz 1
            have hst := D.st
            obtain ⟨hr, hrow, hsrc, hwi⟩ := hF
            have hsz9 := hrow.1
            clear D
            go_wp2
            refine bodyPost_ret (v := .agg #[.int .i64 fb, .slice a5 (ps.length + 1) n5]) (by simp only [results, Try.results56]; simp [go_sem, hr.1, hr.2]) rfl ?_
            first | refine ⟨fb, _, (ps ++ [(ch, gl)]), (q + 1 + 1), rfl, ⟨by simp; omega, by omega, by omega⟩, ?_, hsrc, hwi⟩ | refine ⟨fb, _, rfl, (ps ++ [(ch, gl)]), (q + 1 + 1), ⟨by simp; omega, by omega, by omega⟩, ?_, hsrc, hwi⟩ | refine ⟨_, rfl, (ps ++ [(ch, gl)]), ⟨by simp; omega, by omega, by omega⟩, ?_, hsrc, hwi⟩
            exact (own_pairs hrow (Nat.le_refl _)).mono (by have := HS.out; omega) (Nat.le_refl _)
        · skip
          go_simp
          have hst0 := D.st
          have hb : Below V0.heap.size V0 (V0.alloc (.cells #[.int .i64 0, .int .i64 256] 2)) := (Below.refl _ _).alloc (Nat.le_refl _) _
          replace D := D.below hb
          have hBk : ∀ i, i < ([0, 256] : List Int).length → (V0.alloc (.cells #[.int .i64 0, .int .i64 256] 2)).cell? ⟨V0.heap.size, i, none⟩ = some (.int .i64 (([0, 256] : List Int).getD i 0)) := new_intsf rfl
          clear hb
          generalize (V0.alloc (.cells #[.int .i64 0, .int .i64 256] 2)) = V1 at *
          refine hK.out _ _ ?_ ?_
          · (try dsimp only); all_goals trivial
          clear hHeld hK K
          intro hHeld
          try simp only [Act.put, List.setIfInBounds_toArray, List.set_cons_zero, List.set_cons_succ]
          refine wpAnyH_ready (rs := [3]) (by kernel_rfl) (by simp) ?_
          refine (AllReadyH.cons (o := ⟨_, _, _, _, _, _⟩) rfl (fun K hK => ?_) AllReadyH.nil)
          go_simp
          have hst1 := D.st
          have hb : Below V1.heap.size V1 (V1.alloc (.cells #[.int .i64 61, .int .i64 55296, .int .i64 9999] 2)) := (Below.refl _ _).alloc (Nat.le_refl _) _
          replace D := D.below hb
          replace hBk := fun i hi => cellb hb (hBk i hi)
          have hA : ∀ i, i < ([61, 55296, 9999] : List Int).length → (V1.alloc (.cells #[.int .i64 61, .int .i64 55296, .int .i64 9999] 2)).cell? ⟨V1.heap.size, i, none⟩ = some (.int .i64 (([61, 55296, 9999] : List Int).getD i 0)) := new_intsf rfl
          clear hb
          generalize (V1.alloc (.cells #[.int .i64 61, .int .i64 55296, .int .i64 9999] 2)) = V2 at *
          refine hK.out _ _ ?_ ?_
          · (try dsimp only); all_goals trivial
          clear hHeld hK K
          intro hHeld
          try simp only [Act.put, List.setIfInBounds_toArray, List.set_cons_zero, List.set_cons_succ]
          refine wpAnyH_ready (rs := [4]) (by kernel_rfl) (by simp) ?_
          refine (AllReadyH.cons (o := ⟨_, _, _, _, _, _⟩) rfl (fun K hK => ?_) AllReadyH.nil)
          go_simp
          go_at_call 50
          refine (l1Pick_f zs [61, 55296, 9999] a cap B V1.heap.size 3 3 q w0 _ hv HZ.out hlen D.src (by omega) (by omega) rfl (by omega) (by omega) (by omega) hA).mono ?_
          rintro e V3 ⟨ch, rfl, _, sN, xN⟩
          replace D := D.within sN xN
          clear hA
          replace hBk := fun i hi => xN.cellf (by omega) (hBk i hi)
          clear sN xN
          try go_wp2_with fail
          refine hK.out _ _ ?_ ?_
          · (try dsimp only); all_goals trivial
          clear hHeld hK K
          intro hHeld
          try simp only [Act.put, List.setIfInBounds_toArray, List.set_cons_zero, List.set_cons_succ]
          refine wpAnyH_ready (rs := [7]) (by kernel_rfl) (by simp) ?_
          refine (AllReadyH.cons (o := ⟨_, _, _, _, _, _⟩) rfl (fun K hK => ?_) AllReadyH.nil)
          go_simp
          go_at_call 50
          refine (l1Pick_f zs [0, 256] a cap B V0.heap.size 2 2 (q + 1) w0 _ hv HZ.out hlen D.src (by omega) (by omega) rfl (by omega) (by omega) (by omega) hBk).mono ?_
          rintro e V4 ⟨gl, rfl, _, sN, xN⟩
          replace D := D.within sN xN
          clear hBk
          clear sN xN
          try go_wp2_with fail
          refine hK.out _ _ ?_ ?_
          · (try dsimp only); all_goals trivial
          clear hHeld hK K
          intro hHeld
          try simp only [Act.put, List.setIfInBounds_toArray, List.set_cons_zero, List.set_cons_succ]
          refine wpAnyH_take (i := 8) (oi := ⟨_, _, _, _, _, _⟩) (v := ?_) rfl (by kernel_rfl) (by kernel_rfl) (by kernel_rfl) (fun _ _ _ h => h) (Or.inl ⟨by rfl, ?_⟩) hHeld ?_
          rotate_left
          · (intro w hSw; (try dsimp only at hSw); go_simp; try (with_reducible rfl))
          try simp only [Act.put, List.setIfInBounds_toArray, List.set_cons_zero, List.set_cons_succ]
          refine wpAnyH_ready (rs := [9]) (by kernel_rfl) (by simp) ?_
          refine (AllReadyH.cons (o := ⟨_, _, _, _, _, _⟩) rfl (fun K hK => ?_) AllReadyH.nil)
          go_simp
          have hst4 := D.st
          have hb : Below V4.heap.size V4 (V4.alloc (.cells #[.int .i64 ch, .int .i64 gl] 52)) := (Below.refl _ _).alloc (Nat.le_refl _) _
          replace D := D.below hb
          have hnew : ∀ j u, (pvs [(ch, gl)])[j]? = some u → (V4.alloc (.cells #[.int .i64 ch, .int .i64 gl] 52)).cell? ((⟨V4.heap.size, 0, none⟩ : Addr).add j) = some u := new_row_at rfl rfl
          clear hb
          generalize (V4.alloc (.cells #[.int .i64 ch, .int .i64 gl] 52)) = V5 at *
          refine hK.out _ _ ?_ ?_
          · (try dsimp only); all_goals trivial
          clear hHeld hK K
          intro hHeld
          try simp only [Act.put, List.setIfInBounds_toArray, List.set_cons_zero, List.set_cons_succ]
          refine wpAnyH_ready (rs := [10]) (by kernel_rfl) (by simp) ?_
          refine (AllReadyH.cons (o := ⟨_, _, _, _, _, _⟩) rfl (fun K hK => ?_) AllReadyH.nil)
          refine step_append_g rfl (.tmp 18) (.tmp 26) 48 rfl bs 52 i0 (.agg #[.int .i64 0, .int .i64 0]) 2 16 Try.underlying48 hi hz0 hz1 hz2 rfl (by decide) _ _ _ rfl D.row ⟨V4.heap.size, 0, none⟩ 1 1 (pvs [(ch, gl)]) rfl rfl hnew (pvs_one _) (by unfold maxLen; omega) (by omega) (by have := D.st; omega) ?_
          intro v5 w5 hown5 hg5
          rw [← pvs_append] at hown5
          have D5 := D.append hg5 (ps' := ps ++ [(ch, gl)]) (by simpa using hown5)
          obtain ⟨a5, n5, rfl⟩ := own_shapeD D5.row
          have hL : (ps ++ [(ch, gl)]).length = ps.length + 1 := by simp
          rw [hL] at D5
          clear D hown5 hg5 hnew hL
          refine hK.out _ _ ?_ ?_
          · (try dsimp only); all_goals trivial
          clear hHeld hK K
          intro hHeld
          try simp only [Act.put, List.setIfInBounds_toArray, List.set_cons_zero, List.set_cons_succ]
          refine wpAnyH_take (i := 11) (oi := ⟨_, _, _, _, _, _⟩) (v := ?_) rfl (by kernel_rfl) (by kernel_rfl) (by kernel_rfl) (fun _ _ _ h => h) (Or.inl ⟨by rfl, ?_⟩) hHeld ?_
          rotate_left
          · (intro w hSw; (try dsimp only at hSw); go_simp; try (with_reducible rfl))
          try simp only [Act.put, List.setIfInBounds_toArray, List.set_cons_zero, List.set_cons_succ]
          refine wpAnyH_ready (rs := [12]) (by kernel_rfl) (by simp) ?_
          refine (AllReadyH.cons (o := ⟨_, _, _, _, _, _⟩) rfl (fun K hK => ?_) AllReadyH.nil)
          have k1 := D5.f1
          have kz := D5.fz 1
          go_simp
          clear k1 kz
          refine hK.out _ _ ?_ ?_
          · (try dsimp only); all_goals trivial
          clear hHeld hK K
          intro hHeld
          try simp only [Act.put, List.setIfInBounds_toArray, List.set_cons_zero, List.set_cons_succ]
          refine wpAnyH_done (by kernel_rfl) ?_ _
          have D := D5.stored
          clear D5
          generalize (w5.setCell ⟨t, 1, none⟩ (.slice a5 (ps.length + 1) n5)) = w9 at *
          have hF := D.finish
          have f0 := D.f0
          have f1 := D.f1
          obtain ⟨u0, k0⟩ := D.r0
          obtain ⟨u1, k1⟩ := D.r1
          have z0 := D.rz 0
          have z1 := D.rz 1
          have hst := D.st
          obtain ⟨hr, hrow, hsrc, hwi⟩ := hF
          have hsz9 := hrow.1
          clear D
          go_wp2
          refine bodyPost_ret (v := .agg #[.int .i64 fb, .slice a5 (ps.length + 1) n5]) (by simp only [results, Try.results56]; simp [go_sem, hr.1, hr.2]) rfl ?_
          first | refine ⟨fb, _, (ps ++ [(ch, gl)]), (q + 1 + 1), rfl, ⟨by simp; omega, by omega, by omega⟩, ?_, hsrc, hwi⟩ | refine ⟨fb, _, rfl, (ps ++ [(ch, gl)]), (q + 1 + 1), ⟨by simp; omega, by omega, by omega⟩, ?_, hsrc, hwi⟩ | refine ⟨_, rfl, (ps ++ [(ch, gl)]), ⟨by simp; omega, by omega, by omega⟩, ?_, hsrc, hwi⟩
          exact (own_pairs hrow (Nat.le_refl _)).mono (by have := HS.out; omega) (Nat.le_refl _)
      · skip
        go_simp
        have hst0 := D.st
        have hb : Below V0.heap.size V0 (V0.alloc (.cells #[.int .i64 61, .int .i64 55296, .int .i64 9999] 2)) := (Below.refl _ _).alloc (Nat.le_refl _) _
        replace D := D.below hb
        have hA : ∀ i, i < ([61, 55296, 9999] : List Int).length → (V0.alloc (.cells #[.int .i64 61, .int .i64 55296, .int .i64 9999] 2)).cell? ⟨V0.heap.size, i, none⟩ = some (.int .i64 (([61, 55296, 9999] : List Int).getD i 0)) := new_intsf rfl
        clear hb
        generalize (V0.alloc (.cells #[.int .i64 61, .int .i64 55296, .int .i64 9999] 2)) = V1 at *
        refine hK.out _ _ ?_ ?_
        · (try dsimp only); all_goals trivial
        clear hHeld hK K
        intro hHeld
        try simp only [Act.put, List.setIfInBounds_toArray, List.set_cons_zero, List.set_cons_succ]
        refine wpAnyH_ready (rs := [1, 4, 6]) (by kernel_rfl) (by simp) ?_
        refine (AllReadyH.cons (o := ⟨_, _, _, _, _, _⟩) rfl (fun K hK => ?_) (AllReadyH.cons (o := ⟨_, _, _, _, _, _⟩) rfl (fun K hK => ?_) (AllReadyH.cons (o := ⟨_, _, _, _, _, _⟩) rfl (fun K hK => ?_) AllReadyH.nil)))
        · skip
          have k1 := D.f1
          go_simp
          clear k1
          refine hK.out _ _ ?_ ?_
          · (try dsimp only); all_goals trivial
          clear hHeld hK K
          intro hHeld
          try simp only [Act.put, List.setIfInBounds_toArray, List.set_cons_zero, List.set_cons_succ]
          refine wpAnyH_ready (rs := [4, 6]) (by kernel_rfl) (by simp) ?_
          refine (AllReadyH.cons (o := ⟨_, _, _, _, _, _⟩) rfl (fun K hK => ?_) (AllReadyH.cons (o := ⟨_, _, _, _, _, _⟩) rfl (fun K hK => ?_) AllReadyH.nil))
          · skip
            go_simp
            go_at_call 50
            refine (l1Pick_f zs [61, 55296, 9999] a cap B V0.heap.size 3 3 q w0 _ hv HZ.out hlen D.src (by omega) (by omega) rfl (by omega) (by omega) (by omega) hA).mono ?_
            rintro e V2 ⟨ch, rfl, _, sN, xN⟩
            replace D := D.within sN xN
            clear hA
            clear sN xN
            try go_wp2_with fail
            refine hK.out _ _ ?_ ?_
            · (try dsimp only); all_goals trivial
            clear hHeld hK K
            intro hHeld
            try simp only [Act.put, List.setIfInBounds_toArray, List.set_cons_zero, List.set_cons_succ]
            refine wpAnyH_ready (rs := [6]) (by kernel_rfl) (by simp) ?_
            refine (AllReadyH.cons (o := ⟨_, _, _, _, _, _⟩) rfl (fun K hK => ?_) AllReadyH.nil)
            go_simp
            have hst2 := D.st
            have hb : Below V2.heap.size V2 (V2.alloc (.cells #[.int .i64 0, .int .i64 256] 2)) := (Below.refl _ _).alloc (Nat.le_refl _) _
            replace D := D.below hb
            have hBk : ∀ i, i < ([0, 256] : List Int).length → (V2.alloc (.cells #[.int .i64 0, .int .i64 256] 2)).cell? ⟨V2.heap.size, i, none⟩ = some (.int .i64 (([0, 256] : List Int).getD i 0)) := new_intsf rfl
            clear hb
            generalize (V2.alloc (.cells #[.int .i64 0, .int .i64 256] 2)) = V3 at *
            refine hK.out _ _ ?_ ?_
            · (try dsimp only); all_goals trivial
            clear hHeld hK K
            intro hHeld
            try simp only [Act.put, List.setIfInBounds_toArray, List.set_cons_zero, List.set_cons_succ]
            refine wpAnyH_ready (rs := [7]) (by kernel_rfl) (by simp) ?_
            refine (AllReadyH.cons (o := ⟨_, _, _, _, _, _⟩) rfl (fun K hK => ?_) AllReadyH.nil)
            go_simp
            go_at_call 50
            refine (l1Pick_f zs [0, 256] a cap B V2.heap.size 2 2 (q + 1) w0 _ hv HZ.out hlen D.src (by omega) (by omega) rfl (by omega) (by omega) (by omega) hBk).mono ?_
            rintro e V4 ⟨gl, rfl, _, sN, xN⟩
            replace D := D.within sN xN
            clear hBk
            clear sN xN
            try go_wp2_with fail
            refine hK.out _ _ ?_ ?_
            · (try dsimp only); all_goals trivial
            clear hHeld hK K
            intro hHeld
            try simp only [Act.put, List.setIfInBounds_toArray, List.set_cons_zero, List.set_cons_succ]
            refine wpAnyH_take (i := 8) (oi := ⟨_, _, _, _, _, _⟩) (v := ?_) rfl (by kernel_rfl) (by kernel_rfl) (by kernel_rfl) (fun _ _ _ h => h) (Or.inl ⟨by rfl, ?_⟩) hHeld ?_
            rotate_left
            · (intro w hSw; (try dsimp only at hSw); go_simp; try (with_reducible rfl))
            try simp only [Act.put, List.setIfInBounds_toArray, List.set_cons_zero, List.set_cons_succ]
            refine wpAnyH_ready (rs := [9]) (by kernel_rfl) (by simp) ?_
            refine (AllReadyH.cons (o := ⟨_, _, _, _, _, _⟩) rfl (fun K hK => ?_) AllReadyH.nil)
            go_simp
            have hst4 := D.st
            have hb : Below V4.heap.size V4 (V4.alloc (.cells #[.int .i64 ch, .int .i64 gl] 52)) := (Below.refl _ _).alloc (Nat.le_refl _) _
            replace D := D.below hb
            have hnew : ∀ j u, (pvs [(ch, gl)])[j]? = some u → (V4.alloc (.cells #[.int .i64 ch, .int .i64 gl] 52)).cell? ((⟨V4.heap.size, 0, none⟩ : Addr).add j) = some u := new_row_at rfl rfl
            clear hb
            generalize (V4.alloc (.cells #[.int .i64 ch, .int .i64 gl] 52)) = V5 at *
            refine hK.out _ _ ?_ ?_
            · (try dsimp only); all_goals trivial
            clear hHeld hK K
            intro hHeld
            try simp only [Act.put, List.setIfInBounds_toArray, List.set_cons_zero, List.set_cons_succ]
            refine wpAnyH_ready (rs := [10]) (by kernel_rfl) (by simp) ?_
            refine (AllReadyH.cons (o := ⟨_, _, _, _, _, _⟩) rfl (fun K hK => ?_) AllReadyH.nil)
            refine step_append_g rfl (.tmp 18) (.tmp 26) 48 rfl bs 52 i0 (.agg #[.int .i64 0, .int .i64 0]) 2 16 Try.underlying48 hi hz0 hz1 hz2 rfl (by decide) _ _ _ rfl D.row ⟨V4.heap.size, 0, none⟩ 1 1 (pvs [(ch, gl)]) rfl rfl hnew (pvs_one _) (by unfold maxLen; omega) (by omega) (by have := D.st; omega) ?_
            intro v5 w5 hown5 hg5
            rw [← pvs_append] at hown5
            have D5 := D.append hg5 (ps' := ps ++ [(ch, gl)]) (by simpa using hown5)
            obtain ⟨a5, n5, rfl⟩ := own_shapeD D5.row
            have hL : (ps ++ [(ch, gl)]).length = ps.length + 1 := by simp
            rw [hL] at D5
            clear D hown5 hg5 hnew hL
            refine hK.out _ _ ?_ ?_
            · (try dsimp only); all_goals trivial
            clear hHeld hK K
            intro hHeld
            try simp only [Act.put, List.setIfInBounds_toArray, List.set_cons_zero, List.set_cons_succ]
            refine wpAnyH_take (i := 11) (oi := ⟨_, _, _, _, _, _⟩) (v := ?_) rfl (by kernel_rfl) (by kernel_rfl) (by kernel_rfl) (fun _ _ _ h => h) (Or.inl ⟨by rfl, ?_⟩) hHeld ?_
            rotate_left
            · (intro w hSw; (try dsimp only at hSw); go_simp; try (with_reducible rfl))
            try simp only [Act.put, List.setIfInBounds_toArray, List.set_cons_zero, List.set_cons_succ]
            refine wpAnyH_ready (rs := [12]) (by kernel_rfl) (by simp) ?_
            refine (AllReadyH.cons (o := ⟨_, _, _, _, _, _⟩) rfl (fun K hK => ?_) AllReadyH.nil)
            have k1 := D5.f1
            have kz := D5.fz 1
            go_simp
            clear k1 kz
            refine hK.out _ _ ?_ ?_
            · (try dsimp only); all_goals trivial
            clear hHeld hK K
            intro hHeld
            try simp only [Act.put, List.setIfInBounds_toArray, List.set_cons_zero, List.set_cons_succ]
            refine wpAnyH_done (by kernel_rfl) ?_ _
            have D := D5.stored
            clear D5
            generalize (w5.setCell ⟨t, 1, none⟩ (.slice a5 (ps.length + 1) n5)) = w9 at *
            have hF := D.finish
            have f0 := D.f0
            have f1 := D.f1
            obtain ⟨u0, k0⟩ := D.r0
            obtain ⟨u1, k1⟩ := D.r1
            have z0 := D.rz 0
            have z1 := D.rz 1
            have hst := D.st
            obtain ⟨hr, hrow, hsrc, hwi⟩ := hF
            have hsz9 := hrow.1
            clear D
            go_wp2
            refine bodyPost_ret (v := .agg #[.int .i64 fb, .slice a5 (ps.length + 1) n5]) (by simp only [results, Try.results56]; simp [go_sem, hr.1, hr.2]) rfl ?_
            first | refine ⟨fb, _, (ps ++ [(ch, gl)]), (q + 1 + 1), rfl, ⟨by simp; omega, by omega, by omega⟩, ?_, hsrc, hwi⟩ | refine ⟨fb, _, rfl, (ps ++ [(ch, gl)]), (q + 1 + 1), ⟨by simp; omega, by omega, by omega⟩, ?_, hsrc, hwi⟩ | refine ⟨_, rfl, (ps ++ [(ch, gl)]), ⟨by simp; omega, by omega, by omega⟩, ?_, hsrc, hwi⟩
            exact (own_pairs hrow (Nat.le_refl _)).mono (by have := HS.out; omega) (Nat.le_refl _)
          · skip
            go_simp
            have hst1 := D.st
            have hb : Below V1.heap.size V1 (V1.alloc (.cells #[.int .i64 0, .int .i64 256] 2)) := (Below.refl _ _).alloc (Nat.le_refl _) _
            replace D := D.below hb
            replace hA := fun i hi => cellb hb (hA i hi)
            have hBk : ∀ i, i < ([0, 256] : List Int).length → (V1.alloc (.cells #[.int .i64 0, .int .i64 256] 2)).cell? ⟨V1.heap.size, i, none⟩ = some (.int .i64 (([0, 256] : List Int).getD i 0)) := new_intsf rfl
            clear hb
            generalize (V1.alloc (.cells #[.int .i64 0, .int .i64 256] 2)) = V2 at *
            refine hK.out _ _ ?_ ?_
            · (try dsimp only); all_goals trivial
            clear hHeld hK K
            intro hHeld
            try simp only [Act.put, List.setIfInBounds_toArray, List.set_cons_zero, List.set_cons_succ]
            refine wpAnyH_ready (rs := [4]) (by kernel_rfl) (by simp) ?_
            refine (AllReadyH.cons (o := ⟨_, _, _, _, _, _⟩) rfl (fun K hK => ?_) AllReadyH.nil)
            go_simp
            go_at_call 50
            refine (l1Pick_f zs [61, 55296, 9999] a cap B V0.heap.size 3 3 q w0 _ hv HZ.out hlen D.src (by omega) (by omega) rfl (by omega) (by omega) (by omega) hA).mono ?_
            rintro e V3 ⟨ch, rfl, _, sN, xN⟩
            replace D := D.within sN xN
            clear hA
            replace hBk := fun i hi => xN.cellf (by omega) (hBk i hi)
            clear sN xN
            try go_wp2_with fail
            refine hK.out _ _ ?_ ?_
            · (try dsimp only); all_goals trivial
            clear hHeld hK K
            intro hHeld
            try simp only [Act.put, List.setIfInBounds_toArray, List.set_cons_zero, List.set_cons_succ]
            refine wpAnyH_ready (rs := [7]) (by kernel_rfl) (by simp) ?_
            refine (AllReadyH.cons (o := ⟨_, _, _, _, _, _⟩) rfl (fun K hK => ?_) AllReadyH.nil)
            go_simp
            go_at_call 50
            refine (l1Pick_f zs [0, 256] a cap B V1.heap.size 2 2 (q + 1) w0 _ hv HZ.out hlen D.src (by omega) (by omega) rfl (by omega) (by omega) (by omega) hBk).mono ?_
            rintro e V4 ⟨gl, rfl, _, sN, xN⟩
            replace D := D.within sN xN
            clear hBk
            clear sN xN
            try go_wp2_with fail
            refine hK.out _ _ ?_ ?_
            · (try dsimp only); all_goals trivial
            clear hHeld hK K
            intro hHeld
            try simp only [Act.put, List.setIfInBounds_toArray, List.set_cons_zero, List.set_cons_succ]
            refine wpAnyH_take (i := 8) (oi := ⟨_, _, _, _, _, _⟩) (v := ?_) rfl (by kernel_rfl) (by kernel_rfl) (by kernel_rfl) (fun _ _ _ h => h) (Or.inl ⟨by rfl, ?_⟩) hHeld ?_
            rotate_left
            · (intro w hSw; (try dsimp only at hSw); go_simp; try (with_reducible rfl))
            try simp only [Act.put, List.setIfInBounds_toArray, List.set_cons_zero, List.set_cons_succ]
            refine wpAnyH_ready (rs := [9]) (by kernel_rfl) (by simp) ?_
            refine (AllReadyH.cons (o := ⟨_, _, _, _, _, _⟩) rfl (fun K hK => ?_) AllReadyH.nil)
            go_simp
            have hst4 := D.st
            have hb : Below V4.heap.size V4 (V4.alloc (.cells #[.int .i64 ch, .int .i64 gl] 52)) := (Below.refl _ _).alloc (Nat.le_refl _) _
            replace D := D.below hb
            have hnew : ∀ j u, (pvs [(ch, gl)])[j]? = some u → (V4.alloc (.cells #[.int .i64 ch, .int .i64 gl] 52)).cell? ((⟨V4.heap.size, 0, none⟩ : Addr).add j) = some u := new_row_at rfl rfl
            clear hb
            generalize (V4.alloc (.cells #[.int .i64 ch, .int .i64 gl] 52)) = V5 at *
            refine hK.out _ _ ?_ ?_
            · (try dsimp only); all_goals trivial
            clear hHeld hK K
            intro hHeld
            try simp only [Act.put, List.setIfInBounds_toArray, List.set_cons_zero, List.set_cons_succ]
            refine wpAnyH_ready (rs := [10]) (by kernel_rfl) (by simp) ?_
            refine (AllReadyH.cons (o := ⟨_, _, _, _, _, _⟩) rfl (fun K hK => ?_) AllReadyH.nil)
            refine step_append_g rfl (.tmp 18) (.tmp 26) 48 rfl bs 52 i0 (.agg #[.int .i64 0, .int .i64 0]) 2 16 Try.underlying48 hi hz0 hz1 hz2 rfl (by decide) _ _ _ rfl D.row ⟨V4.heap.size, 0, none⟩ 1 1 (pvs [(ch, gl)]) rfl rfl hnew (pvs_one _) (by unfold maxLen; omega) (by omega) (by have := D.st; omega) ?_
            intro v5 w5 hown5 hg5
            rw [← pvs_append] at hown5
            have D5 := D.append hg5 (ps' := ps ++ [(ch, gl)]) (by simpa using hown5)
            obtain ⟨a5, n5, rfl⟩ := own_shapeD D5.row
            have hL : (ps ++ [(ch, gl)]).length = ps.length + 1 := by simp
            rw [hL] at D5
            clear D hown5 hg5 hnew hL
            refine hK.out _ _ ?_ ?_
            · (try dsimp only); all_goals trivial
            clear hHeld hK K
            intro hHeld
            try simp only [Act.put, List.setIfInBounds_toArray, List.set_cons_zero, List.set_cons_succ]
            refine wpAnyH_take (i := 11) (oi := ⟨_, _, _, _, _, _⟩) (v := ?_) rfl (by kernel_rfl) (by kernel_rfl) (by kernel_rfl) (fun _ _ _ h => h) (Or.inl ⟨by rfl, ?_⟩) hHeld ?_
            rotate_left
            · (intro w hSw; (try dsimp only at hSw); go_simp; try (with_reducible rfl))
            try simp only [Act.put, List.setIfInBounds_toArray, List.set_cons_zero, List.set_cons_succ]
            refine wpAnyH_ready (rs := [12]) (by kernel_rfl) (by simp) ?_
            refine (AllReadyH.cons (o := ⟨_, _, _, _, _, _⟩) rfl (fun K hK => ?_) AllReadyH.nil)
            have k1 := D5.f1
            have kz := D5.fz 1
            go_simp
            clear k1 kz
            refine hK.out _ _ ?_ ?_
            · (try dsimp only); all_goals trivial
            clear hHeld hK K
            intro hHeld
            try simp only [Act.put, List.setIfInBounds_toArray, List.set_cons_zero, List.set_cons_succ]
            refine wpAnyH_done (by kernel_rfl) ?_ _
            have D := D5.stored
            clear D5
            generalize (w5.setCell ⟨t, 1, none⟩ (.slice a5 (ps.length + 1) n5)) = w9 at *
            have hF := D.finish
            have f0 := D.f0
            have f1 := D.f1
            obtain ⟨u0, k0⟩ := D.r0
            obtain ⟨u1, k1⟩ := D.r1
            have z0 := D.rz 0
            have z1 := D.rz 1
            have hst := D.st
            obtain ⟨hr, hrow, hsrc, hwi⟩ := hF
            have hsz9 := hrow.1
            clear D
            go_wp2
            refine bodyPost_ret (v := .agg #[.int .i64 fb, .slice a5 (ps.length + 1) n5]) (by simp only [results, Try.results56]; simp [go_sem, hr.1, hr.2]) rfl ?_
            first | refine ⟨fb, _, (ps ++ [(ch, gl)]), (q + 1 + 1), rfl, ⟨by simp; omega, by omega, by omega⟩, ?_, hsrc, hwi⟩ | refine ⟨fb, _, rfl, (ps ++ [(ch, gl)]), (q + 1 + 1), ⟨by simp; omega, by omega, by omega⟩, ?_, hsrc, hwi⟩ | refine ⟨_, rfl, (ps ++ [(ch, gl)]), ⟨by simp; omega, by omega, by omega⟩, ?_, hsrc, hwi⟩
            exact (own_pairs hrow (Nat.le_refl _)).mono (by have := HS.out; omega) (Nat.le_refl _)
        · skip
          go_simp
          go_at_call 50
          refine (l1Pick_f zs [61, 55296, 9999] a cap B V0.heap.size 3 3 q w0 _ hv HZ.out hlen D.src (by omega) (by omega) rfl (by omega) (by omega) (by omega) hA).mono ?_
          rintro e V2 ⟨ch, rfl, _, sN, xN⟩
          replace D := D.within sN xN
          clear hA
          clear sN xN
          try go_wp2_with fail
          refine hK.out _ _ ?_ ?_
          · (try dsimp only); all_goals trivial
          clear hHeld hK K
          intro hHeld
          try simp only [Act.put, List.setIfInBounds_toArray, List.set_cons_zero, List.set_cons_succ]
          refine wpAnyH_ready (rs := [1, 6]) (by kernel_rfl) (by simp) ?_
          refine (AllReadyH.cons (o := ⟨_, _, _, _, _, _⟩) rfl (fun K hK => ?_) (AllReadyH.cons (o := ⟨_, _, _, _, _, _⟩) rfl (fun K hK => ?_) AllReadyH.nil))
          · skip
            have k1 := D.f1
            go_simp
            clear k1
            refine hK.out _ _ ?_ ?_
            · (try dsimp only); all_goals trivial
            clear hHeld hK K
            intro hHeld
            try simp only [Act.put, List.setIfInBounds_toArray, List.set_cons_zero, List.set_cons_succ]
            refine wpAnyH_ready (rs := [6]) (by kernel_rfl) (by simp) ?_
            refine (AllReadyH.cons (o := ⟨_, _, _, _, _, _⟩) rfl (fun K hK => ?_) AllReadyH.nil)
            go_simp
            have hst2 := D.st
            have hb : Below V2.heap.size V2 (V2.alloc (.cells #[.int .i64 0, .int .i64 256] 2)) := (Below.refl _ _).alloc (Nat.le_refl _) _
            replace D := D.below hb
            have hBk : ∀ i, i < ([0, 256] : List Int).length → (V2.alloc (.cells #[.int .i64 0, .int .i64 256] 2)).cell? ⟨V2.heap.size, i, none⟩ = some (.int .i64 (([0, 256] : List Int).getD i 0)) := new_intsf rfl
            clear hb
            generalize (V2.alloc (.cells #[.int .i64 0, .int .i64 256] 2)) = V3 at *
            refine hK.out _ _ ?_ ?_
            · (try dsimp only); all_goals trivial
            clear hHeld hK K
            intro hHeld
            try simp only [Act.put, List.setIfInBounds_toArray, List.set_cons_zero, List.set_cons_succ]
            refine wpAnyH_ready (rs := [7]) (by kernel_rfl) (by simp) ?_
            refine (AllReadyH.cons (o := ⟨_, _, _, _, _, _⟩) rfl (fun K hK => ?_) AllReadyH.nil)
            go_simp
            go_at_call 50
            refine (l1Pick_f zs [0, 256] a cap B V2.heap.size 2 2 (q + 1) w0 _ hv HZ.out hlen D.src (by omega) (by omega) rfl (by omega) (by omega) (by omega) hBk).mono ?_
            rintro e V4 ⟨gl, rfl, _, sN, xN⟩
            replace D := D.within sN xN
            clear hBk
            clear sN xN
            try go_wp2_with fail
            refine hK.out _ _ ?_ ?_
            · (try dsimp only); all_goals trivial
            clear hHeld hK K
            intro hHeld
            try simp only [Act.put, List.setIfInBounds_toArray, List.set_cons_zero, List.set_cons_succ]
            refine wpAnyH_take (i := 8) (oi := ⟨_, _, _, _, _, _⟩) (v := ?_) rfl (by kernel_rfl) (by kernel_rfl) (by kernel_rfl) (fun _ _ _ h => h) (Or.inl ⟨by rfl, ?_⟩) hHeld ?_
            rotate_left
            · (intro w hSw; (try dsimp only at hSw); go_simp; try (with_reducible rfl))
            try simp only [Act.put, List.setIfInBounds_toArray, List.set_cons_zero, List.set_cons_succ]
            refine wpAnyH_ready (rs := [9]) (by kernel_rfl) (by simp) ?_
            refine (AllReadyH.cons (o := ⟨_, _, _, _, _, _⟩) rfl (fun K hK => ?_) AllReadyH.nil)
            go_simp
            have hst4 := D.st
            have hb : Below V4.heap.size V4 (V4.alloc (.cells #[.int .i64 ch, .int .i64 gl] 52)) := (Below.refl _ _).alloc (Nat.le_refl _) _
            replace D := D.below hb
            have hnew : ∀ j u, (pvs [(ch, gl)])[j]? = some u → (V4.alloc (.cells #[.int .i64 ch, .int .i64 gl] 52)).cell? ((⟨V4.heap.size, 0, none⟩ : Addr).add j) = some u := new_row_at rfl rfl
            clear hb
            generalize (V4.alloc (.cells #[.int .i64 ch, .int .i64 gl] 52)) = V5 at *
            refine hK.out _ _ ?_ ?_
            · (try dsimp only); all_goals trivial
            clear hHeld hK K
            intro hHeld
            try simp only [Act.put, List.setIfInBounds_toArray, List.set_cons_zero, List.set_cons_succ]
            refine wpAnyH_ready (rs := [10]) (by kernel_rfl) (by simp) ?_
            refine (AllReadyH.cons (o := ⟨_, _, _, _, _, _⟩) rfl (fun K hK => ?_) AllReadyH.nil)
            refine step_append_g rfl (.tmp 18) (.tmp 26) 48 rfl bs 52 i0 (.agg #[.int .i64 0, .int .i64 0]) 2 16 Try.underlying48 hi hz0 hz1 hz2 rfl (by decide) _ _ _ rfl D.row ⟨V4.heap.size, 0, none⟩ 1 1 (pvs [(ch, gl)]) rfl rfl hnew (pvs_one _) (by unfold maxLen; omega) (by omega) (by have := D.st; omega) ?_
            intro v5 w5 hown5 hg5
            rw [← pvs_append] at hown5
            have D5 := D.append hg5 (ps' := ps ++ [(ch, gl)]) (by simpa using hown5)
            obtain ⟨a5, n5, rfl⟩ := own_shapeD D5.row
            have hL : (ps ++ [(ch, gl)]).length = ps.length + 1 := by simp
            rw [hL] at D5
            clear D hown5 hg5 hnew hL
            refine hK.out _ _ ?_ ?_
            · (try dsimp only); all_goals trivial
            clear hHeld hK K
            intro hHeld
            try simp only [Act.put, List.setIfInBounds_toArray, List.set_cons_zero, List.set_cons_succ]
            refine wpAnyH_take (i := 11) (oi := ⟨_, _, _, _, _, _⟩) (v := ?_) rfl (by kernel_rfl) (by kernel_rfl) (by kernel_rfl) (fun _ _ _ h => h) (Or.inl ⟨by rfl, ?_⟩) hHeld ?_
            rotate_left
            · (intro w hSw; (try dsimp only at hSw); go_simp; try (with_reducible rfl))
            try simp only [Act.put, List.setIfInBounds_toArray, List.set_cons_zero, List.set_cons_succ]
            refine wpAnyH_ready (rs := [12]) (by kernel_rfl) (by simp) ?_
            refine (AllReadyH.cons (o := ⟨_, _, _, _, _, _⟩) rfl (fun K hK => ?_) AllReadyH.nil)
            have k1 := D5.f1
            have kz := D5.fz 1
            go_simp
            clear k1 kz
            refine hK.out _ _ ?_ ?_
            · (try dsimp only); all_goals trivial
            clear hHeld hK K
            intro hHeld
            try simp only [Act.put, List.setIfInBounds_toArray, List.set_cons_zero, List.set_cons_succ]
            refine wpAnyH_done (by kernel_rfl) ?_ _
            have D := D5.stored
            clear D5
            generalize (w5.setCell ⟨t, 1, none⟩ (.slice a5 (ps.length + 1) n5)) = w9 at *
            have hF := D.finish
            have f0 := D.f0
            have f1 := D.f1
            obtain ⟨u0, k0⟩ := D.r0
            obtain ⟨u1, k1⟩ := D.r1
            have z0 := D.rz 0
            have z1 := D.rz 1
            have hst := D.st
            obtain ⟨hr, hrow, hsrc, hwi⟩ := hF
            have hsz9 := hrow.1
            clear D
            go_wp2
            refine bodyPost_ret (v := .agg #[.int .i64 fb, .slice a5 (ps.length + 1) n5]) (by simp only [results, Try.results56]; simp [go_sem, hr.1, hr.2]) rfl ?_
            first | refine ⟨fb, _, (ps ++ [(ch, gl)]), (q + 1 + 1), rfl, ⟨by simp; omega, by omega, by omega⟩, ?_, hsrc, hwi⟩ | refine ⟨fb, _, rfl, (ps ++ [(ch, gl)]), (q + 1 + 1), ⟨by simp; omega, by omega, by omega⟩, ?_, hsrc, hwi⟩ | refine ⟨_, rfl, (ps ++ [(ch, gl)]), ⟨by simp; omega, by omega, by omega⟩, ?_, hsrc, hwi⟩
            exact (own_pairs hrow (Nat.le_refl _)).mono (by have := HS.out; omega) (Nat.le_refl _)
          · skip
            go_simp
            have hst2 := D.st
            have hb : Below V2.heap.size V2 (V2.alloc (.cells #[.int .i64 0, .int .i64 256] 2)) := (Below.refl _ _).alloc (Nat.le_refl _) _
            replace D := D.below hb
            have hBk : ∀ i, i < ([0, 256] : List Int).length → (V2.alloc (.cells #[.int .i64 0, .int .i64 256] 2)).cell? ⟨V2.heap.size, i, none⟩ = some (.int .i64 (([0, 256] : List Int).getD i 0)) := new_intsf rfl
            clear hb
            generalize (V2.alloc (.cells #[.int .i64 0, .int .i64 256] 2)) = V3 at *
            refine hK.out _ _ ?_ ?_
            · (try dsimp only); all_goals trivial
            clear hHeld hK K
            intro hHeld
            try simp only [Act.put, List.setIfInBounds_toArray, List.set_cons_zero, List.set_cons_succ]
            refine wpAnyH_ready (rs := [1, 7]) (by kernel_rfl) (by simp) ?_
            refine (AllReadyH.cons (o := ⟨_, _, _, _, _, _⟩) rfl (fun K hK => ?_) (AllReadyH.cons (o := ⟨_, _, _, _, _, _⟩) rfl (fun K hK => ?_) AllReadyH.nil))
            · skip
              have k1 := D.f1
              go_simp
              clear k1
              refine hK.out _ _ ?_ ?_
              · (try dsimp only); all_goals trivial
              clear hHeld hK K
              intro hHeld
              try simp only [Act.put, List.setIfInBounds_toArray, List.set_cons_zero, List.set_cons_succ]
              refine wpAnyH_ready (rs := [7]) (by kernel_rfl) (by simp) ?_
              refine (AllReadyH.cons (o := ⟨_, _, _, _, _, _⟩) rfl (fun K hK => ?_) AllReadyH.nil)
              go_simp
              go_at_call 50
              refine (l1Pick_f zs [0, 256] a cap B V2.heap.size 2 2 (q + 1) w0 _ hv HZ.out hlen D.src (by omega) (by omega) rfl (by omega) (by omega) (by omega) hBk).mono ?_
              rintro e V4 ⟨gl, rfl, _, sN, xN⟩
              replace D := D.within sN xN
              clear hBk
              clear sN xN
              try go_wp2_with fail
              refine hK.out _ _ ?_ ?_
              · (try dsimp only); all_goals trivial
              clear hHeld hK K
              intro hHeld
              try simp only [Act.put, List.setIfInBounds_toArray, List.set_cons_zero, List.set_cons_succ]
              refine wpAnyH_take (i := 8) (oi := ⟨_, _, _, _, _, _⟩) (v := ?_) rfl (by kernel_rfl) (by kernel_rfl) (by kernel_rfl) (fun _ _ _ h => h) (Or.inl ⟨by rfl, ?_⟩) hHeld ?_
              rotate_left
              · (intro w hSw; (try dsimp only at hSw); go_simp; try (with_reducible rfl))
              try simp only [Act.put, List.setIfInBounds_toArray, List.set_cons_zero, List.set_cons_succ]
              refine wpAnyH_ready (rs := [9]) (by kernel_rfl) (by simp) ?_
              refine (AllReadyH.cons (o := ⟨_, _, _, _, _, _⟩) rfl (fun K hK => ?_) AllReadyH.nil)
              go_simp
              have hst4 := D.st
              have hb : Below V4.heap.size V4 (V4.alloc (.cells #[.int .i64 ch, .int .i64 gl] 52)) := (Below.refl _ _).alloc (Nat.le_refl _) _
              replace D := D.below hb
              have hnew : ∀ j u, (pvs [(ch, gl)])[j]? = some u → (V4.alloc (.cells #[.int .i64 ch, .int .i64 gl] 52)).cell? ((⟨V4.heap.size, 0, none⟩ : Addr).add j) = some u := new_row_at rfl rfl
              clear hb
              generalize (V4.alloc (.cells #[.int .i64 ch, .int .i64 gl] 52)) = V5 at *
              refine hK.out _ _ ?_ ?_
              · (try dsimp only); all_goals trivial
              clear hHeld hK K
              intro hHeld
              try simp only [Act.put, List.setIfInBounds_toArray, List.set_cons_zero, List.set_cons_succ]
              refine wpAnyH_ready (rs := [10]) (by kernel_rfl) (by simp) ?_
              refine (AllReadyH.cons (o := ⟨_, _, _, _, _, _⟩) rfl (fun K hK => ?_) AllReadyH.nil)
              refine step_append_g rfl (.tmp 18) (.tmp 26) 48 rfl bs 52 i0 (.agg #[.int .i64 0, .int .i64 0]) 2 16 Try.underlying48 hi hz0 hz1 hz2 rfl (by decide) _ _ _ rfl D.row ⟨V4.heap.size, 0, none⟩ 1 1 (pvs [(ch, gl)]) rfl rfl hnew (pvs_one _) (by unfold maxLen; omega) (by omega) (by have := D.st; omega) ?_
              intro v5 w5 hown5 hg5
              rw [← pvs_append] at hown5
              have D5 := D.append hg5 (ps' := ps ++ [(ch, gl)]) (by simpa using hown5)
              obtain ⟨a5, n5, rfl⟩ := own_shapeD D5.row
              have hL : (ps ++ [(ch, gl)]).length = ps.length + 1 := by simp
              rw [hL] at D5
              clear D hown5 hg5 hnew hL
              refine hK.out _ _ ?_ ?_
              · (try dsimp only); all_goals trivial
              clear hHeld hK K
              intro hHeld
              try simp only [Act.put, List.setIfInBounds_toArray, List.set_cons_zero, List.set_cons_succ]
              refine wpAnyH_take (i := 11) (oi := ⟨_, _, _, _, _, _⟩) (v := ?_) rfl (by kernel_rfl) (by kernel_rfl) (by kernel_rfl) (fun _ _ _ h => h) (Or.inl ⟨by rfl, ?_⟩) hHeld ?_
              rotate_left
              · (intro w hSw; (try dsimp only at hSw); go_simp; try (with_reducible rfl))
              try simp only [Act.put, List.setIfInBounds_toArray, List.set_cons_zero, List.set_cons_succ]
              refine wpAnyH_ready (rs := [12]) (by kernel_rfl) (by simp) ?_
              refine (AllReadyH.cons (o := ⟨_, _, _, _, _, _⟩) rfl (fun K hK => ?_) AllReadyH.nil)
              have k1 := D5.f1
              have kz := D5.fz 1
              go_simp
              clear k1 kz
              refine hK.out _ _ ?_ ?_
              · (try dsimp only); all_goals trivial
              clear hHeld hK K
              intro hHeld
              try simp only [Act.put, List.setIfInBounds_toArray, List.set_cons_zero, List.set_cons_succ]
              refine wpAnyH_done (by kernel_rfl) ?_ _
              have D := D5.stored
              clear D5
              generalize (w5.setCell ⟨t, 1, none⟩ (.slice a5 (ps.length + 1) n5)) = w9 at *
              have hF := D.finish
              have f0 := D.f0
              have f1 := D.f1
              obtain ⟨u0, k0⟩ := D.r0
              obtain ⟨u1, k1⟩ := D.r1
              have z0 := D.rz 0
              have z1 := D.rz 1
              have hst := D.st
              obtain ⟨hr, hrow, hsrc, hwi⟩ := hF
              have hsz9 := hrow.1
              clear D
              go_wp2
              refine bodyPost_ret (v := .agg #[.int .i64 fb, .slice a5 (ps.length + 1) n5]) (by simp only [results, Try.results56]; simp [go_sem, hr.1, hr.2]) rfl ?_
              first | refine ⟨fb, _, (ps ++ [(ch, gl)]), (q + 1 + 1), rfl, ⟨by simp; omega, by omega, by omega⟩, ?_, hsrc, hwi⟩ | refine ⟨fb, _, rfl, (ps ++ [(ch, gl)]), (q + 1 + 1), ⟨by simp; omega, by omega, by omega⟩, ?_, hsrc, hwi⟩ | refine ⟨_, rfl, (ps ++ [(ch, gl)]), ⟨by simp; omega, by omega, by omega⟩, ?_, hsrc, hwi⟩
              exact (own_pairs hrow (Nat.le_refl _)).mono (by have := HS.out; omega) (Nat.le_refl _)
            · skip
              go_simp
              go_at_call 50
              refine (l1Pick_f zs [0, 256] a cap B V2.heap.size 2 2 (q + 1) w0 _ hv HZ.out hlen D.src (by omega) (by omega) rfl (by omega) (by omega) (by omega) hBk).mono ?_
              rintro e V4 ⟨gl, rfl, _, sN, xN⟩
              replace D := D.within sN xN
              clear hBk
              clear sN xN
              try go_wp2_with fail
              refine hK.out _ _ ?_ ?_
              · (try dsimp only); all_goals trivial
              clear hHeld hK K
              intro hHeld
              try simp only [Act.put, List.setIfInBounds_toArray, List.set_cons_zero, List.set_cons_succ]
              refine wpAnyH_take (i := 8) (oi := ⟨_, _, _, _, _, _⟩) (v := ?_) rfl (by kernel_rfl) (by kernel_rfl) (by kernel_rfl) (fun _ _ _ h => h) (Or.inl ⟨by rfl, ?_⟩) hHeld ?_
              rotate_left
              · (intro w hSw; (try dsimp only at hSw); go_simp; try (with_reducible rfl))
              try simp only [Act.put, List.setIfInBounds_toArray, List.set_cons_zero, List.set_cons_succ]
              refine wpAnyH_ready (rs := [1, 9]) (by kernel_rfl) (by simp) ?_
              refine (AllReadyH.cons (o := ⟨_, _, _, _, _, _⟩) rfl (fun K hK => ?_) (AllReadyH.cons (o := ⟨_, _, _, _, _, _⟩) rfl (fun K hK => ?_) AllReadyH.nil))
              · skip
                have k1 := D.f1
                go_simp
                clear k1
                refine hK.out _ _ ?_ ?_
                · (try dsimp only); all_goals trivial
                clear hHeld hK K
                intro hHeld
                try simp only [Act.put, List.setIfInBounds_toArray, List.set_cons_zero, List.set_cons_succ]
                refine wpAnyH_ready (rs := [9]) (by kernel_rfl) (by simp) ?_
                refine (AllReadyH.cons (o := ⟨_, _, _, _, _, _⟩) rfl (fun K hK => ?_) AllReadyH.nil)
                go_simp
                have hst4 := D.st
                have hb : Below V4.heap.size V4 (V4.alloc (.cells #[.int .i64 ch, .int .i64 gl] 52)) := (Below.refl _ _).alloc (Nat.le_refl _) _
                replace D := D.below hb
                have hnew : ∀ j u, (pvs [(ch, gl)])[j]? = some u → (V4.alloc (.cells #[.int .i64 ch, .int .i64 gl] 52)).cell? ((⟨V4.heap.size, 0, none⟩ : Addr).add j) = some u := new_row_at rfl rfl
                clear hb
                generalize (V4.alloc (.cells #[.int .i64 ch, .int .i64 gl] 52)) = V5 at *
                refine hK.out _ _ ?_ ?_
                · (try dsimp only); all_goals trivial
                clear hHeld hK K
                intro hHeld
                try simp only [Act.put, List.setIfInBounds_toArray, List.set_cons_zero, List.set_cons_succ]
                refine wpAnyH_ready (rs := [10]) (by kernel_rfl) (by simp) ?_
                refine (AllReadyH.cons (o := ⟨_, _, _, _, _, _⟩) rfl (fun K hK => ?_) AllReadyH.nil)
                refine step_append_g rfl (.tmp 18) (.tmp 26) 48 rfl bs 52 i0 (.agg #[.int .i64 0, .int .i64 0]) 2 16 Try.underlying48 hi hz0 hz1 hz2 rfl (by decide) _ _ _ rfl D.row ⟨V4.heap.size, 0, none⟩ 1 1 (pvs [(ch, gl)]) rfl rfl hnew (pvs_one _) (by unfold maxLen; omega) (by omega) (by have := D.st; omega) ?_
                intro v5 w5 hown5 hg5
                rw [← pvs_append] at hown5
                have D5 := D.append hg5 (ps' := ps ++ [(ch, gl)]) (by simpa using hown5)
                obtain ⟨a5, n5, rfl⟩ := own_shapeD D5.row
                have hL : (ps ++ [(ch, gl)]).length = ps.length + 1 := by simp
                rw [hL] at D5
                clear D hown5 hg5 hnew hL
                refine hK.out _ _ ?_ ?_
                · (try dsimp only); all_goals trivial
                clear hHeld hK K
                intro hHeld
                try simp only [Act.put, List.setIfInBounds_toArray, List.set_cons_zero, List.set_cons_succ]
                refine wpAnyH_take (i := 11) (oi := ⟨_, _, _, _, _, _⟩) (v := ?_) rfl (by kernel_rfl) (by kernel_rfl) (by kernel_rfl) (fun _ _ _ h => h) (Or.inl ⟨by rfl, ?_⟩) hHeld ?_
                rotate_left
                · (intro w hSw; (try dsimp only at hSw); go_simp; try (with_reducible rfl))
                try simp only [Act.put, List.setIfInBounds_toArray, List.set_cons_zero, List.set_cons_succ]
                refine wpAnyH_ready (rs := [12]) (by kernel_rfl) (by simp) ?_
                refine (AllReadyH.cons (o := ⟨_, _, _, _, _, _⟩) rfl (fun K hK => ?_) AllReadyH.nil)
                have k1 := D5.f1
                have kz := D5.fz 1
                go_simp
                clear k1 kz
                refine hK.out _ _ ?_ ?_
                · (try dsimp only); all_goals trivial
                clear hHeld hK K
                intro hHeld
                try simp only [Act.put, List.setIfInBounds_toArray, List.set_cons_zero, List.set_cons_succ]
                refine wpAnyH_done (by kernel_rfl) ?_ _
                have D := D5.stored
                clear D5
                generalize (w5.setCell ⟨t, 1, none⟩ (.slice a5 (ps.length + 1) n5)) = w9 at *
                have hF := D.finish
                have f0 := D.f0
                have f1 := D.f1
                obtain ⟨u0, k0⟩ := D.r0
                obtain ⟨u1, k1⟩ := D.r1
                have z0 := D.rz 0
                have z1 := D.rz 1
                have hst := D.st
                obtain ⟨hr, hrow, hsrc, hwi⟩ := hF
                have hsz9 := hrow.1
                clear D
                go_wp2
                refine bodyPost_ret (v := .agg #[.int .i64 fb, .slice a5 (ps.length + 1) n5]) (by simp only [results, Try.results56]; simp [go_sem, hr.1, hr.2]) rfl ?_
                first | refine ⟨fb, _, (ps ++ [(ch, gl)]), (q + 1 + 1), rfl, ⟨by simp; omega, by omega, by omega⟩, ?_, hsrc, hwi⟩ | refine ⟨fb, _, rfl, (ps ++ [(ch, gl)]), (q + 1 + 1), ⟨by simp; omega, by omega, by omega⟩, ?_, hsrc, hwi⟩ | refine ⟨_, rfl, (ps ++ [(ch, gl)]), ⟨by simp; omega, by omega, by omega⟩, ?_, hsrc, hwi⟩
                exact (own_pairs hrow (Nat.le_refl _)).mono (by have := HS.out; omega) (Nat.le_refl _)
              · skip
                go_simp
                have hst4 := D.st
                have hb : Below V4.heap.size V4 (V4.alloc (.cells #[.int .i64 ch, .int .i64 gl] 52)) := (Below.refl _ _).alloc (Nat.le_refl _) _
                replace D := D.below hb
                have hnew : ∀ j u, (pvs [(ch, gl)])[j]? = some u → (V4.alloc (.cells #[.int .i64 ch, .int .i64 gl] 52)).cell? ((⟨V4.heap.size, 0, none⟩ : Addr).add j) = some u := new_row_at rfl rfl
                clear hb
                generalize (V4.alloc (.cells #[.int .i64 ch, .int .i64 gl] 52)) = V5 at *
                refine hK.out _ _ ?_ ?_
                · (try dsimp only); all_goals trivial
                clear hHeld hK K
                intro hHeld
                try simp only [Act.put, List.setIfInBounds_toArray, List.set_cons_zero, List.set_cons_succ]
                refine wpAnyH_ready (rs := [1]) (by kernel_rfl) (by simp) ?_
                refine (AllReadyH.cons (o := ⟨_, _, _, _, _, _⟩) rfl (fun K hK => ?_) AllReadyH.nil)
                have k1 := D.f1
                go_simp
                clear k1
                refine hK.out _ _ ?_ ?_
                · (try dsimp only); all_goals trivial
                clear hHeld hK K
                intro hHeld
                try simp only [Act.put, List.setIfInBounds_toArray, List.set_cons_zero, List.set_cons_succ]
                refine wpAnyH_ready (rs := [10]) (by kernel_rfl) (by simp) ?_
                refine (AllReadyH.cons (o := ⟨_, _, _, _, _, _⟩) rfl (fun K hK => ?_) AllReadyH.nil)
                refine step_append_g rfl (.tmp 18) (.tmp 26) 48 rfl bs 52 i0 (.agg #[.int .i64 0, .int .i64 0]) 2 16 Try.underlying48 hi hz0 hz1 hz2 rfl (by decide) _ _ _ rfl D.row ⟨V4.heap.size, 0, none⟩ 1 1 (pvs [(ch, gl)]) rfl rfl hnew (pvs_one _) (by unfold maxLen; omega) (by omega) (by have := D.st; omega) ?_
                intro v5 w5 hown5 hg5
                rw [← pvs_append] at hown5
                have D5 := D.append hg5 (ps' := ps ++ [(ch, gl)]) (by simpa using hown5)
                obtain ⟨a5, n5, rfl⟩ := own_shapeD D5.row
                have hL : (ps ++ [(ch, gl)]).length = ps.length + 1 := by simp
                rw [hL] at D5
                clear D hown5 hg5 hnew hL
                refine hK.out _ _ ?_ ?_
                · (try dsimp only); all_goals trivial
                clear hHeld hK K
                intro hHeld
                try simp only [Act.put, List.setIfInBounds_toArray, List.set_cons_zero, List.set_cons_succ]
                refine wpAnyH_take (i := 11) (oi := ⟨_, _, _, _, _, _⟩) (v := ?_) rfl (by kernel_rfl) (by kernel_rfl) (by kernel_rfl) (fun _ _ _ h => h) (Or.inl ⟨by rfl, ?_⟩) hHeld ?_
                rotate_left
                · (intro w hSw; (try dsimp only at hSw); go_simp; try (with_reducible rfl))
                try simp only [Act.put, List.setIfInBounds_toArray, List.set_cons_zero, List.set_cons_succ]
                refine wpAnyH_ready (rs := [12]) (by kernel_rfl) (by simp) ?_
                refine (AllReadyH.cons (o := ⟨_, _, _, _, _, _⟩) rfl (fun K hK => ?_) AllReadyH.nil)
                have k1 := D5.f1
                have kz := D5.fz 1
                go_simp
                clear k1 kz
                refine hK.out _ _ ?_ ?_
                · (try dsimp only); all_goals trivial
                clear hHeld hK K
                intro hHeld
                try simp only [Act.put, List.setIfInBounds_toArray, List.set_cons_zero, List.set_cons_succ]
                refine wpAnyH_done (by kernel_rfl) ?_ _
                have D := D5.stored
                clear D5
                generalize (w5.setCell ⟨t, 1, none⟩ (.slice a5 (ps.length + 1) n5)) = w9 at *
                have hF := D.finish
                have f0 := D.f0
                have f1 := D.f1
                obtain ⟨u0, k0⟩ := D.r0
                obtain ⟨u1, k1⟩ := D.r1
                have z0 := D.rz 0
                have z1 := D.rz 1
                have hst := D.st
                obtain ⟨hr, hrow, hsrc, hwi⟩ := hF
                have hsz9 := hrow.1
                clear D
                go_wp2
                refine bodyPost_ret (v := .agg #[.int .i64 fb, .slice a5 (ps.length + 1) n5]) (by simp only [results, Try.results56]; simp [go_sem, hr.1, hr.2]) rfl ?_
                first | refine ⟨fb, _, (ps ++ [(ch, gl)]), (q + 1 + 1), rfl, ⟨by simp; omega, by omega, by omega⟩, ?_, hsrc, hwi⟩ | refine ⟨fb, _, rfl, (ps ++ [(ch, gl)]), (q + 1 + 1), ⟨by simp; omega, by omega, by omega⟩, ?_, hsrc, hwi⟩ | refine ⟨_, rfl, (ps ++ [(ch, gl)]), ⟨by simp; omega, by omega, by omega⟩, ?_, hsrc, hwi⟩
                exact (own_pairs hrow (Nat.le_refl _)).mono (by have := HS.out; omega) (Nat.le_refl _)
        · skip
          go_simp
          have hst1 := D.st
          have hb : Below V1.heap.size V1 (V1.alloc (.cells #[.int .i64 0, .int .i64 256] 2)) := (Below.refl _ _).alloc (Nat.le_refl _) _
          replace D := D.below hb
          replace hA := fun i hi => cellb hb (hA i hi)
          have hBk : ∀ i, i < ([0, 256] : List Int).length → (V1.alloc (.cells #[.int .i64 0, .int .i64 256] 2)).cell? ⟨V1.heap.size, i, none⟩ = some (.int .i64 (([0, 256] : List Int).getD i 0)) := new_intsf rfl
          clear hb
          generalize (V1.alloc (.cells #[.int .i64 0, .int .i64 256] 2)) = V2 at *
          refine hK.out _ _ ?_ ?_
          · (try dsimp only); all_goals trivial
          clear hHeld hK K
          intro hHeld
          try simp only [Act.put, List.setIfInBounds_toArray, List.set_cons_zero, List.set_cons_succ]
          refine wpAnyH_ready (rs := [1, 4]) (by kernel_rfl) (by simp) ?_
          refine (AllReadyH.cons (o := ⟨_, _, _, _, _, _⟩) rfl (fun K hK => ?_) (AllReadyH.cons (o := ⟨_, _, _, _, _, _⟩) rfl (fun K hK => ?_) AllReadyH.nil))
          · skip
            have k1 := D.f1
            go_simp
            clear k1
            refine hK.out _ _ ?_ ?_
            · (try dsimp only); all_goals trivial
            clear hHeld hK K
            intro hHeld
            try simp only [Act.put, List.setIfInBounds_toArray, List.set_cons_zero, List.set_cons_succ]
            refine wpAnyH_ready (rs := [4]) (by kernel_rfl) (by simp) ?_
            refine (AllReadyH.cons (o := ⟨_, _, _, _, _, _⟩) rfl (fun K hK => ?_) AllReadyH.nil)
            go_simp
            go_at_call 50
            refine (l1Pick_f zs [61, 55296, 9999] a cap B V0.heap.size 3 3 q w0 _ hv HZ.out hlen D.src (by omega) (by omega) rfl (by omega) (by omega) (by omega) hA).mono ?_
            rintro e V3 ⟨ch, rfl, _, sN, xN⟩
            replace D := D.within sN xN
            clear hA
            replace hBk := fun i hi => xN.cellf (by omega) (hBk i hi)
            clear sN xN
            try go_wp2_with fail
            refine hK.out _ _ ?_ ?_
            · (try dsimp only); all_goals trivial
            clear hHeld hK K
            intro hHeld
            try simp only [Act.put, List.setIfInBounds_toArray, List.set_cons_zero, List.set_cons_succ]
            refine wpAnyH_ready (rs := [7]) (by kernel_rfl) (by simp) ?_
            refine (AllReadyH.cons (o := ⟨_, _, _, _, _, _⟩) rfl (fun K hK => ?_) AllReadyH.nil)
            go_simp
            go_at_call 50
            refine (l1Pick_f zs [0, 256] a cap B V1.heap.size 2 2 (q + 1) w0 _ hv HZ.out hlen D.src (by omega) (by omega) rfl (by omega) (by omega) (by omega) hBk).mono ?_
            rintro e V4 ⟨gl, rfl, _, sN, xN⟩
            replace D := D.within sN xN
            clear hBk
            clear sN xN
            try go_wp2_with fail
            refine hK.out _ _ ?_ ?_
            · (try dsimp only); all_goals trivial
            clear hHeld hK K
            intro hHeld
            try simp only [Act.put, List.setIfInBounds_toArray, List.set_cons_zero, List.set_cons_succ]
            refine wpAnyH_take (i := 8) (oi := ⟨_, _, _, _, _, _⟩) (v := ?_) rfl (by kernel_rfl) (by kernel_rfl) (by kernel_rfl) (fun _ _ _ h => h) (Or.inl ⟨by rfl, ?_⟩) hHeld ?_
            rotate_left
            · (intro w hSw; (try dsimp only at hSw); go_simp; try (with_reducible rfl))
            try simp only [Act.put, List.setIfInBounds_toArray, List.set_cons_zero, List.set_cons_succ]
            refine wpAnyH_ready (rs := [9]) (by kernel_rfl) (by simp) ?_
            refine (AllReadyH.cons (o := ⟨_, _, _, _, _, _⟩) rfl (fun K hK => ?_) AllReadyH.nil)
            go_simp
            have hst4 := D.st
            have hb : Below V4.heap.size V4 (V4.alloc (.cells #[.int .i64 ch, .int .i64 gl] 52)) := (Below.refl _ _).alloc (Nat.le_refl _) _
            replace D := D.below hb
            have hnew : ∀ j u, (pvs [(ch, gl)])[j]? = some u → (V4.alloc (.cells #[.int .i64 ch, .int .i64 gl] 52)).cell? ((⟨V4.heap.size, 0, none⟩ : Addr).add j) = some u := new_row_at rfl rfl
            clear hb
            generalize (V4.alloc (.cells #[.int .i64 ch, .int .i64 gl] 52)) = V5 at *
            refine hK.out _ _ ?_ ?_
            · (try dsimp only); all_goals trivial
            clear hHeld hK K
            intro hHeld
            try simp only [Act.put, List.setIfInBounds_toArray, List.set_cons_zero, List.set_cons_succ]
            refine wpAnyH_ready (rs := [10]) (by kernel_rfl) (by simp) ?_
            refine (AllReadyH.cons (o := ⟨_, _, _, _, _, _⟩) rfl (fun K hK => ?_) AllReadyH.nil)
            refine step_append_g rfl (.tmp 18) (.tmp 26) 48 rfl bs 52 i0 (.agg #[.int .i64 0, .int .i64 0]) 2 16 Try.underlying48 hi hz0 hz1 hz2 rfl (by decide) _ _ _ rfl D.row ⟨V4.heap.size, 0, none⟩ 1 1 (pvs [(ch, gl)]) rfl rfl hnew (pvs_one _) (by unfold maxLen; omega) (by omega) (by have := D.st; omega) ?_
            intro v5 w5 hown5 hg5
            rw [← pvs_append] at hown5
            have D5 := D.append hg5 (ps' := ps ++ [(ch, gl)]) (by simpa using hown5)
            obtain ⟨a5, n5, rfl⟩ := own_shapeD D5.row
            have hL : (ps ++ [(ch, gl)]).length = ps.length + 1 := by simp
            rw [hL] at D5
            clear D hown5 hg5 hnew hL
            refine hK.out _ _ ?_ ?_
            · (try dsimp only); all_goals trivial
            clear hHeld hK K
            intro hHeld
            try simp only [Act.put, List.setIfInBounds_toArray, List.set_cons_zero, List.set_cons_succ]
            refine wpAnyH_take (i := 11) (oi := ⟨_, _, _, _, _, _⟩) (v := ?_) rfl (by kernel_rfl) (by kernel_rfl) (by kernel_rfl) (fun _ _ _ h => h) (Or.inl ⟨by rfl, ?_⟩) hHeld ?_
            rotate_left
            · (intro w hSw; (try dsimp only at hSw); go_simp; try (with_reducible rfl))
            try simp only [Act.put, List.setIfInBounds_toArray, List.set_cons_zero, List.set_cons_succ]
            refine wpAnyH_ready (rs := [12]) (by kernel_rfl) (by simp) ?_
            refine (AllReadyH.cons (o := ⟨_, _, _, _, _, _⟩) rfl (fun K hK => ?_) AllReadyH.nil)
            have k1 := D5.f1
            have kz := D5.fz 1
            go_simp
            clear k1 kz
            refine hK.out _ _ ?_ ?_
            · (try dsimp only); all_goals trivial
            clear hHeld hK K
            intro hHeld
            try simp only [Act.put, List.setIfInBounds_toArray, List.set_cons_zero, List.set_cons_succ]
            refine wpAnyH_done (by kernel_rfl) ?_ _
            have D := D5.stored
            clear D5
            generalize (w5.setCell ⟨t, 1, none⟩ (.slice a5 (ps.length + 1) n5)) = w9 at *
            have hF := D.finish
            have f0 := D.f0
            have f1 := D.f1
            obtain ⟨u0, k0⟩ := D.r0
            obtain ⟨u1, k1⟩ := D.r1
            have z0 := D.rz 0
            have z1 := D.rz 1
            have hst := D.st
            obtain ⟨hr, hrow, hsrc, hwi⟩ := hF
            have hsz9 := hrow.1
            clear D
            go_wp2
            refine bodyPost_ret (v := .agg #[.int .i64 fb, .slice a5 (ps.length + 1) n5]) (by simp only [results, Try.results56]; simp [go_sem, hr.1, hr.2]) rfl ?_
            first | refine ⟨fb, _, (ps ++ [(ch, gl)]), (q + 1 + 1), rfl, ⟨by simp; omega, by omega, by omega⟩, ?_, hsrc, hwi⟩ | refine ⟨fb, _, rfl, (ps ++ [(ch, gl)]), (q + 1 + 1), ⟨by simp; omega, by omega, by omega⟩, ?_, hsrc, hwi⟩ | refine ⟨_, rfl, (ps ++ [(ch, gl)]), ⟨by simp; omega, by omega, by omega⟩, ?_, hsrc, hwi⟩
            exact (own_pairs hrow (Nat.le_refl _)).mono (by have := HS.out; omega) (Nat.le_refl _)
          · skip
            go_simp
            go_at_call 50
            refine (l1Pick_f zs [61, 55296, 9999] a cap B V0.heap.size 3 3 q w0 _ hv HZ.out hlen D.src (by omega) (by omega) rfl (by omega) (by omega) (by omega) hA).mono ?_
            rintro e V3 ⟨ch, rfl, _, sN, xN⟩
            replace D := D.within sN xN
            clear hA
            replace hBk := fun i hi => xN.cellf (by omega) (hBk i hi)
            clear sN xN
            try go_wp2_with fail
            refine hK.out _ _ ?_ ?_
            · (try dsimp only); all_goals trivial
            clear hHeld hK K
            intro hHeld
            try simp only [Act.put, List.setIfInBounds_toArray, List.set_cons_zero, List.set_cons_succ]
            refine wpAnyH_ready (rs := [1, 7]) (by kernel_rfl) (by simp) ?_
            refine (AllReadyH.cons (o := ⟨_, _, _, _, _, _⟩) rfl (fun K hK => ?_) (AllReadyH.cons (o := ⟨_, _, _, _, _, _⟩) rfl (fun K hK => ?_) AllReadyH.nil))
            · skip
              have k1 := D.f1
              go_simp
              clear k1
              refine hK.out _ _ ?_ ?_
              · (try dsimp only); all_goals trivial
              clear hHeld hK K
              intro hHeld
              try simp only [Act.put, List.setIfInBounds_toArray, List.set_cons_zero, List.set_cons_succ]
              refine wpAnyH_ready (rs := [7]) (by kernel_rfl) (by simp) ?_
              refine (AllReadyH.cons (o := ⟨_, _, _, _, _, _⟩) rfl (fun K hK => ?_) AllReadyH.nil)
              go_simp
              go_at_call 50
              refine (l1Pick_f zs [0, 256] a cap B V1.heap.size 2 2 (q + 1) w0 _ hv HZ.out hlen D.src (by omega) (by omega) rfl (by omega) (by omega) (by omega) hBk).mono ?_
              rintro e V4 ⟨gl, rfl, _, sN, xN⟩
              replace D := D.within sN xN
              clear hBk
              clear sN xN
              try go_wp2_with fail
              refine hK.out _ _ ?_ ?_
              · (try dsimp only); all_goals trivial
              clear hHeld hK K
              intro hHeld
              try simp only [Act.put, List.setIfInBounds_toArray, List.set_cons_zero, List.set_cons_succ]
              refine wpAnyH_take (i := 8) (oi := ⟨_, _, _, _, _, _⟩) (v := ?_) rfl (by kernel_rfl) (by kernel_rfl) (by kernel_rfl) (fun _ _ _ h => h) (Or.inl ⟨by rfl, ?_⟩) hHeld ?_
              rotate_left
              · (intro w hSw; (try dsimp only at hSw); go_simp; try (with_reducible rfl))
              try simp only [Act.put, List.setIfInBounds_toArray, List.set_cons_zero, List.set_cons_succ]
              refine wpAnyH_ready (rs := [9]) (by kernel_rfl) (by simp) ?_
              refine (AllReadyH.cons (o := ⟨_, _, _, _, _, _⟩) rfl (fun K hK => ?_) AllReadyH.nil)
              go_simp
              have hst4 := D.st
              have hb : Below V4.heap.size V4 (V4.alloc (.cells #[.int .i64 ch, .int .i64 gl] 52)) := (Below.refl _ _).alloc (Nat.le_refl _) _
              replace D := D.below hb
              have hnew : ∀ j u, (pvs [(ch, gl)])[j]? = some u → (V4.alloc (.cells #[.int .i64 ch, .int .i64 gl] 52)).cell? ((⟨V4.heap.size, 0, none⟩ : Addr).add j) = some u := new_row_at rfl rfl
              clear hb
              generalize (V4.alloc (.cells #[.int .i64 ch, .int .i64 gl] 52)) = V5 at *
              refine hK.out _ _ ?_ ?_
              · (try dsimp only); all_goals trivial
              clear hHeld hK K
              intro hHeld
              try simp only [Act.put, List.setIfInBounds_toArray, List.set_cons_zero, List.set_cons_succ]
              refine wpAnyH_ready (rs := [10]) (by kernel_rfl) (by simp) ?_
              refine (AllReadyH.cons (o := ⟨_, _, _, _, _, _⟩) rfl (fun K hK => ?_) AllReadyH.nil)
              refine step_append_g rfl (.tmp 18) (.tmp 26) 48 rfl bs 52 i0 (.agg #[.int .i64 0, .int .i64 0]) 2 16 Try.underlying48 hi hz0 hz1 hz2 rfl (by decide) _ _ _ rfl D.row ⟨V4.heap.size, 0, none⟩ 1 1 (pvs [(ch, gl)]) rfl rfl hnew (pvs_one _) (by unfold maxLen; omega) (by omega) (by have := D.st; omega) ?_
              intro v5 w5 hown5 hg5
              rw [← pvs_append] at hown5
              have D5 := D.append hg5 (ps' := ps ++ [(ch, gl)]) (by simpa using hown5)
              obtain ⟨a5, n5, rfl⟩ := own_shapeD D5.row
              have hL : (ps ++ [(ch, gl)]).length = ps.length + 1 := by simp
              rw [hL] at D5
              clear D hown5 hg5 hnew hL
              refine hK.out _ _ ?_ ?_
              · (try dsimp only); all_goals trivial
              clear hHeld hK K
              intro hHeld
              try simp only [Act.put, List.setIfInBounds_toArray, List.set_cons_zero, List.set_cons_succ]
              refine wpAnyH_take (i := 11) (oi := ⟨_, _, _, _, _, _⟩) (v := ?_) rfl (by kernel_rfl) (by kernel_rfl) (by kernel_rfl) (fun _ _ _ h => h) (Or.inl ⟨by rfl, ?_⟩) hHeld ?_
              rotate_left
              · (intro w hSw; (try dsimp only at hSw); go_simp; try (with_reducible rfl))
              try simp only [Act.put, List.setIfInBounds_toArray, List.set_cons_zero, List.set_cons_succ]
              refine wpAnyH_ready (rs := [12]) (by kernel_rfl) (by simp) ?_
              refine (AllReadyH.cons (o := ⟨_, _, _, _, _, _⟩) rfl (fun K hK => ?_) AllReadyH.nil)
              have k1 := D5.f1
              have kz := D5.fz 1
              go_simp
              clear k1 kz
              refine hK.out _ _ ?_ ?_
              · (try dsimp only); all_goals trivial
              clear hHeld hK K
              intro hHeld
              try simp only [Act.put, List.setIfInBounds_toArray, List.set_cons_zero, List.set_cons_succ]
              refine wpAnyH_done (by kernel_rfl) ?_ _
              have D := D5.stored
              clear D5
              generalize (w5.setCell ⟨t, 1, none⟩ (.slice a5 (ps.length + 1) n5)) = w9 at *
              have hF := D.finish
              have f0 := D.f0
              have f1 := D.f1
              obtain ⟨u0, k0⟩ := D.r0
              obtain ⟨u1, k1⟩ := D.r1
              have z0 := D.rz 0
              have z1 := D.rz 1
              have hst := D.st
              obtain ⟨hr, hrow, hsrc, hwi⟩ := hF
              have hsz9 := hrow.1
              clear D
              go_wp2
              refine bodyPost_ret (v := .agg #[.int .i64 fb, .slice a5 (ps.length + 1) n5]) (by simp only [results, Try.results56]; simp [go_sem, hr.1, hr.2]) rfl ?_
              first | refine ⟨fb, _, (ps ++ [(ch, gl)]), (q + 1 + 1), rfl, ⟨by simp; omega, by omega, by omega⟩, ?_, hsrc, hwi⟩ | refine ⟨fb, _, rfl, (ps ++ [(ch, gl)]), (q + 1 + 1), ⟨by simp; omega, by omega, by omega⟩, ?_, hsrc, hwi⟩ | refine ⟨_, rfl, (ps ++ [(ch, gl)]), ⟨by simp; omega, by omega, by omega⟩, ?_, hsrc, hwi⟩
              exact (own_pairs hrow (Nat.le_refl _)).mono (by have := HS.out; omega) (Nat.le_refl _)
            · skip
              go_simp
              go_at_call 50
              refine (l1Pick_f zs [0, 256] a cap B V1.heap.size 2 2 (q + 1) w0 _ hv HZ.out hlen D.src (by omega) (by omega) rfl (by omega) (by omega) (by omega) hBk).mono ?_
              rintro e V4 ⟨gl, rfl, _, sN, xN⟩
              replace D := D.within sN xN
              clear hBk
              clear sN xN
              try go_wp2_with fail
              refine hK.out _ _ ?_ ?_
              · (try dsimp only); all_goals trivial
              clear hHeld hK K
              intro hHeld
              try simp only [Act.put, List.setIfInBounds_toArray, List.set_cons_zero, List.set_cons_succ]
              refine wpAnyH_take (i := 8) (oi := ⟨_, _, _, _, _, _⟩) (v := ?_) rfl (by kernel_rfl) (by kernel_rfl) (by kernel_rfl) (fun _ _ _ h => h) (Or.inl ⟨by rfl, ?_⟩) hHeld ?_
              rotate_left
              · (intro w hSw; (try dsimp only at hSw); go_simp; try (with_reducible rfl))
              try simp only [Act.put, List.setIfInBounds_toArray, List.set_cons_zero, List.set_cons_succ]
              refine wpAnyH_ready (rs := [1, 9]) (by kernel_rfl) (by simp) ?_
              refine (AllReadyH.cons (o := ⟨_, _, _, _, _, _⟩) rfl (fun K hK => ?_) (AllReadyH.cons (o := ⟨_, _, _, _, _, _⟩) rfl (fun K hK => ?_) AllReadyH.nil))
              · skip
                have k1 := D.f1
                go_simp
                clear k1
                refine hK.out _ _ ?_ ?_
                · (try dsimp only); all_goals trivial
                clear hHeld hK K
                intro hHeld
                try simp only [Act.put, List.setIfInBounds_toArray, List.set_cons_zero, List.set_cons_succ]
                refine wpAnyH_ready (rs := [9]) (by kernel_rfl) (by simp) ?_
                refine (AllReadyH.cons (o := ⟨_, _, _, _, _, _⟩) rfl (fun K hK => ?_) AllReadyH.nil)
                go_simp
                have hst4 := D.st
                have hb : Below V4.heap.size V4 (V4.alloc (.cells #[.int .i64 ch, .int .i64 gl] 52)) := (Below.refl _ _).alloc (Nat.le_refl _) _
                replace D := D.below hb
                have hnew : ∀ j u, (pvs [(ch, gl)])[j]? = some u → (V4.alloc (.cells #[.int .i64 ch, .int .i64 gl] 52)).cell? ((⟨V4.heap.size, 0, none⟩ : Addr).add j) = some u := new_row_at rfl rfl
                clear hb
                generalize (V4.alloc (.cells #[.int .i64 ch, .int .i64 gl] 52)) = V5 at *
                refine hK.out _ _ ?_ ?_
                · (try dsimp only); all_goals trivial
                clear hHeld hK K
                intro hHeld
                try simp only [Act.put, List.setIfInBounds_toArray, List.set_cons_zero, List.set_cons_succ]
                refine wpAnyH_ready (rs := [10]) (by kernel_rfl) (by simp) ?_
                refine (AllReadyH.cons (o := ⟨_, _, _, _, _, _⟩) rfl (fun K hK => ?_) AllReadyH.nil)
                refine step_append_g rfl (.tmp 18) (.tmp 26) 48 rfl bs 52 i0 (.agg #[.int .i64 0, .int .i64 0]) 2 16 Try.underlying48 hi hz0 hz1 hz2 rfl (by decide) _ _ _ rfl D.row ⟨V4.heap.size, 0, none⟩ 1 1 (pvs [(ch, gl)]) rfl rfl hnew (pvs_one _) (by unfold maxLen; omega) (by omega) (by have := D.st; omega) ?_
                intro v5 w5 hown5 hg5
                rw [← pvs_append] at hown5
                have D5 := D.append hg5 (ps' := ps ++ [(ch, gl)]) (by simpa using hown5)
                obtain ⟨a5, n5, rfl⟩ := own_shapeD D5.row
                have hL : (ps ++ [(ch, gl)]).length = ps.length + 1 := by simp
                rw [hL] at D5
                clear D hown5 hg5 hnew hL
                refine hK.out _ _ ?_ ?_
                · (try dsimp only); all_goals trivial
                clear hHeld hK K
                intro hHeld
                try simp only [Act.put, List.setIfInBounds_toArray, List.set_cons_zero, List.set_cons_succ]
                refine wpAnyH_take (i := 11) (oi := ⟨_, _, _, _, _, _⟩) (v := ?_) rfl (by kernel_rfl) (by kernel_rfl) (by kernel_rfl) (fun _ _ _ h => h) (Or.inl ⟨by rfl, ?_⟩) hHeld ?_
                rotate_left
                · (intro w hSw; (try dsimp only at hSw); go_simp; try (with_reducible rfl))
                try simp only [Act.put, List.setIfInBounds_toArray, List.set_cons_zero, List.set_cons_succ]
                refine wpAnyH_ready (rs := [12]) (by kernel_rfl) (by simp) ?_
                refine (AllReadyH.cons (o := ⟨_, _, _, _, _, _⟩) rfl (fun K hK => ?_) AllReadyH.nil)
                have k1 := D5.f1
                have kz := D5.fz 1
                go_simp
                clear k1 kz
                refine hK.out _ _ ?_ ?_
                · (try dsimp only); all_goals trivial
                clear hHeld hK K
                intro hHeld
                try simp only [Act.put, List.setIfInBounds_toArray, List.set_cons_zero, List.set_cons_succ]
                refine wpAnyH_done (by kernel_rfl) ?_ _
                have D := D5.stored
                clear D5
                generalize (w5.setCell ⟨t, 1, none⟩ (.slice a5 (ps.length + 1) n5)) = w9 at *
                have hF := D.finish
                have f0 := D.f0
                have f1 := D.f1
                obtain ⟨u0, k0⟩ := D.r0
                obtain ⟨u1, k1⟩ := D.r1
                have z0 := D.rz 0
                have z1 := D.rz 1
                have hst := D.st
                obtain ⟨hr, hrow, hsrc, hwi⟩ := hF
                have hsz9 := hrow.1
                clear D
                go_wp2
                refine bodyPost_ret (v := .agg #[.int .i64 fb, .slice a5 (ps.length + 1) n5]) (by simp only [results, Try.results56]; simp [go_sem, hr.1, hr.2]) rfl ?_
                first | refine ⟨fb, _, (ps ++ [(ch, gl)]), (q + 1 + 1), rfl, ⟨by simp; omega, by omega, by omega⟩, ?_, hsrc, hwi⟩ | refine ⟨fb, _, rfl, (ps ++ [(ch, gl)]), (q + 1 + 1), ⟨by simp; omega, by omega, by omega⟩, ?_, hsrc, hwi⟩ | refine ⟨_, rfl, (ps ++ [(ch, gl)]), ⟨by simp; omega, by omega, by omega⟩, ?_, hsrc, hwi⟩
                exact (own_pairs hrow (Nat.le_refl _)).mono (by have := HS.out; omega) (Nat.le_refl _)
              · skip
                go_simp
                have hst4 := D.st
                have hb : Below V4.heap.size V4 (V4.alloc (.cells #[.int .i64 ch, .int .i64 gl] 52)) := (Below.refl _ _).alloc (Nat.le_refl _) _
                replace D := D.below hb
                have hnew : ∀ j u, (pvs [(ch, gl)])[j]? = some u → (V4.alloc (.cells #[.int .i64 ch, .int .i64 gl] 52)).cell? ((⟨V4.heap.size, 0, none⟩ : Addr).add j) = some u := new_row_at rfl rfl
                clear hb
                generalize (V4.alloc (.cells #[.int .i64 ch, .int .i64 gl] 52)) = V5 at *
                refine hK.out _ _ ?_ ?_
                · (try dsimp only); all_goals trivial
                clear hHeld hK K
                intro hHeld
                try simp only [Act.put, List.setIfInBounds_toArray, List.set_cons_zero, List.set_cons_succ]
                refine wpAnyH_ready (rs := [1]) (by kernel_rfl) (by simp) ?_
                refine (AllReadyH.cons (o := ⟨_, _, _, _, _, _⟩) rfl (fun K hK => ?_) AllReadyH.nil)
                have k1 := D.f1
                go_simp
                clear k1
                refine hK.out _ _ ?_ ?_
                · (try dsimp only); all_goals trivial
                clear hHeld hK K
                intro hHeld
                try simp only [Act.put, List.setIfInBounds_toArray, List.set_cons_zero, List.set_cons_succ]
                refine wpAnyH_ready (rs := [10]) (by kernel_rfl) (by simp) ?_
                refine (AllReadyH.cons (o := ⟨_, _, _, _, _, _⟩) rfl (fun K hK => ?_) AllReadyH.nil)
                refine step_append_g rfl (.tmp 18) (.tmp 26) 48 rfl bs 52 i0 (.agg #[.int .i64 0, .int .i64 0]) 2 16 Try.underlying48 hi hz0 hz1 hz2 rfl (by decide) _ _ _ rfl D.row ⟨V4.heap.size, 0, none⟩ 1 1 (pvs [(ch, gl)]) rfl rfl hnew (pvs_one _) (by unfold maxLen; omega) (by omega) (by have := D.st; omega) ?_
                intro v5 w5 hown5 hg5
                rw [← pvs_append] at hown5
                have D5 := D.append hg5 (ps' := ps ++ [(ch, gl)]) (by simpa using hown5)
                obtain ⟨a5, n5, rfl⟩ := own_shapeD D5.row
                have hL : (ps ++ [(ch, gl)]).length = ps.length + 1 := by simp
                rw [hL] at D5
                clear D hown5 hg5 hnew hL
                refine hK.out _ _ ?_ ?_
                · (try dsimp only); all_goals trivial
                clear hHeld hK K
                intro hHeld
                try simp only [Act.put, List.setIfInBounds_toArray, List.set_cons_zero, List.set_cons_succ]
                refine wpAnyH_take (i := 11) (oi := ⟨_, _, _, _, _, _⟩) (v := ?_) rfl (by kernel_rfl) (by kernel_rfl) (by kernel_rfl) (fun _ _ _ h => h) (Or.inl ⟨by rfl, ?_⟩) hHeld ?_
                rotate_left
                · (intro w hSw; (try dsimp only at hSw); go_simp; try (with_reducible rfl))
                try simp only [Act.put, List.setIfInBounds_toArray, List.set_cons_zero, List.set_cons_succ]
                refine wpAnyH_ready (rs := [12]) (by kernel_rfl) (by simp) ?_
                refine (AllReadyH.cons (o := ⟨_, _, _, _, _, _⟩) rfl (fun K hK => ?_) AllReadyH.nil)
                have k1 := D5.f1
                have kz := D5.fz 1
                go_simp
                clear k1 kz
                refine hK.out _ _ ?_ ?_
                · (try dsimp only); all_goals trivial
                clear hHeld hK K
                intro hHeld
                try simp only [Act.put, List.setIfInBounds_toArray, List.set_cons_zero, List.set_cons_succ]
                refine wpAnyH_done (by kernel_rfl) ?_ _
                have D := D5.stored
                clear D5
                generalize (w5.setCell ⟨t, 1, none⟩ (.slice a5 (ps.length + 1) n5)) = w9 at *
                have hF := D.finish
                have f0 := D.f0
                have f1 := D.f1
                obtain ⟨u0, k0⟩ := D.r0
                obtain ⟨u1, k1⟩ := D.r1
                have z0 := D.rz 0
                have z1 := D.rz 1
                have hst := D.st
                obtain ⟨hr, hrow, hsrc, hwi⟩ := hF
                have hsz9 := hrow.1
                clear D
                go_wp2
                refine bodyPost_ret (v := .agg #[.int .i64 fb, .slice a5 (ps.length + 1) n5]) (by simp only [results, Try.results56]; simp [go_sem, hr.1, hr.2]) rfl ?_
                first | refine ⟨fb, _, (ps ++ [(ch, gl)]), (q + 1 + 1), rfl, ⟨by simp; omega, by omega, by omega⟩, ?_, hsrc, hwi⟩ | refine ⟨fb, _, rfl, (ps ++ [(ch, gl)]), (q + 1 + 1), ⟨by simp; omega, by omega, by omega⟩, ?_, hsrc, hwi⟩ | refine ⟨_, rfl, (ps ++ [(ch, gl)]), ⟨by simp; omega, by omega, by omega⟩, ?_, hsrc, hwi⟩
                exact (own_pairs hrow (Nat.le_refl _)).mono (by have := HS.out; omega) (Nat.le_refl _)
      · skip
        go_simp
        have hst0 := D.st
        have hb : Below V0.heap.size V0 (V0.alloc (.cells #[.int .i64 0, .int .i64 256] 2)) := (Below.refl _ _).alloc (Nat.le_refl _) _
        replace D := D.below hb
        have hBk : ∀ i, i < ([0, 256] : List Int).length → (V0.alloc (.cells #[.int .i64 0, .int .i64 256] 2)).cell? ⟨V0.heap.size, i, none⟩ = some (.int .i64 (([0, 256] : List Int).getD i 0)) := new_intsf rfl
        clear hb
        generalize (V0.alloc (.cells #[.int .i64 0, .int .i64 256] 2)) = V1 at *
        refine hK.out _ _ ?_ ?_
        · (try dsimp only); all_goals trivial
        clear hHeld hK K
        intro hHeld
        try simp only [Act.put, List.setIfInBounds_toArray, List.set_cons_zero, List.set_cons_succ]
        refine wpAnyH_ready (rs := [1, 3]) (by kernel_rfl) (by simp) ?_
        refine (AllReadyH.cons (o := ⟨_, _, _, _, _, _⟩) rfl (fun K hK => ?_) (AllReadyH.cons (o := ⟨_, _, _, _, _, _⟩) rfl (fun K hK => ?_) AllReadyH.nil))
        · skip
          have k1 := D.f1
          go_simp
          clear k1
          refine hK.out _ _ ?_ ?_
          · (try dsimp only); all_goals trivial
          clear hHeld hK K
          intro hHeld
          try simp only [Act.put, List.setIfInBounds_toArray, List.set_cons_zero, List.set_cons_succ]
          refine wpAnyH_ready (rs := [3]) (by kernel_rfl) (by simp) ?_
          refine (AllReadyH.cons (o := ⟨_, _, _, _, _, _⟩) rfl (fun K hK => ?_) AllReadyH.nil)
          go_simp
          have hst1 := D.st
          have hb : Below V1.heap.size V1 (V1.alloc (.cells #[.int .i64 61, .int .i64 55296, .int .i64 9999] 2)) := (Below.refl _ _).alloc (Nat.le_refl _) _
          replace D := D.below hb
          replace hBk := fun i hi => cellb hb (hBk i hi)
          have hA : ∀ i, i < ([61, 55296, 9999] : List Int).length → (V1.alloc (.cells #[.int .i64 61, .int .i64 55296, .int .i64 9999] 2)).cell? ⟨V1.heap.size, i, none⟩ = some (.int .i64 (([61, 55296, 9999] : List Int).getD i 0)) := new_intsf rfl
          clear hb
          generalize (V1.alloc (.cells #[.int .i64 61, .int .i64 55296, .int .i64 9999] 2)) = V2 at *
          refine hK.out _ _ ?_ ?_
          · (try dsimp only); all_goals trivial
          clear hHeld hK K
          intro hHeld
          try simp only [Act.put, List.setIfInBounds_toArray, List.set_cons_zero, List.set_cons_succ]
          refine wpAnyH_ready (rs := [4]) (by kernel_rfl) (by simp) ?_
          refine (AllReadyH.cons (o := ⟨_, _, _, _, _, _⟩) rfl (fun K hK => ?_) AllReadyH.nil)
          go_simp
          go_at_call 50
          refine (l1Pick_f zs [61, 55296, 9999] a cap B V1.heap.size 3 3 q w0 _ hv HZ.out hlen D.src (by omega) (by omega) rfl (by omega) (by omega) (by omega) hA).mono ?_
          rintro e V3 ⟨ch, rfl, _, sN, xN⟩
          replace D := D.within sN xN
          clear hA
          replace hBk := fun i hi => xN.cellf (by omega) (hBk i hi)
          clear sN xN
          try go_wp2_with fail
          refine hK.out _ _ ?_ ?_
          · (try dsimp only); all_goals trivial
          clear hHeld hK K
          intro hHeld
          try simp only [Act.put, List.setIfInBounds_toArray, List.set_cons_zero, List.set_cons_succ]
          refine wpAnyH_ready (rs := [7]) (by kernel_rfl) (by simp) ?_
          refine (AllReadyH.cons (o := ⟨_, _, _, _, _, _⟩) rfl (fun K hK => ?_) AllReadyH.nil)
          go_simp
          go_at_call 50
          refine (l1Pick_f zs [0, 256] a cap B V0.heap.size 2 2 (q + 1) w0 _ hv HZ.out hlen D.src (by omega) (by omega) rfl (by omega) (by omega) (by omega) hBk).mono ?_
          rintro e V4 ⟨gl, rfl, _, sN, xN⟩
          replace D := D.within sN xN
          clear hBk
          clear sN xN
          try go_wp2_with fail
          refine hK.out _ _ ?_ ?_
          · (try dsimp only); all_goals trivial
          clear hHeld hK K
          intro hHeld
          try simp only [Act.put, List.setIfInBounds_toArray, List.set_cons_zero, List.set_cons_succ]
          refine wpAnyH_take (i := 8) (oi := ⟨_, _, _, _, _, _⟩) (v := ?_) rfl (by kernel_rfl) (by kernel_rfl) (by kernel_rfl) (fun _ _ _ h => h) (Or.inl ⟨by rfl, ?_⟩) hHeld ?_
          rotate_left
          · (intro w hSw; (try dsimp only at hSw); go_simp; try (with_reducible rfl))
          try simp only [Act.put, List.setIfInBounds_toArray, List.set_cons_zero, List.set_cons_succ]
          refine wpAnyH_ready (rs := [9]) (by kernel_rfl) (by simp) ?_
          refine (AllReadyH.cons (o := ⟨_, _, _, _, _, _⟩) rfl (fun K hK => ?_) AllReadyH.nil)
          go_simp
          have hst4 := D.st
          have hb : Below V4.heap.size V4 (V4.alloc (.cells #[.int .i64 ch, .int .i64 gl] 52)) := (Below.refl _ _).alloc (Nat.le_refl _) _
          replace D := D.below hb
          have hnew : ∀ j u, (pvs [(ch, gl)])[j]? = some u → (V4.alloc (.cells #[.int .i64 ch, .int .i64 gl] 52)).cell? ((⟨V4.heap.size, 0, none⟩ : Addr).add j) = some u := new_row_at rfl rfl
          clear hb
          generalize (V4.alloc (.cells #[.int .i64 ch, .int .i64 gl] 52)) = V5 at *
          refine hK.out _ _ ?_ ?_
          · (try dsimp only); all_goals trivial
          clear hHeld hK K
          intro hHeld
          try simp only [Act.put, List.setIfInBounds_toArray, List.set_cons_zero, List.set_cons_succ]
          refine wpAnyH_ready (rs := [10]) (by kernel_rfl) (by simp) ?_
          refine (AllReadyH.cons (o := ⟨_, _, _, _, _, _⟩) rfl (fun K hK => ?_) AllReadyH.nil)
          refine step_append_g rfl (.tmp 18) (.tmp 26) 48 rfl bs 52 i0 (.agg #[.int .i64 0, .int .i64 0]) 2 16 Try.underlying48 hi hz0 hz1 hz2 rfl (by decide) _ _ _ rfl D.row ⟨V4.heap.size, 0, none⟩ 1 1 (pvs [(ch, gl)]) rfl rfl hnew (pvs_one _) (by unfold maxLen; omega) (by omega) (by have := D.st; omega) ?_
          intro v5 w5 hown5 hg5
          rw [← pvs_append] at hown5
          have D5 := D.append hg5 (ps' := ps ++ [(ch, gl)]) (by simpa using hown5)
          obtain ⟨a5, n5, rfl⟩ := own_shapeD D5.row
          have hL : (ps ++ [(ch, gl)]).length = ps.length + 1 := by simp
          rw [hL] at D5
          clear D hown5 hg5 hnew hL
          refine hK.out _ _ ?_ ?_
          · (try dsimp only); all_goals trivial
          clear hHeld hK K
          intro hHeld
          try simp only [Act.put, List.setIfInBounds_toArray, List.set_cons_zero, List.set_cons_succ]
          refine wpAnyH_take (i := 11) (oi := ⟨_, _, _, _, _, _⟩) (v := ?_) rfl (by kernel_rfl) (by kernel_rfl) (by kernel_rfl) (fun _ _ _ h => h) (Or.inl ⟨by rfl, ?_⟩) hHeld ?_
          rotate_left
          · (intro w hSw; (try dsimp only at hSw); go_simp; try (with_reducible rfl))
          try simp only [Act.put, List.setIfInBounds_toArray, List.set_cons_zero, List.set_cons_succ]
          refine wpAnyH_ready (rs := [12]) (by kernel_rfl) (by simp) ?_
          refine (AllReadyH.cons (o := ⟨_, _, _, _, _, _⟩) rfl (fun K hK => ?_) AllReadyH.nil)
          have k1 := D5.f1
          have kz := D5.fz 1
          go_simp
          clear k1 kz
          refine hK.out _ _ ?_ ?_
          · (try dsimp only); all_goals trivial
          clear hHeld hK K
          intro hHeld
          try simp only [Act.put, List.setIfInBounds_toArray, List.set_cons_zero, List.set_cons_succ]
          refine wpAnyH_done (by kernel_rfl) ?_ _
          have D := D5.stored
          clear D5
          generalize (w5.setCell ⟨t, 1, none⟩ (.slice a5 (ps.length + 1) n5)) = w9 at *
          have hF := D.finish
          have f0 := D.f0
          have f1 := D.f1
          obtain ⟨u0, k0⟩ := D.r0
          obtain ⟨u1, k1⟩ := D.r1
          have z0 := D.rz 0
          have z1 := D.rz 1
          have hst := D.st
          obtain ⟨hr, hrow, hsrc, hwi⟩ := hF
          have hsz9 := hrow.1
          clear D
          go_wp2
          refine bodyPost_ret (v := .agg #[.int .i64 fb, .slice a5 (ps.length + 1) n5]) (by simp only [results, Try.results56]; simp [go_sem, hr.1, hr.2]) rfl ?_
          first | refine ⟨fb, _, (ps ++ [(ch, gl)]), (q + 1 + 1), rfl, ⟨by simp; omega, by omega, by omega⟩, ?_, hsrc, hwi⟩ | refine ⟨fb, _, rfl, (ps ++ [(ch, gl)]), (q + 1 + 1), ⟨by simp; omega, by omega, by omega⟩, ?_, hsrc, hwi⟩ | refine ⟨_, rfl, (ps ++ [(ch, gl)]), ⟨by simp; omega, by omega, by omega⟩, ?_, hsrc, hwi⟩
          exact (own_pairs hrow (Nat.le_refl _)).mono (by have := HS.out; omega) (Nat.le_refl _)
        · skip
          go_simp
          have hst1 := D.st
          have hb : Below V1.heap.size V1 (V1.alloc (.cells #[.int .i64 61, .int .i64 55296, .int .i64 9999] 2)) := (Below.refl _ _).alloc (Nat.le_refl _) _
          replace D := D.below hb
          replace hBk := fun i hi => cellb hb (hBk i hi)
          have hA : ∀ i, i < ([61, 55296, 9999] : List Int).length → (V1.alloc (.cells #[.int .i64 61, .int .i64 55296, .int .i64 9999] 2)).cell? ⟨V1.heap.size, i, none⟩ = some (.int .i64 (([61, 55296, 9999] : List Int).getD i 0)) := new_intsf rfl
          clear hb
          generalize (V1.alloc (.cells #[.int .i64 61, .int .i64 55296, .int .i64 9999] 2)) = V2 at *
          refine hK.out _ _ ?_ ?_
          · (try dsimp only); all_goals trivial
          clear hHeld hK K
          intro hHeld
          try simp only [Act.put, List.setIfInBounds_toArray, List.set_cons_zero, List.set_cons_succ]
          refine wpAnyH_ready (rs := [1, 4]) (by kernel_rfl) (by simp) ?_
          refine (AllReadyH.cons (o := ⟨_, _, _, _, _, _⟩) rfl (fun K hK => ?_) (AllReadyH.cons (o := ⟨_, _, _, _, _, _⟩) rfl (fun K hK => ?_) AllReadyH.nil))
          · skip
            have k1 := D.f1
            go_simp
            clear k1
            refine hK.out _ _ ?_ ?_
            · (try dsimp only); all_goals trivial
            clear hHeld hK K
            intro hHeld
            try simp only [Act.put, List.setIfInBounds_toArray, List.set_cons_zero, List.set_cons_succ]
            refine wpAnyH_ready (rs := [4]) (by kernel_rfl) (by simp) ?_
            refine (AllReadyH.cons (o := ⟨_, _, _, _, _, _⟩) rfl (fun K hK => ?_) AllReadyH.nil)
            go_simp
            go_at_call 50
            refine (l1Pick_f zs [61, 55296, 9999] a cap B V1.heap.size 3 3 q w0 _ hv HZ.out hlen D.src (by omega) (by omega) rfl (by omega) (by omega) (by omega) hA).mono ?_
            rintro e V3 ⟨ch, rfl, _, sN, xN⟩
            replace D := D.within sN xN
            clear hA
            replace hBk := fun i hi => xN.cellf (by omega) (hBk i hi)
            clear sN xN
            try go_wp2_with fail
            refine hK.out _ _ ?_ ?_
            · (try dsimp only); all_goals trivial
            clear hHeld hK K
            intro hHeld
            try simp only [Act.put, List.setIfInBounds_toArray, List.set_cons_zero, List.set_cons_succ]
            refine wpAnyH_ready (rs := [7]) (by kernel_rfl) (by simp) ?_
            refine (AllReadyH.cons (o := ⟨_, _, _, _, _, _⟩) rfl (fun K hK => ?_) AllReadyH.nil)
            go_simp
            go_at_call 50
            refine (l1Pick_f zs [0, 256] a cap B V0.heap.size 2 2 (q + 1) w0 _ hv HZ.out hlen D.src (by omega) (by omega) rfl (by omega) (by omega) (by omega) hBk).mono ?_
            rintro e V4 ⟨gl, rfl, _, sN, xN⟩
            replace D := D.within sN xN
            clear hBk
            clear sN xN
            try go_wp2_with fail
            refine hK.out _ _ ?_ ?_
            · (try dsimp only); all_goals trivial
            clear hHeld hK K
            intro hHeld
            try simp only [Act.put, List.setIfInBounds_toArray, List.set_cons_zero, List.set_cons_succ]
            refine wpAnyH_take (i := 8) (oi := ⟨_, _, _, _, _, _⟩) (v := ?_) rfl (by kernel_rfl) (by kernel_rfl) (by kernel_rfl) (fun _ _ _ h => h) (Or.inl ⟨by rfl, ?_⟩) hHeld ?_
            rotate_left
            · (intro w hSw; (try dsimp only at hSw); go_simp; try (with_reducible rfl))
            try simp only [Act.put, List.setIfInBounds_toArray, List.set_cons_zero, List.set_cons_succ]
            refine wpAnyH_ready (rs := [9]) (by kernel_rfl) (by simp) ?_
            refine (AllReadyH.cons (o := ⟨_, _, _, _, _, _⟩) rfl (fun K hK => ?_) AllReadyH.nil)
            go_simp
            have hst4 := D.st
            have hb : Below V4.heap.size V4 (V4.alloc (.cells #[.int .i64 ch, .int .i64 gl] 52)) := (Below.refl _ _).alloc (Nat.le_refl _) _
            replace D := D.below hb
            have hnew : ∀ j u, (pvs [(ch, gl)])[j]? = some u → (V4.alloc (.cells #[.int .i64 ch, .int .i64 gl] 52)).cell? ((⟨V4.heap.size, 0, none⟩ : Addr).add j) = some u := new_row_at rfl rfl
            clear hb
            generalize (V4.alloc (.cells #[.int .i64 ch, .int .i64 gl] 52)) = V5 at *
            refine hK.out _ _ ?_ ?_
            · (try dsimp only); all_goals trivial
            clear hHeld hK K
            intro hHeld
            try simp only [Act.put, List.setIfInBounds_toArray, List.set_cons_zero, List.set_cons_succ]
            refine wpAnyH_ready (rs := [10]) (by kernel_rfl) (by simp) ?_
            refine (AllReadyH.cons (o := ⟨_, _, _, _, _, _⟩) rfl (fun K hK => ?_) AllReadyH.nil)
            refine step_append_g rfl (.tmp 18) (.tmp 26) 48 rfl bs 52 i0 (.agg #[.int .i64 0, .int .i64 0]) 2 16 Try.underlying48 hi hz0 hz1 hz2 rfl (by decide) _ _ _ rfl D.row ⟨V4.heap.size, 0, none⟩ 1 1 (pvs [(ch, gl)]) rfl rfl hnew (pvs_one _) (by unfold maxLen; omega) (by omega) (by have := D.st; omega) ?_
            intro v5 w5 hown5 hg5
            rw [← pvs_append] at hown5
            have D5 := D.append hg5 (ps' := ps ++ [(ch, gl)]) (by simpa using hown5)
            obtain ⟨a5, n5, rfl⟩ := own_shapeD D5.row
            have hL : (ps ++ [(ch, gl)]).length = ps.length + 1 := by simp
            rw [hL] at D5
            clear D hown5 hg5 hnew hL
            refine hK.out _ _ ?_ ?_
            · (try dsimp only); all_goals trivial
            clear hHeld hK K
            intro hHeld
            try simp only [Act.put, List.setIfInBounds_toArray, List.set_cons_zero, List.set_cons_succ]
            refine wpAnyH_take (i := 11) (oi := ⟨_, _, _, _, _, _⟩) (v := ?_) rfl (by kernel_rfl) (by kernel_rfl) (by kernel_rfl) (fun _ _ _ h => h) (Or.inl ⟨by rfl, ?_⟩) hHeld ?_
            rotate_left
            · (intro w hSw; (try dsimp only at hSw); go_simp; try (with_reducible rfl))
            try simp only [Act.put, List.setIfInBounds_toArray, List.set_cons_zero, List.set_cons_succ]
            refine wpAnyH_ready (rs := [12]) (by kernel_rfl) (by simp) ?_
            refine (AllReadyH.cons (o := ⟨_, _, _, _, _, _⟩) rfl (fun K hK => ?_) AllReadyH.nil)
            have k1 := D5.f1
            have kz := D5.fz 1
            go_simp
            clear k1 kz
            refine hK.out _ _ ?_ ?_
            · (try dsimp only); all_goals trivial
            clear hHeld hK K
            intro hHeld
            try simp only [Act.put, List.setIfInBounds_toArray, List.set_cons_zero, List.set_cons_succ]
            refine wpAnyH_done (by kernel_rfl) ?_ _
            have D := D5.stored
            clear D5
            generalize (w5.setCell ⟨t, 1, none⟩ (.slice a5 (ps.length + 1) n5)) = w9 at *
            have hF := D.finish
            have f0 := D.f0
            have f1 := D.f1
            obtain ⟨u0, k0⟩ := D.r0
            obtain ⟨u1, k1⟩ := D.r1
            have z0 := D.rz 0
            have z1 := D.rz 1
            have hst := D.st
            obtain ⟨hr, hrow, hsrc, hwi⟩ := hF
            have hsz9 := hrow.1
            clear D
            go_wp2
            refine bodyPost_ret (v := .agg #[.int .i64 fb, .slice a5 (ps.length + 1) n5]) (by simp only [results, Try.results56]; simp [go_sem, hr.1, hr.2]) rfl ?_
            first | refine ⟨fb, _, (ps ++ [(ch, gl)]), (q + 1 + 1), rfl, ⟨by simp; omega, by omega, by omega⟩, ?_, hsrc, hwi⟩ | refine ⟨fb, _, rfl, (ps ++ [(ch, gl)]), (q + 1 + 1), ⟨by simp; omega, by omega, by omega⟩, ?_, hsrc, hwi⟩ | refine ⟨_, rfl, (ps ++ [(ch, gl)]), ⟨by simp; omega, by omega, by omega⟩, ?_, hsrc, hwi⟩
            exact (own_pairs hrow (Nat.le_refl _)).mono (by have := HS.out; omega) (Nat.le_refl _)
          · skip
            go_simp
            go_at_call 50
            refine (l1Pick_f zs [61, 55296, 9999] a cap B V1.heap.size 3 3 q w0 _ hv HZ.out hlen D.src (by omega) (by omega) rfl (by omega) (by omega) (by omega) hA).mono ?_
            rintro e V3 ⟨ch, rfl, _, sN, xN⟩
            replace D := D.within sN xN
            clear hA
            replace hBk := fun i hi => xN.cellf (by omega) (hBk i hi)
            clear sN xN
            try go_wp2_with fail
            refine hK.out _ _ ?_ ?_
            · (try dsimp only); all_goals trivial
            clear hHeld hK K
            intro hHeld
            try simp only [Act.put, List.setIfInBounds_toArray, List.set_cons_zero, List.set_cons_succ]
            refine wpAnyH_ready (rs := [1, 7]) (by kernel_rfl) (by simp) ?_
            refine (AllReadyH.cons (o := ⟨_, _, _, _, _, _⟩) rfl (fun K hK => ?_) (AllReadyH.cons (o := ⟨_, _, _, _, _, _⟩) rfl (fun K hK => ?_) AllReadyH.nil))
            · skip
              have k1 := D.f1
              go_simp
              clear k1
              refine hK.out _ _ ?_ ?_
              · (try dsimp only); all_goals trivial
              clear hHeld hK K
              intro hHeld
              try simp only [Act.put, List.setIfInBounds_toArray, List.set_cons_zero, List.set_cons_succ]
              refine wpAnyH_ready (rs := [7]) (by kernel_rfl) (by simp) ?_
              refine (AllReadyH.cons (o := ⟨_, _, _, _, _, _⟩) rfl (fun K hK => ?_) AllReadyH.nil)
              go_simp
              go_at_call 50
              refine (l1Pick_f zs [0, 256] a cap B V0.heap.size 2 2 (q + 1) w0 _ hv HZ.out hlen D.src (by omega) (by omega) rfl (by omega) (by omega) (by omega) hBk).mono ?_
              rintro e V4 ⟨gl, rfl, _, sN, xN⟩
              replace D := D.within sN xN
              clear hBk
              clear sN xN
              try go_wp2_with fail
              refine hK.out _ _ ?_ ?_
              · (try dsimp only); all_goals trivial
              clear hHeld hK K
              intro hHeld
              try simp only [Act.put, List.setIfInBounds_toArray, List.set_cons_zero, List.set_cons_succ]
              refine wpAnyH_take (i := 8) (oi := ⟨_, _, _, _, _, _⟩) (v := ?_) rfl (by kernel_rfl) (by kernel_rfl) (by kernel_rfl) (fun _ _ _ h => h) (Or.inl ⟨by rfl, ?_⟩) hHeld ?_
              rotate_left
              · (intro w hSw; (try dsimp only at hSw); go_simp; try (with_reducible rfl))
              try simp only [Act.put, List.setIfInBounds_toArray, List.set_cons_zero, List.set_cons_succ]
              refine wpAnyH_ready (rs := [9]) (by kernel_rfl) (by simp) ?_
              refine (AllReadyH.cons (o := ⟨_, _, _, _, _, _⟩) rfl (fun K hK => ?_) AllReadyH.nil)
              go_simp
              have hst4 := D.st
              have hb : Below V4.heap.size V4 (V4.alloc (.cells #[.int .i64 ch, .int .i64 gl] 52)) := (Below.refl _ _).alloc (Nat.le_refl _) _
              replace D := D.below hb
              have hnew : ∀ j u, (pvs [(ch, gl)])[j]? = some u → (V4.alloc (.cells #[.int .i64 ch, .int .i64 gl] 52)).cell? ((⟨V4.heap.size, 0, none⟩ : Addr).add j) = some u := new_row_at rfl rfl
              clear hb
              generalize (V4.alloc (.cells #[.int .i64 ch, .int .i64 gl] 52)) = V5 at *
              refine hK.out _ _ ?_ ?_
              · (try dsimp only); all_goals trivial
              clear hHeld hK K
              intro hHeld
              try simp only [Act.put, List.setIfInBounds_toArray, List.set_cons_zero, List.set_cons_succ]
              refine wpAnyH_ready (rs := [10]) (by kernel_rfl) (by simp) ?_
              refine (AllReadyH.cons (o := ⟨_, _, _, _, _, _⟩) rfl (fun K hK => ?_) AllReadyH.nil)
              refine step_append_g rfl (.tmp 18) (.tmp 26) 48 rfl bs 52 i0 (.agg #[.int .i64 0, .int .i64 0]) 2 16 Try.underlying48 hi hz0 hz1 hz2 rfl (by decide) _ _ _ rfl D.row ⟨V4.heap.size, 0, none⟩ 1 1 (pvs [(ch, gl)]) rfl rfl hnew (pvs_one _) (by unfold maxLen; omega) (by omega) (by have := D.st; omega) ?_
              intro v5 w5 hown5 hg5
              rw [← pvs_append] at hown5
              have D5 := D.append hg5 (ps' := ps ++ [(ch, gl)]) (by simpa using hown5)
              obtain ⟨a5, n5, rfl⟩ := own_shapeD D5.row
              have hL : (ps ++ [(ch, gl)]).length = ps.length + 1 := by simp
              rw [hL] at D5
              clear D hown5 hg5 hnew hL
              refine hK.out _ _ ?_ ?_
              · (try dsimp only); all_goals trivial
              clear hHeld hK K
              intro hHeld
              try simp only [Act.put, List.setIfInBounds_toArray, List.set_cons_zero, List.set_cons_succ]
              refine wpAnyH_take (i := 11) (oi := ⟨_, _, _, _, _, _⟩) (v := ?_) rfl (by kernel_rfl) (by kernel_rfl) (by kernel_rfl) (fun _ _ _ h => h) (Or.inl ⟨by rfl, ?_⟩) hHeld ?_
              rotate_left
              · (intro w hSw; (try dsimp only at hSw); go_simp; try (with_reducible rfl))
              try simp only [Act.put, List.setIfInBounds_toArray, List.set_cons_zero, List.set_cons_succ]
              refine wpAnyH_ready (rs := [12]) (by kernel_rfl) (by simp) ?_
              refine (AllReadyH.cons (o := ⟨_, _, _, _, _, _⟩) rfl (fun K hK => ?_) AllReadyH.nil)
              have k1 := D5.f1
              have kz := D5.fz 1
              go_simp
              clear k1 kz
              refine hK.out _ _ ?_ ?_
              · (try dsimp only); all_goals trivial
              clear hHeld hK K
              intro hHeld
              try simp only [Act.put, List.setIfInBounds_toArray, List.set_cons_zero, List.set_cons_succ]
              refine wpAnyH_done (by kernel_rfl) ?_ _
              have D := D5.stored
              clear D5
              generalize (w5.setCell ⟨t, 1, none⟩ (.slice a5 (ps.length + 1) n5)) = w9 at *
              have hF := D.finish
              have f0 := D.f0
              have f1 := D.f1
              obtain ⟨u0, k0⟩ := D.r0
              obtain ⟨u1, k1⟩ := D.r1
              have z0 := D.rz 0
              have z1 := D.rz 1
              have hst := D.st
              obtain ⟨hr, hrow, hsrc, hwi⟩ := hF
              have hsz9 := hrow.1
              clear D
              go_wp2
              refine bodyPost_ret (v := .agg #[.int .i64 fb, .slice a5 (ps.length + 1) n5]) (by simp only [results, Try.results56]; simp [go_sem, hr.1, hr.2]) rfl ?_
              first | refine ⟨fb, _, (ps ++ [(ch, gl)]), (q + 1 + 1), rfl, ⟨by simp; omega, by omega, by omega⟩, ?_, hsrc, hwi⟩ | refine ⟨fb, _, rfl, (ps ++ [(ch, gl)]), (q + 1 + 1), ⟨by simp; omega, by omega, by omega⟩, ?_, hsrc, hwi⟩ | refine ⟨_, rfl, (ps ++ [(ch, gl)]), ⟨by simp; omega, by omega, by omega⟩, ?_, hsrc, hwi⟩
              exact (own_pairs hrow (Nat.le_refl _)).mono (by have := HS.out; omega) (Nat.le_refl _)
            · skip
              go_simp
              go_at_call 50
              refine (l1Pick_f zs [0, 256] a cap B V0.heap.size 2 2 (q + 1) w0 _ hv HZ.out hlen D.src (by omega) (by omega) rfl (by omega) (by omega) (by omega) hBk).mono ?_
              rintro e V4 ⟨gl, rfl, _, sN, xN⟩
              replace D := D.within sN xN
              clear hBk
              clear sN xN
              try go_wp2_with fail
              refine hK.out _ _ ?_ ?_
              · (try dsimp only); all_goals trivial
              clear hHeld hK K
              intro hHeld
              try simp only [Act.put, List.setIfInBounds_toArray, List.set_cons_zero, List.set_cons_succ]
              refine wpAnyH_take (i := 8) (oi := ⟨_, _, _, _, _, _⟩) (v := ?_) rfl (by kernel_rfl) (by kernel_rfl) (by kernel_rfl) (fun _ _ _ h => h) (Or.inl ⟨by rfl, ?_⟩) hHeld ?_
              rotate_left
              · (intro w hSw; (try dsimp only at hSw); go_simp; try (with_reducible rfl))
              try simp only [Act.put, List.setIfInBounds_toArray, List.set_cons_zero, List.set_cons_succ]
              refine wpAnyH_ready (rs := [1, 9]) (by kernel_rfl) (by simp) ?_
              refine (AllReadyH.cons (o := ⟨_, _, _, _, _, _⟩) rfl (fun K hK => ?_) (AllReadyH.cons (o := ⟨_, _, _, _, _, _⟩) rfl (fun K hK => ?_) AllReadyH.nil))
              · skip
                have k1 := D.f1
                go_simp
                clear k1
                refine hK.out _ _ ?_ ?_
                · (try dsimp only); all_goals trivial
                clear hHeld hK K
                intro hHeld
                try simp only [Act.put, List.setIfInBounds_toArray, List.set_cons_zero, List.set_cons_succ]
                refine wpAnyH_ready (rs := [9]) (by kernel_rfl) (by simp) ?_
                refine (AllReadyH.cons (o := ⟨_, _, _, _, _, _⟩) rfl (fun K hK => ?_) AllReadyH.nil)
                go_simp
                have hst4 := D.st
                have hb : Below V4.heap.size V4 (V4.alloc (.cells #[.int .i64 ch, .int .i64 gl] 52)) := (Below.refl _ _).alloc (Nat.le_refl _) _
                replace D := D.below hb
                have hnew : ∀ j u, (pvs [(ch, gl)])[j]? = some u → (V4.alloc (.cells #[.int .i64 ch, .int .i64 gl] 52)).cell? ((⟨V4.heap.size, 0, none⟩ : Addr).add j) = some u := new_row_at rfl rfl
                clear hb
                generalize (V4.alloc (.cells #[.int .i64 ch, .int .i64 gl] 52)) = V5 at *
                refine hK.out _ _ ?_ ?_
                · (try dsimp only); all_goals trivial
                clear hHeld hK K
                intro hHeld
                try simp only [Act.put, List.setIfInBounds_toArray, List.set_cons_zero, List.set_cons_succ]
                refine wpAnyH_ready (rs := [10]) (by kernel_rfl) (by simp) ?_
                refine (AllReadyH.cons (o := ⟨_, _, _, _, _, _⟩) rfl (fun K hK => ?_) AllReadyH.nil)
                refine step_append_g rfl (.tmp 18) (.tmp 26) 48 rfl bs 52 i0 (.agg #[.int .i64 0, .int .i64 0]) 2 16 Try.underlying48 hi hz0 hz1 hz2 rfl (by decide) _ _ _ rfl D.row ⟨V4.heap.size, 0, none⟩ 1 1 (pvs [(ch, gl)]) rfl rfl hnew (pvs_one _) (by unfold maxLen; omega) (by omega) (by have := D.st; omega) ?_
                intro v5 w5 hown5 hg5
                rw [← pvs_append] at hown5
                have D5 := D.append hg5 (ps' := ps ++ [(ch, gl)]) (by simpa using hown5)
                obtain ⟨a5, n5, rfl⟩ := own_shapeD D5.row
                have hL : (ps ++ [(ch, gl)]).length = ps.length + 1 := by simp
                rw [hL] at D5
                clear D hown5 hg5 hnew hL
                refine hK.out _ _ ?_ ?_
                · (try dsimp only); all_goals trivial
                clear hHeld hK K
                intro hHeld
                try simp only [Act.put, List.setIfInBounds_toArray, List.set_cons_zero, List.set_cons_succ]
                refine wpAnyH_take (i := 11) (oi := ⟨_, _, _, _, _, _⟩) (v := ?_) rfl (by kernel_rfl) (by kernel_rfl) (by kernel_rfl) (fun _ _ _ h => h) (Or.inl ⟨by rfl, ?_⟩) hHeld ?_
                rotate_left
                · (intro w hSw; (try dsimp only at hSw); go_simp; try (with_reducible rfl))
                try simp only [Act.put, List.setIfInBounds_toArray, List.set_cons_zero, List.set_cons_succ]
                refine wpAnyH_ready (rs := [12]) (by kernel_rfl) (by simp) ?_
                refine (AllReadyH.cons (o := ⟨_, _, _, _, _, _⟩) rfl (fun K hK => ?_) AllReadyH.nil)
                have k1 := D5.f1
                have kz := D5.fz 1
                go_simp
                clear k1 kz
                refine hK.out _ _ ?_ ?_
                · (try dsimp only); all_goals trivial
                clear hHeld hK K
                intro hHeld
                try simp only [Act.put, List.setIfInBounds_toArray, List.set_cons_zero, List.set_cons_succ]
                refine wpAnyH_done (by kernel_rfl) ?_ _
                have D := D5.stored
                clear D5
                generalize (w5.setCell ⟨t, 1, none⟩ (.slice a5 (ps.length + 1) n5)) = w9 at *
                have hF := D.finish
                have f0 := D.f0
                have f1 := D.f1
                obtain ⟨u0, k0⟩ := D.r0
                obtain ⟨u1, k1⟩ := D.r1
                have z0 := D.rz 0
                have z1 := D.rz 1
                have hst := D.st
                obtain ⟨hr, hrow, hsrc, hwi⟩ := hF
                have hsz9 := hrow.1
                clear D
                go_wp2
                refine bodyPost_ret (v := .agg #[.int .i64 fb, .slice a5 (ps.length + 1) n5]) (by simp only [results, Try.results56]; simp [go_sem, hr.1, hr.2]) rfl ?_
                first | refine ⟨fb, _, (ps ++ [(ch, gl)]), (q + 1 + 1), rfl, ⟨by simp; omega, by omega, by omega⟩, ?_, hsrc, hwi⟩ | refine ⟨fb, _, rfl, (ps ++ [(ch, gl)]), (q + 1 + 1), ⟨by simp; omega, by omega, by omega⟩, ?_, hsrc, hwi⟩ | refine ⟨_, rfl, (ps ++ [(ch, gl)]), ⟨by simp; omega, by omega, by omega⟩, ?_, hsrc, hwi⟩
                exact (own_pairs hrow (Nat.le_refl _)).mono (by have := HS.out; omega) (Nat.le_refl _)
              · skip
                go_simp
                have hst4 := D.st
                have hb : Below V4.heap.size V4 (V4.alloc (.cells #[.int .i64 ch, .int .i64 gl] 52)) := (Below.refl _ _).alloc (Nat.le_refl _) _
                replace D := D.below hb
                have hnew : ∀ j u, (pvs [(ch, gl)])[j]? = some u → (V4.alloc (.cells #[.int .i64 ch, .int .i64 gl] 52)).cell? ((⟨V4.heap.size, 0, none⟩ : Addr).add j) = some u := new_row_at rfl rfl
                clear hb
                generalize (V4.alloc (.cells #[.int .i64 ch, .int .i64 gl] 52)) = V5 at *
                refine hK.out _ _ ?_ ?_
                · (try dsimp only); all_goals trivial
                clear hHeld hK K
                intro hHeld
                try simp only [Act.put, List.setIfInBounds_toArray, List.set_cons_zero, List.set_cons_succ]
                refine wpAnyH_ready (rs := [1]) (by kernel_rfl) (by simp) ?_
                refine (AllReadyH.cons (o := ⟨_, _, _, _, _, _⟩) rfl (fun K hK => ?_) AllReadyH.nil)
                have k1 := D.f1
                go_simp
                clear k1
                refine hK.out _ _ ?_ ?_
                · (try dsimp only); all_goals trivial
                clear hHeld hK K
                intro hHeld
                try simp only [Act.put, List.setIfInBounds_toArray, List.set_cons_zero, List.set_cons_succ]
                refine wpAnyH_ready (rs := [10]) (by kernel_rfl) (by simp) ?_
                refine (AllReadyH.cons (o := ⟨_, _, _, _, _, _⟩) rfl (fun K hK => ?_) AllReadyH.nil)
                refine step_append_g rfl (.tmp 18) (.tmp 26) 48 rfl bs 52 i0 (.agg #[.int .i64 0, .int .i64 0]) 2 16 Try.underlying48 hi hz0 hz1 hz2 rfl (by decide) _ _ _ rfl D.row ⟨V4.heap.size, 0, none⟩ 1 1 (pvs [(ch, gl)]) rfl rfl hnew (pvs_one _) (by unfold maxLen; omega) (by omega) (by have := D.st; omega) ?_
                intro v5 w5 hown5 hg5
                rw [← pvs_append] at hown5
                have D5 := D.append hg5 (ps' := ps ++ [(ch, gl)]) (by simpa using hown5)
                obtain ⟨a5, n5, rfl⟩ := own_shapeD D5.row
                have hL : (ps ++ [(ch, gl)]).length = ps.length + 1 := by simp
                rw [hL] at D5
                clear D hown5 hg5 hnew hL
                refine hK.out _ _ ?_ ?_
                · (try dsimp only); all_goals trivial
                clear hHeld hK K
                intro hHeld
                try simp only [Act.put, List.setIfInBounds_toArray, List.set_cons_zero, List.set_cons_succ]
                refine wpAnyH_take (i := 11) (oi := ⟨_, _, _, _, _, _⟩) (v := ?_) rfl (by kernel_rfl) (by kernel_rfl) (by kernel_rfl) (fun _ _ _ h => h) (Or.inl ⟨by rfl, ?_⟩) hHeld ?_
                rotate_left
                · (intro w hSw; (try dsimp only at hSw); go_simp; try (with_reducible rfl))
                try simp only [Act.put, List.setIfInBounds_toArray, List.set_cons_zero, List.set_cons_succ]
                refine wpAnyH_ready (rs := [12]) (by kernel_rfl) (by simp) ?_
                refine (AllReadyH.cons (o := ⟨_, _, _, _, _, _⟩) rfl (fun K hK => ?_) AllReadyH.nil)
                have k1 := D5.f1
                have kz := D5.fz 1
                go_simp
                clear k1 kz
                refine hK.out _ _ ?_ ?_
                · (try dsimp only); all_goals trivial
                clear hHeld hK K
                intro hHeld
                try simp only [Act.put, List.setIfInBounds_toArray, List.set_cons_zero, List.set_cons_succ]
                refine wpAnyH_done (by kernel_rfl) ?_ _
                have D := D5.stored
                clear D5
                generalize (w5.setCell ⟨t, 1, none⟩ (.slice a5 (ps.length + 1) n5)) = w9 at *
                have hF := D.finish
                have f0 := D.f0
                have f1 := D.f1
                obtain ⟨u0, k0⟩ := D.r0
                obtain ⟨u1, k1⟩ := D.r1
                have z0 := D.rz 0
                have z1 := D.rz 1
                have hst := D.st
                obtain ⟨hr, hrow, hsrc, hwi⟩ := hF
                have hsz9 := hrow.1
                clear D
                go_wp2
                refine bodyPost_ret (v := .agg #[.int .i64 fb, .slice a5 (ps.length + 1) n5]) (by simp only [results, Try.results56]; simp [go_sem, hr.1, hr.2]) rfl ?_
                first | refine ⟨fb, _, (ps ++ [(ch, gl)]), (q + 1 + 1), rfl, ⟨by simp; omega, by omega, by omega⟩, ?_, hsrc, hwi⟩ | refine ⟨fb, _, rfl, (ps ++ [(ch, gl)]), (q + 1 + 1), ⟨by simp; omega, by omega, by omega⟩, ?_, hsrc, hwi⟩ | refine ⟨_, rfl, (ps ++ [(ch, gl)]), ⟨by simp; omega, by omega, by omega⟩, ?_, hsrc, hwi⟩
                exact (own_pairs hrow (Nat.le_refl _)).mono (by have := HS.out; omega) (Nat.le_refl _)
    · have h1b : (r == 1) = false := by simpa using h1
      by_cases h2 : r = 2
      · subst h2
        go_wp2_with (at_make; refine wpList_make_full _ rfl _ _ 48 rfl bs 52 i0 (.agg #[.int .i64 0, .int .i64 0]) 2 Try.underlying48 hi hz0 hz1 .i64 .i64 _ _ 21 rfl rfl rfl rfl (by rw [hz2]; omega) (by unfold maxLen; omega) (by have := D.st; omega) ?_; intro w5 hown5 hgr5; have D5 := D.append (GrowTo.made (v' := .slice (some ⟨w4.heap.size, 0, none⟩) 21 21) (k := w4.heap.size) hgr5 rfl (Nat.le_refl _)) (ps' := List.replicate 21 (0, 0)) (by rw [List.length_replicate, ← e21]; exact hown5); have k5 := D5.f1; have kz5 := D5.fz 1; have D6 := D5.stored; have f0 := D6.f0; have f1 := D6.f1; obtain ⟨u0, k0⟩ := D6.r0; obtain ⟨u1, k1'⟩ := D6.r1; have z0 := D6.rz 0; have z1 := D6.rz 1; obtain ⟨hr, hrow, hsrc, hwi⟩ := D6.finish; clear D5 D6 hown5 hgr5)
        refine bodyPost_ret (v := .agg #[.int .i64 fb, .slice (some ⟨w4.heap.size, 0, none⟩) 21 21]) (by simp only [results, Try.results56]; simp [go_sem, hr.1, hr.2]) rfl ?_
        first | refine ⟨fb, _, List.replicate 21 (0, 0), q, rfl, ⟨by simp, by omega, by omega⟩, ?_, hsrc, hwi⟩ | refine ⟨fb, _, rfl, List.replicate 21 (0, 0), q, ⟨by simp, by omega, by omega⟩, ?_, hsrc, hwi⟩
        exact (own_pairs hrow (Nat.le_refl _)).mono (by have := HS.out; omega) (Nat.le_refl _)
      · have h2b : (r == 2) = false := by simpa using h2
        by_cases h3 : r = 3
        · subst h3
          have hlit : (w4.alloc (.cells #[] 52)).ownsRow bs 52 2 (.slice (some ⟨w4.heap.size, 0, none⟩) 0 0) 0 (pvs []) := World.ownsRow_lit (base := bs) (e := 52) (size := 2) w4 #[] 0 (by have := D.st; omega) (by simp) rfl
          have hgr : w4.grownBy (w4.alloc (.cells #[] 52)) none := World.grownBy_alloc _ _ _
          have D5 := D.append (GrowTo.made (v' := .slice (some ⟨w4.heap.size, 0, none⟩) 0 0) (k := w4.heap.size) hgr rfl (Nat.le_refl _)) (ps' := []) hlit
          have k5 := D5.f1
          have kz5 := D5.fz 1
          have D6 := D5.stored
          clear D5 hlit hgr D
          go_wp2_with fail
          clear k5 kz5
          go_loopw [4] (fun cc wr => ∃ (n : Nat) (o : Value) (ps' : List (Int × Int)), cc = .int .i64 n ∧ n ≤ 20 ∧ ps'.length = n ∧ DF w0 w wr B S t bs (.slice a zs.length cap) q fb o o ps') (fun cc _ => 20 - (intOf cc).toNat)
          case atStart => exact ⟨0, _, [], rfl, by omega, rfl, D6⟩
          case round =>
            obtain ⟨n, o, ps', rfl, hn20, hpl, D⟩ := hrel
            clear D6
            by_cases hn : n < 20
            · have hnI : (n : Int) < 20 := by omega
              have k1 := D.f1
              have hb : Below wr.heap.size wr (wr.alloc (.cells #[.int .i64 (60 + 2 * n), .int .i64 n] 52)) := (Below.refl _ _).alloc (Nat.le_refl _) _
              have D2 := D.below hb
              have hst := D2.st
              have HPL := hide hpl
              clear hb hpl D
              go_wp2_with (at_builtin; refine wpList_append_grow _ rfl (.tmp 42) (.tmp 48) 48 rfl bs 52 i0 (.agg #[.int .i64 0, .int .i64 0]) 2 16 Try.underlying48 hi hz0 hz1 hz2 rfl (by decide) _ _ _ rfl D2.row ⟨wr.heap.size, 0, none⟩ 1 1 (pvs [((60 + 2 * n : Int), (n : Int))]) rfl rfl (new_row_at rfl rfl) (pvs_one _) (by unfold maxLen; have := HPL.out; omega) (by have := HPL.out; omega) (by omega) ?_; intro v5 w5 hown5 hg5; rw [← pvs_append] at hown5; have D5 := D2.append hg5 (ps' := ps' ++ [((60 + 2 * n : Int), (n : Int))]) (by simpa using hown5); obtain ⟨a5, n5, rfl⟩ := own_shapeD D5.row; have k5 := D5.f1; have kz5 := D5.fz 1)
              go_roundw
              case rel =>
                have hL : (ps' ++ [((60 + 2 * n : Int), (n : Int))]).length = ps'.length + 1 := by simp
                rw [hL] at D5
                exact ⟨n + 1, .slice a5 (ps'.length + 1) n5, ps' ++ [((60 + 2 * n : Int), (n : Int))], by go_num, by omega, by have := HPL.out; simp; omega, D5.stored⟩
              case measure => simp [intOf]; omega
            · have hge : ¬ ((n : Int) < 20) := by omega
              have HPL := hide hpl
              clear hpl
              have hF := D.finish
              obtain ⟨a9, n9, rfl⟩ := own_shapeD D.row
              have f0 := D.f0
              have f1 := D.f1
              obtain ⟨u0, k0⟩ := D.r0
              obtain ⟨u1, k1⟩ := D.r1
              have z0 := D.rz 0
              have z1 := D.rz 1
              have hst := D.st
              obtain ⟨hr, hrow, hsrc, hwi⟩ := hF
              have hsz9 := hrow.1
              clear D
              go_wp2
              refine bodyPost_ret (v := .agg #[.int .i64 fb, .slice a9 ps'.length n9]) (by simp only [results, Try.results56]; simp [go_sem, hr.1, hr.2]) rfl ?_
              first | refine ⟨fb, _, ps', q, rfl, ⟨by have := HPL.out; omega, by omega, by omega⟩, ?_, hsrc, hwi⟩ | refine ⟨fb, _, rfl, ps', q, ⟨by have := HPL.out; omega, by omega, by omega⟩, ?_, hsrc, hwi⟩ | refine ⟨_, rfl, ps', ⟨by have := HPL.out; omega, by omega, by omega⟩, ?_, hsrc, hwi⟩
              exact (own_pairs hrow (Nat.le_refl _)).mono (by have := HS.out; omega) (Nat.le_refl _)
        · have h3b : (r == 3) = false := by simpa using h3
          have hF := D.finish
          have f0 := D.f0
          have f1 := D.f1
          obtain ⟨u0, k0⟩ := D.r0
          obtain ⟨u1, k1⟩ := D.r1
          have z0 := D.rz 0
          have z1 := D.rz 1
          have hst := D.st
          obtain ⟨hr, hrow, hsrc, hwi⟩ := hF
          have hsz9 := hrow.1
          clear D
          go_wp2
          refine bodyPost_ret (v := .agg #[.int .i64 fb, .slice ax ps.length cx]) (by simp only [results, Try.results56]; simp [go_sem, hr.1, hr.2]) rfl ?_
          first | refine ⟨fb, _, ps, q, rfl, ⟨by omega, by omega, by omega⟩, ?_, hsrc, hwi⟩ | refine ⟨fb, _, rfl, ps, q, ⟨by omega, by omega, by omega⟩, ?_, hsrc, hwi⟩ | refine ⟨_, rfl, ps, ⟨by omega, by omega, by omega⟩, ?_, hsrc, hwi⟩
          exact (own_pairs hrow (Nat.le_refl _)).mono (by have := HS.out; omega) (Nat.le_refl _)

end Go.Proofs.Ytlkabmgindbbmaa
