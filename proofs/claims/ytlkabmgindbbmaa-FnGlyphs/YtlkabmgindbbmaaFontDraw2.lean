/-
  Fonts that are drawn: l2Draw, l2Bent, walked.
-/
import Derived.Test.YtlkabmgindbbmaaRows
import Derived.Test.YtlkabmgindbbmaaFontDraws
import Derived.WalkKit
import Derived.ProofKit
import Derived.OpenShut
import Derived.Below
import Derived.OwnWalk
import Derived.WalkSpells
import Derived.Deep.RegionHeld
namespace Go.Proofs.Ytlkabmgindbbmaa
set_option maxRecDepth 20000
open Go.ChangeShapes Go.WideShapes Go.ChangeAt Go.RowKit
set_option linter.unusedVariables false
set_option linter.unusedSimpArgs false

set_option maxHeartbeats 4000000 in
theorem l2Draw_calls (zs : List Int) (a : Option Addr) (cap B : Nat) (p : Int) (w0 w : World) (hv : ReadAt .u8 w0 (.slice a zs.length cap) zs) (hz : ∀ z ∈ zs, 0 ≤ z ∧ z ≤ 255) (hlen : zs.length ≤ 1048576) (hs : Src w0 w B (.slice a zs.length cap) p) (hp0 : 0 ≤ p) (hp1 : p ≤ 900000) :
    Calls Try.prog 72 #[.pointer (some ⟨B, 0, none⟩)] w fun e w' => ∃ (fb : Int) (x : Value) (ps : List (Int × Int)) (q : Int), e = .returned (.agg #[.int .i64 fb, x]) ∧ (ps.length ≤ 8 ∧ p ≤ q ∧ q ≤ p + 50) ∧ w'.ownsRow (w.heap.size + 1) 52 2 x ps.length (pvs ps) ∧ (∀ k, x.ownBlock = some k → k ≠ B) ∧ Src w0 w' B (.slice a zs.length cap) q ∧ Within B (B + 1) w w' := by
  have HZ := hide hz
  clear hz
  have hB := hs.lt
  have hw0 := hs.old.size
  obtain ⟨i0, hi, hz0, hz1, hz2⟩ := info_parts info_pairD
  go_enter Try.func72, Try.ntmps72
  go_wp2_with fail
  have s1 := hs.allocf (.cells #[.int .i64 0, .slice none 0 0] 50)
  have r0 : (w.alloc (.cells #[.int .i64 0, .slice none 0 0] 50)).cell? ⟨w.heap.size, 0, none⟩ = some (.int .i64 0) := by simp
  have r1 : (w.alloc (.cells #[.int .i64 0, .slice none 0 0] 50)).cell? ⟨w.heap.size, 1, none⟩ = some (.slice none 0 0) := by simp
  have rz : ∀ k, (w.alloc (.cells #[.int .i64 0, .slice none 0 0] 50)).frozen? ⟨w.heap.size, k, none⟩ = false := fun k => by simp
  have x1 : Within B (B + 1) w (w.alloc (.cells #[.int .i64 0, .slice none 0 0] 50)) := Within.of_below ((Below.refl _ _).alloc (Nat.le_refl _) _) (Nat.le_refl _)
  have zz : (w.alloc (.cells #[.int .i64 0, .slice none 0 0] 50)).heap.size = w.heap.size + 1 := by simp
  have ZZ := hide zz
  clear zz
  refine (l1Next_calls zs a cap B p 3 w0 _ hv HZ.out hlen s1 (by omega) (by omega) (by omega) (by omega)).mono ?_
  rintro e w2 ⟨fb, rfl, _, _, s2, x2⟩
  have hz2' := x2.size
  rw [ZZ.out] at hz2'
  have D3 : DF w0 w (w2.alloc (.cells #[.int .i64 fb, .slice none 0 0] 50)) B w.heap.size w2.heap.size (w.heap.size + 1) (.slice a zs.length cap) (p + 1) fb (.slice none 0 0) (.slice none 0 0) [] := by
    have hb : Below w2.heap.size w2 (w2.alloc (.cells #[.int .i64 fb, .slice none 0 0] 50)) := (Below.refl _ _).alloc (Nat.le_refl _) _
    refine ⟨s2.below hb, (x1.trans x2).then (hb.mono (by have := hz2'; omega)), ⟨_, cellb hb (x2.cellf (by omega) r0)⟩, ⟨_, cellb hb (x2.cellf (by omega) r1)⟩, fun k => (hb.frozen (p := ⟨w.heap.size, k, none⟩) (by simp; omega)).trans (x2.frozenf (by rw [ZZ.out]; omega) (by omega) (rz k)), by simp, by simp, (fun k => by simp), World.ownsRow_nil _ _ _ _, (fun k hk => by cases hk), ⟨by omega, by omega, by simp, by omega, by omega, hw0, by simp; omega⟩⟩
  clear s1 r0 r1 rz x1 x2 s2 hs
  go_wp2_with fail
  generalize (w2.alloc (.cells #[.int .i64 fb, .slice none 0 0] 50)) = w3 at *
  refine (l1Next_calls zs a cap B (p + 1) 8 w0 _ hv HZ.out hlen D3.src (by omega) (by omega) (by omega) (by omega)).mono ?_
  rintro e w4 ⟨k0, rfl, hk0, hk1, s4, x4⟩
  have D4 := D3.within s4 x4
  obtain ⟨n0, rfl⟩ := Int.eq_ofNat_of_zero_le hk0
  clear D3 s4 x4 hk0
  generalize hS : w.heap.size = S at *
  generalize w2.heap.size = t at *
  have HS := hide hS
  clear hS ZZ
  generalize hbs : S + 1 = bs at D4
  have HBS := hide hbs
  clear hbs
  go_wp2_with fail
  go_loopw [4, 5] (fun cc kk wr => ∃ (c : Int) (n : Nat) (o : Value) (ps : List (Int × Int)) (q : Int), cc = .int .i64 c ∧ kk = .int .i64 n ∧ n ≤ 8 ∧ 60 ≤ c ∧ c ≤ 200 - 10 * n ∧ ps.length + n ≤ 8 ∧ p ≤ q ∧ q ≤ p + 40 - 2 * n ∧ DF w0 w wr B S t bs (.slice a zs.length cap) q fb o o ps) (fun _ kk _ => (intOf kk).toNat)
  case atStart => exact ⟨60, n0, _, [], p + 1 + 1, rfl, rfl, by omega, by omega, by omega, by simp; omega, by omega, by omega, D4⟩
  case round =>
    obtain ⟨c0, m, o, ps, q, rfl, rfl, hm8, hc0, hc1, hpl, hq0, hq1, D⟩ := hrel
    clear D4
    by_cases hm : m = 0
    · subst hm
      have hF := D.finish
      obtain ⟨a5, n5, rfl⟩ := own_shapeD D.row
      have f0 := D.f0
      have f1 := D.f1
      obtain ⟨u0, k0⟩ := D.r0
      obtain ⟨u1, k1⟩ := D.r1
      have z0 := D.rz 0
      have z1 := D.rz 1
      have HAP := hide D.ap
      obtain ⟨hr, hrow, hsrc, hwi⟩ := hF
      clear D
      go_wp2
      refine bodyPost_ret (v := .agg #[.int .i64 fb, .slice a5 ps.length n5]) (by simp only [results, Try.results72]; simp [go_sem, hr.1, hr.2]) rfl ⟨fb, _, ps, q, rfl, ⟨by omega, by omega, by omega⟩, ?_, fun k hk => (HAP.out k hk).2.2, hsrc, hwi⟩
      rw [HS.out, HBS.out]
      exact hrow
    · obtain ⟨n, rfl⟩ : ∃ n, m = n + 1 := ⟨m - 1, by omega⟩
      have hkp : (0 : Int) < ((n + 1 : Nat) : Int) := by omega
      go_wp2_with fail
      refine (l1Next_calls zs a cap B q 9 w0 _ hv HZ.out hlen D.src (by omega) (by omega) (by omega) (by omega)).mono ?_
      rintro e w6 ⟨r9, rfl, hr90, hr91, s6, x6⟩
      replace D := D.within s6 x6
      clear s6 x6
      generalize hq2 : q + 1 = q1 at D
      have hq1' : p ≤ q1 ∧ q1 ≤ p + 40 - 2 * n - 1 := by omega
      have hc1' : 60 ≤ c0 + 1 + r9 ∧ c0 + 1 + r9 ≤ 200 - 10 * n := by omega
      clear hq2
      go_wp2_with fail
      refine wp_region_held_drew (S := (fun _ => True)) (by kernel_rfl) ?_ (fun hHeld => ?_)
      · (try dsimp only); all_goals trivial
      replace D := D.below (Below.drew (Below.refl _ w6))
      generalize w6.drew = V0 at *
      refine wpAnyH_take (i := 0) (oi := ⟨_, _, _, _, _, _⟩) (v := ?_) rfl (by kernel_rfl) (by kernel_rfl) (by kernel_rfl) (fun _ _ _ h => h) (Or.inl ⟨by rfl, ?_⟩) hHeld ?_
      rotate_left
      · (intro w hSw; (try dsimp only at hSw); go_simp; try (with_reducible rfl))
      try simp only [Act.put, List.setIfInBounds_toArray, List.set_cons_zero, List.set_cons_succ]
      refine wpAnyH_take (i := 2) (oi := ⟨_, _, _, _, _, _⟩) (v := ?_) rfl (by kernel_rfl) (by kernel_rfl) (by kernel_rfl) (fun _ _ _ h => h) (Or.inl ⟨by rfl, ?_⟩) hHeld ?_
      rotate_left
      · (intro w hSw; (try dsimp only at hSw); go_simp; try (with_reducible rfl))
      try simp only [Act.put, List.setIfInBounds_toArray, List.set_cons_zero, List.set_cons_succ]
      refine wpAnyH_take (i := 3) (oi := ⟨_, _, _, _, _, _⟩) (v := ?_) rfl (by kernel_rfl) (by kernel_rfl) (by kernel_rfl) (fun _ _ _ h => h) (Or.inl ⟨by rfl, ?_⟩) hHeld ?_
      rotate_left
      · (intro w hSw; (try dsimp only at hSw); go_simp; try (with_reducible rfl))
      try simp only [Act.put, List.setIfInBounds_toArray, List.set_cons_zero, List.set_cons_succ]
      refine wpAnyH_ready (rs := [1, 4]) (by kernel_rfl) (by simp) ?_
      refine (AllReadyH.cons (o := ⟨_, _, _, _, _, _⟩) rfl (fun K hK => ?_) (AllReadyH.cons (o := ⟨_, _, _, _, _, _⟩) rfl (fun K hK => ?_) AllReadyH.nil))
      · skip
        have k1 := D.f1
        go_simp
        clear k1
        refine hK.out _ _ ?_ ?_
        · (try dsimp only); all_goals trivial
        clear hHeld hK K
        intro hHeld
        try simp only [Act.put, List.setIfInBounds_toArray, List.set_cons_zero, List.set_cons_succ]
        refine wpAnyH_ready (rs := [4]) (by kernel_rfl) (by simp) ?_
        refine (AllReadyH.cons (o := ⟨_, _, _, _, _, _⟩) rfl (fun K hK => ?_) AllReadyH.nil)
        go_simp
        go_at_call 43
        refine (l1Next_calls zs a cap B q1 5 w0 _ hv HZ.out hlen D.src (by omega) (by omega) (by omega) (by omega)).mono ?_
        rintro e V1 ⟨r, rfl, hr0, hr1, sN, xN⟩
        replace D := D.within sN xN
        clear sN xN
        try go_wp2_with fail
        refine hK.out _ _ ?_ ?_
        · (try dsimp only); all_goals trivial
        clear hHeld hK K
        intro hHeld
        try simp only [Act.put, List.setIfInBounds_toArray, List.set_cons_zero, List.set_cons_succ]
        refine wpAnyH_take (i := 5) (oi := ⟨_, _, _, _, _, _⟩) (v := ?_) rfl (by kernel_rfl) (by kernel_rfl) (by kernel_rfl) (fun _ _ _ h => h) (Or.inl ⟨by rfl, ?_⟩) hHeld ?_
        rotate_left
        · (intro w hSw; (try dsimp only at hSw); go_simp; try (with_reducible rfl))
        try simp only [Act.put, List.setIfInBounds_toArray, List.set_cons_zero, List.set_cons_succ]
        refine wpAnyH_ready (rs := [6]) (by kernel_rfl) (by simp) ?_
        refine (AllReadyH.cons (o := ⟨_, _, _, _, _, _⟩) rfl (fun K hK => ?_) AllReadyH.nil)
        go_simp
        have hb : Below V1.heap.size V1 (V1.alloc (.cells #[.int .i64 (c0 + 1 + r9), .int .i64 r] 52)) := (Below.refl _ _).alloc (Nat.le_refl _) _
        replace D := D.below hb
        have hnew : ∀ j u, (pvs [((c0 + 1 + r9), r)])[j]? = some u → (V1.alloc (.cells #[.int .i64 (c0 + 1 + r9), .int .i64 r] 52)).cell? ((⟨V1.heap.size, 0, none⟩ : Addr).add j) = some u := new_row_at rfl rfl
        clear hb
        generalize (V1.alloc (.cells #[.int .i64 (c0 + 1 + r9), .int .i64 r] 52)) = V2 at *
        refine hK.out _ _ ?_ ?_
        · (try dsimp only); all_goals trivial
        clear hHeld hK K
        intro hHeld
        try simp only [Act.put, List.setIfInBounds_toArray, List.set_cons_zero, List.set_cons_succ]
        refine wpAnyH_ready (rs := [7]) (by kernel_rfl) (by simp) ?_
        refine (AllReadyH.cons (o := ⟨_, _, _, _, _, _⟩) rfl (fun K hK => ?_) AllReadyH.nil)
        refine step_append_g rfl (.tmp 21) (.tmp 26) 48 rfl bs 52 i0 (.agg #[.int .i64 0, .int .i64 0]) 2 16 Try.underlying48 hi hz0 hz1 hz2 rfl (by decide) _ _ _ rfl D.row ⟨V1.heap.size, 0, none⟩ 1 1 (pvs [((c0 + 1 + r9), r)]) rfl rfl hnew (pvs_one _) (by unfold maxLen; omega) (by omega) (by have := D.st; omega) ?_
        intro v5 w5 hown5 hg5
        rw [← pvs_append] at hown5
        have D5 := D.append hg5 (ps' := ps ++ [((c0 + 1 + r9), r)]) (by simpa using hown5)
        obtain ⟨a5, n5, rfl⟩ := own_shapeD D5.row
        have hL : (ps ++ [((c0 + 1 + r9), r)]).length = ps.length + 1 := by simp
        rw [hL] at D5
        clear D hown5 hg5 hnew hL
        refine hK.out _ _ ?_ ?_
        · (try dsimp only); all_goals trivial
        clear hHeld hK K
        intro hHeld
        try simp only [Act.put, List.setIfInBounds_toArray, List.set_cons_zero, List.set_cons_succ]
        refine wpAnyH_take (i := 8) (oi := ⟨_, _, _, _, _, _⟩) (v := ?_) rfl (by kernel_rfl) (by kernel_rfl) (by kernel_rfl) (fun _ _ _ h => h) (Or.inl ⟨by rfl, ?_⟩) hHeld ?_
        rotate_left
        · (intro w hSw; (try dsimp only at hSw); go_simp; try (with_reducible rfl))
        try simp only [Act.put, List.setIfInBounds_toArray, List.set_cons_zero, List.set_cons_succ]
        refine wpAnyH_ready (rs := [9]) (by kernel_rfl) (by simp) ?_
        refine (AllReadyH.cons (o := ⟨_, _, _, _, _, _⟩) rfl (fun K hK => ?_) AllReadyH.nil)
        have k1 := D5.f1
        have kz := D5.fz 1
        go_simp
        clear k1 kz
        refine hK.out _ _ ?_ ?_
        · (try dsimp only); all_goals trivial
        clear hHeld hK K
        intro hHeld
        try simp only [Act.put, List.setIfInBounds_toArray, List.set_cons_zero, List.set_cons_succ]
        refine wpAnyH_done (by kernel_rfl) ?_ _
        go_wp2
        go_roundw
        case rel => exact ⟨c0 + 1 + r9, n, _, ps ++ [((c0 + 1 + r9), r)], q1 + 1, by go_num, by go_num, by omega, by omega, by omega, by simp; omega, by omega, by omega, D5.stored⟩
        case measure => first | (simp [intOf]; done) | (simp [intOf]; omega)
      · skip
        go_simp
        go_at_call 43
        refine (l1Next_calls zs a cap B q1 5 w0 _ hv HZ.out hlen D.src (by omega) (by omega) (by omega) (by omega)).mono ?_
        rintro e V1 ⟨r, rfl, hr0, hr1, sN, xN⟩
        replace D := D.within sN xN
        clear sN xN
        try go_wp2_with fail
        refine hK.out _ _ ?_ ?_
        · (try dsimp only); all_goals trivial
        clear hHeld hK K
        intro hHeld
        try simp only [Act.put, List.setIfInBounds_toArray, List.set_cons_zero, List.set_cons_succ]
        refine wpAnyH_take (i := 5) (oi := ⟨_, _, _, _, _, _⟩) (v := ?_) rfl (by kernel_rfl) (by kernel_rfl) (by kernel_rfl) (fun _ _ _ h => h) (Or.inl ⟨by rfl, ?_⟩) hHeld ?_
        rotate_left
        · (intro w hSw; (try dsimp only at hSw); go_simp; try (with_reducible rfl))
        try simp only [Act.put, List.setIfInBounds_toArray, List.set_cons_zero, List.set_cons_succ]
        refine wpAnyH_ready (rs := [1, 6]) (by kernel_rfl) (by simp) ?_
        refine (AllReadyH.cons (o := ⟨_, _, _, _, _, _⟩) rfl (fun K hK => ?_) (AllReadyH.cons (o := ⟨_, _, _, _, _, _⟩) rfl (fun K hK => ?_) AllReadyH.nil))
        · skip
          have k1 := D.f1
          go_simp
          clear k1
          refine hK.out _ _ ?_ ?_
          · (try dsimp only); all_goals trivial
          clear hHeld hK K
          intro hHeld
          try simp only [Act.put, List.setIfInBounds_toArray, List.set_cons_zero, List.set_cons_succ]
          refine wpAnyH_ready (rs := [6]) (by kernel_rfl) (by simp) ?_
          refine (AllReadyH.cons (o := ⟨_, _, _, _, _, _⟩) rfl (fun K hK => ?_) AllReadyH.nil)
          go_simp
          have hb : Below V1.heap.size V1 (V1.alloc (.cells #[.int .i64 (c0 + 1 + r9), .int .i64 r] 52)) := (Below.refl _ _).alloc (Nat.le_refl _) _
          replace D := D.below hb
          have hnew : ∀ j u, (pvs [((c0 + 1 + r9), r)])[j]? = some u → (V1.alloc (.cells #[.int .i64 (c0 + 1 + r9), .int .i64 r] 52)).cell? ((⟨V1.heap.size, 0, none⟩ : Addr).add j) = some u := new_row_at rfl rfl
          clear hb
          generalize (V1.alloc (.cells #[.int .i64 (c0 + 1 + r9), .int .i64 r] 52)) = V2 at *
          refine hK.out _ _ ?_ ?_
          · (try dsimp only); all_goals trivial
          clear hHeld hK K
          intro hHeld
          try simp only [Act.put, List.setIfInBounds_toArray, List.set_cons_zero, List.set_cons_succ]
          refine wpAnyH_ready (rs := [7]) (by kernel_rfl) (by simp) ?_
          refine (AllReadyH.cons (o := ⟨_, _, _, _, _, _⟩) rfl (fun K hK => ?_) AllReadyH.nil)
          refine step_append_g rfl (.tmp 21) (.tmp 26) 48 rfl bs 52 i0 (.agg #[.int .i64 0, .int .i64 0]) 2 16 Try.underlying48 hi hz0 hz1 hz2 rfl (by decide) _ _ _ rfl D.row ⟨V1.heap.size, 0, none⟩ 1 1 (pvs [((c0 + 1 + r9), r)]) rfl rfl hnew (pvs_one _) (by unfold maxLen; omega) (by omega) (by have := D.st; omega) ?_
          intro v5 w5 hown5 hg5
          rw [← pvs_append] at hown5
          have D5 := D.append hg5 (ps' := ps ++ [((c0 + 1 + r9), r)]) (by simpa using hown5)
          obtain ⟨a5, n5, rfl⟩ := own_shapeD D5.row
          have hL : (ps ++ [((c0 + 1 + r9), r)]).length = ps.length + 1 := by simp
          rw [hL] at D5
          clear D hown5 hg5 hnew hL
          refine hK.out _ _ ?_ ?_
          · (try dsimp only); all_goals trivial
          clear hHeld hK K
          intro hHeld
          try simp only [Act.put, List.setIfInBounds_toArray, List.set_cons_zero, List.set_cons_succ]
          refine wpAnyH_take (i := 8) (oi := ⟨_, _, _, _, _, _⟩) (v := ?_) rfl (by kernel_rfl) (by kernel_rfl) (by kernel_rfl) (fun _ _ _ h => h) (Or.inl ⟨by rfl, ?_⟩) hHeld ?_
          rotate_left
          · (intro w hSw; (try dsimp only at hSw); go_simp; try (with_reducible rfl))
          try simp only [Act.put, List.setIfInBounds_toArray, List.set_cons_zero, List.set_cons_succ]
          refine wpAnyH_ready (rs := [9]) (by kernel_rfl) (by simp) ?_
          refine (AllReadyH.cons (o := ⟨_, _, _, _, _, _⟩) rfl (fun K hK => ?_) AllReadyH.nil)
          have k1 := D5.f1
          have kz := D5.fz 1
          go_simp
          clear k1 kz
          refine hK.out _ _ ?_ ?_
          · (try dsimp only); all_goals trivial
          clear hHeld hK K
          intro hHeld
          try simp only [Act.put, List.setIfInBounds_toArray, List.set_cons_zero, List.set_cons_succ]
          refine wpAnyH_done (by kernel_rfl) ?_ _
          go_wp2
          go_roundw
          case rel => exact ⟨c0 + 1 + r9, n, _, ps ++ [((c0 + 1 + r9), r)], q1 + 1, by go_num, by go_num, by omega, by omega, by omega, by simp; omega, by omega, by omega, D5.stored⟩
          case measure => first | (simp [intOf]; done) | (simp [intOf]; omega)
        · skip
          go_simp
          have hb : Below V1.heap.size V1 (V1.alloc (.cells #[.int .i64 (c0 + 1 + r9), .int .i64 r] 52)) := (Below.refl _ _).alloc (Nat.le_refl _) _
          replace D := D.below hb
          have hnew : ∀ j u, (pvs [((c0 + 1 + r9), r)])[j]? = some u → (V1.alloc (.cells #[.int .i64 (c0 + 1 + r9), .int .i64 r] 52)).cell? ((⟨V1.heap.size, 0, none⟩ : Addr).add j) = some u := new_row_at rfl rfl
          clear hb
          generalize (V1.alloc (.cells #[.int .i64 (c0 + 1 + r9), .int .i64 r] 52)) = V2 at *
          refine hK.out _ _ ?_ ?_
          · (try dsimp only); all_goals trivial
          clear hHeld hK K
          intro hHeld
          try simp only [Act.put, List.setIfInBounds_toArray, List.set_cons_zero, List.set_cons_succ]
          refine wpAnyH_ready (rs := [1]) (by kernel_rfl) (by simp) ?_
          refine (AllReadyH.cons (o := ⟨_, _, _, _, _, _⟩) rfl (fun K hK => ?_) AllReadyH.nil)
          have k1 := D.f1
          go_simp
          clear k1
          refine hK.out _ _ ?_ ?_
          · (try dsimp only); all_goals trivial
          clear hHeld hK K
          intro hHeld
          try simp only [Act.put, List.setIfInBounds_toArray, List.set_cons_zero, List.set_cons_succ]
          refine wpAnyH_ready (rs := [7]) (by kernel_rfl) (by simp) ?_
          refine (AllReadyH.cons (o := ⟨_, _, _, _, _, _⟩) rfl (fun K hK => ?_) AllReadyH.nil)
          refine step_append_g rfl (.tmp 21) (.tmp 26) 48 rfl bs 52 i0 (.agg #[.int .i64 0, .int .i64 0]) 2 16 Try.underlying48 hi hz0 hz1 hz2 rfl (by decide) _ _ _ rfl D.row ⟨V1.heap.size, 0, none⟩ 1 1 (pvs [((c0 + 1 + r9), r)]) rfl rfl hnew (pvs_one _) (by unfold maxLen; omega) (by omega) (by have := D.st; omega) ?_
          intro v5 w5 hown5 hg5
          rw [← pvs_append] at hown5
          have D5 := D.append hg5 (ps' := ps ++ [((c0 + 1 + r9), r)]) (by simpa using hown5)
          obtain ⟨a5, n5, rfl⟩ := own_shapeD D5.row
          have hL : (ps ++ [((c0 + 1 + r9), r)]).length = ps.length + 1 := by simp
          rw [hL] at D5
          clear D hown5 hg5 hnew hL
          refine hK.out _ _ ?_ ?_
          · (try dsimp only); all_goals trivial
          clear hHeld hK K
          intro hHeld
          try simp only [Act.put, List.setIfInBounds_toArray, List.set_cons_zero, List.set_cons_succ]
          refine wpAnyH_take (i := 8) (oi := ⟨_, _, _, _, _, _⟩) (v := ?_) rfl (by kernel_rfl) (by kernel_rfl) (by kernel_rfl) (fun _ _ _ h => h) (Or.inl ⟨by rfl, ?_⟩) hHeld ?_
          rotate_left
          · (intro w hSw; (try dsimp only at hSw); go_simp; try (with_reducible rfl))
          try simp only [Act.put, List.setIfInBounds_toArray, List.set_cons_zero, List.set_cons_succ]
          refine wpAnyH_ready (rs := [9]) (by kernel_rfl) (by simp) ?_
          refine (AllReadyH.cons (o := ⟨_, _, _, _, _, _⟩) rfl (fun K hK => ?_) AllReadyH.nil)
          have k1 := D5.f1
          have kz := D5.fz 1
          go_simp
          clear k1 kz
          refine hK.out _ _ ?_ ?_
          · (try dsimp only); all_goals trivial
          clear hHeld hK K
          intro hHeld
          try simp only [Act.put, List.setIfInBounds_toArray, List.set_cons_zero, List.set_cons_succ]
          refine wpAnyH_done (by kernel_rfl) ?_ _
          go_wp2
          go_roundw
          case rel => exact ⟨c0 + 1 + r9, n, _, ps ++ [((c0 + 1 + r9), r)], q1 + 1, by go_num, by go_num, by omega, by omega, by omega, by simp; omega, by omega, by omega, D5.stored⟩
          case measure => first | (simp [intOf]; done) | (simp [intOf]; omega)
end Go.Proofs.Ytlkabmgindbbmaa
