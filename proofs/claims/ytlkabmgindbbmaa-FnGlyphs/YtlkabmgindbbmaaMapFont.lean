/-
  The font of a map: (glyphMap).font, walked.
-/
import Derived.Test.YtlkabmgindbbmaaRows
import Derived.Test.YtlkabmgindbbmaaMapChars
import Derived.Test.YtlkabmgindbbmaaPairMem
import Derived.Test.YtlkabmgindbbmaaAppendStep
import Derived.Deep.RegionHeld
import Derived.Maps.OwnOps
namespace Go.Proofs.Ytlkabmgindbbmaa
set_option maxRecDepth 20000
open Go.ChangeShapes Go.WideShapes Go.ChangeAt Go.RowKit Go.Maps
set_option linter.unusedVariables false
set_option linter.unusedSimpArgs false

theorem MapAt.low {w w' : World} {b n B : Nat} {ps : List (Int × Int)} (h : MapAt w b n ps) (hb : Below B w w') (hB : b < B) : MapAt w' b n ps := by
  obtain ⟨D, ⟨es, clock, h1, h2⟩, ht⟩ := h
  exact ⟨D, ⟨es, clock, by rw [hb.block b hB]; exact h1, h2⟩, ht⟩
theorem MapAt.look {w : World} {b n : Nat} {ps : List (Int × Int)} (h : MapAt w b n ps) {c g : Int} (hc : wf64 c) (hl : lk ps c = some g) : (Instr.lookup 95 (.map (some b)) (.agg #[.int .i64 c]) false).run Try.prog w = .ok (.int .i64 g) w := by
  obtain ⟨D, hown, ht⟩ := h
  obtain ⟨x, hrun, hat, _⟩ := hown.lookup_int key_law Try.underlying95 Try.underlying2 (zero_elem _) (keyOf_ck hc)
  rw [ht.at_ c g hc hl] at hat
  obtain rfl : g = x := by simpa using hat
  exact hrun
theorem Within.then_below {lo hi : Nat} {w a b : World} (h : Within lo hi w a) (hb : Below w.heap.size a b) : Within lo hi w b :=
  ⟨hb.os.trans h.os, hb.tape.trans h.tape, hb.output.trans h.output, Nat.le_trans h.size hb.size, fun k hk ho => (hb.block k hk).trans (h.block k hk ho)⟩
theorem MapAt.store {w : World} {b n : Nat} {ps : List (Int × Int)} {a : Addr} {u : Value} (h : MapAt w b n ps) (hb : b ≠ a.block) : MapAt (w.setCell a u) b n ps := by
  obtain ⟨D, h, ht⟩ := h
  exact ⟨D, h.setCell hb _, ht⟩
theorem own_block2 {w w' : World} {base size n : Nat} {e : TypeId} {v : Value} {xs : List Value} (h : w.ownsRow base e size v n xs) (hb : ∀ k, v.ownBlock = some k → w'.heap[k]? = w.heap[k]?) : w'.ownsRow base e size v n xs := by
  obtain ⟨h1, h2⟩ := h
  refine ⟨h1, ?_⟩
  rcases h2 with h | ⟨g, cap, cur, hv, hg, hc, hr⟩
  · exact .inl h
  · exact .inr ⟨g, cap, cur, hv, hg, by rw [hb g (by rw [hv]; rfl)]; exact hc, hr⟩
/-- A pair stored into two cells that are there. -/
theorem two_cells2 {w : World} {b o : Nat} {x y u u' : Value} (h1 : w.cell? ⟨b, o, none⟩ = some u) (h2 : w.cell? ⟨b, o + 1, none⟩ = some u') :
    ((w.setCell ⟨b, o, none⟩ x).setCell ⟨b, o + 1, none⟩ y).cell? ⟨b, o, none⟩ = some x ∧ ((w.setCell ⟨b, o, none⟩ x).setCell ⟨b, o + 1, none⟩ y).cell? ⟨b, o + 1, none⟩ = some y ∧
    ∀ q, q ≠ o → q ≠ o + 1 → ((w.setCell ⟨b, o, none⟩ x).setCell ⟨b, o + 1, none⟩ y).cell? ⟨b, q, none⟩ = w.cell? ⟨b, q, none⟩ := by
  have g3 : (w.setCell ⟨b, o, none⟩ x).cell? ⟨b, o + 1, none⟩ = some u' := by rw [World.cell?_setCell_other _ _ _ _ (addr_ne (by omega))]; exact h2
  refine ⟨?_, World.cell?_setCell_same _ _ _ g3, fun q e1 e2 => ?_⟩
  · rw [World.cell?_setCell_other _ _ _ _ (addr_ne (by omega))]; exact World.cell?_setCell_same _ _ _ h1
  · rw [World.cell?_setCell_other _ _ _ _ (addr_ne (by omega)), World.cell?_setCell_other _ _ _ _ (addr_ne (by omega))]
theorem own_shape {w : World} {base size n : Nat} {e : TypeId} {v : Value} {xs : List Value} (h : w.ownsRow base e size v n xs) : ∃ a c, v = .slice a n c := by
  rcases h.2 with ⟨rfl, rfl⟩ | ⟨g, cap, cur, rfl, _⟩
  · exact ⟨none, 0, rfl⟩
  · exact ⟨_, _, rfl⟩
theorem info_pair2 : (Try.prog.info? 52).map (fun i => (i.zero, i.size, i.bytes)) = some (some (.agg #[.int .i64 0, .int .i64 0]), 2, 16) := by kernel_rfl

set_option maxHeartbeats 2000000 in
theorem font_calls (b n : Nat) (ps : List (Int × Int)) (fb : Int) (w : World) (hn : n ≤ 100) (hm : MapAt w b n ps) (hwf : ∀ p ∈ ps, wf64 p.1) :
    Calls Try.prog 59 #[.map (some b), .int .i64 fb] w fun e w' => ∃ x, e = .returned (.agg #[.int .i64 fb, x]) ∧ PairsAt w.heap.size w'.heap.size w' x ps ∧ Below w.heap.size w w' := by
  have hbw := hm.lt
  have hlen : ps.length ≤ n := hm.len
  have hst := hide hm.sorted
  have HW := hide hwf
  clear hwf
  obtain ⟨i0, hi, hz0, hz1, hz2⟩ := info_parts info_pair2
  go_enter Try.func59, Try.ntmps59
  go_wp2_with fail
  have hW2 : Below w.heap.size w ((w.alloc (.cells #[.int .i64 0, .slice none 0 0] 50)).alloc (.cells #[.int .i64 fb, .slice none 0 0] 50)) := (by repeat' (first | with_reducible exact Below.refl _ _ | with_reducible assumption | with_reducible refine Below.drew ?_ | with_reducible refine Below.alloc ?_ ?_ _ | with_reducible refine Below.setCell ?_ ?_ _ | (simp; done) | (simp; omega) | omega))
  refine (chars_calls b n ps _ hn (hm.below hW2) HW.out).mono ?_
  rintro e w3 ⟨x, rfl, hx, hb3⟩
  have hs3 : w.heap.size + 2 ≤ w3.heap.size := by have := hb3.size; simp at this; omega
  have hb03 : Below w.heap.size w w3 := hW2.trans (hb3.mono (by simp; omega))
  have hm3 := hm.below hb03
  have r0 : w3.cell? ⟨w.heap.size, 0, none⟩ = some (.int .i64 0) := cellb hb3 (by simp)
  have r1 : w3.cell? ⟨w.heap.size, 1, none⟩ = some (.slice none 0 0) := cellb hb3 (by simp)
  have q0 : w3.cell? ⟨w.heap.size + 1, 0, none⟩ = some (.int .i64 fb) := cellb hb3 (by simp)
  have q1 : w3.cell? ⟨w.heap.size + 1, 1, none⟩ = some (.slice none 0 0) := cellb hb3 (by simp)
  have y0 : w3.frozen? ⟨w.heap.size, 0, none⟩ = false := by rw [hb3.frozen (p := ⟨w.heap.size, 0, none⟩) (by simp; omega)]; simp
  have y1 : w3.frozen? ⟨w.heap.size, 1, none⟩ = false := by rw [hb3.frozen (p := ⟨w.heap.size, 1, none⟩) (by simp; omega)]; simp
  have y2 : w3.frozen? ⟨w.heap.size + 1, 1, none⟩ = false := by rw [hb3.frozen (p := ⟨w.heap.size + 1, 1, none⟩) (by simp)]; simp
  have hx := hx.mono (lo' := w.heap.size + 2) (by simp) (Nat.le_refl _)
  obtain ⟨ax, cx, rfl, hx'⟩ := hx
  have hx : IntsAt .i64 (w.heap.size + 2) w3.heap.size w3 (.slice ax (ps.map (·.1)).length cx) (ps.map (·.1)) := ⟨ax, cx, rfl, hx'⟩
  have HX := hide hx
  simp only [List.length_map]
  clear hx' hx hb3 hW2 hm
  go_wp2_with fail
  go_loopw [13] (fun i wr => ∃ (k : Nat) (o : Value), k ≤ ps.length ∧ i = .int .i64 k ∧ Within (w.heap.size + 1) (w.heap.size + 2) w3 wr ∧ wr.cell? ⟨w.heap.size + 1, 0, none⟩ = some (.int .i64 fb) ∧ wr.cell? ⟨w.heap.size + 1, 1, none⟩ = some o ∧ wr.frozen? ⟨w.heap.size + 1, 1, none⟩ = false ∧ wr.ownsRow w3.heap.size 52 2 o k (pvs (ps.take k))) (fun i _ => ps.length - (intOf i).toNat)
  case atStart => exact ⟨0, _, Nat.zero_le _, rfl, Within.refl _ _ _, q0, q1, y2, World.ownsRow_nil _ _ _ _⟩
  case round =>
    obtain ⟨k, o, hkk, rfl, hwi, d0, d1, fz, hrow⟩ := hrel
    have hsz : w3.heap.size ≤ wr.heap.size := hwi.size
    have hbel : Below (w.heap.size + 1) w3 wr := hwi.below (Nat.le_refl _) (by omega)
    have hmr := hm3.low hbel (by omega)
    by_cases hlt : k < ps.length
    · have hxr := HX.out.within hwi (Nat.le_refl _) (.inr (by omega))
      have hlt2 : k < (ps.map (·.1)).length := by simpa using hlt
      obtain ⟨a', c', hv', hx'⟩ := hxr
      have hpos : ps.map (·.1) ≠ [] := by intro h; rw [h] at hlt2; simp at hlt2
      rcases hx' with hx' | ⟨bx, ox, ha', _, _, hx'⟩
      · exact absurd hx' hpos
      have ha1 : ax = a' := by simp at hv'; exact hv'.1
      have ha2 : ax = some ⟨bx, ox, none⟩ := by rw [ha1, ha']
      clear ha1
      subst ha2
      obtain ⟨g1, _⟩ := hx' k hlt2
      have hg : (ps.map (·.1)).getD k 0 = (ps.getD k (0, 0)).1 := by simp [List.getD_eq_getElem?_getD, hlt]
      rw [hg] at g1
      have hlk : lk ps (ps.getD k (0, 0)).1 = some (ps.getD k (0, 0)).2 := (lk_some hst.out).2 (by rw [getD_at hlt]; exact List.getElem_mem hlt)
      have hwk : wf64 (ps.getD k (0, 0)).1 := HW.out _ (by rw [getD_at hlt]; exact List.getElem_mem hlt)
      have hltI : (k : Int) < (ps.length : Int) := by omega
      have htk : ps.take (k + 1) = ps.take k ++ [((ps.getD k (0, 0)).1, (ps.getD k (0, 0)).2)] := by rw [getD_at hlt]; exact List.take_succ_eq_append_getElem hlt
      have HTK := hide htk
      clear hx' hpos hlt2 hv' ha' hg htk HX
      generalize (ps.getD k (0, 0)).1 = c at *
      generalize (ps.getD k (0, 0)).2 = g at *
      have hW8 : Below wr.heap.size wr (wr.drew.alloc (.cells #[.int .i64 c, .int .i64 g] 52)) := (by repeat' (first | with_reducible exact Below.refl _ _ | with_reducible assumption | with_reducible refine Below.drew ?_ | with_reducible refine Below.alloc ?_ ?_ _ | with_reducible refine Below.setCell ?_ ?_ _ | (simp; done) | (simp; omega) | omega))
      have hrow8 : (wr.drew.alloc (.cells #[.int .i64 c, .int .i64 g] 52)).ownsRow w3.heap.size 52 2 o k (pvs (ps.take k)) := own_below hrow hW8
      have hm8 : MapAt (wr.drew.alloc (.cells #[.int .i64 c, .int .i64 g] 52)) b n ps := hmr.below hW8
      have d8 : (wr.drew.alloc (.cells #[.int .i64 c, .int .i64 g] 52)).cell? ⟨w.heap.size + 1, 1, none⟩ = some o := cellb hW8 d1
      have dd8 : (wr.drew.alloc (.cells #[.int .i64 c, .int .i64 g] 52)).cell? ⟨w.heap.size + 1, 0, none⟩ = some (.int .i64 fb) := cellb hW8 d0
      have f8 : (wr.drew.alloc (.cells #[.int .i64 c, .int .i64 g] 52)).frozen? ⟨w.heap.size + 1, 1, none⟩ = false := by rw [hW8.frozen (p := ⟨w.heap.size + 1, 1, none⟩) (by simp; omega)]; exact fz
      have d9 : (wr.alloc (.cells #[.int .i64 c, .int .i64 g] 52)).cell? ⟨w.heap.size + 1, 1, none⟩ = some o := d8
      go_wp2_with fail
      refine wp_region_held_drew (S := (fun w' => MapAt w' b n ps)) (by kernel_rfl) ?_ (fun hHeld => ?_)
      · (try dsimp only); exact hmr
      refine wpAnyH_take (i := 2) (oi := ⟨_, _, _, _, _, _⟩) (v := ?_) rfl (by kernel_rfl) (by kernel_rfl) (by kernel_rfl) (fun _ _ _ h => h) (Or.inl ⟨by rfl, ?_⟩) hHeld ?_
      rotate_left
      · (intro w hSw; (try dsimp only at hSw); go_simp; try (with_reducible rfl))
      try simp only [Act.put, List.setIfInBounds_toArray, List.set_cons_zero, List.set_cons_succ]
      refine wpAnyH_take (i := 3) (oi := ⟨_, _, _, _, _, _⟩) (v := ?_) rfl (by kernel_rfl) (by kernel_rfl) (by kernel_rfl) (fun _ _ _ h => h) (Or.inl ⟨by rfl, ?_⟩) hHeld ?_
      rotate_left
      · (intro w hSw; (try dsimp only at hSw); go_simp; try (with_reducible rfl))
      try simp only [Act.put, List.setIfInBounds_toArray, List.set_cons_zero, List.set_cons_succ]
      refine wpAnyH_take (i := 4) (oi := ⟨_, _, _, _, _, _⟩) (v := ?_) rfl (by kernel_rfl) (by kernel_rfl) (by kernel_rfl) (fun _ _ _ h => h) (Or.inl ⟨by rfl, ?_⟩) hHeld ?_
      rotate_left
      · (intro w hSw; (try dsimp only at hSw); go_simp; try (with_reducible rfl))
      try simp only [Act.put, List.setIfInBounds_toArray, List.set_cons_zero, List.set_cons_succ]
      refine wpAnyH_take (i := 5) (oi := ⟨_, _, _, _, _, _⟩) (v := ?_) rfl (by kernel_rfl) (by kernel_rfl) (by kernel_rfl) (fun _ _ _ h => h) (Or.inl ⟨by rfl, ?_⟩) hHeld ?_
      rotate_left
      · (intro w hSw; (try dsimp only at hSw); go_simp; try (with_reducible rfl))
      try simp only [Act.put, List.setIfInBounds_toArray, List.set_cons_zero, List.set_cons_succ]
      refine wpAnyH_take (i := 6) (oi := ⟨_, _, _, _, _, _⟩) (v := .int .i64 g) rfl (by kernel_rfl) (by kernel_rfl) (by kernel_rfl) (fun _ _ _ h => h) (Or.inl ⟨by rfl, ?_⟩) hHeld ?_
      · intro w hSw
        (try dsimp only at hSw)
        have hrun := hSw.look hwk hlk
        go_simp
      try simp only [Act.put, List.setIfInBounds_toArray, List.set_cons_zero, List.set_cons_succ]
      refine wpAnyH_take (i := 7) (oi := ⟨_, _, _, _, _, _⟩) (v := ?_) rfl (by kernel_rfl) (by kernel_rfl) (by kernel_rfl) (fun _ _ _ h => h) (Or.inl ⟨by rfl, ?_⟩) hHeld ?_
      rotate_left
      · (intro w hSw; (try dsimp only at hSw); go_simp; try (with_reducible rfl))
      try simp only [Act.put, List.setIfInBounds_toArray, List.set_cons_zero, List.set_cons_succ]
      refine wpAnyH_take (i := 0) (oi := ⟨_, _, _, _, _, _⟩) (v := ?_) rfl (by kernel_rfl) (by kernel_rfl) (by kernel_rfl) (fun _ _ _ h => h) (Or.inl ⟨by rfl, ?_⟩) hHeld ?_
      rotate_left
      · (intro w hSw; (try dsimp only at hSw); go_simp; try (with_reducible rfl))
      try simp only [Act.put, List.setIfInBounds_toArray, List.set_cons_zero, List.set_cons_succ]
      refine wpAnyH_ready (rs := [1, 8]) (by kernel_rfl) (by simp) ?_
      refine (AllReadyH.cons (o := ⟨_, _, _, _, _, _⟩) rfl (fun K hK => ?_) (AllReadyH.cons (o := ⟨_, _, _, _, _, _⟩) rfl (fun K hK => ?_) AllReadyH.nil))
      · skip
        go_simp
        refine hK.out _ _ ?_ ?_
        · (try dsimp only); exact hmr
        clear hHeld hK K
        intro hHeld
        try simp only [Act.put, List.setIfInBounds_toArray, List.set_cons_zero, List.set_cons_succ]
        refine wpAnyH_ready (rs := [8]) (by kernel_rfl) (by simp) ?_
        refine (AllReadyH.cons (o := ⟨_, _, _, _, _, _⟩) rfl (fun K hK => ?_) AllReadyH.nil)
        go_simp
        refine hK.out _ _ ?_ ?_
        · (try dsimp only); exact hm8
        clear hHeld hK K
        intro hHeld
        try simp only [Act.put, List.setIfInBounds_toArray, List.set_cons_zero, List.set_cons_succ]
        refine wpAnyH_ready (rs := [9]) (by kernel_rfl) (by simp) ?_
        refine (AllReadyH.cons (o := ⟨_, _, _, _, _, _⟩) rfl (fun K hK => ?_) AllReadyH.nil)
        refine step_append2 rfl (.tmp 18) (.tmp 25) 48 rfl w3.heap.size 52 i0 (.agg #[.int .i64 0, .int .i64 0]) 2 16 Try.underlying48 hi hz0 hz1 hz2 rfl (by decide) _ k (pvs (ps.take k)) rfl hrow8 ⟨wr.heap.size, 0, none⟩ 1 1 (pvs [(c, g)]) rfl rfl (new_row_at (by simp) rfl) (pvs_one _) (by unfold maxLen; omega) (by omega) (by simp; omega) ?_
        intro o5 w5 hown5 hgr5
        obtain ⟨a5, c5, rfl⟩ := own_shape hown5
        have hb5 : Below w3.heap.size (wr.drew.alloc (.cells #[.int .i64 c, .int .i64 g] 52)) w5 := (Below.refl _ _).grown hgr5 (by simp; omega) (fun q hq => (hrow8.lt q hq).1)
        have hm5 := hm8.low hb5 (by omega)
        have e1 : w5.cell? ⟨w.heap.size + 1, 1, none⟩ = some o := cellk hb5 (by omega) d8
        have e0 : w5.cell? ⟨w.heap.size + 1, 0, none⟩ = some (.int .i64 fb) := cellk hb5 (by omega) dd8
        have f1 : w5.frozen? ⟨w.heap.size + 1, 1, none⟩ = false := by rw [hb5.frozen (p := ⟨w.heap.size + 1, 1, none⟩) (by simp; omega)]; exact f8
        have hw5 : Within (w.heap.size + 1) (w.heap.size + 2) w3 w5 := (hwi.then_below (hW8.mono hsz)).then_below hb5
        have hs5 : wr.heap.size < w5.heap.size := by have := hb5.size; simp at this; omega
        refine hK.out _ _ ?_ ?_
        · (try dsimp only); exact hm5
        clear hHeld hK K
        intro hHeld
        try simp only [Act.put, List.setIfInBounds_toArray, List.set_cons_zero, List.set_cons_succ]
        refine wpAnyH_take (i := 10) (oi := ⟨_, _, _, _, _, _⟩) (v := ?_) rfl (by kernel_rfl) (by kernel_rfl) (by kernel_rfl) (fun _ _ _ h => h) (Or.inl ⟨by rfl, ?_⟩) hHeld ?_
        rotate_left
        · (intro w hSw; (try dsimp only at hSw); go_simp; try (with_reducible rfl))
        try simp only [Act.put, List.setIfInBounds_toArray, List.set_cons_zero, List.set_cons_succ]
        refine wpAnyH_ready (rs := [11]) (by kernel_rfl) (by simp) ?_
        refine (AllReadyH.cons (o := ⟨_, _, _, _, _, _⟩) rfl (fun K hK => ?_) AllReadyH.nil)
        go_simp
        refine hK.out _ _ ?_ ?_
        · (try dsimp only); exact hm5.store (by simp; omega)
        clear hHeld hK K
        intro hHeld
        try simp only [Act.put, List.setIfInBounds_toArray, List.set_cons_zero, List.set_cons_succ]
        refine wpAnyH_done (by kernel_rfl) ?_ _
        go_wp2
        go_roundw
        case rel =>
          have hown6 : w5.ownsRow w3.heap.size 52 2 (.slice a5 (k + 1) c5) (k + 1) (pvs (ps.take (k + 1))) := by rw [HTK.out, pvs_append]; exact hown5
          refine ⟨k + 1, .slice a5 (k + 1) c5, by omega, by go_num, hw5.setCell (by simp) (by simp) _, ?_, ?_, ?_, ?_⟩
          · rw [World.cell?_setCell_other _ _ _ _ (addr_ne (by omega))]; exact e0
          · exact World.cell?_setCell_same _ _ _ e1
          · rw [World.frozen?_setCell]; exact f1
          · exact own_block2 hown6 (fun q hq => Below.heap_setCell _ _ _ _ (by have := (hown6.lt q hq).1; simp; omega))
        case measure => simp [intOf]; omega
      · skip
        go_simp
        refine hK.out _ _ ?_ ?_
        · (try dsimp only); exact hm8
        clear hHeld hK K
        intro hHeld
        try simp only [Act.put, List.setIfInBounds_toArray, List.set_cons_zero, List.set_cons_succ]
        refine wpAnyH_ready (rs := [1]) (by kernel_rfl) (by simp) ?_
        refine (AllReadyH.cons (o := ⟨_, _, _, _, _, _⟩) rfl (fun K hK => ?_) AllReadyH.nil)
        go_simp
        refine hK.out _ _ ?_ ?_
        · (try dsimp only); exact hm8
        clear hHeld hK K
        intro hHeld
        try simp only [Act.put, List.setIfInBounds_toArray, List.set_cons_zero, List.set_cons_succ]
        refine wpAnyH_ready (rs := [9]) (by kernel_rfl) (by simp) ?_
        refine (AllReadyH.cons (o := ⟨_, _, _, _, _, _⟩) rfl (fun K hK => ?_) AllReadyH.nil)
        refine step_append2 rfl (.tmp 18) (.tmp 25) 48 rfl w3.heap.size 52 i0 (.agg #[.int .i64 0, .int .i64 0]) 2 16 Try.underlying48 hi hz0 hz1 hz2 rfl (by decide) _ k (pvs (ps.take k)) rfl hrow8 ⟨wr.heap.size, 0, none⟩ 1 1 (pvs [(c, g)]) rfl rfl (new_row_at (by simp) rfl) (pvs_one _) (by unfold maxLen; omega) (by omega) (by simp; omega) ?_
        intro o5 w5 hown5 hgr5
        obtain ⟨a5, c5, rfl⟩ := own_shape hown5
        have hb5 : Below w3.heap.size (wr.drew.alloc (.cells #[.int .i64 c, .int .i64 g] 52)) w5 := (Below.refl _ _).grown hgr5 (by simp; omega) (fun q hq => (hrow8.lt q hq).1)
        have hm5 := hm8.low hb5 (by omega)
        have e1 : w5.cell? ⟨w.heap.size + 1, 1, none⟩ = some o := cellk hb5 (by omega) d8
        have e0 : w5.cell? ⟨w.heap.size + 1, 0, none⟩ = some (.int .i64 fb) := cellk hb5 (by omega) dd8
        have f1 : w5.frozen? ⟨w.heap.size + 1, 1, none⟩ = false := by rw [hb5.frozen (p := ⟨w.heap.size + 1, 1, none⟩) (by simp; omega)]; exact f8
        have hw5 : Within (w.heap.size + 1) (w.heap.size + 2) w3 w5 := (hwi.then_below (hW8.mono hsz)).then_below hb5
        have hs5 : wr.heap.size < w5.heap.size := by have := hb5.size; simp at this; omega
        refine hK.out _ _ ?_ ?_
        · (try dsimp only); exact hm5
        clear hHeld hK K
        intro hHeld
        try simp only [Act.put, List.setIfInBounds_toArray, List.set_cons_zero, List.set_cons_succ]
        refine wpAnyH_take (i := 10) (oi := ⟨_, _, _, _, _, _⟩) (v := ?_) rfl (by kernel_rfl) (by kernel_rfl) (by kernel_rfl) (fun _ _ _ h => h) (Or.inl ⟨by rfl, ?_⟩) hHeld ?_
        rotate_left
        · (intro w hSw; (try dsimp only at hSw); go_simp; try (with_reducible rfl))
        try simp only [Act.put, List.setIfInBounds_toArray, List.set_cons_zero, List.set_cons_succ]
        refine wpAnyH_ready (rs := [11]) (by kernel_rfl) (by simp) ?_
        refine (AllReadyH.cons (o := ⟨_, _, _, _, _, _⟩) rfl (fun K hK => ?_) AllReadyH.nil)
        go_simp
        refine hK.out _ _ ?_ ?_
        · (try dsimp only); exact hm5.store (by simp; omega)
        clear hHeld hK K
        intro hHeld
        try simp only [Act.put, List.setIfInBounds_toArray, List.set_cons_zero, List.set_cons_succ]
        refine wpAnyH_done (by kernel_rfl) ?_ _
        go_wp2
        go_roundw
        case rel =>
          have hown6 : w5.ownsRow w3.heap.size 52 2 (.slice a5 (k + 1) c5) (k + 1) (pvs (ps.take (k + 1))) := by rw [HTK.out, pvs_append]; exact hown5
          refine ⟨k + 1, .slice a5 (k + 1) c5, by omega, by go_num, hw5.setCell (by simp) (by simp) _, ?_, ?_, ?_, ?_⟩
          · rw [World.cell?_setCell_other _ _ _ _ (addr_ne (by omega))]; exact e0
          · exact World.cell?_setCell_same _ _ _ e1
          · rw [World.frozen?_setCell]; exact f1
          · exact own_block2 hown6 (fun q hq => Below.heap_setCell _ _ _ _ (by have := (hown6.lt q hq).1; simp; omega))
        case measure => simp [intOf]; omega
    · have hk' : k = ps.length := by omega
      subst hk'
      have hge : ¬ ((ps.length : Int) < (ps.length : Int)) := by omega
      rw [List.take_length] at hrow
      obtain ⟨a5, c5, rfl⟩ := own_shape hrow
      have hx : PairsAt w3.heap.size wr.heap.size wr (.slice a5 ps.length c5) ps := own_pairs hrow (Nat.le_refl _)
      have k0 : wr.cell? ⟨w.heap.size, 0, none⟩ = some (.int .i64 0) := hwi.cell (by omega) (by omega) r0
      have k1 : wr.cell? ⟨w.heap.size, 1, none⟩ = some (.slice none 0 0) := hwi.cell (by omega) (by omega) r1
      have z0 : wr.frozen? ⟨w.heap.size, 0, none⟩ = false := by rw [hbel.frozen (p := ⟨w.heap.size, 0, none⟩) (by simp)]; exact y0
      have z1 : wr.frozen? ⟨w.heap.size, 1, none⟩ = false := by rw [hbel.frozen (p := ⟨w.heap.size, 1, none⟩) (by simp)]; exact y1
      obtain ⟨s1, s2, _⟩ := two_cells2 (w := wr) (b := w.heap.size) (o := 0) (x := .int .i64 fb) (y := .slice a5 ps.length c5) k0 k1
      rw [Nat.zero_add] at s1 s2
      have hbf := hb03.trans (hbel.mono (by omega))
      go_wp2
      refine bodyPost_ret (v := .agg #[.int .i64 fb, .slice a5 ps.length c5]) (by simp only [results, Try.results59]; simp [go_sem, s1, s2]) rfl ⟨_, rfl, ?_, ?_⟩
      · refine (hx.of_blocks ?_).mono (by omega) (by simp [World.setCell])
        intro i hi _
        simp only [World.setCell, Array.getElem?_modify]
        repeat rw [if_neg (by omega)]
      · exact (by repeat' (first | with_reducible exact Below.refl _ _ | with_reducible assumption | with_reducible refine Below.drew ?_ | with_reducible refine Below.alloc ?_ ?_ _ | with_reducible refine Below.setCell ?_ ?_ _ | (simp; done) | (simp; omega) | omega))

end Go.Proofs.Ytlkabmgindbbmaa
