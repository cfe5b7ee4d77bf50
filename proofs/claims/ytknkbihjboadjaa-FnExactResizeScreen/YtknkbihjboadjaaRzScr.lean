/-
  What impl.ResizeScreen answers.
-/
import Derived.Test.YtknkbihjboadjaaOwnScr
import Derived.Test.YtknkbihjboadjaaGoFns
import Derived.Test.YtknkbihjboadjaaScrNew2
import Derived.Test.YtknkbihjboadjaaResizeTop
import Derived.Test.YtknkbihjboadjaaScrFault2
namespace Go.Proofs.Ytknkbihjboadjaa
set_option maxRecDepth 20000
open Go.ChangeShapes Go.WideShapes Go.ChangeAt Go.RowKit
set_option linter.unusedVariables false
set_option linter.unusedSimpArgs false
set_option maxRecDepth 20000

def rzGrid (s : Scr) (rows width : Int) : GRes := resizeRes s.r s.wd s.cs s.bs rows width
def rzStart (s : Scr) (rows width : Int) : Scr := { s with r := rows, wd := width, cs := (rzGrid s rows width).cs, bs := (rzGrid s rows width).bs, top := 0, bot := rows - 1 }
def rzScr (s : Scr) (rows width : Int) : Scr := { goCol (goRow (rzStart s rows width) s.y) s.x with tabs := tabsW s.tabs width.toNat }
def rzRes (s : Scr) (rows width : Int) : SRes := if scrCode s = 0 then (if sizeB rows width = true then ⟨0, rzScr s rows width⟩ else sbad 3) else sbad (scrCode s)
theorem rz_grid_code {s : Scr} (h : scrCode s = 0) : gridCode s.r s.wd s.cs s.bs = 0 := by
  by_cases hg : gridCode s.r s.wd s.cs s.bs = 0
  · exact hg
  · rw [scr_grid hg] at h; exact absurd h hg
def grdZ (s : Scr) (v1 v2 : Value) : Array Value := #[.int .i64 s.r, .int .i64 s.wd, v1, v2]
theorem scrA_grdZ (s : Scr) (v1 v2 v3 v4 : Value) : ((scrA s v1 v2 v3 v4).toList.drop 0).take (grdZ s v1 v2).size = (grdZ s v1 v2).toList := rfl
set_option maxHeartbeats 8000000 in
theorem implResizeScreen_calls (s : Scr) (v1 v2 v3 v4 : Value) (rows width : Int) (w : World) (hn1 : s.cs.length ≤ 1048576) (hn2 : s.bs.length ≤ 1048576) (hn3 : s.tabs.length ≤ 1048576) (hn4 : s.sets.length ≤ 1048576) (h : SRead w s v1 v2 v3 v4) :
    Calls Try.prog 9 #[.agg (scrA s v1 v2 v3 v4), .int .i64 rows, .int .i64 width] w fun e w' => ∃ u1 u2 u3 u4, e = .returned (.agg (resA (rzRes s rows width).code (rzRes s rows width).s u1 u2 u3 u4)) ∧ SOwn w.heap.size w'.heap.size w' u1 u2 u3 u4 (rzRes s rows width).s ∧ Below w.heap.size w w' := by
  have bel0 : Below w.heap.size w ((w.alloc (.cells (scrA s v1 v2 v3 v4) 34)).alloc (.cells #[.int .i64 0, .int .i64 0, .int .i64 0, .slice none 0 0, .slice none 0 0, .int .i64 0, .int .i64 0, .bool false, .int .i64 0, .int .i64 0, .int .i64 0, .bool false, .bool false, .bool false, .slice none 0 0, .int .i64 0, .int .i64 0, .int .i64 0, .slice none 0 0, .int .i64 0, .int .i64 0] 36)) := (by repeat' (first | with_reducible exact Below.refl _ _ | with_reducible assumption | with_reducible refine Below.drew ?_ | with_reducible refine Below.alloc ?_ ?_ _ | with_reducible refine Below.setCell ?_ ?_ _ | (simp; done) | (simp; omega) | omega))
  have hA := (Blk.new w (scrA s v1 v2 v3 v4) 34).alloc (.cells #[.int .i64 0, .int .i64 0, .int .i64 0, .slice none 0 0, .slice none 0 0, .int .i64 0, .int .i64 0, .bool false, .int .i64 0, .int .i64 0, .int .i64 0, .bool false, .bool false, .bool false, .slice none 0 0, .int .i64 0, .int .i64 0, .int .i64 0, .slice none 0 0, .int .i64 0, .int .i64 0] 36)
  have hR : Blk ((w.alloc (.cells (scrA s v1 v2 v3 v4) 34)).alloc (.cells #[.int .i64 0, .int .i64 0, .int .i64 0, .slice none 0 0, .slice none 0 0, .int .i64 0, .int .i64 0, .bool false, .int .i64 0, .int .i64 0, .int .i64 0, .bool false, .bool false, .bool false, .slice none 0 0, .int .i64 0, .int .i64 0, .int .i64 0, .slice none 0 0, .int .i64 0, .int .i64 0] 36)) (w.heap.size + 1) (resA 0 scr0 (.slice none 0 0) (.slice none 0 0) (.slice none 0 0) (.slice none 0 0)) := Blk.new_at (by simp) _ _
  unfold rzRes
  by_cases hc : scrCode s = 0
  · rw [if_pos hc]
    cases hz : sizeB rows width with
    | false =>
      rw [if_neg (by simp)]
      have e' : resizeRes s.r s.wd s.cs s.bs rows width = gbad 3 := by rw [resizeRes_def, gres_bad (rz_grid_code hc) hz]
      go_enter Try.func9, Try.ntmps9
      go_wp2_with (first | fail | (refine wpList_load_at rfl 34 _ rfl (w.heap.size) 0 rfl _ (scrA s v1 v2 v3 v4) hA rfl _ Try.underlying34 rfl (by kernel_rfl) ?_; (try simp only [Act.put, List.setIfInBounds_toArray, List.set_cons_zero, List.set_cons_succ])))
      go_at_call 37
      refine (implScreenFault_calls s _ _ _ _ _ hn1 hn2 hn3 hn4 (h.below bel0)).mono ?_
      rintro e w1 ⟨rfl, hb⟩
      replace hA := hA.belowb hb
      replace hR := hR.belowb hb
      have bel1 := bel0.trans (hb.mono bel0.size)
      have z1 : w.heap.size + 2 ≤ w1.heap.size := by have := hb.size; simp at this; omega
      clear hb bel0
      rw [hc]
      go_wp2_with (first | fail | (refine wpList_load_at rfl 32 _ rfl (w.heap.size) 0 rfl _ (grdZ s v1 v2) hA (scrA_grdZ s v1 v2 v3 v4) _ Try.underlying32 rfl (by kernel_rfl) ?_; (try simp only [Act.put, List.setIfInBounds_toArray, List.set_cons_zero, List.set_cons_succ])))
      go_at_call 38
      refine (implResizeGrid_calls s.r s.wd s.cs s.bs rows width _ _ _ hn1 hn2 (h.g1.below bel1) (h.g2.below bel1)).mono ?_
      rw [e']
      rintro e w2 ⟨gx, gy, rfl, hg, hb⟩
      obtain ⟨a1, c1, a2, c2, rfl, rfl⟩ := hg.forms
      replace hA := hA.belowb hb
      replace hR := hR.belowb hb
      have bel2 := bel1.trans (hb.mono bel1.size)
      have z2 : w.heap.size + 2 ≤ w2.heap.size := by have := hb.size; omega
      clear hb bel1 hg
      dsimp only [gbad]
      go_wp2_with (first | (refine wpList_store_blk rfl _ _ _ rfl w2.heap.size 0 #[.int .i64 0, .int .i64 0, .int .i64 0, .slice none 0 0, .slice none 0 0] #[.int .i64 3, .int .i64 0, .int .i64 0, .slice a1 0 c1, .slice a2 0 c2] (.agg #[.int .i64 3, .int .i64 0, .int .i64 0, .slice a1 0 c1, .slice a2 0 c2]) rfl rfl (Blk.new w2 _ _) rfl (by kernel_rfl) rfl rfl ?_; (try simp only [Act.put, List.setIfInBounds_toArray, List.set_cons_zero, List.set_cons_succ]); intro w3 hG hu2; have cG := hG.cells; replace hA := (hA.alloc (.cells #[.int .i64 0, .int .i64 0, .int .i64 0, .slice none 0 0, .slice none 0 0] 81)).upd hu2 (by omega); replace hR := (hR.alloc (.cells #[.int .i64 0, .int .i64 0, .int .i64 0, .slice none 0 0, .slice none 0 0] 81)).upd hu2 (by omega); have bel3 := (bel2.trans ((Below.refl _ w2).alloc (by omega) (.cells #[.int .i64 0, .int .i64 0, .int .i64 0, .slice none 0 0, .slice none 0 0] 81))).trans (hu2.below (by omega)); have z3 : w3.heap.size = w2.heap.size + 1 := (by have := hu2.size; simpa using this); clear hu2 bel2) | (refine wpList_build_at rfl 36 _ rfl (resA 3 scr0 (.slice none 0 0) (.slice none 0 0) (.slice none 0 0) (.slice none 0 0)) (by first | rfl | kernel_rfl) ?_; (try simp only [Act.put, List.setIfInBounds_toArray, List.set_cons_zero, List.set_cons_succ])) | (refine wpList_store_blk rfl _ _ _ rfl (w.heap.size + 1) 0 (resA 0 scr0 (.slice none 0 0) (.slice none 0 0) (.slice none 0 0) (.slice none 0 0)) (resA 3 scr0 (.slice none 0 0) (.slice none 0 0) (.slice none 0 0) (.slice none 0 0)) (.agg (resA 3 scr0 (.slice none 0 0) (.slice none 0 0) (.slice none 0 0) (.slice none 0 0))) rfl rfl hR rfl (by kernel_rfl) rfl rfl ?_; (try simp only [Act.put, List.setIfInBounds_toArray, List.set_cons_zero, List.set_cons_succ]); clear hR; intro w9 hR hu))
      exact bodyPost_ret (results_blk hR _ _ rfl rfl Try.underlying36 rfl (by kernel_rfl)) rfl ⟨_, _, _, _, rfl, sown_zero _ _ (by have := hu.size; omega) _, bel3.trans (hu.below (by omega))⟩
    | true =>
      rw [if_pos rfl]
      obtain ⟨s1, s2, s3, s4, s5, s6⟩ := size_mul hz
      have hwr : IntKind.i64.wrap (rows - 1) = rows - 1 := wrap_small (by omega) (by omega)
      obtain ⟨G, hG'⟩ : ∃ G, rzGrid s rows width = G := ⟨_, rfl⟩
      have e' : resizeRes s.r s.wd s.cs s.bs rows width = ⟨0, rows, width, G.cs, G.bs⟩ := by rw [← hG']; unfold rzGrid; rw [resizeRes_def, gres_ok (rz_grid_code hc) hz]
      obtain ⟨kw, rfl⟩ : ∃ kw : Nat, width = (kw : Int) := ⟨width.toNat, by omega⟩
      have hst : rzStart s rows (kw : Int) = { s with r := rows, wd := (kw : Int), cs := G.cs, bs := G.bs, top := 0, bot := rows - 1 } := by unfold rzStart; rw [hG']
      have hfin : rzScr s rows (kw : Int) = { goCol (goRow { s with r := rows, wd := (kw : Int), cs := G.cs, bs := G.bs, top := 0, bot := rows - 1 } s.y) s.x with tabs := tabsW s.tabs kw } := by unfold rzScr; rw [hst]; simp
      rw [hfin]
      clear hst hfin hG' s5 s6
      go_enter Try.func9, Try.ntmps9
      go_wp2_with (first | fail | (refine wpList_load_at rfl 34 _ rfl (w.heap.size) 0 rfl _ (scrA s v1 v2 v3 v4) hA rfl _ Try.underlying34 rfl (by kernel_rfl) ?_; (try simp only [Act.put, List.setIfInBounds_toArray, List.set_cons_zero, List.set_cons_succ])))
      go_at_call 37
      refine (implScreenFault_calls s _ _ _ _ _ hn1 hn2 hn3 hn4 (h.below bel0)).mono ?_
      rintro e w1 ⟨rfl, hb⟩
      replace hA := hA.belowb hb
      replace hR := hR.belowb hb
      have bel1 := bel0.trans (hb.mono bel0.size)
      have z1 : w.heap.size + 2 ≤ w1.heap.size := by have := hb.size; simp at this; omega
      clear hb bel0
      rw [hc]
      go_wp2_with (first | fail | (refine wpList_load_at rfl 32 _ rfl (w.heap.size) 0 rfl _ (grdZ s v1 v2) hA (scrA_grdZ s v1 v2 v3 v4) _ Try.underlying32 rfl (by kernel_rfl) ?_; (try simp only [Act.put, List.setIfInBounds_toArray, List.set_cons_zero, List.set_cons_succ])))
      go_at_call 38
      refine (implResizeGrid_calls s.r s.wd s.cs s.bs rows (kw : Int) _ _ _ hn1 hn2 (h.g1.below bel1) (h.g2.below bel1)).mono ?_
      rw [e']
      rintro e w2 ⟨gx, gy, rfl, hg, hb⟩
      obtain ⟨a1, c1, a2, c2, rfl, rfl⟩ := hg.forms
      replace hA := hA.belowb hb
      replace hR := hR.belowb hb
      have bel2 := bel1.trans (hb.mono bel1.size)
      have z2 : w1.heap.size ≤ w2.heap.size := hb.size
      clear hb bel1 hc e'
      dsimp only at hg ⊢
      have cA := hA.cells
      go_wp2_with (first | fail | (refine wpList_store_blk rfl _ _ _ rfl w2.heap.size 0 #[.int .i64 0, .int .i64 0, .int .i64 0, .slice none 0 0, .slice none 0 0] #[.int .i64 0, .int .i64 rows, .int .i64 (kw : Int), .slice a1 G.cs.length c1, .slice a2 G.bs.length c2] (.agg #[.int .i64 0, .int .i64 rows, .int .i64 (kw : Int), .slice a1 G.cs.length c1, .slice a2 G.bs.length c2]) rfl rfl (Blk.new w2 _ _) rfl (by kernel_rfl) rfl rfl ?_; (try simp only [Act.put, List.setIfInBounds_toArray, List.set_cons_zero, List.set_cons_succ]); intro w3 hG hu2; have cG := hG.cells; replace hA := (hA.alloc (.cells #[.int .i64 0, .int .i64 0, .int .i64 0, .slice none 0 0, .slice none 0 0] 81)).upd hu2 (by omega); replace hR := (hR.alloc (.cells #[.int .i64 0, .int .i64 0, .int .i64 0, .slice none 0 0, .slice none 0 0] 81)).upd hu2 (by omega); have bel3 := (bel2.trans ((Below.refl _ w2).alloc (by omega) (.cells #[.int .i64 0, .int .i64 0, .int .i64 0, .slice none 0 0, .slice none 0 0] 81))).trans (hu2.below (by omega)); have z3 : w3.heap.size = w2.heap.size + 1 := (by have := hu2.size; simpa using this); replace hg := hg.of_blocks (w' := w3) (fun q q1 q2 => (hu2.block q (by omega)).trans (Below.heap_alloc _ _ _ (by omega))); clear hu2 bel2) | (refine wpList_load_at rfl 34 _ rfl (w.heap.size) 0 rfl _ (scrA s v1 v2 v3 v4) hA rfl _ Try.underlying34 rfl (by kernel_rfl) ?_; (try simp only [Act.put, List.setIfInBounds_toArray, List.set_cons_zero, List.set_cons_succ])))
      go_at_call 39
      refine (ownScreen_calls s v1 v2 v3 v4 _ hn1 hn2 hn3 hn4 (h.below bel3)).mono ?_
      rintro e w4 ⟨rfl, u1, u2, u3, u4, hO, hs, hb⟩
      have z4 : w3.heap.size + 1 ≤ w4.heap.size := by have := hO.lt; omega
      replace hA := hA.below hb (by omega)
      replace hR := hR.below hb (by omega)
      replace hg := hg.below hb (by omega)
      replace hG := hG.below hb (by omega)
      have bel4 := bel3.trans (hb.mono (by omega))
      clear hb bel3 cA cG
      have hB := hO.seg
      obtain ⟨l1, h1, l2, h2, l3, h3, a1', a2', a3', a4', a5', a6', a7', a8', a9', _, _, hS⟩ := hs.ex
      have hS' := hS
      obtain ⟨b4, d4, rfl, _⟩ := hS'
      obtain ⟨O, hO0⟩ : ∃ O : Nat → Prop, ∀ k, ¬ O k := ⟨fun _ => False, fun _ h => h⟩
      clear hs hO
      obtain ⟨p, hp⟩ : ∃ p, w3.heap.size = p := ⟨_, rfl⟩
      rw [hp] at hB a1' a3' a5' z4 ⊢
      have cA := hA.cells
      have cG := hG.cells
      have f1 := scrA_4 s v1 v2 v3 v4
      have f2 := scrA_5 s v1 v2 v3 v4
      have f3 := scrA_13 s v1 v2 v3 v4
      go_wp2_with (first | fail | (refine wpList_load_at rfl 32 _ rfl (w2.heap.size) 1 rfl _ #[.int .i64 rows, .int .i64 (kw : Int), .slice a1 G.cs.length c1, .slice a2 G.bs.length c2] hG rfl _ Try.underlying32 rfl (by kernel_rfl) ?_; (try simp only [Act.put, List.setIfInBounds_toArray, List.set_cons_zero, List.set_cons_succ])) | (refine wpList_store_seg rfl O 32 _ _ rfl p 0 0 (scrA s u1 u2 u3 (.slice b4 s.sets.length d4)) (.agg #[.int .i64 rows, .int .i64 (kw : Int), .slice a1 G.cs.length c1, .slice a2 G.bs.length c2]) hB rfl rfl rfl (by kernel_rfl) rfl ?_; (try simp only [Act.put, List.setIfInBounds_toArray, List.set_cons_zero, List.set_cons_succ]); intro w5 hB' tt; clear hB; have hB : Seg w5 p 0 (scrA { s with r := rows, wd := (kw : Int), cs := G.cs, bs := G.bs } (.slice a1 G.cs.length c1) (.slice a2 G.bs.length c2) u3 (.slice b4 s.sets.length d4)) := hB'; clear hB'; replace hA := hA.of_block (tt.block _ (by omega) (by omega) (hO0 _)); replace hR := hR.of_block (tt.block _ (by omega) (by omega) (hO0 _)); replace hg := hg.of_blocks (w' := w5) (fun q q1 q2 => tt.block q (by omega) (by omega) (hO0 _)); replace hG := hG.of_block (tt.block _ (by omega) (by omega) (hO0 _)); replace hS := hS.of_blocks (w' := w5) (fun q q1 q2 => tt.block q (by omega) (by omega) (hO0 _)); have bel5 := bel4.trans (tt.below (fun k _ => hO0 k) (by omega) (by omega)); have z5 : w4.heap.size ≤ w5.heap.size := tt.size; clear bel4 cA cG; have cA := hA.cells; have cG := hG.cells; clear tt) | (refine wpList_store_seg rfl O 2 _ _ rfl p 0 8 (scrA { s with r := rows, wd := (kw : Int), cs := G.cs, bs := G.bs } (.slice a1 G.cs.length c1) (.slice a2 G.bs.length c2) u3 (.slice b4 s.sets.length d4)) (.int .i64 0) hB rfl rfl rfl (by kernel_rfl) rfl ?_; (try simp only [Act.put, List.setIfInBounds_toArray, List.set_cons_zero, List.set_cons_succ]); intro w6 hB' tt; clear hB; have hB : Seg w6 p 0 (scrA { s with r := rows, wd := (kw : Int), cs := G.cs, bs := G.bs, top := 0 } (.slice a1 G.cs.length c1) (.slice a2 G.bs.length c2) u3 (.slice b4 s.sets.length d4)) := hB'; clear hB'; replace hA := hA.of_block (tt.block _ (by omega) (by omega) (hO0 _)); replace hR := hR.of_block (tt.block _ (by omega) (by omega) (hO0 _)); replace hg := hg.of_blocks (w' := w6) (fun q q1 q2 => tt.block q (by omega) (by omega) (hO0 _)); replace hG := hG.of_block (tt.block _ (by omega) (by omega) (hO0 _)); replace hS := hS.of_blocks (w' := w6) (fun q q1 q2 => tt.block q (by omega) (by omega) (hO0 _)); have bel6 := bel5.trans (tt.below (fun k _ => hO0 k) (by omega) (by omega)); have z6 : w5.heap.size ≤ w6.heap.size := tt.size; clear bel5 cA cG; have cA := hA.cells; have cG := hG.cells; clear tt) | (refine wpList_store_seg rfl O 2 _ _ rfl p 0 9 (scrA { s with r := rows, wd := (kw : Int), cs := G.cs, bs := G.bs, top := 0 } (.slice a1 G.cs.length c1) (.slice a2 G.bs.length c2) u3 (.slice b4 s.sets.length d4)) (.int .i64 (rows - 1)) hB rfl rfl rfl (by kernel_rfl) rfl ?_; (try simp only [Act.put, List.setIfInBounds_toArray, List.set_cons_zero, List.set_cons_succ]); intro w7 hB' tt; clear hB; have hB : Seg w7 p 0 (scrA { s with r := rows, wd := (kw : Int), cs := G.cs, bs := G.bs, top := 0, bot := rows - 1 } (.slice a1 G.cs.length c1) (.slice a2 G.bs.length c2) u3 (.slice b4 s.sets.length d4)) := hB'; clear hB'; replace hA := hA.of_block (tt.block _ (by omega) (by omega) (hO0 _)); replace hR := hR.of_block (tt.block _ (by omega) (by omega) (hO0 _)); replace hg := hg.of_blocks (w' := w7) (fun q q1 q2 => tt.block q (by omega) (by omega) (hO0 _)); replace hG := hG.of_block (tt.block _ (by omega) (by omega) (hO0 _)); replace hS := hS.of_blocks (w' := w7) (fun q q1 q2 => tt.block q (by omega) (by omega) (hO0 _)); have bel7 := bel6.trans (tt.below (fun k _ => hO0 k) (by omega) (by omega)); have z7 : w6.heap.size ≤ w7.heap.size := tt.size; clear bel6 cA cG; have cA := hA.cells; have cG := hG.cells; clear tt))
      go_at_call 40
      refine (goToRow_calls { s with r := rows, wd := (kw : Int), cs := G.cs, bs := G.bs, top := 0, bot := rows - 1 } _ _ _ _ p 0 O s.y _ s1 s2 hB).mono ?_
      rintro e w8 ⟨⟨_, rfl⟩, hB', tt⟩
      replace hA := hA.of_block (tt.block _ (by omega) (by omega) (hO0 _))
      replace hR := hR.of_block (tt.block _ (by omega) (by omega) (hO0 _))
      replace hg := hg.of_blocks (w' := w8) (fun q q1 q2 => tt.block q (by omega) (by omega) (hO0 _))
      replace hG := hG.of_block (tt.block _ (by omega) (by omega) (hO0 _))
      replace hS := hS.of_blocks (w' := w8) (fun q q1 q2 => tt.block q (by omega) (by omega) (hO0 _))
      have bel8 := bel7.trans (tt.below (fun k _ => hO0 k) (by omega) (by omega))
      have z8 : w7.heap.size ≤ w8.heap.size := tt.size
      clear hB tt bel7 cA cG
      have hB := hB'
      clear hB'
      have cA := hA.cells
      have cG := hG.cells
      go_wp2_with fail
      go_at_call 41
      refine (goToColumn_calls (goRow { s with r := rows, wd := (kw : Int), cs := G.cs, bs := G.bs, top := 0, bot := rows - 1 } s.y) _ _ _ _ p 0 O s.x _ s3 s4 hB).mono ?_
      rintro e w9 ⟨⟨_, rfl⟩, hB', tt⟩
      replace hA := hA.of_block (tt.block _ (by omega) (by omega) (hO0 _))
      replace hR := hR.of_block (tt.block _ (by omega) (by omega) (hO0 _))
      replace hg := hg.of_blocks (w' := w9) (fun q q1 q2 => tt.block q (by omega) (by omega) (hO0 _))
      replace hG := hG.of_block (tt.block _ (by omega) (by omega) (hO0 _))
      replace hS := hS.of_blocks (w' := w9) (fun q q1 q2 => tt.block q (by omega) (by omega) (hO0 _))
      have bel9 := bel8.trans (tt.below (fun k _ => hO0 k) (by omega) (by omega))
      have z9 : w8.heap.size ≤ w9.heap.size := tt.size
      clear hB tt bel8 cA cG
      have hB := hB'
      clear hB'
      have cA := hA.cells
      have cG := hG.cells
      go_wp2_with fail
      go_at_call 42
      refine (tabsOf_form s.tabs kw (by omega) (by omega) _ _ (h.g3.below bel9)).mono ?_
      rintro e w10 ⟨at', ct, rfl, hT, hb⟩
      have z10 : w9.heap.size ≤ w10.heap.size := hb.size
      replace hR := hR.belowb hb
      replace hB := hB.belowb hb
      replace hg := hg.below hb (by omega)
      replace hS := hS.below hb (by omega)
      have bel10 := bel9.trans (hb.mono (by omega))
      clear hb bel9 hA hG cA cG
      go_wp2_with (first | (refine wpList_store_seg rfl O 25 _ _ rfl p 0 13 (scrA (goCol (goRow { s with r := rows, wd := (kw : Int), cs := G.cs, bs := G.bs, top := 0, bot := rows - 1 } s.y) s.x) (.slice a1 G.cs.length c1) (.slice a2 G.bs.length c2) u3 (.slice b4 s.sets.length d4)) (.slice at' kw ct) hB rfl rfl rfl (by kernel_rfl) rfl ?_; (try simp only [Act.put, List.setIfInBounds_toArray, List.set_cons_zero, List.set_cons_succ]); intro w11 hB' tt; clear hB; have hB : Seg w11 p 0 (scrA { goCol (goRow { s with r := rows, wd := (kw : Int), cs := G.cs, bs := G.bs, top := 0, bot := rows - 1 } s.y) s.x with tabs := tabsW s.tabs kw } (.slice a1 G.cs.length c1) (.slice a2 G.bs.length c2) (.slice at' kw ct) (.slice b4 s.sets.length d4)) := hB'; clear hB'; replace hR := hR.of_block (tt.block _ (by omega) (by omega) (hO0 _)); replace hg := hg.of_blocks (w' := w11) (fun q q1 q2 => tt.block q (by omega) (by omega) (hO0 _)); replace hS := hS.of_blocks (w' := w11) (fun q q1 q2 => tt.block q (by omega) (by omega) (hO0 _)); replace hT := BoolsAt.of_blocks (w' := w11) hT (fun q q1 q2 => tt.block q (by omega) (by omega) (hO0 _)); have bel11 := bel10.trans (tt.below (fun k _ => hO0 k) (by omega) (by omega)); have z11 : w10.heap.size ≤ w11.heap.size := tt.size; clear tt bel10) | (refine wpList_load_seg rfl 34 _ rfl p 0 0 (scrA { goCol (goRow { s with r := rows, wd := (kw : Int), cs := G.cs, bs := G.bs, top := 0, bot := rows - 1 } s.y) s.x with tabs := tabsW s.tabs kw } (.slice a1 G.cs.length c1) (.slice a2 G.bs.length c2) (.slice at' kw ct) (.slice b4 s.sets.length d4)) (scrA { goCol (goRow { s with r := rows, wd := (kw : Int), cs := G.cs, bs := G.bs, top := 0, bot := rows - 1 } s.y) s.x with tabs := tabsW s.tabs kw } (.slice a1 G.cs.length c1) (.slice a2 G.bs.length c2) (.slice at' kw ct) (.slice b4 s.sets.length d4)) hB rfl rfl _ Try.underlying34 rfl (by kernel_rfl) ?_; (try simp only [Act.put, List.setIfInBounds_toArray, List.set_cons_zero, List.set_cons_succ])) | (refine wpList_build_at rfl 36 _ rfl (resA 0 { goCol (goRow { s with r := rows, wd := (kw : Int), cs := G.cs, bs := G.bs, top := 0, bot := rows - 1 } s.y) s.x with tabs := tabsW s.tabs kw } (.slice a1 G.cs.length c1) (.slice a2 G.bs.length c2) (.slice at' kw ct) (.slice b4 s.sets.length d4)) (by first | rfl | kernel_rfl) ?_; (try simp only [Act.put, List.setIfInBounds_toArray, List.set_cons_zero, List.set_cons_succ])) | (refine wpList_store_blk rfl _ _ _ rfl (w.heap.size + 1) 0 (resA 0 scr0 (.slice none 0 0) (.slice none 0 0) (.slice none 0 0) (.slice none 0 0)) (resA 0 { goCol (goRow { s with r := rows, wd := (kw : Int), cs := G.cs, bs := G.bs, top := 0, bot := rows - 1 } s.y) s.x with tabs := tabsW s.tabs kw } (.slice a1 G.cs.length c1) (.slice a2 G.bs.length c2) (.slice at' kw ct) (.slice b4 s.sets.length d4)) (.agg (resA 0 { goCol (goRow { s with r := rows, wd := (kw : Int), cs := G.cs, bs := G.bs, top := 0, bot := rows - 1 } s.y) s.x with tabs := tabsW s.tabs kw } (.slice a1 G.cs.length c1) (.slice a2 G.bs.length c2) (.slice at' kw ct) (.slice b4 s.sets.length d4))) rfl rfl hR rfl (by kernel_rfl) rfl rfl ?_; (try simp only [Act.put, List.setIfInBounds_toArray, List.set_cons_zero, List.set_cons_succ]); clear hR; intro w12 hR hu))
      exact bodyPost_ret (results_blk hR _ _ rfl rfl Try.underlying36 rfl (by kernel_rfl)) rfl ⟨_, _, _, _, rfl, ⟨w1.heap.size, w2.heap.size, w9.heap.size, w10.heap.size, l3, h3, by omega, by have := hu.size; omega, by omega, by have := hu.size; omega, by omega, by have := hu.size; omega, by omega, by omega, by omega, hg.of_blocks (fun q q1 q2 => hu.block q (by omega)), BoolsAt.of_blocks hT (fun q q1 q2 => hu.block q (by omega)), hS.of_blocks (fun q q1 q2 => hu.block q (by omega))⟩, bel11.trans (hu.below (by omega))⟩
  · rw [if_neg hc]
    obtain ⟨code, hcd⟩ : ∃ c, scrCode s = c := ⟨_, rfl⟩
    rw [hcd]
    have hne : (code != 0) = true := by rw [← hcd]; simpa using hc
    have HC := hide hcd
    clear hc hcd
    go_enter Try.func9, Try.ntmps9
    go_wp2_with (first | fail | (refine wpList_load_at rfl 34 _ rfl (w.heap.size) 0 rfl _ (scrA s v1 v2 v3 v4) hA rfl _ Try.underlying34 rfl (by kernel_rfl) ?_; (try simp only [Act.put, List.setIfInBounds_toArray, List.set_cons_zero, List.set_cons_succ])))
    go_at_call 37
    refine (implScreenFault_calls s _ _ _ _ _ hn1 hn2 hn3 hn4 (h.below bel0)).mono ?_
    rintro e w1 ⟨rfl, hb⟩
    replace hA := hA.belowb hb
    replace hR := hR.belowb hb
    have bel1 := bel0.trans (hb.mono bel0.size)
    have z1 : w.heap.size + 2 ≤ w1.heap.size := by have := hb.size; simp at this; omega
    clear hb bel0
    rw [HC.out]
    go_wp2_with (first | (refine wpList_build_at rfl 36 _ rfl (resA code scr0 (.slice none 0 0) (.slice none 0 0) (.slice none 0 0) (.slice none 0 0)) (by first | rfl | kernel_rfl) ?_; (try simp only [Act.put, List.setIfInBounds_toArray, List.set_cons_zero, List.set_cons_succ])) | (refine wpList_store_blk rfl _ _ _ rfl (w.heap.size + 1) 0 (resA 0 scr0 (.slice none 0 0) (.slice none 0 0) (.slice none 0 0) (.slice none 0 0)) (resA code scr0 (.slice none 0 0) (.slice none 0 0) (.slice none 0 0) (.slice none 0 0)) (.agg (resA code scr0 (.slice none 0 0) (.slice none 0 0) (.slice none 0 0) (.slice none 0 0))) rfl rfl hR rfl (by kernel_rfl) rfl rfl ?_; (try simp only [Act.put, List.setIfInBounds_toArray, List.set_cons_zero, List.set_cons_succ]); clear hR; intro w9 hR hu))
    exact bodyPost_ret (results_blk hR _ _ rfl rfl Try.underlying36 rfl (by kernel_rfl)) rfl ⟨_, _, _, _, rfl, sown_zero _ _ (by have := hu.size; omega) _, bel1.trans (hu.below (by omega))⟩
end Go.Proofs.Ytknkbihjboadjaa
