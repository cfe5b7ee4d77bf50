/-
  A new terminal: NewVt of the model and of the program.
-/
import Derived.Test.YtceoehiaeanfkaaScrNew2
import Derived.Test.YtceoehiaeanfkaaVtMark
namespace Go.Proofs.Ytceoehiaeanfkaa
set_option maxRecDepth 20000
open Go.ChangeShapes Go.WideShapes Go.ChangeAt Go.RowKit
set_option linter.unusedVariables false
set_option linter.unusedSimpArgs false
set_option maxRecDepth 20000

/-- What NewVt answers. -/
def newVt (r wd : Int) : VtS := { vt0 with s := (newSRes r wd).s }
theorem vown_of {lo hi : Nat} {w : World} {s : Scr} {u1 u2 u3 u4 : Value} (hl : lo ≤ hi) (h : SOwn lo hi w u1 u2 u3 u4 s) : VOwn lo hi w (.slice none 0 0) u1 u2 u3 u4 { vt0 with s := s } :=
  ⟨lo, lo, lo, hi, by omega, by omega, by omega, by omega, by omega, IntsAt.nil _ _ _ _ _ _, h⟩
set_option maxHeartbeats 2000000 in
theorem specNewVt_calls (r wd : Int) (w : World) : Calls Try.prog 28 #[.int .i64 r, .int .i64 wd] w fun e w' => ∃ u u1 u2 u3 u4, e = .returned (.agg (resVA (newSRes r wd).code (newVt r wd) u u1 u2 u3 u4)) ∧ VOwn w.heap.size w'.heap.size w' u u1 u2 u3 u4 (newVt r wd) ∧ Below w.heap.size w w' := by
  have bel0 : Below w.heap.size w (w.alloc (.cells #[.int .i64 0, .int .i64 0, .int .i64 0, .int .i64 0, .int .i64 0, .int .i64 0, .bool false, .slice none 0 0, .int .i64 0, .int .i64 0, .slice none 0 0, .slice none 0 0, .int .i64 0, .int .i64 0, .bool false, .int .i64 0, .int .i64 0, .int .i64 0, .bool false, .bool false, .bool false, .slice none 0 0, .int .i64 0, .int .i64 0, .int .i64 0, .slice none 0 0, .int .i64 0, .int .i64 0] 66)) := (Below.refl _ w).alloc (Nat.le_refl _) _
  have hR : Blk (w.alloc (.cells #[.int .i64 0, .int .i64 0, .int .i64 0, .int .i64 0, .int .i64 0, .int .i64 0, .bool false, .slice none 0 0, .int .i64 0, .int .i64 0, .slice none 0 0, .slice none 0 0, .int .i64 0, .int .i64 0, .bool false, .int .i64 0, .int .i64 0, .int .i64 0, .bool false, .bool false, .bool false, .slice none 0 0, .int .i64 0, .int .i64 0, .int .i64 0, .slice none 0 0, .int .i64 0, .int .i64 0] 66)) w.heap.size (resVA 0 vt0 (.slice none 0 0) (.slice none 0 0) (.slice none 0 0) (.slice none 0 0) (.slice none 0 0)) := Blk.new w _ _
  have z0 : (w.alloc (.cells #[.int .i64 0, .int .i64 0, .int .i64 0, .int .i64 0, .int .i64 0, .int .i64 0, .bool false, .slice none 0 0, .int .i64 0, .int .i64 0, .slice none 0 0, .slice none 0 0, .int .i64 0, .int .i64 0, .bool false, .int .i64 0, .int .i64 0, .int .i64 0, .bool false, .bool false, .bool false, .slice none 0 0, .int .i64 0, .int .i64 0, .int .i64 0, .slice none 0 0, .int .i64 0, .int .i64 0] 66)).heap.size = w.heap.size + 1 := by simp
  cases hz : sizeB r wd with
  | false =>
    have e : newSRes r wd = sbad 3 := by unfold newSRes; rw [if_neg (by rw [hz]; simp)]
    unfold newVt
    rw [e]
    have bel1 := bel0
    go_enter Try.func28, Try.ntmps28
    go_wp2_with (first | (go_at_call 57; refine (l3Size_calls r wd _).mono ?_; rintro e w' ⟨rfl, hw⟩; rw [hw, hz]; clear hw w') | (refine wpList_build_at rfl 66 _ rfl (resVA 3 vt0 (.slice none 0 0) (.slice none 0 0) (.slice none 0 0) (.slice none 0 0) (.slice none 0 0)) (by first | rfl | kernel_rfl) ?_; (try simp only [Act.put, List.setIfInBounds_toArray, List.set_cons_zero, List.set_cons_succ])) | (refine wpList_store_blk rfl _ _ _ rfl (w.heap.size) 0 (resVA 0 vt0 (.slice none 0 0) (.slice none 0 0) (.slice none 0 0) (.slice none 0 0) (.slice none 0 0)) (resVA 3 vt0 (.slice none 0 0) (.slice none 0 0) (.slice none 0 0) (.slice none 0 0) (.slice none 0 0)) (.agg (resVA 3 vt0 (.slice none 0 0) (.slice none 0 0) (.slice none 0 0) (.slice none 0 0) (.slice none 0 0))) rfl rfl hR rfl (by kernel_rfl) rfl rfl ?_; (try simp only [Act.put, List.setIfInBounds_toArray, List.set_cons_zero, List.set_cons_succ]); clear hR; intro w9 hR hu))
    exact bodyPost_ret (results_blk hR _ _ rfl rfl Try.underlying66 rfl (by kernel_rfl)) rfl ⟨_, _, _, _, _, rfl, vown_of (by have := hu.size; have := bel1.size; omega) (sown_zero _ _ (by have := hu.size; have := bel1.size; omega) _), bel1.trans (hu.below (Nat.le_refl _))⟩
  | true =>
    have e : newSRes r wd = ⟨0, newScr r wd⟩ := by unfold newSRes; rw [if_pos hz]
    unfold newVt
    rw [e]
    go_enter Try.func28, Try.ntmps28
    go_wp2_with (go_at_call 57; refine (l3Size_calls r wd _).mono ?_; rintro e w' ⟨rfl, hw⟩; rw [hw, hz]; clear hw w')
    go_at_call 80
    refine (l5New_calls r wd hz _).mono ?_
    rintro e w1 ⟨u1, u2, u3, u4, rfl, ho, hb⟩
    rw [z0] at ho
    have z1 : w.heap.size + 1 ≤ w1.heap.size := by have := hb.size; omega
    replace hR := hR.belowb hb
    have bel1 := bel0.trans (hb.mono bel0.size)
    clear hb
    go_wp2_with (first | (refine wpList_build_at rfl 61 _ rfl (vtA { vt0 with s := newScr r wd } (.slice none 0 0) u1 u2 u3 u4) (by first | rfl | kernel_rfl) ?_; (try simp only [Act.put, List.setIfInBounds_toArray, List.set_cons_zero, List.set_cons_succ])) | (refine wpList_build_at rfl 66 _ rfl (resVA 0 { vt0 with s := newScr r wd } (.slice none 0 0) u1 u2 u3 u4) (by first | rfl | kernel_rfl) ?_; (try simp only [Act.put, List.setIfInBounds_toArray, List.set_cons_zero, List.set_cons_succ])) | (refine wpList_store_blk rfl _ _ _ rfl (w.heap.size) 0 (resVA 0 vt0 (.slice none 0 0) (.slice none 0 0) (.slice none 0 0) (.slice none 0 0) (.slice none 0 0)) (resVA 0 { vt0 with s := newScr r wd } (.slice none 0 0) u1 u2 u3 u4) (.agg (resVA 0 { vt0 with s := newScr r wd } (.slice none 0 0) u1 u2 u3 u4)) rfl rfl hR rfl (by kernel_rfl) (resV_one (t := { vt0 with s := newScr r wd }) ⟨ReadAt.nil _ _ _ _, ho.read⟩) rfl ?_; (try simp only [Act.put, List.setIfInBounds_toArray, List.set_cons_zero, List.set_cons_succ]); clear hR; intro w9 hR hu))
    exact bodyPost_ret (results_blk hR _ _ rfl rfl Try.underlying66 rfl (by kernel_rfl)) rfl ⟨_, _, _, _, _, rfl, vown_of (by have := hu.size; have := bel1.size; omega) ((ho.of_blocks (fun q q1 q2 => hu.block q (by omega))).mono (by omega) (by have := hu.size; omega)), bel1.trans (hu.below (Nat.le_refl _))⟩
set_option maxHeartbeats 2000000 in
theorem implNewVt_calls (r wd : Int) (w : World) : Calls Try.prog 29 #[.int .i64 r, .int .i64 wd] w fun e w' => ∃ u u1 u2 u3 u4, e = .returned (.agg (resVA (newSRes r wd).code (newVt r wd) u u1 u2 u3 u4)) ∧ VOwn w.heap.size w'.heap.size w' u u1 u2 u3 u4 (newVt r wd) ∧ Below w.heap.size w w' := by
  have bel0 : Below w.heap.size w (w.alloc (.cells #[.int .i64 0, .int .i64 0, .int .i64 0, .int .i64 0, .int .i64 0, .int .i64 0, .bool false, .slice none 0 0, .int .i64 0, .int .i64 0, .slice none 0 0, .slice none 0 0, .int .i64 0, .int .i64 0, .bool false, .int .i64 0, .int .i64 0, .int .i64 0, .bool false, .bool false, .bool false, .slice none 0 0, .int .i64 0, .int .i64 0, .int .i64 0, .slice none 0 0, .int .i64 0, .int .i64 0] 66)) := (Below.refl _ w).alloc (Nat.le_refl _) _
  have hR : Blk (w.alloc (.cells #[.int .i64 0, .int .i64 0, .int .i64 0, .int .i64 0, .int .i64 0, .int .i64 0, .bool false, .slice none 0 0, .int .i64 0, .int .i64 0, .slice none 0 0, .slice none 0 0, .int .i64 0, .int .i64 0, .bool false, .int .i64 0, .int .i64 0, .int .i64 0, .bool false, .bool false, .bool false, .slice none 0 0, .int .i64 0, .int .i64 0, .int .i64 0, .slice none 0 0, .int .i64 0, .int .i64 0] 66)) w.heap.size (resVA 0 vt0 (.slice none 0 0) (.slice none 0 0) (.slice none 0 0) (.slice none 0 0) (.slice none 0 0)) := Blk.new w _ _
  have z0 : (w.alloc (.cells #[.int .i64 0, .int .i64 0, .int .i64 0, .int .i64 0, .int .i64 0, .int .i64 0, .bool false, .slice none 0 0, .int .i64 0, .int .i64 0, .slice none 0 0, .slice none 0 0, .int .i64 0, .int .i64 0, .bool false, .int .i64 0, .int .i64 0, .int .i64 0, .bool false, .bool false, .bool false, .slice none 0 0, .int .i64 0, .int .i64 0, .int .i64 0, .slice none 0 0, .int .i64 0, .int .i64 0] 66)).heap.size = w.heap.size + 1 := by simp
  cases hz : sizeB r wd with
  | false =>
    have e : newSRes r wd = sbad 3 := by unfold newSRes; rw [if_neg (by rw [hz]; simp)]
    unfold newVt
    rw [e]
    go_enter Try.func29, Try.ntmps29
    go_wp2_with fail
    go_at_call 81
    refine (implNewScreen_calls r wd _).mono ?_
    rw [e]
    rintro e' w1 ⟨u1, u2, u3, u4, rfl, ho, hb⟩
    rw [z0] at ho
    have z1 : w.heap.size + 1 ≤ w1.heap.size := by have := hb.size; omega
    replace hR := hR.belowb hb
    have bel1 := bel0.trans (hb.mono bel0.size)
    clear hb bel0
    dsimp only [sbad] at ho ⊢
    have e0 := resA_0 3 scr0 u1 u2 u3 u4
    go_wp2_with (first | (refine wpList_store_blk rfl _ _ _ rfl (w1.heap.size) 0 (resA 0 scr0 (.slice none 0 0) (.slice none 0 0) (.slice none 0 0) (.slice none 0 0)) (resA 3 scr0 u1 u2 u3 u4) (.agg (resA 3 scr0 u1 u2 u3 u4)) rfl rfl (Blk.new w1 _ _) rfl (by kernel_rfl) (res_one ho.read) rfl ?_; (try simp only [Act.put, List.setIfInBounds_toArray, List.set_cons_zero, List.set_cons_succ]); intro w2 hG hu2; have cG := hG.cells; replace hR := (hR.alloc (.cells (resA 0 scr0 (.slice none 0 0) (.slice none 0 0) (.slice none 0 0) (.slice none 0 0)) 44)).upd hu2 (by omega); replace ho := (ho.below ((Below.refl _ w1).alloc (Nat.le_refl _) _) (Nat.le_refl _)).of_blocks (w' := w2) (fun q q1 q2 => hu2.block q (by omega)); have bel2 := (bel1.trans ((Below.refl _ w1).alloc (by omega) (.cells (resA 0 scr0 (.slice none 0 0) (.slice none 0 0) (.slice none 0 0) (.slice none 0 0)) 44))).trans (hu2.below (by omega)); have z2 : w2.heap.size = w1.heap.size + 1 := (by have := hu2.size; simpa using this); clear bel1 hu2; have bel1 := bel2; clear bel2) | (refine wpList_build_at rfl 66 _ rfl (resVA 3 vt0 (.slice none 0 0) (.slice none 0 0) (.slice none 0 0) (.slice none 0 0) (.slice none 0 0)) (by first | rfl | kernel_rfl) ?_; (try simp only [Act.put, List.setIfInBounds_toArray, List.set_cons_zero, List.set_cons_succ])) | (refine wpList_store_blk rfl _ _ _ rfl (w.heap.size) 0 (resVA 0 vt0 (.slice none 0 0) (.slice none 0 0) (.slice none 0 0) (.slice none 0 0) (.slice none 0 0)) (resVA 3 vt0 (.slice none 0 0) (.slice none 0 0) (.slice none 0 0) (.slice none 0 0) (.slice none 0 0)) (.agg (resVA 3 vt0 (.slice none 0 0) (.slice none 0 0) (.slice none 0 0) (.slice none 0 0) (.slice none 0 0))) rfl rfl hR rfl (by kernel_rfl) rfl rfl ?_; (try simp only [Act.put, List.setIfInBounds_toArray, List.set_cons_zero, List.set_cons_succ]); clear hR; intro w9 hR hu))
    exact bodyPost_ret (results_blk hR _ _ rfl rfl Try.underlying66 rfl (by kernel_rfl)) rfl ⟨_, _, _, _, _, rfl, vown_of (by have := hu.size; have := bel1.size; omega) (sown_zero _ _ (by have := hu.size; have := bel1.size; omega) _), bel1.trans (hu.below (Nat.le_refl _))⟩
  | true =>
    have e : newSRes r wd = ⟨0, newScr r wd⟩ := by unfold newSRes; rw [if_pos hz]
    unfold newVt
    rw [e]
    go_enter Try.func29, Try.ntmps29
    go_wp2_with fail
    go_at_call 81
    refine (implNewScreen_calls r wd _).mono ?_
    rw [e]
    rintro e' w1 ⟨u1, u2, u3, u4, rfl, ho, hb⟩
    rw [z0] at ho
    have z1 : w.heap.size + 1 ≤ w1.heap.size := by have := hb.size; omega
    replace hR := hR.belowb hb
    have bel1 := bel0.trans (hb.mono bel0.size)
    clear hb bel0
    dsimp only at ho ⊢
    have e0 := resA_0 0 (newScr r wd) u1 u2 u3 u4
    go_wp2_with (first | (refine wpList_store_blk rfl _ _ _ rfl (w1.heap.size) 0 (resA 0 scr0 (.slice none 0 0) (.slice none 0 0) (.slice none 0 0) (.slice none 0 0)) (resA 0 (newScr r wd) u1 u2 u3 u4) (.agg (resA 0 (newScr r wd) u1 u2 u3 u4)) rfl rfl (Blk.new w1 _ _) rfl (by kernel_rfl) (res_one ho.read) rfl ?_; (try simp only [Act.put, List.setIfInBounds_toArray, List.set_cons_zero, List.set_cons_succ]); intro w2 hG hu2; have cG := hG.cells; replace hR := (hR.alloc (.cells (resA 0 scr0 (.slice none 0 0) (.slice none 0 0) (.slice none 0 0) (.slice none 0 0)) 44)).upd hu2 (by omega); replace ho := (ho.below ((Below.refl _ w1).alloc (Nat.le_refl _) _) (Nat.le_refl _)).of_blocks (w' := w2) (fun q q1 q2 => hu2.block q (by omega)); have bel2 := (bel1.trans ((Below.refl _ w1).alloc (by omega) (.cells (resA 0 scr0 (.slice none 0 0) (.slice none 0 0) (.slice none 0 0) (.slice none 0 0)) 44))).trans (hu2.below (by omega)); have z2 : w2.heap.size = w1.heap.size + 1 := (by have := hu2.size; simpa using this); clear bel1 hu2; have bel1 := bel2; clear bel2) | (refine wpList_load_at rfl 35 _ rfl w1.heap.size 1 rfl _ (scrA (newScr r wd) u1 u2 u3 u4) hG rfl _ Try.underlying35 rfl (by kernel_rfl) ?_; (try simp only [Act.put, List.setIfInBounds_toArray, List.set_cons_zero, List.set_cons_succ])) | (refine wpList_build_at rfl 61 _ rfl (vtA { vt0 with s := newScr r wd } (.slice none 0 0) u1 u2 u3 u4) (by first | rfl | kernel_rfl) ?_; (try simp only [Act.put, List.setIfInBounds_toArray, List.set_cons_zero, List.set_cons_succ])) | (refine wpList_build_at rfl 66 _ rfl (resVA 0 { vt0 with s := newScr r wd } (.slice none 0 0) u1 u2 u3 u4) (by first | rfl | kernel_rfl) ?_; (try simp only [Act.put, List.setIfInBounds_toArray, List.set_cons_zero, List.set_cons_succ])) | (refine wpList_store_blk rfl _ _ _ rfl (w.heap.size) 0 (resVA 0 vt0 (.slice none 0 0) (.slice none 0 0) (.slice none 0 0) (.slice none 0 0) (.slice none 0 0)) (resVA 0 { vt0 with s := newScr r wd } (.slice none 0 0) u1 u2 u3 u4) (.agg (resVA 0 { vt0 with s := newScr r wd } (.slice none 0 0) u1 u2 u3 u4)) rfl rfl hR rfl (by kernel_rfl) (resV_one (t := { vt0 with s := newScr r wd }) ⟨ReadAt.nil _ _ _ _, ho.read⟩) rfl ?_; (try simp only [Act.put, List.setIfInBounds_toArray, List.set_cons_zero, List.set_cons_succ]); clear hR; intro w9 hR hu))
    exact bodyPost_ret (results_blk hR _ _ rfl rfl Try.underlying66 rfl (by kernel_rfl)) rfl ⟨_, _, _, _, _, rfl, vown_of (by have := hu.size; have := bel1.size; omega) ((ho.of_blocks (fun q q1 q2 => hu.block q (by omega))).mono (by omega) (by have := hu.size; omega)), bel1.trans (hu.below (Nat.le_refl _))⟩
end Go.Proofs.Ytceoehiaeanfkaa
