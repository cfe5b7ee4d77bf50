/-
  A new screen: NewScreen of the model and of the program.
-/
import Derived.Test.YtdekegjplegkeaaGreatScrNew
import Derived.Deep.RegionHeld3
import Derived.Test.YtdekegjplegkeaaGreatUntil
namespace Go.Proofs.YtdekegjplegkeaaGreat
set_option maxRecDepth 20000
open Go.ChangeShapes Go.WideShapes Go.ChangeAt Go.RowKit
set_option linter.unusedVariables false
set_option linter.unusedSimpArgs false
set_option maxRecDepth 20000

theorem res_one {w : World} {v1 v2 v3 v4 : Value} {c : Int} {s : Scr} (h : SRead w s v1 v2 v3 v4) : (Value.agg (resA c s v1 v2 v3 v4)).cells.toList.all (·.oneCell') = true := by
  obtain ⟨a1, c1, a2, c2, a3, c3, a4, c4, rfl, rfl, rfl, rfl⟩ := h.forms
  rfl

theorem run_exLd {P : Program} {ρ : Operand → Value} {op : Oper} {w : World} (ty : TypeId) (x : Operand) (ho : op.op = .load ty x) (g off : Nat) (hx : ρ x = .pointer (some ⟨g, off, none⟩)) (v : Value) (h : (loadVar ty ⟨g, off, none⟩).run P w = .ok v w) :
    (execOp ρ op).run P w = .ok (Next.value v) w := by
  unfold execOp
  simp only [ho, hx, Instr.loadAt, Instr.sureAddr, Sem.run_bind, Sem.run_pure, Result.andThen_ok, h]
theorem wp_build_at {P : Program} {o : Oper} {a : Act} {w : World} {K : Act → World → Prop} {Q : Exit → Act → World → Prop} (t : TypeId) (parts : Array (Nat × Operand)) (ho : o.op = .build t parts) (cs : Array Value)
    (hf : P.built t (parts.map fun (i, x) => (i, a.eval x)).toList = some cs) (h : K (a.put o.dst (.agg cs)) w) : o.wp P a w K Q :=
  wp_build t parts ho (by rw [hf]; rfl) (by rw [hf]; exact h)
theorem wp_store_any {P : Program} {o : Oper} {a : Act} {w : World} {K : Act → World → Prop} {Q : Exit → Act → World → Prop} (ty : TypeId) (x y : Operand) (ho : o.op = .store ty x y)
    (g off : Nat) (cs cs' : Array Value) (v : Value) (hx : a.eval x = .pointer (some ⟨g, off, none⟩)) (hy : a.eval y = v) (hg : Blk w g cs) (hl : Nat.ble (off + v.cells.size) cs.size = true) (hi : (P.info? ty).map (·.size) = some v.cells.size)
    (h1 : v.cells.toList.all (·.oneCell') = true) (hc : (cs.toList.take off ++ v.cells.toList ++ cs.toList.drop (off + v.cells.toList.length)).toArray = cs')
    (h : ∀ w', Blk w' g cs' → Upd g w w' → K (a.put o.dst undef) w') : o.wp P a w K Q := by
  have hl' := Nat.le_of_ble_eq_true hl
  unfold Oper.wp execOp
  simp only [ho, hx, hy, Instr.storeAt, Instr.sureAddr, Sem.run_bind, Sem.run_pure, Result.andThen_ok, run_storeVar_any hg hl' hi h1]
  exact h _ (hg.sets' (by simpa using hl') hc) (Upd.setCells g off _ w)
theorem tabsOf_form (tb : List Bool) (n : Nat) (h1 : 2 ≤ n) (h2 : n ≤ 12) (v : Value) (w : World) (h : BRead w v tb) :
    Calls Tryz.prog 139 #[v, .int .i64 n] w fun e w' => ∃ a c, e = .returned (.slice a n c) ∧ BoolsAt w.heap.size w'.heap.size w' (.slice a n c) (tabsW tb n) ∧ Below w.heap.size w w' :=
  (tabsOf_calls tb n h1 h2 v w h).mono fun e w' ⟨u, he, hT, hb⟩ => by
    obtain ⟨a, c, hv, hT'⟩ := hT
    rw [tabsW_length] at hv
    subst hv
    exact ⟨a, c, he, ⟨a, c, by rw [tabsW_length], hT'⟩, hb⟩
set_option maxHeartbeats 4000000 in
theorem implNewScreen_calls (r wd : Int) (w : World) : Calls Tryz.prog 173 #[.int .i64 r, .int .i64 wd] w fun e w' => ∃ u1 u2 u3 u4, e = .returned (.agg (resA (newSRes r wd).code (newSRes r wd).s u1 u2 u3 u4)) ∧ SOwn w.heap.size w'.heap.size w' u1 u2 u3 u4 (newSRes r wd).s ∧ Below w.heap.size w w' := by
  have bel0 : Below w.heap.size w (w.alloc (.cells #[.int .i64 0, .int .i64 0, .int .i64 0, .slice none 0 0, .slice none 0 0, .int .i64 0, .int .i64 0, .bool false, .int .i64 0, .int .i64 0, .int .i64 0, .bool false, .bool false, .bool false, .slice none 0 0, .int .i64 0, .int .i64 0, .int .i64 0, .slice none 0 0, .int .i64 0, .int .i64 0] 39)) := (Below.refl _ w).alloc (Nat.le_refl _) _
  have hR : Blk (w.alloc (.cells #[.int .i64 0, .int .i64 0, .int .i64 0, .slice none 0 0, .slice none 0 0, .int .i64 0, .int .i64 0, .bool false, .int .i64 0, .int .i64 0, .int .i64 0, .bool false, .bool false, .bool false, .slice none 0 0, .int .i64 0, .int .i64 0, .int .i64 0, .slice none 0 0, .int .i64 0, .int .i64 0] 39)) w.heap.size (resA 0 scr0 (.slice none 0 0) (.slice none 0 0) (.slice none 0 0) (.slice none 0 0)) := Blk.new w _ _
  have z0 : (w.alloc (.cells #[.int .i64 0, .int .i64 0, .int .i64 0, .slice none 0 0, .slice none 0 0, .int .i64 0, .int .i64 0, .bool false, .int .i64 0, .int .i64 0, .int .i64 0, .bool false, .bool false, .bool false, .slice none 0 0, .int .i64 0, .int .i64 0, .int .i64 0, .slice none 0 0, .int .i64 0, .int .i64 0] 39)).heap.size = w.heap.size + 1 := by simp
  cases hz : sizeB r wd with
  | false =>
    have e : newSRes r wd = sbad 3 := by unfold newSRes; rw [if_neg (by rw [hz]; simp)]
    have e' : newRes r wd = gbad 3 := by unfold newRes; rw [if_neg (by rw [hz]; simp)]
    rw [e]
    go_enter Tryz.func173, Tryz.ntmps173
    go_wp2_with fail
    refine (implNewGrid_calls r wd _).mono ?_
    rw [e']
    rintro e w1 ⟨x, y, rfl, hg, hb⟩
    obtain ⟨ax, cx, ay, cy, rfl, rfl⟩ := hg.forms
    have z1 : w.heap.size + 1 ≤ w1.heap.size := by have := hb.size; omega
    replace hR := hR.belowb hb
    have bel1 := bel0.trans (hb.mono bel0.size)
    clear hb hg
    dsimp only [gbad]
    go_wp2_with (first | (refine wpList_store_blk rfl _ _ _ rfl w1.heap.size 0 #[.int .i64 0, .int .i64 0, .int .i64 0, .slice none 0 0, .slice none 0 0] #[.int .i64 3, .int .i64 0, .int .i64 0, .slice ax 0 cx, .slice ay 0 cy] (.agg #[.int .i64 3, .int .i64 0, .int .i64 0, .slice ax 0 cx, .slice ay 0 cy]) rfl rfl (Blk.new w1 _ _) rfl (by kernel_rfl) rfl rfl ?_; (try simp only [Act.put, List.setIfInBounds_toArray, List.set_cons_zero, List.set_cons_succ]); intro w2 hG hu2; have cG := hG.cells; replace hR := (hR.alloc (.cells #[.int .i64 0, .int .i64 0, .int .i64 0, .slice none 0 0, .slice none 0 0] 185)).upd hu2 (by omega); have bel2 := (bel1.trans ((Below.refl _ w1).alloc (by omega) (.cells #[.int .i64 0, .int .i64 0, .int .i64 0, .slice none 0 0, .slice none 0 0] 185))).trans (hu2.below (by omega)); clear bel1; have bel1 := bel2; clear bel2) | (refine wpList_build_at rfl 39 _ rfl (resA 3 scr0 (.slice none 0 0) (.slice none 0 0) (.slice none 0 0) (.slice none 0 0)) (by first | rfl | kernel_rfl) ?_; (try simp only [Act.put, List.setIfInBounds_toArray, List.set_cons_zero, List.set_cons_succ])) | (refine wpList_store_blk rfl _ _ _ rfl (w.heap.size) 0 (resA 0 scr0 (.slice none 0 0) (.slice none 0 0) (.slice none 0 0) (.slice none 0 0)) (resA 3 scr0 (.slice none 0 0) (.slice none 0 0) (.slice none 0 0) (.slice none 0 0)) (.agg (resA 3 scr0 (.slice none 0 0) (.slice none 0 0) (.slice none 0 0) (.slice none 0 0))) rfl rfl hR rfl (by kernel_rfl) rfl rfl ?_; (try simp only [Act.put, List.setIfInBounds_toArray, List.set_cons_zero, List.set_cons_succ]); clear hR; intro w9 hR hu))
    exact bodyPost_ret (results_blk hR _ _ rfl rfl Tryz.underlying39 rfl (by kernel_rfl)) rfl ⟨_, _, _, _, rfl, sown_zero _ _ (by have := hu.size; have := bel1.size; omega) _, bel1.trans (hu.below (Nat.le_refl _))⟩
  | true =>
    obtain ⟨s1, s2, s3, s4, s5, s6⟩ := size_mul hz
    have hwr : IntKind.i64.wrap (r - 1) = r - 1 := wrap_small (by omega) (by omega)
    have e : newSRes r wd = ⟨0, newScr r wd⟩ := by unfold newSRes; rw [if_pos hz]
    have e' : newRes r wd = ⟨0, r, wd, mkL (r * wd).toNat (fun _ => (32, 0)), []⟩ := by unfold newRes; rw [if_pos hz]
    rw [e]
    obtain ⟨k, rfl⟩ : ∃ k : Nat, wd = (k : Int) := ⟨wd.toNat, by omega⟩
    go_enter Tryz.func173, Tryz.ntmps173
    go_wp2_with fail
    refine (implNewGrid_calls r k _).mono ?_
    rw [e']
    rintro e w1 ⟨x, y, rfl, hg, hb⟩
    obtain ⟨ax, cx, ay, cy, rfl, rfl⟩ := hg.forms
    rw [z0] at hg
    have z1 : w.heap.size + 1 ≤ w1.heap.size := by have := hb.size; omega
    replace hR := hR.belowb hb
    have bel1 := bel0.trans (hb.mono bel0.size)
    clear hb s5 s6
    dsimp only at hg ⊢
    go_wp2_with (first | (refine wpList_store_blk rfl _ _ _ rfl w1.heap.size 0 #[.int .i64 0, .int .i64 0, .int .i64 0, .slice none 0 0, .slice none 0 0] #[.int .i64 0, .int .i64 r, .int .i64 k, .slice ax (mkL (r * (k : Int)).toNat (fun _ => (32, 0))).length cx, .slice ay 0 cy] (.agg #[.int .i64 0, .int .i64 r, .int .i64 k, .slice ax (mkL (r * (k : Int)).toNat (fun _ => (32, 0))).length cx, .slice ay 0 cy]) rfl rfl (Blk.new w1 _ _) rfl (by kernel_rfl) rfl rfl ?_; (try simp only [Act.put, List.setIfInBounds_toArray, List.set_cons_zero, List.set_cons_succ]); intro w2 hG hu; have cG := hG.cells))
    have hz2 : w2.heap.size = w1.heap.size + 1 := by have := hu.size; simpa using this
    have bel2 : Below w.heap.size w w2 := (bel1.trans ((Below.refl _ w1).alloc (by omega) _)).trans (hu.below (by omega))
    replace hg := hg.of_blocks (w' := w2) (fun q q1 q2 => (hu.block q (by omega)).trans (Below.heap_alloc _ _ _ (by omega)))
    replace hR := (hR.alloc _).upd hu (by omega)
    have hz2' : w1.heap.size ≤ w2.heap.size := by omega
    clear hu z0 bel0 bel1 hz2
    refine till_region [9] (S := (fun w' => Below w2.heap.size w2 w')) (by kernel_rfl) ?_ (fun hHeld => ?_)
    · (try dsimp only); exact Below.drew (Below.refl _ w2)
    refine till_take (i := 0) (oi := ⟨_, _, _, _, _, _⟩) (v := ?_) rfl (by kernel_rfl) (by kernel_rfl) (by kernel_rfl) (by kernel_rfl) (fun _ _ _ h => h) (Or.inl ⟨by rfl, ?_⟩) hHeld ?_
    rotate_left
    · (intro w hSw; (try dsimp only at hSw); go_simp; try (with_reducible rfl))
    try simp only [Act.put, List.setIfInBounds_toArray, List.set_cons_zero, List.set_cons_succ]
    refine till_take (i := 1) (oi := ⟨_, _, _, _, _, _⟩) (v := .agg #[.int .i64 r, .int .i64 k, .slice ax (mkL (r * (k : Int)).toNat (fun _ => (32, 0))).length cx, .slice ay 0 cy]) rfl (by kernel_rfl) (by kernel_rfl) (by kernel_rfl) (by kernel_rfl) (fun _ _ _ h => h) (Or.inl ⟨by rfl, ?_⟩) hHeld ?_
    · intro w hSw
      (try dsimp only at hSw)
      exact run_exLd _ _ rfl _ _ rfl _ (run_loadVar_at (P := Tryz.prog) (o := 1) (vs := #[.int .i64 r, .int .i64 k, .slice ax (mkL (r * (k : Int)).toNat (fun _ => (32, 0))).length cx, .slice ay 0 cy]) (hG.belowb hSw) rfl Tryz.underlying35 rfl (by kernel_rfl))
    try simp only [Act.put, List.setIfInBounds_toArray, List.set_cons_zero, List.set_cons_succ]
    refine till_take (i := 2) (oi := ⟨_, _, _, _, _, _⟩) (v := ?_) rfl (by kernel_rfl) (by kernel_rfl) (by kernel_rfl) (by kernel_rfl) (fun _ _ _ h => h) (Or.inl ⟨by rfl, ?_⟩) hHeld ?_
    rotate_left
    · (intro w hSw; (try dsimp only at hSw); go_simp; try (with_reducible rfl))
    try simp only [Act.put, List.setIfInBounds_toArray, List.set_cons_zero, List.set_cons_succ]
    refine till_take (i := 3) (oi := ⟨_, _, _, _, _, _⟩) (v := ?_) rfl (by kernel_rfl) (by kernel_rfl) (by kernel_rfl) (by kernel_rfl) (fun _ _ _ h => h) (Or.inl ⟨by rfl, ?_⟩) hHeld ?_
    rotate_left
    · (intro w hSw; (try dsimp only at hSw); go_simp; try (with_reducible rfl))
    try simp only [Act.put, List.setIfInBounds_toArray, List.set_cons_zero, List.set_cons_succ]
    refine till_take (i := 4) (oi := ⟨_, _, _, _, _, _⟩) (v := ?_) rfl (by kernel_rfl) (by kernel_rfl) (by kernel_rfl) (by kernel_rfl) (fun _ _ _ h => h) (Or.inl ⟨by rfl, ?_⟩) hHeld ?_
    rotate_left
    · (intro w hSw; (try dsimp only at hSw); go_simp; try (with_reducible rfl))
    try simp only [Act.put, List.setIfInBounds_toArray, List.set_cons_zero, List.set_cons_succ]
    refine till_ready (rs := [5, 6]) (by kernel_rfl) (by simp) ?_
    refine (EachTill.cons (o := ⟨_, _, _, _, _, _⟩) rfl (fun K hK => ?_) (EachTill.cons (o := ⟨_, _, _, _, _, _⟩) rfl (fun K hK => ?_) EachTill.nil))
    · skip
      go_simp
      go_at_call 139
      refine (tabsOf_form [] k (by omega) (by omega) _ _ (BRead.nil _ _ _)).mono ?_
      rintro e v3 ⟨a3, c3, rfl, hT, hb⟩
      refine hK.out _ _ ?_ ?_
      · (try dsimp only); exact hHeld.trans (hb.mono hHeld.size)
      clear hHeld hK K
      intro hHeld
      try simp only [Act.put, List.setIfInBounds_toArray, List.set_cons_zero, List.set_cons_succ]
      refine till_ready (rs := [6]) (by kernel_rfl) (by simp) ?_
      refine (EachTill.cons (o := ⟨_, _, _, _, _, _⟩) rfl (fun K hK => ?_) EachTill.nil)
      go_simp
      refine hK.out _ _ ?_ ?_
      · (try dsimp only); exact hHeld.alloc hHeld.size _
      clear hHeld hK K
      intro hHeld
      try simp only [Act.put, List.setIfInBounds_toArray, List.set_cons_zero, List.set_cons_succ]
      refine till_ready (rs := [7]) (by kernel_rfl) (by simp) ?_
      refine (EachTill.cons (o := ⟨_, _, _, _, _, _⟩) rfl (fun K hK => ?_) EachTill.nil)
      refine wp_build_at 37 _ rfl (scrA (newScr r k) (.slice ax (mkL (r * (k : Int)).toNat (fun _ => (32, 0))).length cx) (.slice ay 0 cy) (.slice a3 k c3) (.slice (some ⟨v3.heap.size, 0, none⟩) 2 2)) (by first | rfl | kernel_rfl) ?_
      refine hK.out _ _ ?_ ?_
      · (try dsimp only); exact hHeld
      clear hHeld hK K
      intro hHeld
      try simp only [Act.put, List.setIfInBounds_toArray, List.set_cons_zero, List.set_cons_succ]
      refine till_ready (rs := [8]) (by kernel_rfl) (by simp) ?_
      refine (EachTill.cons (o := ⟨_, _, _, _, _, _⟩) rfl (fun K hK => ?_) EachTill.nil)
      refine wp_build_at 39 _ rfl (resA 0 (newScr r k) (.slice ax (mkL (r * (k : Int)).toNat (fun _ => (32, 0))).length cx) (.slice ay 0 cy) (.slice a3 k c3) (.slice (some ⟨v3.heap.size, 0, none⟩) 2 2)) (by first | rfl | kernel_rfl) ?_
      refine hK.out _ _ ?_ ?_
      · (try dsimp only); exact hHeld
      clear hHeld hK K
      intro hHeld
      try simp only [Act.put, List.setIfInBounds_toArray, List.set_cons_zero, List.set_cons_succ]
      refine till_ready (rs := [9]) (by kernel_rfl) (by simp) ?_
      refine (EachTill.last (o := ⟨_, _, _, _, _, _⟩) rfl rfl (fun K hK => ?_) EachTill.nil)
      have hR9 := hR.belowb hHeld
      have hW9 := hHeld
      refine wp_store_any _ _ _ rfl w.heap.size 0 (resA 0 scr0 (.slice none 0 0) (.slice none 0 0) (.slice none 0 0) (.slice none 0 0)) (resA 0 (newScr r k) (.slice ax (mkL (r * (k : Int)).toNat (fun _ => (32, 0))).length cx) (.slice ay 0 cy) (.slice a3 k c3) (.slice (some ⟨v3.heap.size, 0, none⟩) 2 2)) (.agg (resA 0 (newScr r k) (.slice ax (mkL (r * (k : Int)).toNat (fun _ => (32, 0))).length cx) (.slice ay 0 cy) (.slice a3 k c3) (.slice (some ⟨v3.heap.size, 0, none⟩) 2 2))) rfl rfl hR9 rfl (by kernel_rfl) rfl rfl ?_
      intro w9 hR' hu
      refine hK.out _ _ ?_ ?_
      · first | trivial | (dsimp only)
      clear hHeld hK K
      intro hHeld
      try simp only [Act.put, List.setIfInBounds_toArray, List.set_cons_zero, List.set_cons_succ]
      refine till_done (by kernel_rfl) ?_ _
      clear hHeld
      go_wp2
      refine bodyPost_ret (results_blk hR' _ _ rfl rfl Tryz.underlying39 rfl (by kernel_rfl)) rfl ⟨_, _, _, _, rfl, ?_, ?_⟩
      · have hz9 := hu.size
        have hz8 := hW9.size
        try simp at hz9 hz8
        have hz7 := hb.size
        try simp at hz7
        refine ⟨w.heap.size + 1, w1.heap.size, w2.heap.size, v3.heap.size, v3.heap.size, v3.heap.size + 1, by omega, by omega, by omega, by omega, by omega, by omega, by omega, by omega, by omega, ?_, ?_, ?_⟩
        · exact hg.of_blocks (fun q q1 q2 => (hu.block q (by omega)).trans (hW9.block q (by omega)))
        · exact (BoolsAt.of_blocks hT (fun q q1 q2 => (hu.block q (by omega)).trans (Below.heap_alloc _ _ _ (by omega))) : BoolsAt w2.heap.size _ _ _ _)
        · exact (sets_lit v3 2).of_blocks (fun q q1 q2 => hu.block q (by omega))
      · exact (bel2.trans (hW9.mono (by omega))).trans (hu.below (Nat.le_refl _))
    · skip
      go_simp
      refine hK.out _ _ ?_ ?_
      · (try dsimp only); exact hHeld.alloc hHeld.size _
      clear hHeld hK K
      intro hHeld
      try simp only [Act.put, List.setIfInBounds_toArray, List.set_cons_zero, List.set_cons_succ]
      refine till_ready (rs := [5]) (by kernel_rfl) (by simp) ?_
      refine (EachTill.cons (o := ⟨_, _, _, _, _, _⟩) rfl (fun K hK => ?_) EachTill.nil)
      go_simp
      go_at_call 139
      refine (tabsOf_form [] k (by omega) (by omega) _ _ (BRead.nil _ _ _)).mono ?_
      rintro e v4 ⟨a3, c3, rfl, hT, hb⟩
      refine hK.out _ _ ?_ ?_
      · (try dsimp only); exact hHeld.trans (hb.mono hHeld.size)
      clear hHeld hK K
      intro hHeld
      try simp only [Act.put, List.setIfInBounds_toArray, List.set_cons_zero, List.set_cons_succ]
      refine till_ready (rs := [7]) (by kernel_rfl) (by simp) ?_
      refine (EachTill.cons (o := ⟨_, _, _, _, _, _⟩) rfl (fun K hK => ?_) EachTill.nil)
      refine wp_build_at 37 _ rfl (scrA (newScr r k) (.slice ax (mkL (r * (k : Int)).toNat (fun _ => (32, 0))).length cx) (.slice ay 0 cy) (.slice a3 k c3) (.slice (some ⟨w2.heap.size, 0, none⟩) 2 2)) (by first | rfl | kernel_rfl) ?_
      refine hK.out _ _ ?_ ?_
      · (try dsimp only); exact hHeld
      clear hHeld hK K
      intro hHeld
      try simp only [Act.put, List.setIfInBounds_toArray, List.set_cons_zero, List.set_cons_succ]
      refine till_ready (rs := [8]) (by kernel_rfl) (by simp) ?_
      refine (EachTill.cons (o := ⟨_, _, _, _, _, _⟩) rfl (fun K hK => ?_) EachTill.nil)
      refine wp_build_at 39 _ rfl (resA 0 (newScr r k) (.slice ax (mkL (r * (k : Int)).toNat (fun _ => (32, 0))).length cx) (.slice ay 0 cy) (.slice a3 k c3) (.slice (some ⟨w2.heap.size, 0, none⟩) 2 2)) (by first | rfl | kernel_rfl) ?_
      refine hK.out _ _ ?_ ?_
      · (try dsimp only); exact hHeld
      clear hHeld hK K
      intro hHeld
      try simp only [Act.put, List.setIfInBounds_toArray, List.set_cons_zero, List.set_cons_succ]
      refine till_ready (rs := [9]) (by kernel_rfl) (by simp) ?_
      refine (EachTill.last (o := ⟨_, _, _, _, _, _⟩) rfl rfl (fun K hK => ?_) EachTill.nil)
      have hR9 := hR.belowb hHeld
      have hW9 := hHeld
      refine wp_store_any _ _ _ rfl w.heap.size 0 (resA 0 scr0 (.slice none 0 0) (.slice none 0 0) (.slice none 0 0) (.slice none 0 0)) (resA 0 (newScr r k) (.slice ax (mkL (r * (k : Int)).toNat (fun _ => (32, 0))).length cx) (.slice ay 0 cy) (.slice a3 k c3) (.slice (some ⟨w2.heap.size, 0, none⟩) 2 2)) (.agg (resA 0 (newScr r k) (.slice ax (mkL (r * (k : Int)).toNat (fun _ => (32, 0))).length cx) (.slice ay 0 cy) (.slice a3 k c3) (.slice (some ⟨w2.heap.size, 0, none⟩) 2 2))) rfl rfl hR9 rfl (by kernel_rfl) rfl rfl ?_
      intro w9 hR' hu
      refine hK.out _ _ ?_ ?_
      · first | trivial | (dsimp only)
      clear hHeld hK K
      intro hHeld
      try simp only [Act.put, List.setIfInBounds_toArray, List.set_cons_zero, List.set_cons_succ]
      refine till_done (by kernel_rfl) ?_ _
      clear hHeld
      go_wp2
      refine bodyPost_ret (results_blk hR' _ _ rfl rfl Tryz.underlying39 rfl (by kernel_rfl)) rfl ⟨_, _, _, _, rfl, ?_, ?_⟩
      · have hz9 := hu.size
        have hz8 := hW9.size
        try simp at hz9 hz8
        have hz7 := hb.size
        try simp at hz7
        refine ⟨w.heap.size + 1, w1.heap.size, w2.heap.size + 1, v4.heap.size, w2.heap.size, w2.heap.size + 1, by omega, by omega, by omega, by omega, by omega, by omega, by omega, by omega, by omega, ?_, ?_, ?_⟩
        · exact hg.of_blocks (fun q q1 q2 => (hu.block q (by omega)).trans (hW9.block q (by omega)))
        · exact (BoolsAt.mono hT (by simp) (Nat.le_refl _)).of_blocks (fun q q1 q2 => hu.block q (by omega))
        · exact (sets_lit w2 2).of_blocks (fun q q1 q2 => (hu.block q (by omega)).trans (hb.block q (by simp; omega)))
      · exact (bel2.trans (hW9.mono (by omega))).trans (hu.below (Nat.le_refl _))
end Go.Proofs.YtdekegjplegkeaaGreat
