/-
  The model's l7Modes, l7Dump and DumpScreen.
-/
import Derived.Test.YtknkbihjboadjaaDoorDumpCur
import Derived.Test.YtknkbihjboadjaaDoorRowBytes
namespace Go.Proofs.YtknkbihjboadjaaDoor
set_option maxRecDepth 20000
open Go.ChangeShapes Go.WideShapes Go.ChangeAt Go.RowKit
set_option linter.unusedVariables false
set_option linter.unusedSimpArgs false
set_option maxRecDepth 20000

theorem letters_at {P : Program} (w : World) (t : TypeId) (h : P.underlying t = some .string) (n : Int) (hn : 1 ≤ n ∧ n ≤ 3) : (Instr.index t (.string ⟨#[63, 66, 48, 85]⟩) (.int .i64 n)).run P w = .ok (.int .u8 (tchar n)) w := by
  have hc : n = 1 ∨ n = 2 ∨ n = 3 := by omega
  rcases hc with rfl | rfl | rfl <;> (rw [run_index_string w t _ .i64 _ h]; rfl)
theorem run_exIdx {P : Program} {ρ : Operand → Value} {op : Oper} {w : World} (t : TypeId) (x i : Operand) (ho : op.op = .index t x i) (u v : Value) (hx : ρ x = u) (hi : ρ i = v) (r : Value) (h : (Instr.index t u v).run P w = .ok r w) :
    (execOp ρ op).run P w = .ok (Next.value r) w := by
  unfold execOp
  simp only [ho, hx, hi, Sem.run_bind, Sem.run_pure, Result.andThen_ok, h]
set_option maxHeartbeats 16000000 in
theorem l7Modes_o (s : Scr) (v1 v2 v3 v4 : Value) (b ob : Nat) (w : World) (hF : SFine s) (hB : Seg w b ob (scrA s v1 v2 v3 v4)) (h4 : ReadAt .i64 w v4 s.sets) :
    Calls Tryd.prog 57 #[.pointer (some ⟨b, ob, none⟩)] w fun e w' => ∃ v, e = .returned v ∧ OwnX w' w.heap.size 5 v (howL s).length ((howL s).map (Value.int .u8)) ∧ Below w.heap.size w w' := by
  obtain ⟨i0, hi, hz0, hz1, hz2⟩ := info_parts info_u8s
  obtain ⟨f_a0, f_a1, r0, r1⟩ : 0 ≤ s.attr ∧ s.attr ≤ 31 ∧ (1 ≤ s.sets.getD 0 0 ∧ s.sets.getD 0 0 ≤ 3) ∧ (1 ≤ s.sets.getD 1 0 ∧ s.sets.getD 1 0 ≤ 3) := ⟨hF.a0, hF.a1, hF.s0, hF.s1⟩
  have hsl := hF.sl
  have hal := attrL_len f_a0 f_a1
  obtain ⟨n0, hn0⟩ : ∃ n, s.sets.getD 0 0 = n := ⟨_, rfl⟩
  obtain ⟨n1, hn1⟩ : ∃ n, s.sets.getD 1 0 = n := ⟨_, rfl⟩
  rw [hn0] at r0
  rw [hn1] at r1
  obtain ⟨b4, o4, c4, rfl, g0, g1⟩ : ∃ b4 o4 c4, v4 = .slice (some ⟨b4, o4, none⟩) 2 c4 ∧ w.cell? ⟨b4, o4, none⟩ = some (.int .i64 n0) ∧ w.cell? ⟨b4, o4 + 1, none⟩ = some (.int .i64 n1) := by
    obtain ⟨a4, c4, rfl, h⟩ := h4
    rcases h with h | ⟨b4, o4, rfl, h⟩
    · rw [h] at hsl; simp at hsl
    · exact ⟨b4, o4, c4, by rw [hsl], by have := h 0 (by omega); rwa [hn0] at this, by have := h 1 (by omega); rwa [hn1] at this⟩
  obtain ⟨T0, hT0⟩ : ∃ z, tchar n0 = z := ⟨_, rfl⟩
  obtain ⟨T1, hT1⟩ : ∃ z, tchar n1 = z := ⟨_, rfl⟩
  have hl0 := fun (w' : World) => letters_at w' 9 Tryd.underlying9 n0 r0
  have hl1 := fun (w' : World) => letters_at w' 9 Tryd.underlying9 n1 r1
  rw [hT0] at hl0
  rw [hT1] at hl1
  have hset : setsL s = [27, 40, T0, 27, 41, T1] := by unfold setsL; rw [hn0, hn1, hT0, hT1]
  obtain ⟨AL, hAL⟩ : ∃ l, attrL s.attr = l := ⟨_, rfl⟩
  have HSET := hide hset
  have HA := hide hAL
  have HC : ∀ w', Calls Tryd.prog 45 #[.int .i64 s.attr] w' fun e w2 => ∃ v, e = .returned v ∧ OwnX w2 w'.heap.size 5 v AL.length (AL.map (Value.int .u8)) ∧ Below w'.heap.size w' w2 := fun w' => by rw [← hAL]; exact l7Attr_calls s.attr w' f_a0 f_a1
  rw [hAL] at hal
  have hbl := hB.lt
  clear hn0 hn1 r0 r1 hT0 hT1 hset h4 hsl hF hAL
  have hmk : ∀ w', Below w.heap.size w w' → (Below w.heap.size w w' ∧ w'.cell? ⟨b, ob + 7, none⟩ = some (.int .i64 s.attr) ∧ w'.cell? ⟨b, ob + 17, none⟩ = some (.slice (some ⟨b4, o4, none⟩) 2 c4) ∧ w'.cell? ⟨b4, o4, none⟩ = some (.int .i64 n0) ∧ w'.cell? ⟨b4, o4 + 1, none⟩ = some (.int .i64 n1)) := fun w' hb => ⟨hb, (hB.belowb hb).at 7 (scrA_7 ..), (hB.belowb hb).at 17 (scrA_17 ..), cellb hb g0, cellb hb g1⟩
  go_enter Tryd.func57, Tryd.ntmps57
  go_wp2_with fail
  refine wp_region_held_drew (S := (fun w' => Below w.heap.size w w' ∧ w'.cell? ⟨b, ob + 7, none⟩ = some (.int .i64 s.attr) ∧ w'.cell? ⟨b, ob + 17, none⟩ = some (.slice (some ⟨b4, o4, none⟩) 2 c4) ∧ w'.cell? ⟨b4, o4, none⟩ = some (.int .i64 n0) ∧ w'.cell? ⟨b4, o4 + 1, none⟩ = some (.int .i64 n1))) (by kernel_rfl) ?_ (fun hHeld => ?_)
  · (try dsimp only); exact hmk _ (Below.drew (Below.refl _ w))
  refine wpAnyH_take (i := 0) (oi := ⟨_, _, _, _, _, _⟩) (v := ?_) rfl (by kernel_rfl) (by kernel_rfl) (by kernel_rfl) (fun _ _ _ h => h) (Or.inl ⟨by rfl, ?_⟩) hHeld ?_
  rotate_left
  · (intro w hSw; (try dsimp only at hSw); go_simp; try (with_reducible rfl))
  try simp only [Act.put, List.setIfInBounds_toArray, List.set_cons_zero, List.set_cons_succ]
  refine wpAnyH_take (i := 1) (oi := ⟨_, _, _, _, _, _⟩) (v := ?_) rfl (by kernel_rfl) (by kernel_rfl) (by kernel_rfl) (fun _ _ _ h => h) (Or.inl ⟨by rfl, ?_⟩) hHeld ?_
  rotate_left
  · (intro w hSw; (try dsimp only at hSw); go_simp; try (with_reducible rfl))
  try simp only [Act.put, List.setIfInBounds_toArray, List.set_cons_zero, List.set_cons_succ]
  refine wpAnyH_take (i := 2) (oi := ⟨_, _, _, _, _, _⟩) (v := ?_) rfl (by kernel_rfl) (by kernel_rfl) (by kernel_rfl) (fun _ _ _ h => h) (Or.inl ⟨by rfl, ?_⟩) hHeld ?_
  rotate_left
  · (intro w hSw; (try dsimp only at hSw); go_simp; try (with_reducible rfl))
  try simp only [Act.put, List.setIfInBounds_toArray, List.set_cons_zero, List.set_cons_succ]
  refine wpAnyH_take (i := 3) (oi := ⟨_, _, _, _, _, _⟩) (v := ?_) rfl (by kernel_rfl) (by kernel_rfl) (by kernel_rfl) (fun _ _ _ h => h) (Or.inl ⟨by rfl, ?_⟩) hHeld ?_
  rotate_left
  · (intro w hSw; (try dsimp only at hSw); go_simp; try (with_reducible rfl))
  try simp only [Act.put, List.setIfInBounds_toArray, List.set_cons_zero, List.set_cons_succ]
  refine wpAnyH_take (i := 5) (oi := ⟨_, _, _, _, _, _⟩) (v := ?_) rfl (by kernel_rfl) (by kernel_rfl) (by kernel_rfl) (fun _ _ _ h => h) (Or.inl ⟨by rfl, ?_⟩) hHeld ?_
  rotate_left
  · (intro w hSw; (try dsimp only at hSw); go_simp; try (with_reducible rfl))
  try simp only [Act.put, List.setIfInBounds_toArray, List.set_cons_zero, List.set_cons_succ]
  refine wpAnyH_take (i := 6) (oi := ⟨_, _, _, _, _, _⟩) (v := ?_) rfl (by kernel_rfl) (by kernel_rfl) (by kernel_rfl) (fun _ _ _ h => h) (Or.inl ⟨by rfl, ?_⟩) hHeld ?_
  rotate_left
  · (intro w hSw; (try dsimp only at hSw); go_simp; try (with_reducible rfl))
  try simp only [Act.put, List.setIfInBounds_toArray, List.set_cons_zero, List.set_cons_succ]
  refine wpAnyH_take (i := 7) (oi := ⟨_, _, _, _, _, _⟩) (v := ?_) rfl (by kernel_rfl) (by kernel_rfl) (by kernel_rfl) (fun _ _ _ h => h) (Or.inl ⟨by rfl, ?_⟩) hHeld ?_
  rotate_left
  · (intro w hSw; (try dsimp only at hSw); go_simp; try (with_reducible rfl))
  try simp only [Act.put, List.setIfInBounds_toArray, List.set_cons_zero, List.set_cons_succ]
  refine wpAnyH_take (i := 8) (oi := ⟨_, _, _, _, _, _⟩) (v := ?_) rfl (by kernel_rfl) (by kernel_rfl) (by kernel_rfl) (fun _ _ _ h => h) (Or.inl ⟨by rfl, ?_⟩) hHeld ?_
  rotate_left
  · (intro w hSw; (try dsimp only at hSw); go_simp; try (with_reducible rfl))
  try simp only [Act.put, List.setIfInBounds_toArray, List.set_cons_zero, List.set_cons_succ]
  refine wpAnyH_take (i := 9) (oi := ⟨_, _, _, _, _, _⟩) (v := ?_) rfl (by kernel_rfl) (by kernel_rfl) (by kernel_rfl) (fun _ _ _ h => h) (Or.inl ⟨by rfl, ?_⟩) hHeld ?_
  rotate_left
  · (intro w hSw; (try dsimp only at hSw); go_simp; try (with_reducible rfl))
  try simp only [Act.put, List.setIfInBounds_toArray, List.set_cons_zero, List.set_cons_succ]
  refine wpAnyH_take (i := 10) (oi := ⟨_, _, _, _, _, _⟩) (v := ?_) rfl (by kernel_rfl) (by kernel_rfl) (by kernel_rfl) (fun _ _ _ h => h) (Or.inl ⟨by rfl, ?_⟩) hHeld ?_
  rotate_left
  · (intro w hSw; (try dsimp only at hSw); go_simp; try (with_reducible rfl))
  try simp only [Act.put, List.setIfInBounds_toArray, List.set_cons_zero, List.set_cons_succ]
  refine wpAnyH_take (i := 11) (oi := ⟨_, _, _, _, _, _⟩) (v := ?_) rfl (by kernel_rfl) (by kernel_rfl) (by kernel_rfl) (fun _ _ _ h => h) (Or.inl ⟨by rfl, ?_⟩) hHeld ?_
  rotate_left
  · (intro w hSw; (try dsimp only at hSw); go_simp; try (with_reducible rfl))
  try simp only [Act.put, List.setIfInBounds_toArray, List.set_cons_zero, List.set_cons_succ]
  refine wpAnyH_take (i := 12) (oi := ⟨_, _, _, _, _, _⟩) (v := .int .u8 T0) rfl (by kernel_rfl) (by kernel_rfl) (by kernel_rfl) (fun _ _ _ h => h) (Or.inl ⟨by rfl, ?_⟩) hHeld ?_
  · intro w hSw
    (try dsimp only at hSw)
    exact run_exIdx _ _ _ rfl _ _ rfl rfl _ (hl0 _)
  try simp only [Act.put, List.setIfInBounds_toArray, List.set_cons_zero, List.set_cons_succ]
  refine wpAnyH_take (i := 13) (oi := ⟨_, _, _, _, _, _⟩) (v := ?_) rfl (by kernel_rfl) (by kernel_rfl) (by kernel_rfl) (fun _ _ _ h => h) (Or.inl ⟨by rfl, ?_⟩) hHeld ?_
  rotate_left
  · (intro w hSw; (try dsimp only at hSw); go_simp; try (with_reducible rfl))
  try simp only [Act.put, List.setIfInBounds_toArray, List.set_cons_zero, List.set_cons_succ]
  refine wpAnyH_take (i := 14) (oi := ⟨_, _, _, _, _, _⟩) (v := ?_) rfl (by kernel_rfl) (by kernel_rfl) (by kernel_rfl) (fun _ _ _ h => h) (Or.inl ⟨by rfl, ?_⟩) hHeld ?_
  rotate_left
  · (intro w hSw; (try dsimp only at hSw); go_simp; try (with_reducible rfl))
  try simp only [Act.put, List.setIfInBounds_toArray, List.set_cons_zero, List.set_cons_succ]
  refine wpAnyH_take (i := 15) (oi := ⟨_, _, _, _, _, _⟩) (v := ?_) rfl (by kernel_rfl) (by kernel_rfl) (by kernel_rfl) (fun _ _ _ h => h) (Or.inl ⟨by rfl, ?_⟩) hHeld ?_
  rotate_left
  · (intro w hSw; (try dsimp only at hSw); go_simp; try (with_reducible rfl))
  try simp only [Act.put, List.setIfInBounds_toArray, List.set_cons_zero, List.set_cons_succ]
  refine wpAnyH_take (i := 16) (oi := ⟨_, _, _, _, _, _⟩) (v := ?_) rfl (by kernel_rfl) (by kernel_rfl) (by kernel_rfl) (fun _ _ _ h => h) (Or.inl ⟨by rfl, ?_⟩) hHeld ?_
  rotate_left
  · (intro w hSw; (try dsimp only at hSw); go_simp; try (with_reducible rfl))
  try simp only [Act.put, List.setIfInBounds_toArray, List.set_cons_zero, List.set_cons_succ]
  refine wpAnyH_take (i := 17) (oi := ⟨_, _, _, _, _, _⟩) (v := ?_) rfl (by kernel_rfl) (by kernel_rfl) (by kernel_rfl) (fun _ _ _ h => h) (Or.inl ⟨by rfl, ?_⟩) hHeld ?_
  rotate_left
  · (intro w hSw; (try dsimp only at hSw); go_simp; try (with_reducible rfl))
  try simp only [Act.put, List.setIfInBounds_toArray, List.set_cons_zero, List.set_cons_succ]
  refine wpAnyH_take (i := 18) (oi := ⟨_, _, _, _, _, _⟩) (v := ?_) rfl (by kernel_rfl) (by kernel_rfl) (by kernel_rfl) (fun _ _ _ h => h) (Or.inl ⟨by rfl, ?_⟩) hHeld ?_
  rotate_left
  · (intro w hSw; (try dsimp only at hSw); go_simp; try (with_reducible rfl))
  try simp only [Act.put, List.setIfInBounds_toArray, List.set_cons_zero, List.set_cons_succ]
  refine wpAnyH_take (i := 19) (oi := ⟨_, _, _, _, _, _⟩) (v := ?_) rfl (by kernel_rfl) (by kernel_rfl) (by kernel_rfl) (fun _ _ _ h => h) (Or.inl ⟨by rfl, ?_⟩) hHeld ?_
  rotate_left
  · (intro w hSw; (try dsimp only at hSw); go_simp; try (with_reducible rfl))
  try simp only [Act.put, List.setIfInBounds_toArray, List.set_cons_zero, List.set_cons_succ]
  refine wpAnyH_take (i := 20) (oi := ⟨_, _, _, _, _, _⟩) (v := .int .u8 T1) rfl (by kernel_rfl) (by kernel_rfl) (by kernel_rfl) (fun _ _ _ h => h) (Or.inl ⟨by rfl, ?_⟩) hHeld ?_
  · intro w hSw
    (try dsimp only at hSw)
    exact run_exIdx _ _ _ rfl _ _ rfl rfl _ (hl1 _)
  try simp only [Act.put, List.setIfInBounds_toArray, List.set_cons_zero, List.set_cons_succ]
  refine wpAnyH_ready (rs := [4, 21]) (by kernel_rfl) (by simp) ?_
  refine (AllReadyH.cons (o := ⟨_, _, _, _, _, _⟩) rfl (fun K hK => ?_) (AllReadyH.cons (o := ⟨_, _, _, _, _, _⟩) rfl (fun K hK => ?_) AllReadyH.nil))
  · skip
    go_simp
    go_at_call 45
    refine (HC _).mono ?_
    rintro e w1 ⟨v1', rfl, ox1, hb1'⟩
    have b1 : Below w.heap.size w w1 := hHeld.1.trans (hb1'.mono hHeld.1.size)
    replace ox1 := ox1.lower (base' := w.heap.size) hHeld.1.size
    obtain ⟨a1, c1, rfl⟩ := ox1.form
    clear hb1'
    refine hK.out _ _ ?_ ?_
    · (try dsimp only); exact hmk _ b1
    clear hHeld hK K
    intro hHeld
    try simp only [Act.put, List.setIfInBounds_toArray, List.set_cons_zero, List.set_cons_succ]
    refine wpAnyH_ready (rs := [21]) (by kernel_rfl) (by simp) ?_
    refine (AllReadyH.cons (o := ⟨_, _, _, _, _, _⟩) rfl (fun K hK => ?_) AllReadyH.nil)
    go_simp
    refine hK.out _ _ ?_ ?_
    · (try dsimp only); exact hmk _ (b1.alloc b1.size _)
    clear hHeld hK K
    intro hHeld
    try simp only [Act.put, List.setIfInBounds_toArray, List.set_cons_zero, List.set_cons_succ]
    refine wpAnyH_ready (rs := [22]) (by kernel_rfl) (by simp) ?_
    refine (AllReadyH.cons (o := ⟨_, _, _, _, _, _⟩) rfl (fun K hK => ?_) AllReadyH.nil)
    have hL := lit_own (w := w1) (l := [27, 40, T0, 27, 41, T1]) (T := 5) (by simp)
    have ho1 := ox1.alloc (.cells #[.int .u8 27, .int .u8 40, .int .u8 T0, .int .u8 27, .int .u8 41, .int .u8 T1] 5)
    have bb := b1.alloc b1.size (.cells #[.int .u8 27, .int .u8 40, .int .u8 T0, .int .u8 27, .int .u8 41, .int .u8 T1] 5)
    refine step_append_X rfl (.tmp 9) (.tmp 26) 30 rfl w.heap.size 5 .u8 i0 (.int .u8 0) 1 Tryd.underlying30 hi hz0 hz1 hz2 rfl _ _ _ rfl ho1 (some ⟨w1.heap.size, 0, none⟩) [27, 40, T0, 27, 41, T1] _ 6 rfl rfl hL.ints.read (by unfold maxLen; omega) (by omega) bb.size ?_
    intro v2' w2 ho2 hgr
    have b2 : Below w.heap.size w w2 := bb.grown hgr bb.size (fun g hg => (ho1.lt g hg).1)
    clear hgr
    refine hK.out _ _ ?_ ?_
    · (try dsimp only); exact hmk _ b2
    clear hHeld hK K
    intro hHeld
    try simp only [Act.put, List.setIfInBounds_toArray, List.set_cons_zero, List.set_cons_succ]
    refine wpAnyH_take (i := 23) (oi := ⟨_, _, _, _, _, _⟩) (v := ?_) rfl (by kernel_rfl) (by kernel_rfl) (by kernel_rfl) (fun _ _ _ h => h) (Or.inl ⟨by rfl, ?_⟩) hHeld ?_
    rotate_left
    · (intro w hSw; (try dsimp only at hSw); go_simp; try (with_reducible rfl))
    try simp only [Act.put, List.setIfInBounds_toArray, List.set_cons_zero, List.set_cons_succ]
    refine wpAnyH_done (by kernel_rfl) ?_ _
    clear hHeld
    by_cases hsh : s.sh = 1
    · rcases hin : s.ins with _ | _
      · rcases hau : s.auto with _ | _
        · have e9 : howL s = AL ++ [27, 40, T0, 27, 41, T1] ++ [14] ++ [27, 91, 63, 55, 108] := by unfold howL shL insL autoL; rw [HA.out, HSET.out, hin, hau, if_pos hsh]; simp
          have HIN := hide hin
          have HAU := hide hau
          have HSH := hide hsh
          have HE := hide e9
          clear hin hau e9 hsh
          have c18 := (hB.belowb b2).at 18 (scrA_18 s v1 v2 v3 _)
          rw [HSH.out] at c18
          have c12 := (hB.belowb b2).at 12 (scrA_12 s v1 v2 v3 _)
          rw [HIN.out] at c12
          have c11 := (hB.belowb b2).at 11 (scrA_11 s v1 v2 v3 _)
          rw [HAU.out] at c11
          go_wp2_with (first | fail | (at_builtin; refine wpList_append_X _ rfl (.tmp 33) (.tmp 34) 30 rfl w.heap.size 5 .u8 i0 (.int .u8 0) 1 Tryd.underlying30 hi hz0 hz1 hz2 rfl _ _ _ rfl (ho2.alloc _) (some ⟨w2.heap.size, 0, none⟩) [14] _ 1 rfl rfl (lit_read (w := w2) (l := [14]) rfl) (by unfold maxLen; omega) (by omega) (by have := b2.size; simp; omega) ?_; intro v3' w3 own' hgr; have ho3 := own'; clear own'; have b3 : Below w.heap.size w w3 := (b2.alloc b2.size _).grown hgr (by have := b2.size; simp; omega) (fun g hg => (ho2.lt g hg).1); clear hgr; have c18 := (hB.belowb b3).at 18 (scrA_18 s v1 v2 v3 _); rw [HSH.out] at c18; have c12 := (hB.belowb b3).at 12 (scrA_12 s v1 v2 v3 _); rw [HIN.out] at c12; have c11 := (hB.belowb b3).at 11 (scrA_11 s v1 v2 v3 _); rw [HAU.out] at c11; have hcvw3 := Lib.run_convert_bytes_const (P := Tryd.prog) w3 30 5 #[.int .u8 27, .int .u8 91, .int .u8 63, .int .u8 55, .int .u8 108] 5 5 Tryd.underlying30 Tryd.underlying5) | (at_builtin; refine wpList_append_X _ rfl (.tmp 49) (.tmp 51) 30 rfl w.heap.size 5 .u8 i0 (.int .u8 0) 1 Tryd.underlying30 hi hz0 hz1 hz2 rfl _ _ _ rfl (ho3.alloc _) (some ⟨w3.heap.size, 0, none⟩) [27, 91, 63, 55, 108] _ 5 rfl rfl (lit_readX (w := w3) (l := [27, 91, 63, 55, 108]) (p := 5) (q := 6) rfl) (by unfold maxLen; omega) (by omega) (by have := b3.size; simp; omega) ?_; intro v4' w4 own' hgr; have ho4 := own'; clear own'; have b4 : Below w.heap.size w w4 := (b3.alloc b3.size _).grown hgr (by have := b3.size; simp; omega) (fun g hg => (ho3.lt g hg).1); clear hgr; have c18 := (hB.belowb b4).at 18 (scrA_18 s v1 v2 v3 _); rw [HSH.out] at c18; have c12 := (hB.belowb b4).at 12 (scrA_12 s v1 v2 v3 _); rw [HIN.out] at c12; have c11 := (hB.belowb b4).at 11 (scrA_11 s v1 v2 v3 _); rw [HAU.out] at c11))
          go_ret
          rw [HE.out]
          refine ⟨_, rfl, ?_, b4⟩
          have e8 : (AL ++ [27, 40, T0, 27, 41, T1] ++ [14] ++ [27, 91, 63, 55, 108]).length = AL.length + 6 + 1 + 5 := by simp; try omega
          rw [e8]
          simpa using ho4
        · have e9 : howL s = AL ++ [27, 40, T0, 27, 41, T1] ++ [14] := by unfold howL shL insL autoL; rw [HA.out, HSET.out, hin, hau, if_pos hsh]; simp
          have HIN := hide hin
          have HAU := hide hau
          have HSH := hide hsh
          have HE := hide e9
          clear hin hau e9 hsh
          have c18 := (hB.belowb b2).at 18 (scrA_18 s v1 v2 v3 _)
          rw [HSH.out] at c18
          have c12 := (hB.belowb b2).at 12 (scrA_12 s v1 v2 v3 _)
          rw [HIN.out] at c12
          have c11 := (hB.belowb b2).at 11 (scrA_11 s v1 v2 v3 _)
          rw [HAU.out] at c11
          go_wp2_with (first | fail | (at_builtin; refine wpList_append_X _ rfl (.tmp 33) (.tmp 34) 30 rfl w.heap.size 5 .u8 i0 (.int .u8 0) 1 Tryd.underlying30 hi hz0 hz1 hz2 rfl _ _ _ rfl (ho2.alloc _) (some ⟨w2.heap.size, 0, none⟩) [14] _ 1 rfl rfl (lit_read (w := w2) (l := [14]) rfl) (by unfold maxLen; omega) (by omega) (by have := b2.size; simp; omega) ?_; intro v3' w3 own' hgr; have ho3 := own'; clear own'; have b3 : Below w.heap.size w w3 := (b2.alloc b2.size _).grown hgr (by have := b2.size; simp; omega) (fun g hg => (ho2.lt g hg).1); clear hgr; have c18 := (hB.belowb b3).at 18 (scrA_18 s v1 v2 v3 _); rw [HSH.out] at c18; have c12 := (hB.belowb b3).at 12 (scrA_12 s v1 v2 v3 _); rw [HIN.out] at c12; have c11 := (hB.belowb b3).at 11 (scrA_11 s v1 v2 v3 _); rw [HAU.out] at c11))
          go_ret
          rw [HE.out]
          refine ⟨_, rfl, ?_, b3⟩
          have e8 : (AL ++ [27, 40, T0, 27, 41, T1] ++ [14]).length = AL.length + 6 + 1 := by simp; try omega
          rw [e8]
          simpa using ho3
      · rcases hau : s.auto with _ | _
        · have e9 : howL s = AL ++ [27, 40, T0, 27, 41, T1] ++ [14] ++ [27, 91, 52, 104] ++ [27, 91, 63, 55, 108] := by unfold howL shL insL autoL; rw [HA.out, HSET.out, hin, hau, if_pos hsh]; simp
          have HIN := hide hin
          have HAU := hide hau
          have HSH := hide hsh
          have HE := hide e9
          clear hin hau e9 hsh
          have c18 := (hB.belowb b2).at 18 (scrA_18 s v1 v2 v3 _)
          rw [HSH.out] at c18
          have c12 := (hB.belowb b2).at 12 (scrA_12 s v1 v2 v3 _)
          rw [HIN.out] at c12
          have c11 := (hB.belowb b2).at 11 (scrA_11 s v1 v2 v3 _)
          rw [HAU.out] at c11
          go_wp2_with (first | fail | (at_builtin; refine wpList_append_X _ rfl (.tmp 33) (.tmp 34) 30 rfl w.heap.size 5 .u8 i0 (.int .u8 0) 1 Tryd.underlying30 hi hz0 hz1 hz2 rfl _ _ _ rfl (ho2.alloc _) (some ⟨w2.heap.size, 0, none⟩) [14] _ 1 rfl rfl (lit_read (w := w2) (l := [14]) rfl) (by unfold maxLen; omega) (by omega) (by have := b2.size; simp; omega) ?_; intro v3' w3 own' hgr; have ho3 := own'; clear own'; have b3 : Below w.heap.size w w3 := (b2.alloc b2.size _).grown hgr (by have := b2.size; simp; omega) (fun g hg => (ho2.lt g hg).1); clear hgr; have c18 := (hB.belowb b3).at 18 (scrA_18 s v1 v2 v3 _); rw [HSH.out] at c18; have c12 := (hB.belowb b3).at 12 (scrA_12 s v1 v2 v3 _); rw [HIN.out] at c12; have c11 := (hB.belowb b3).at 11 (scrA_11 s v1 v2 v3 _); rw [HAU.out] at c11; have hcvw3 := Lib.run_convert_bytes_const (P := Tryd.prog) w3 30 5 #[.int .u8 27, .int .u8 91, .int .u8 52, .int .u8 104] 4 4 Tryd.underlying30 Tryd.underlying5) | (at_builtin; refine wpList_append_X _ rfl (.tmp 40) (.tmp 42) 30 rfl w.heap.size 5 .u8 i0 (.int .u8 0) 1 Tryd.underlying30 hi hz0 hz1 hz2 rfl _ _ _ rfl (ho3.alloc _) (some ⟨w3.heap.size, 0, none⟩) [27, 91, 52, 104] _ 4 rfl rfl (lit_readX (w := w3) (l := [27, 91, 52, 104]) (p := 4) (q := 5) rfl) (by unfold maxLen; omega) (by omega) (by have := b3.size; simp; omega) ?_; intro v4' w4 own' hgr; have ho4 := own'; clear own'; have b4 : Below w.heap.size w w4 := (b3.alloc b3.size _).grown hgr (by have := b3.size; simp; omega) (fun g hg => (ho3.lt g hg).1); clear hgr; have c18 := (hB.belowb b4).at 18 (scrA_18 s v1 v2 v3 _); rw [HSH.out] at c18; have c12 := (hB.belowb b4).at 12 (scrA_12 s v1 v2 v3 _); rw [HIN.out] at c12; have c11 := (hB.belowb b4).at 11 (scrA_11 s v1 v2 v3 _); rw [HAU.out] at c11; have hcvw4 := Lib.run_convert_bytes_const (P := Tryd.prog) w4 30 5 #[.int .u8 27, .int .u8 91, .int .u8 63, .int .u8 55, .int .u8 108] 5 5 Tryd.underlying30 Tryd.underlying5) | (at_builtin; refine wpList_append_X _ rfl (.tmp 49) (.tmp 51) 30 rfl w.heap.size 5 .u8 i0 (.int .u8 0) 1 Tryd.underlying30 hi hz0 hz1 hz2 rfl _ _ _ rfl (ho4.alloc _) (some ⟨w4.heap.size, 0, none⟩) [27, 91, 63, 55, 108] _ 5 rfl rfl (lit_readX (w := w4) (l := [27, 91, 63, 55, 108]) (p := 5) (q := 6) rfl) (by unfold maxLen; omega) (by omega) (by have := b4.size; simp; omega) ?_; intro v5' w5 own' hgr; have ho5 := own'; clear own'; have b5 : Below w.heap.size w w5 := (b4.alloc b4.size _).grown hgr (by have := b4.size; simp; omega) (fun g hg => (ho4.lt g hg).1); clear hgr; have c18 := (hB.belowb b5).at 18 (scrA_18 s v1 v2 v3 _); rw [HSH.out] at c18; have c12 := (hB.belowb b5).at 12 (scrA_12 s v1 v2 v3 _); rw [HIN.out] at c12; have c11 := (hB.belowb b5).at 11 (scrA_11 s v1 v2 v3 _); rw [HAU.out] at c11))
          go_ret
          rw [HE.out]
          refine ⟨_, rfl, ?_, b5⟩
          have e8 : (AL ++ [27, 40, T0, 27, 41, T1] ++ [14] ++ [27, 91, 52, 104] ++ [27, 91, 63, 55, 108]).length = AL.length + 6 + 1 + 4 + 5 := by simp; try omega
          rw [e8]
          simpa using ho5
        · have e9 : howL s = AL ++ [27, 40, T0, 27, 41, T1] ++ [14] ++ [27, 91, 52, 104] := by unfold howL shL insL autoL; rw [HA.out, HSET.out, hin, hau, if_pos hsh]; simp
          have HIN := hide hin
          have HAU := hide hau
          have HSH := hide hsh
          have HE := hide e9
          clear hin hau e9 hsh
          have c18 := (hB.belowb b2).at 18 (scrA_18 s v1 v2 v3 _)
          rw [HSH.out] at c18
          have c12 := (hB.belowb b2).at 12 (scrA_12 s v1 v2 v3 _)
          rw [HIN.out] at c12
          have c11 := (hB.belowb b2).at 11 (scrA_11 s v1 v2 v3 _)
          rw [HAU.out] at c11
          go_wp2_with (first | fail | (at_builtin; refine wpList_append_X _ rfl (.tmp 33) (.tmp 34) 30 rfl w.heap.size 5 .u8 i0 (.int .u8 0) 1 Tryd.underlying30 hi hz0 hz1 hz2 rfl _ _ _ rfl (ho2.alloc _) (some ⟨w2.heap.size, 0, none⟩) [14] _ 1 rfl rfl (lit_read (w := w2) (l := [14]) rfl) (by unfold maxLen; omega) (by omega) (by have := b2.size; simp; omega) ?_; intro v3' w3 own' hgr; have ho3 := own'; clear own'; have b3 : Below w.heap.size w w3 := (b2.alloc b2.size _).grown hgr (by have := b2.size; simp; omega) (fun g hg => (ho2.lt g hg).1); clear hgr; have c18 := (hB.belowb b3).at 18 (scrA_18 s v1 v2 v3 _); rw [HSH.out] at c18; have c12 := (hB.belowb b3).at 12 (scrA_12 s v1 v2 v3 _); rw [HIN.out] at c12; have c11 := (hB.belowb b3).at 11 (scrA_11 s v1 v2 v3 _); rw [HAU.out] at c11; have hcvw3 := Lib.run_convert_bytes_const (P := Tryd.prog) w3 30 5 #[.int .u8 27, .int .u8 91, .int .u8 52, .int .u8 104] 4 4 Tryd.underlying30 Tryd.underlying5) | (at_builtin; refine wpList_append_X _ rfl (.tmp 40) (.tmp 42) 30 rfl w.heap.size 5 .u8 i0 (.int .u8 0) 1 Tryd.underlying30 hi hz0 hz1 hz2 rfl _ _ _ rfl (ho3.alloc _) (some ⟨w3.heap.size, 0, none⟩) [27, 91, 52, 104] _ 4 rfl rfl (lit_readX (w := w3) (l := [27, 91, 52, 104]) (p := 4) (q := 5) rfl) (by unfold maxLen; omega) (by omega) (by have := b3.size; simp; omega) ?_; intro v4' w4 own' hgr; have ho4 := own'; clear own'; have b4 : Below w.heap.size w w4 := (b3.alloc b3.size _).grown hgr (by have := b3.size; simp; omega) (fun g hg => (ho3.lt g hg).1); clear hgr; have c18 := (hB.belowb b4).at 18 (scrA_18 s v1 v2 v3 _); rw [HSH.out] at c18; have c12 := (hB.belowb b4).at 12 (scrA_12 s v1 v2 v3 _); rw [HIN.out] at c12; have c11 := (hB.belowb b4).at 11 (scrA_11 s v1 v2 v3 _); rw [HAU.out] at c11))
          go_ret
          rw [HE.out]
          refine ⟨_, rfl, ?_, b4⟩
          have e8 : (AL ++ [27, 40, T0, 27, 41, T1] ++ [14] ++ [27, 91, 52, 104]).length = AL.length + 6 + 1 + 4 := by simp; try omega
          rw [e8]
          simpa using ho4
    · rcases hin : s.ins with _ | _
      · rcases hau : s.auto with _ | _
        · have e9 : howL s = AL ++ [27, 40, T0, 27, 41, T1] ++ [27, 91, 63, 55, 108] := by unfold howL shL insL autoL; rw [HA.out, HSET.out, hin, hau, if_neg hsh]; simp
          have HIN := hide hin
          have HAU := hide hau
          have HSH := hide hsh
          have HE := hide e9
          have hsf : (s.sh == 1) = false := by simpa using hsh
          clear hin hau e9
          have c18 := (hB.belowb b2).at 18 (scrA_18 s v1 v2 v3 _)
          have c12 := (hB.belowb b2).at 12 (scrA_12 s v1 v2 v3 _)
          rw [HIN.out] at c12
          have c11 := (hB.belowb b2).at 11 (scrA_11 s v1 v2 v3 _)
          rw [HAU.out] at c11
          have hcvw2 := Lib.run_convert_bytes_const (P := Tryd.prog) w2 30 5 #[.int .u8 27, .int .u8 91, .int .u8 63, .int .u8 55, .int .u8 108] 5 5 Tryd.underlying30 Tryd.underlying5
          go_wp2_with (first | fail | (at_builtin; refine wpList_append_X _ rfl (.tmp 49) (.tmp 51) 30 rfl w.heap.size 5 .u8 i0 (.int .u8 0) 1 Tryd.underlying30 hi hz0 hz1 hz2 rfl _ _ _ rfl (ho2.alloc _) (some ⟨w2.heap.size, 0, none⟩) [27, 91, 63, 55, 108] _ 5 rfl rfl (lit_readX (w := w2) (l := [27, 91, 63, 55, 108]) (p := 5) (q := 6) rfl) (by unfold maxLen; omega) (by omega) (by have := b2.size; simp; omega) ?_; intro v3' w3 own' hgr; have ho3 := own'; clear own'; have b3 : Below w.heap.size w w3 := (b2.alloc b2.size _).grown hgr (by have := b2.size; simp; omega) (fun g hg => (ho2.lt g hg).1); clear hgr; have c18 := (hB.belowb b3).at 18 (scrA_18 s v1 v2 v3 _); have c12 := (hB.belowb b3).at 12 (scrA_12 s v1 v2 v3 _); rw [HIN.out] at c12; have c11 := (hB.belowb b3).at 11 (scrA_11 s v1 v2 v3 _); rw [HAU.out] at c11))
          go_ret
          rw [HE.out]
          refine ⟨_, rfl, ?_, b3⟩
          have e8 : (AL ++ [27, 40, T0, 27, 41, T1] ++ [27, 91, 63, 55, 108]).length = AL.length + 6 + 5 := by simp; try omega
          rw [e8]
          simpa using ho3
        · have e9 : howL s = AL ++ [27, 40, T0, 27, 41, T1] := by unfold howL shL insL autoL; rw [HA.out, HSET.out, hin, hau, if_neg hsh]; simp
          have HIN := hide hin
          have HAU := hide hau
          have HSH := hide hsh
          have HE := hide e9
          have hsf : (s.sh == 1) = false := by simpa using hsh
          clear hin hau e9
          have c18 := (hB.belowb b2).at 18 (scrA_18 s v1 v2 v3 _)
          have c12 := (hB.belowb b2).at 12 (scrA_12 s v1 v2 v3 _)
          rw [HIN.out] at c12
          have c11 := (hB.belowb b2).at 11 (scrA_11 s v1 v2 v3 _)
          rw [HAU.out] at c11
          go_wp2_with (first | fail)
          go_ret
          rw [HE.out]
          refine ⟨_, rfl, ?_, b2⟩
          have e8 : (AL ++ [27, 40, T0, 27, 41, T1]).length = AL.length + 6 := by simp; try omega
          rw [e8]
          simpa using ho2
      · rcases hau : s.auto with _ | _
        · have e9 : howL s = AL ++ [27, 40, T0, 27, 41, T1] ++ [27, 91, 52, 104] ++ [27, 91, 63, 55, 108] := by unfold howL shL insL autoL; rw [HA.out, HSET.out, hin, hau, if_neg hsh]; simp
          have HIN := hide hin
          have HAU := hide hau
          have HSH := hide hsh
          have HE := hide e9
          have hsf : (s.sh == 1) = false := by simpa using hsh
          clear hin hau e9
          have c18 := (hB.belowb b2).at 18 (scrA_18 s v1 v2 v3 _)
          have c12 := (hB.belowb b2).at 12 (scrA_12 s v1 v2 v3 _)
          rw [HIN.out] at c12
          have c11 := (hB.belowb b2).at 11 (scrA_11 s v1 v2 v3 _)
          rw [HAU.out] at c11
          have hcvw2 := Lib.run_convert_bytes_const (P := Tryd.prog) w2 30 5 #[.int .u8 27, .int .u8 91, .int .u8 52, .int .u8 104] 4 4 Tryd.underlying30 Tryd.underlying5
          go_wp2_with (first | fail | (at_builtin; refine wpList_append_X _ rfl (.tmp 40) (.tmp 42) 30 rfl w.heap.size 5 .u8 i0 (.int .u8 0) 1 Tryd.underlying30 hi hz0 hz1 hz2 rfl _ _ _ rfl (ho2.alloc _) (some ⟨w2.heap.size, 0, none⟩) [27, 91, 52, 104] _ 4 rfl rfl (lit_readX (w := w2) (l := [27, 91, 52, 104]) (p := 4) (q := 5) rfl) (by unfold maxLen; omega) (by omega) (by have := b2.size; simp; omega) ?_; intro v3' w3 own' hgr; have ho3 := own'; clear own'; have b3 : Below w.heap.size w w3 := (b2.alloc b2.size _).grown hgr (by have := b2.size; simp; omega) (fun g hg => (ho2.lt g hg).1); clear hgr; have c18 := (hB.belowb b3).at 18 (scrA_18 s v1 v2 v3 _); have c12 := (hB.belowb b3).at 12 (scrA_12 s v1 v2 v3 _); rw [HIN.out] at c12; have c11 := (hB.belowb b3).at 11 (scrA_11 s v1 v2 v3 _); rw [HAU.out] at c11; have hcvw3 := Lib.run_convert_bytes_const (P := Tryd.prog) w3 30 5 #[.int .u8 27, .int .u8 91, .int .u8 63, .int .u8 55, .int .u8 108] 5 5 Tryd.underlying30 Tryd.underlying5) | (at_builtin; refine wpList_append_X _ rfl (.tmp 49) (.tmp 51) 30 rfl w.heap.size 5 .u8 i0 (.int .u8 0) 1 Tryd.underlying30 hi hz0 hz1 hz2 rfl _ _ _ rfl (ho3.alloc _) (some ⟨w3.heap.size, 0, none⟩) [27, 91, 63, 55, 108] _ 5 rfl rfl (lit_readX (w := w3) (l := [27, 91, 63, 55, 108]) (p := 5) (q := 6) rfl) (by unfold maxLen; omega) (by omega) (by have := b3.size; simp; omega) ?_; intro v4' w4 own' hgr; have ho4 := own'; clear own'; have b4 : Below w.heap.size w w4 := (b3.alloc b3.size _).grown hgr (by have := b3.size; simp; omega) (fun g hg => (ho3.lt g hg).1); clear hgr; have c18 := (hB.belowb b4).at 18 (scrA_18 s v1 v2 v3 _); have c12 := (hB.belowb b4).at 12 (scrA_12 s v1 v2 v3 _); rw [HIN.out] at c12; have c11 := (hB.belowb b4).at 11 (scrA_11 s v1 v2 v3 _); rw [HAU.out] at c11))
          go_ret
          rw [HE.out]
          refine ⟨_, rfl, ?_, b4⟩
          have e8 : (AL ++ [27, 40, T0, 27, 41, T1] ++ [27, 91, 52, 104] ++ [27, 91, 63, 55, 108]).length = AL.length + 6 + 4 + 5 := by simp; try omega
          rw [e8]
          simpa using ho4
        · have e9 : howL s = AL ++ [27, 40, T0, 27, 41, T1] ++ [27, 91, 52, 104] := by unfold howL shL insL autoL; rw [HA.out, HSET.out, hin, hau, if_neg hsh]; simp
          have HIN := hide hin
          have HAU := hide hau
          have HSH := hide hsh
          have HE := hide e9
          have hsf : (s.sh == 1) = false := by simpa using hsh
          clear hin hau e9
          have c18 := (hB.belowb b2).at 18 (scrA_18 s v1 v2 v3 _)
          have c12 := (hB.belowb b2).at 12 (scrA_12 s v1 v2 v3 _)
          rw [HIN.out] at c12
          have c11 := (hB.belowb b2).at 11 (scrA_11 s v1 v2 v3 _)
          rw [HAU.out] at c11
          have hcvw2 := Lib.run_convert_bytes_const (P := Tryd.prog) w2 30 5 #[.int .u8 27, .int .u8 91, .int .u8 52, .int .u8 104] 4 4 Tryd.underlying30 Tryd.underlying5
          go_wp2_with (first | fail | (at_builtin; refine wpList_append_X _ rfl (.tmp 40) (.tmp 42) 30 rfl w.heap.size 5 .u8 i0 (.int .u8 0) 1 Tryd.underlying30 hi hz0 hz1 hz2 rfl _ _ _ rfl (ho2.alloc _) (some ⟨w2.heap.size, 0, none⟩) [27, 91, 52, 104] _ 4 rfl rfl (lit_readX (w := w2) (l := [27, 91, 52, 104]) (p := 4) (q := 5) rfl) (by unfold maxLen; omega) (by omega) (by have := b2.size; simp; omega) ?_; intro v3' w3 own' hgr; have ho3 := own'; clear own'; have b3 : Below w.heap.size w w3 := (b2.alloc b2.size _).grown hgr (by have := b2.size; simp; omega) (fun g hg => (ho2.lt g hg).1); clear hgr; have c18 := (hB.belowb b3).at 18 (scrA_18 s v1 v2 v3 _); have c12 := (hB.belowb b3).at 12 (scrA_12 s v1 v2 v3 _); rw [HIN.out] at c12; have c11 := (hB.belowb b3).at 11 (scrA_11 s v1 v2 v3 _); rw [HAU.out] at c11))
          go_ret
          rw [HE.out]
          refine ⟨_, rfl, ?_, b3⟩
          have e8 : (AL ++ [27, 40, T0, 27, 41, T1] ++ [27, 91, 52, 104]).length = AL.length + 6 + 4 := by simp; try omega
          rw [e8]
          simpa using ho3
  · skip
    go_simp
    refine hK.out _ _ ?_ ?_
    · (try dsimp only); exact hmk _ (hHeld.1.alloc hHeld.1.size _)
    clear hHeld hK K
    intro hHeld
    try simp only [Act.put, List.setIfInBounds_toArray, List.set_cons_zero, List.set_cons_succ]
    refine wpAnyH_ready (rs := [4]) (by kernel_rfl) (by simp) ?_
    refine (AllReadyH.cons (o := ⟨_, _, _, _, _, _⟩) rfl (fun K hK => ?_) AllReadyH.nil)
    go_simp
    go_at_call 45
    refine (HC _).mono ?_
    rintro e w1 ⟨v1', rfl, ox1, hb1'⟩
    have b1 : Below w.heap.size w w1 := hHeld.1.trans (hb1'.mono hHeld.1.size)
    replace ox1 := ox1.lower (base' := w.heap.size) hHeld.1.size
    obtain ⟨a1, c1, rfl⟩ := ox1.form
    have hL0 := lit_own (w := w.drew) (l := [27, 40, T0, 27, 41, T1]) (T := 5) (by simp)
    have hL : OwnX w1 w.heap.size 5 (.slice (some ⟨w.heap.size, 0, none⟩) 6 6) 6 ([27, 40, T0, 27, 41, T1].map (Value.int .u8)) := hL0.of_block (fun k hk => hb1'.block k (hL0.lt k hk).2)
    clear hb1' hL0
    refine hK.out _ _ ?_ ?_
    · (try dsimp only); exact hmk _ b1
    clear hHeld hK K
    intro hHeld
    try simp only [Act.put, List.setIfInBounds_toArray, List.set_cons_zero, List.set_cons_succ]
    refine wpAnyH_ready (rs := [22]) (by kernel_rfl) (by simp) ?_
    refine (AllReadyH.cons (o := ⟨_, _, _, _, _, _⟩) rfl (fun K hK => ?_) AllReadyH.nil)
    have ho1 := ox1
    have bb := b1
    refine step_append_X rfl (.tmp 9) (.tmp 26) 30 rfl w.heap.size 5 .u8 i0 (.int .u8 0) 1 Tryd.underlying30 hi hz0 hz1 hz2 rfl _ _ _ rfl ho1 (some ⟨w.heap.size, 0, none⟩) [27, 40, T0, 27, 41, T1] _ 6 rfl rfl hL.ints.read (by unfold maxLen; omega) (by omega) bb.size ?_
    intro v2' w2 ho2 hgr
    have b2 : Below w.heap.size w w2 := bb.grown hgr bb.size (fun g hg => (ho1.lt g hg).1)
    clear hgr
    refine hK.out _ _ ?_ ?_
    · (try dsimp only); exact hmk _ b2
    clear hHeld hK K
    intro hHeld
    try simp only [Act.put, List.setIfInBounds_toArray, List.set_cons_zero, List.set_cons_succ]
    refine wpAnyH_take (i := 23) (oi := ⟨_, _, _, _, _, _⟩) (v := ?_) rfl (by kernel_rfl) (by kernel_rfl) (by kernel_rfl) (fun _ _ _ h => h) (Or.inl ⟨by rfl, ?_⟩) hHeld ?_
    rotate_left
    · (intro w hSw; (try dsimp only at hSw); go_simp; try (with_reducible rfl))
    try simp only [Act.put, List.setIfInBounds_toArray, List.set_cons_zero, List.set_cons_succ]
    refine wpAnyH_done (by kernel_rfl) ?_ _
    clear hHeld
    by_cases hsh : s.sh = 1
    · rcases hin : s.ins with _ | _
      · rcases hau : s.auto with _ | _
        · have e9 : howL s = AL ++ [27, 40, T0, 27, 41, T1] ++ [14] ++ [27, 91, 63, 55, 108] := by unfold howL shL insL autoL; rw [HA.out, HSET.out, hin, hau, if_pos hsh]; simp
          have HIN := hide hin
          have HAU := hide hau
          have HSH := hide hsh
          have HE := hide e9
          clear hin hau e9 hsh
          have c18 := (hB.belowb b2).at 18 (scrA_18 s v1 v2 v3 _)
          rw [HSH.out] at c18
          have c12 := (hB.belowb b2).at 12 (scrA_12 s v1 v2 v3 _)
          rw [HIN.out] at c12
          have c11 := (hB.belowb b2).at 11 (scrA_11 s v1 v2 v3 _)
          rw [HAU.out] at c11
          go_wp2_with (first | fail | (at_builtin; refine wpList_append_X _ rfl (.tmp 33) (.tmp 34) 30 rfl w.heap.size 5 .u8 i0 (.int .u8 0) 1 Tryd.underlying30 hi hz0 hz1 hz2 rfl _ _ _ rfl (ho2.alloc _) (some ⟨w2.heap.size, 0, none⟩) [14] _ 1 rfl rfl (lit_read (w := w2) (l := [14]) rfl) (by unfold maxLen; omega) (by omega) (by have := b2.size; simp; omega) ?_; intro v3' w3 own' hgr; have ho3 := own'; clear own'; have b3 : Below w.heap.size w w3 := (b2.alloc b2.size _).grown hgr (by have := b2.size; simp; omega) (fun g hg => (ho2.lt g hg).1); clear hgr; have c18 := (hB.belowb b3).at 18 (scrA_18 s v1 v2 v3 _); rw [HSH.out] at c18; have c12 := (hB.belowb b3).at 12 (scrA_12 s v1 v2 v3 _); rw [HIN.out] at c12; have c11 := (hB.belowb b3).at 11 (scrA_11 s v1 v2 v3 _); rw [HAU.out] at c11; have hcvw3 := Lib.run_convert_bytes_const (P := Tryd.prog) w3 30 5 #[.int .u8 27, .int .u8 91, .int .u8 63, .int .u8 55, .int .u8 108] 5 5 Tryd.underlying30 Tryd.underlying5) | (at_builtin; refine wpList_append_X _ rfl (.tmp 49) (.tmp 51) 30 rfl w.heap.size 5 .u8 i0 (.int .u8 0) 1 Tryd.underlying30 hi hz0 hz1 hz2 rfl _ _ _ rfl (ho3.alloc _) (some ⟨w3.heap.size, 0, none⟩) [27, 91, 63, 55, 108] _ 5 rfl rfl (lit_readX (w := w3) (l := [27, 91, 63, 55, 108]) (p := 5) (q := 6) rfl) (by unfold maxLen; omega) (by omega) (by have := b3.size; simp; omega) ?_; intro v4' w4 own' hgr; have ho4 := own'; clear own'; have b4 : Below w.heap.size w w4 := (b3.alloc b3.size _).grown hgr (by have := b3.size; simp; omega) (fun g hg => (ho3.lt g hg).1); clear hgr; have c18 := (hB.belowb b4).at 18 (scrA_18 s v1 v2 v3 _); rw [HSH.out] at c18; have c12 := (hB.belowb b4).at 12 (scrA_12 s v1 v2 v3 _); rw [HIN.out] at c12; have c11 := (hB.belowb b4).at 11 (scrA_11 s v1 v2 v3 _); rw [HAU.out] at c11))
          go_ret
          rw [HE.out]
          refine ⟨_, rfl, ?_, b4⟩
          have e8 : (AL ++ [27, 40, T0, 27, 41, T1] ++ [14] ++ [27, 91, 63, 55, 108]).length = AL.length + 6 + 1 + 5 := by simp; try omega
          rw [e8]
          simpa using ho4
        · have e9 : howL s = AL ++ [27, 40, T0, 27, 41, T1] ++ [14] := by unfold howL shL insL autoL; rw [HA.out, HSET.out, hin, hau, if_pos hsh]; simp
          have HIN := hide hin
          have HAU := hide hau
          have HSH := hide hsh
          have HE := hide e9
          clear hin hau e9 hsh
          have c18 := (hB.belowb b2).at 18 (scrA_18 s v1 v2 v3 _)
          rw [HSH.out] at c18
          have c12 := (hB.belowb b2).at 12 (scrA_12 s v1 v2 v3 _)
          rw [HIN.out] at c12
          have c11 := (hB.belowb b2).at 11 (scrA_11 s v1 v2 v3 _)
          rw [HAU.out] at c11
          go_wp2_with (first | fail | (at_builtin; refine wpList_append_X _ rfl (.tmp 33) (.tmp 34) 30 rfl w.heap.size 5 .u8 i0 (.int .u8 0) 1 Tryd.underlying30 hi hz0 hz1 hz2 rfl _ _ _ rfl (ho2.alloc _) (some ⟨w2.heap.size, 0, none⟩) [14] _ 1 rfl rfl (lit_read (w := w2) (l := [14]) rfl) (by unfold maxLen; omega) (by omega) (by have := b2.size; simp; omega) ?_; intro v3' w3 own' hgr; have ho3 := own'; clear own'; have b3 : Below w.heap.size w w3 := (b2.alloc b2.size _).grown hgr (by have := b2.size; simp; omega) (fun g hg => (ho2.lt g hg).1); clear hgr; have c18 := (hB.belowb b3).at 18 (scrA_18 s v1 v2 v3 _); rw [HSH.out] at c18; have c12 := (hB.belowb b3).at 12 (scrA_12 s v1 v2 v3 _); rw [HIN.out] at c12; have c11 := (hB.belowb b3).at 11 (scrA_11 s v1 v2 v3 _); rw [HAU.out] at c11))
          go_ret
          rw [HE.out]
          refine ⟨_, rfl, ?_, b3⟩
          have e8 : (AL ++ [27, 40, T0, 27, 41, T1] ++ [14]).length = AL.length + 6 + 1 := by simp; try omega
          rw [e8]
          simpa using ho3
      · rcases hau : s.auto with _ | _
        · have e9 : howL s = AL ++ [27, 40, T0, 27, 41, T1] ++ [14] ++ [27, 91, 52, 104] ++ [27, 91, 63, 55, 108] := by unfold howL shL insL autoL; rw [HA.out, HSET.out, hin, hau, if_pos hsh]; simp
          have HIN := hide hin
          have HAU := hide hau
          have HSH := hide hsh
          have HE := hide e9
          clear hin hau e9 hsh
          have c18 := (hB.belowb b2).at 18 (scrA_18 s v1 v2 v3 _)
          rw [HSH.out] at c18
          have c12 := (hB.belowb b2).at 12 (scrA_12 s v1 v2 v3 _)
          rw [HIN.out] at c12
          have c11 := (hB.belowb b2).at 11 (scrA_11 s v1 v2 v3 _)
          rw [HAU.out] at c11
          go_wp2_with (first | fail | (at_builtin; refine wpList_append_X _ rfl (.tmp 33) (.tmp 34) 30 rfl w.heap.size 5 .u8 i0 (.int .u8 0) 1 Tryd.underlying30 hi hz0 hz1 hz2 rfl _ _ _ rfl (ho2.alloc _) (some ⟨w2.heap.size, 0, none⟩) [14] _ 1 rfl rfl (lit_read (w := w2) (l := [14]) rfl) (by unfold maxLen; omega) (by omega) (by have := b2.size; simp; omega) ?_; intro v3' w3 own' hgr; have ho3 := own'; clear own'; have b3 : Below w.heap.size w w3 := (b2.alloc b2.size _).grown hgr (by have := b2.size; simp; omega) (fun g hg => (ho2.lt g hg).1); clear hgr; have c18 := (hB.belowb b3).at 18 (scrA_18 s v1 v2 v3 _); rw [HSH.out] at c18; have c12 := (hB.belowb b3).at 12 (scrA_12 s v1 v2 v3 _); rw [HIN.out] at c12; have c11 := (hB.belowb b3).at 11 (scrA_11 s v1 v2 v3 _); rw [HAU.out] at c11; have hcvw3 := Lib.run_convert_bytes_const (P := Tryd.prog) w3 30 5 #[.int .u8 27, .int .u8 91, .int .u8 52, .int .u8 104] 4 4 Tryd.underlying30 Tryd.underlying5) | (at_builtin; refine wpList_append_X _ rfl (.tmp 40) (.tmp 42) 30 rfl w.heap.size 5 .u8 i0 (.int .u8 0) 1 Tryd.underlying30 hi hz0 hz1 hz2 rfl _ _ _ rfl (ho3.alloc _) (some ⟨w3.heap.size, 0, none⟩) [27, 91, 52, 104] _ 4 rfl rfl (lit_readX (w := w3) (l := [27, 91, 52, 104]) (p := 4) (q := 5) rfl) (by unfold maxLen; omega) (by omega) (by have := b3.size; simp; omega) ?_; intro v4' w4 own' hgr; have ho4 := own'; clear own'; have b4 : Below w.heap.size w w4 := (b3.alloc b3.size _).grown hgr (by have := b3.size; simp; omega) (fun g hg => (ho3.lt g hg).1); clear hgr; have c18 := (hB.belowb b4).at 18 (scrA_18 s v1 v2 v3 _); rw [HSH.out] at c18; have c12 := (hB.belowb b4).at 12 (scrA_12 s v1 v2 v3 _); rw [HIN.out] at c12; have c11 := (hB.belowb b4).at 11 (scrA_11 s v1 v2 v3 _); rw [HAU.out] at c11; have hcvw4 := Lib.run_convert_bytes_const (P := Tryd.prog) w4 30 5 #[.int .u8 27, .int .u8 91, .int .u8 63, .int .u8 55, .int .u8 108] 5 5 Tryd.underlying30 Tryd.underlying5) | (at_builtin; refine wpList_append_X _ rfl (.tmp 49) (.tmp 51) 30 rfl w.heap.size 5 .u8 i0 (.int .u8 0) 1 Tryd.underlying30 hi hz0 hz1 hz2 rfl _ _ _ rfl (ho4.alloc _) (some ⟨w4.heap.size, 0, none⟩) [27, 91, 63, 55, 108] _ 5 rfl rfl (lit_readX (w := w4) (l := [27, 91, 63, 55, 108]) (p := 5) (q := 6) rfl) (by unfold maxLen; omega) (by omega) (by have := b4.size; simp; omega) ?_; intro v5' w5 own' hgr; have ho5 := own'; clear own'; have b5 : Below w.heap.size w w5 := (b4.alloc b4.size _).grown hgr (by have := b4.size; simp; omega) (fun g hg => (ho4.lt g hg).1); clear hgr; have c18 := (hB.belowb b5).at 18 (scrA_18 s v1 v2 v3 _); rw [HSH.out] at c18; have c12 := (hB.belowb b5).at 12 (scrA_12 s v1 v2 v3 _); rw [HIN.out] at c12; have c11 := (hB.belowb b5).at 11 (scrA_11 s v1 v2 v3 _); rw [HAU.out] at c11))
          go_ret
          rw [HE.out]
          refine ⟨_, rfl, ?_, b5⟩
          have e8 : (AL ++ [27, 40, T0, 27, 41, T1] ++ [14] ++ [27, 91, 52, 104] ++ [27, 91, 63, 55, 108]).length = AL.length + 6 + 1 + 4 + 5 := by simp; try omega
          rw [e8]
          simpa using ho5
        · have e9 : howL s = AL ++ [27, 40, T0, 27, 41, T1] ++ [14] ++ [27, 91, 52, 104] := by unfold howL shL insL autoL; rw [HA.out, HSET.out, hin, hau, if_pos hsh]; simp
          have HIN := hide hin
          have HAU := hide hau
          have HSH := hide hsh
          have HE := hide e9
          clear hin hau e9 hsh
          have c18 := (hB.belowb b2).at 18 (scrA_18 s v1 v2 v3 _)
          rw [HSH.out] at c18
          have c12 := (hB.belowb b2).at 12 (scrA_12 s v1 v2 v3 _)
          rw [HIN.out] at c12
          have c11 := (hB.belowb b2).at 11 (scrA_11 s v1 v2 v3 _)
          rw [HAU.out] at c11
          go_wp2_with (first | fail | (at_builtin; refine wpList_append_X _ rfl (.tmp 33) (.tmp 34) 30 rfl w.heap.size 5 .u8 i0 (.int .u8 0) 1 Tryd.underlying30 hi hz0 hz1 hz2 rfl _ _ _ rfl (ho2.alloc _) (some ⟨w2.heap.size, 0, none⟩) [14] _ 1 rfl rfl (lit_read (w := w2) (l := [14]) rfl) (by unfold maxLen; omega) (by omega) (by have := b2.size; simp; omega) ?_; intro v3' w3 own' hgr; have ho3 := own'; clear own'; have b3 : Below w.heap.size w w3 := (b2.alloc b2.size _).grown hgr (by have := b2.size; simp; omega) (fun g hg => (ho2.lt g hg).1); clear hgr; have c18 := (hB.belowb b3).at 18 (scrA_18 s v1 v2 v3 _); rw [HSH.out] at c18; have c12 := (hB.belowb b3).at 12 (scrA_12 s v1 v2 v3 _); rw [HIN.out] at c12; have c11 := (hB.belowb b3).at 11 (scrA_11 s v1 v2 v3 _); rw [HAU.out] at c11; have hcvw3 := Lib.run_convert_bytes_const (P := Tryd.prog) w3 30 5 #[.int .u8 27, .int .u8 91, .int .u8 52, .int .u8 104] 4 4 Tryd.underlying30 Tryd.underlying5) | (at_builtin; refine wpList_append_X _ rfl (.tmp 40) (.tmp 42) 30 rfl w.heap.size 5 .u8 i0 (.int .u8 0) 1 Tryd.underlying30 hi hz0 hz1 hz2 rfl _ _ _ rfl (ho3.alloc _) (some ⟨w3.heap.size, 0, none⟩) [27, 91, 52, 104] _ 4 rfl rfl (lit_readX (w := w3) (l := [27, 91, 52, 104]) (p := 4) (q := 5) rfl) (by unfold maxLen; omega) (by omega) (by have := b3.size; simp; omega) ?_; intro v4' w4 own' hgr; have ho4 := own'; clear own'; have b4 : Below w.heap.size w w4 := (b3.alloc b3.size _).grown hgr (by have := b3.size; simp; omega) (fun g hg => (ho3.lt g hg).1); clear hgr; have c18 := (hB.belowb b4).at 18 (scrA_18 s v1 v2 v3 _); rw [HSH.out] at c18; have c12 := (hB.belowb b4).at 12 (scrA_12 s v1 v2 v3 _); rw [HIN.out] at c12; have c11 := (hB.belowb b4).at 11 (scrA_11 s v1 v2 v3 _); rw [HAU.out] at c11))
          go_ret
          rw [HE.out]
          refine ⟨_, rfl, ?_, b4⟩
          have e8 : (AL ++ [27, 40, T0, 27, 41, T1] ++ [14] ++ [27, 91, 52, 104]).length = AL.length + 6 + 1 + 4 := by simp; try omega
          rw [e8]
          simpa using ho4
    · rcases hin : s.ins with _ | _
      · rcases hau : s.auto with _ | _
        · have e9 : howL s = AL ++ [27, 40, T0, 27, 41, T1] ++ [27, 91, 63, 55, 108] := by unfold howL shL insL autoL; rw [HA.out, HSET.out, hin, hau, if_neg hsh]; simp
          have HIN := hide hin
          have HAU := hide hau
          have HSH := hide hsh
          have HE := hide e9
          have hsf : (s.sh == 1) = false := by simpa using hsh
          clear hin hau e9
          have c18 := (hB.belowb b2).at 18 (scrA_18 s v1 v2 v3 _)
          have c12 := (hB.belowb b2).at 12 (scrA_12 s v1 v2 v3 _)
          rw [HIN.out] at c12
          have c11 := (hB.belowb b2).at 11 (scrA_11 s v1 v2 v3 _)
          rw [HAU.out] at c11
          have hcvw2 := Lib.run_convert_bytes_const (P := Tryd.prog) w2 30 5 #[.int .u8 27, .int .u8 91, .int .u8 63, .int .u8 55, .int .u8 108] 5 5 Tryd.underlying30 Tryd.underlying5
          go_wp2_with (first | fail | (at_builtin; refine wpList_append_X _ rfl (.tmp 49) (.tmp 51) 30 rfl w.heap.size 5 .u8 i0 (.int .u8 0) 1 Tryd.underlying30 hi hz0 hz1 hz2 rfl _ _ _ rfl (ho2.alloc _) (some ⟨w2.heap.size, 0, none⟩) [27, 91, 63, 55, 108] _ 5 rfl rfl (lit_readX (w := w2) (l := [27, 91, 63, 55, 108]) (p := 5) (q := 6) rfl) (by unfold maxLen; omega) (by omega) (by have := b2.size; simp; omega) ?_; intro v3' w3 own' hgr; have ho3 := own'; clear own'; have b3 : Below w.heap.size w w3 := (b2.alloc b2.size _).grown hgr (by have := b2.size; simp; omega) (fun g hg => (ho2.lt g hg).1); clear hgr; have c18 := (hB.belowb b3).at 18 (scrA_18 s v1 v2 v3 _); have c12 := (hB.belowb b3).at 12 (scrA_12 s v1 v2 v3 _); rw [HIN.out] at c12; have c11 := (hB.belowb b3).at 11 (scrA_11 s v1 v2 v3 _); rw [HAU.out] at c11))
          go_ret
          rw [HE.out]
          refine ⟨_, rfl, ?_, b3⟩
          have e8 : (AL ++ [27, 40, T0, 27, 41, T1] ++ [27, 91, 63, 55, 108]).length = AL.length + 6 + 5 := by simp; try omega
          rw [e8]
          simpa using ho3
        · have e9 : howL s = AL ++ [27, 40, T0, 27, 41, T1] := by unfold howL shL insL autoL; rw [HA.out, HSET.out, hin, hau, if_neg hsh]; simp
          have HIN := hide hin
          have HAU := hide hau
          have HSH := hide hsh
          have HE := hide e9
          have hsf : (s.sh == 1) = false := by simpa using hsh
          clear hin hau e9
          have c18 := (hB.belowb b2).at 18 (scrA_18 s v1 v2 v3 _)
          have c12 := (hB.belowb b2).at 12 (scrA_12 s v1 v2 v3 _)
          rw [HIN.out] at c12
          have c11 := (hB.belowb b2).at 11 (scrA_11 s v1 v2 v3 _)
          rw [HAU.out] at c11
          go_wp2_with (first | fail)
          go_ret
          rw [HE.out]
          refine ⟨_, rfl, ?_, b2⟩
          have e8 : (AL ++ [27, 40, T0, 27, 41, T1]).length = AL.length + 6 := by simp; try omega
          rw [e8]
          simpa using ho2
      · rcases hau : s.auto with _ | _
        · have e9 : howL s = AL ++ [27, 40, T0, 27, 41, T1] ++ [27, 91, 52, 104] ++ [27, 91, 63, 55, 108] := by unfold howL shL insL autoL; rw [HA.out, HSET.out, hin, hau, if_neg hsh]; simp
          have HIN := hide hin
          have HAU := hide hau
          have HSH := hide hsh
          have HE := hide e9
          have hsf : (s.sh == 1) = false := by simpa using hsh
          clear hin hau e9
          have c18 := (hB.belowb b2).at 18 (scrA_18 s v1 v2 v3 _)
          have c12 := (hB.belowb b2).at 12 (scrA_12 s v1 v2 v3 _)
          rw [HIN.out] at c12
          have c11 := (hB.belowb b2).at 11 (scrA_11 s v1 v2 v3 _)
          rw [HAU.out] at c11
          have hcvw2 := Lib.run_convert_bytes_const (P := Tryd.prog) w2 30 5 #[.int .u8 27, .int .u8 91, .int .u8 52, .int .u8 104] 4 4 Tryd.underlying30 Tryd.underlying5
          go_wp2_with (first | fail | (at_builtin; refine wpList_append_X _ rfl (.tmp 40) (.tmp 42) 30 rfl w.heap.size 5 .u8 i0 (.int .u8 0) 1 Tryd.underlying30 hi hz0 hz1 hz2 rfl _ _ _ rfl (ho2.alloc _) (some ⟨w2.heap.size, 0, none⟩) [27, 91, 52, 104] _ 4 rfl rfl (lit_readX (w := w2) (l := [27, 91, 52, 104]) (p := 4) (q := 5) rfl) (by unfold maxLen; omega) (by omega) (by have := b2.size; simp; omega) ?_; intro v3' w3 own' hgr; have ho3 := own'; clear own'; have b3 : Below w.heap.size w w3 := (b2.alloc b2.size _).grown hgr (by have := b2.size; simp; omega) (fun g hg => (ho2.lt g hg).1); clear hgr; have c18 := (hB.belowb b3).at 18 (scrA_18 s v1 v2 v3 _); have c12 := (hB.belowb b3).at 12 (scrA_12 s v1 v2 v3 _); rw [HIN.out] at c12; have c11 := (hB.belowb b3).at 11 (scrA_11 s v1 v2 v3 _); rw [HAU.out] at c11; have hcvw3 := Lib.run_convert_bytes_const (P := Tryd.prog) w3 30 5 #[.int .u8 27, .int .u8 91, .int .u8 63, .int .u8 55, .int .u8 108] 5 5 Tryd.underlying30 Tryd.underlying5) | (at_builtin; refine wpList_append_X _ rfl (.tmp 49) (.tmp 51) 30 rfl w.heap.size 5 .u8 i0 (.int .u8 0) 1 Tryd.underlying30 hi hz0 hz1 hz2 rfl _ _ _ rfl (ho3.alloc _) (some ⟨w3.heap.size, 0, none⟩) [27, 91, 63, 55, 108] _ 5 rfl rfl (lit_readX (w := w3) (l := [27, 91, 63, 55, 108]) (p := 5) (q := 6) rfl) (by unfold maxLen; omega) (by omega) (by have := b3.size; simp; omega) ?_; intro v4' w4 own' hgr; have ho4 := own'; clear own'; have b4 : Below w.heap.size w w4 := (b3.alloc b3.size _).grown hgr (by have := b3.size; simp; omega) (fun g hg => (ho3.lt g hg).1); clear hgr; have c18 := (hB.belowb b4).at 18 (scrA_18 s v1 v2 v3 _); have c12 := (hB.belowb b4).at 12 (scrA_12 s v1 v2 v3 _); rw [HIN.out] at c12; have c11 := (hB.belowb b4).at 11 (scrA_11 s v1 v2 v3 _); rw [HAU.out] at c11))
          go_ret
          rw [HE.out]
          refine ⟨_, rfl, ?_, b4⟩
          have e8 : (AL ++ [27, 40, T0, 27, 41, T1] ++ [27, 91, 52, 104] ++ [27, 91, 63, 55, 108]).length = AL.length + 6 + 4 + 5 := by simp; try omega
          rw [e8]
          simpa using ho4
        · have e9 : howL s = AL ++ [27, 40, T0, 27, 41, T1] ++ [27, 91, 52, 104] := by unfold howL shL insL autoL; rw [HA.out, HSET.out, hin, hau, if_neg hsh]; simp
          have HIN := hide hin
          have HAU := hide hau
          have HSH := hide hsh
          have HE := hide e9
          have hsf : (s.sh == 1) = false := by simpa using hsh
          clear hin hau e9
          have c18 := (hB.belowb b2).at 18 (scrA_18 s v1 v2 v3 _)
          have c12 := (hB.belowb b2).at 12 (scrA_12 s v1 v2 v3 _)
          rw [HIN.out] at c12
          have c11 := (hB.belowb b2).at 11 (scrA_11 s v1 v2 v3 _)
          rw [HAU.out] at c11
          have hcvw2 := Lib.run_convert_bytes_const (P := Tryd.prog) w2 30 5 #[.int .u8 27, .int .u8 91, .int .u8 52, .int .u8 104] 4 4 Tryd.underlying30 Tryd.underlying5
          go_wp2_with (first | fail | (at_builtin; refine wpList_append_X _ rfl (.tmp 40) (.tmp 42) 30 rfl w.heap.size 5 .u8 i0 (.int .u8 0) 1 Tryd.underlying30 hi hz0 hz1 hz2 rfl _ _ _ rfl (ho2.alloc _) (some ⟨w2.heap.size, 0, none⟩) [27, 91, 52, 104] _ 4 rfl rfl (lit_readX (w := w2) (l := [27, 91, 52, 104]) (p := 4) (q := 5) rfl) (by unfold maxLen; omega) (by omega) (by have := b2.size; simp; omega) ?_; intro v3' w3 own' hgr; have ho3 := own'; clear own'; have b3 : Below w.heap.size w w3 := (b2.alloc b2.size _).grown hgr (by have := b2.size; simp; omega) (fun g hg => (ho2.lt g hg).1); clear hgr; have c18 := (hB.belowb b3).at 18 (scrA_18 s v1 v2 v3 _); have c12 := (hB.belowb b3).at 12 (scrA_12 s v1 v2 v3 _); rw [HIN.out] at c12; have c11 := (hB.belowb b3).at 11 (scrA_11 s v1 v2 v3 _); rw [HAU.out] at c11))
          go_ret
          rw [HE.out]
          refine ⟨_, rfl, ?_, b3⟩
          have e8 : (AL ++ [27, 40, T0, 27, 41, T1] ++ [27, 91, 52, 104]).length = AL.length + 6 + 4 := by simp; try omega
          rw [e8]
          simpa using ho3
theorem whereL_len {s : Scr} (h : SFine s) : (whereL s).length ≤ 100 := by
  obtain ⟨q1, q2, q3, q4, _, _⟩ := size_mul h.g.size
  obtain ⟨R, m, eR, eW, n1, n2, n3, n4, n5, n6, n7, n8, n9, n10⟩ := h.g.nats
  have h1 := region_len h
  have hy0 := h.y0
  have hy1 := h.y1
  have hx0 := h.x0
  have hx1 := h.x1
  have ho := h.o
  have ht := h.t0
  have h2 : (placeL (s.y - baseOf s) s.x).length ≤ 20 := by
    unfold baseOf
    split
    · rename_i h3; have := ho h3; exact placeL_len (by omega) (by omega)
    · exact placeL_len (by omega) (by omega)
  have h3 : (waitL s).length ≤ 30 := by
    unfold waitL
    split
    · have hX : 0 ≤ s.y * s.wd := Int.mul_nonneg hy0 (by omega)
      obtain ⟨Y, hY⟩ : ∃ Y : Nat, s.y = (Y : Int) := ⟨s.y.toNat, by omega⟩
      have hmul := Nat.mul_le_mul_right m (show Y + 1 ≤ R by omega)
      rw [Nat.add_mul, Nat.one_mul] at hmul
      have e1 : s.y * s.wd = ((Y * m : Nat) : Int) := by rw [hY, eW, ← Int.natCast_mul]
      obtain ⟨⟨z0, z1⟩, z2, z3⟩ := cellat_fine h.g (s.y * s.wd + s.x).toNat (by omega)
      have h4 := attrL_len (a := (atCell s).2) z2 z3
      have h5 := encL_length (atCell s).1
      rw [List.length_append]
      omega
    · simp
  have h4 : (orgL s).length ≤ 5 := by unfold orgL; split <;> simp
  unfold whereL
  simp only [List.length_append]
  omega
theorem howL_len {s : Scr} (h : SFine s) : (howL s).length ≤ 60 := by
  have h1 := attrL_len h.a0 h.a1
  have h2 : (shL s).length ≤ 1 := by unfold shL; split <;> simp
  have h3 : (insL s).length ≤ 4 := by unfold insL; split <;> simp
  have h4 : (autoL s).length ≤ 5 := by unfold autoL; split <;> simp
  have h5 : (setsL s).length = 6 := rfl
  unfold howL
  simp only [List.length_append]
  omega
theorem rowsB_len {s : Scr} (h : GFine s.r s.wd s.cs s.bs) : ∀ k : Nat, (k : Int) ≤ s.r → (rowsB s 0 k).length ≤ 300 * k
  | 0, _ => by simp [rowsB]
  | k + 1, hk => by
    have ih := rowsB_len h k (by omega)
    have h2 := rowL_len h (y := 0 + (k : Int)) (by omega) (by omega)
    rw [rowsB_succ, List.length_append]
    omega
theorem dumpL_len {s : Scr} (h : SFine s) : (dumpL s).length ≤ 3000 := by
  obtain ⟨R, m, eR, eW, n1, n2, n3, n4, n5, n6, n7, n8, n9, n10⟩ := h.g.nats
  have h1 := rowsB_len h.g s.r.toNat (by omega)
  have h2 := tabTo_len s s.wd.toNat (by omega)
  have h3 := whereL_len h
  have h4 := howL_len h
  unfold dumpL
  simp only [List.length_append]
  omega
set_option maxHeartbeats 4000000 in
theorem l7Dump_o (s : Scr) (v1 v2 v3 v4 : Value) (b ob : Nat) (w : World) (hc : scrCode s = 0) (hB : Seg w b ob (scrA s v1 v2 v3 v4)) (hcap : Capped v1) (h : SRead w s v1 v2 v3 v4) :
    Calls Tryd.prog 23 #[.pointer (some ⟨b, ob, none⟩)] w fun e w' => ∃ v, e = .returned v ∧ OwnX w' w.heap.size 5 v (dumpL s).length ((dumpL s).map (Value.int .u8)) ∧ Below w.heap.size w w' := by
  obtain ⟨i0, hi, hz0, hz1, hz2⟩ := info_parts info_u8s
  have hF := sfine_of hc
  obtain ⟨R, m, eR, eW, n1, n2, n3, n4, n5, n6, n7, n8, n9, n10⟩ := hF.g.nats
  have hR : s.r.toNat = R := by omega
  have HLEN := fun (k : Nat) (hk : k ≤ R) => rowsB_len hF.g k (by omega)
  have htl := tabTo_len s s.wd.toNat (by omega)
  have hwl := whereL_len hF
  have hhl := howL_len hF
  have hdm : dumpL s = rowsB s 0 R ++ tabTo s s.wd.toNat ++ whereL s ++ howL s := by unfold dumpL; rw [hR]
  obtain ⟨TB, hTB⟩ : ∃ l, tabTo s s.wd.toNat = l := ⟨_, rfl⟩
  obtain ⟨WH, hWH⟩ : ∃ l, whereL s = l := ⟨_, rfl⟩
  obtain ⟨HO, hHO⟩ : ∃ l, howL s = l := ⟨_, rfl⟩
  have hm22 : TB.length ≤ 300 := by rw [← hTB]; omega
  rw [hWH] at hwl
  rw [hHO] at hhl
  rw [hTB, hWH, hHO] at hdm
  have HT : ∀ w', Below w.heap.size w w' → Calls Tryd.prog 55 #[.pointer (some ⟨b, ob, none⟩)] w' fun e w2 => ∃ v, e = .returned v ∧ OwnX w2 w'.heap.size 5 v TB.length (TB.map (Value.int .u8)) ∧ Below w'.heap.size w' w2 := fun w' hb => by rw [← hTB]; exact l7Tabs_o s v1 v2 v3 v4 b ob w' hF (hB.belowb hb) (h.g3.below hb)
  have HW : ∀ w', Below w.heap.size w w' → Calls Tryd.prog 56 #[.pointer (some ⟨b, ob, none⟩)] w' fun e w2 => ∃ v, e = .returned v ∧ OwnX w2 w'.heap.size 5 v WH.length (WH.map (Value.int .u8)) ∧ Below w'.heap.size w' w2 := fun w' hb => by rw [← hWH]; exact l7Cursor_o s v1 v2 v3 v4 b ob w' hF (hB.belowb hb) (h.g1.below hb)
  have HH : ∀ w', Below w.heap.size w w' → Calls Tryd.prog 57 #[.pointer (some ⟨b, ob, none⟩)] w' fun e w2 => ∃ v, e = .returned v ∧ OwnX w2 w'.heap.size 5 v HO.length (HO.map (Value.int .u8)) ∧ Below w'.heap.size w' w2 := fun w' hb => by rw [← hHO]; exact l7Modes_o s v1 v2 v3 v4 b ob w' hF (hB.belowb hb) (h.g4.below hb)
  have HROW : ∀ (k : Nat) (w' : World), k < R → Below w.heap.size w w' → Calls Tryd.prog 49 #[.pointer (some ⟨b, ob, none⟩), .int .i64 (k : Int)] w' fun e w2 => ∃ v, e = .returned v ∧ OwnX w2 w'.heap.size 5 v (rowL s (k : Int)).length ((rowL s (k : Int)).map (Value.int .u8)) ∧ Below w'.heap.size w' w2 := fun k w' hk hb => l7Row_o s v1 v2 v3 v4 (k : Int) b ob w' hc (by show decide (0 ≤ (k : Int) ∧ (k : Int) ≤ s.r - 1) = true; rw [decide_eq_true_eq]; omega) (hB.belowb hb) hcap (h.g1.below hb)
  have HRL : ∀ k : Nat, k < R → (rowL s (k : Int)).length ≤ 300 := fun k hk => rowL_len hF.g (by omega) (by omega)
  have HD := hide hdm
  have HE := hide eR
  have hR6 : R ≤ 6 := by omega
  have b0 : Below w.heap.size w (w.alloc (.cells #[] 5)) := (Below.refl _ w).alloc (Nat.le_refl _) _
  have HO0 : Hid (OwnX (w.alloc (.cells #[] 5)) w.heap.size 5 (.slice (some ⟨w.heap.size, 0, none⟩) 0 0) (rowsB s 0 0).length ((rowsB s 0 0).map (Value.int .u8))) := hide (lit_own (w := w) (l := []) (T := 5) (by simp))
  clear hF eR eW hdm hTB hWH hHO htl hcap h hc hR n5 n6 n7 n8 n9 n10
  go_enter Tryd.func23, Tryd.ntmps23
  go_wp2
  go_loopw [3, 4] (fun o i wr => ∃ k : Nat, k ≤ R ∧ i = .int .i64 k ∧ Hid (OwnX wr w.heap.size 5 o (rowsB s 0 k).length ((rowsB s 0 k).map (Value.int .u8))) ∧ Below w.heap.size w wr) (fun _ i _ => R - (intOf i).toNat)
  case atStart => exact ⟨0, Nat.zero_le _, rfl, HO0, b0⟩
  case round =>
    obtain ⟨k, hk, rfl, hO, hb⟩ := hrel
    have hsz := hb.size
    have hBr := hB.belowb hb
    have c0 := hBr.at 0 (scrA_0 s v1 v2 v3 v4)
    rw [HE.out, Nat.add_zero] at c0
    have hlen := HLEN k hk
    by_cases hlt : k < R
    · have hltI : (k : Int) < (R : Int) := by omega
      have hrl := HRL k hlt
      have hs : rowsB s 0 (k + 1) = rowsB s 0 k ++ rowL s (k : Int) := by rw [rowsB_succ, Int.zero_add]
      have hO' := hO.out
      obtain ⟨P, hP⟩ : ∃ P, rowsB s 0 k = P := ⟨_, rfl⟩
      obtain ⟨Q, hQ⟩ : ∃ Q, rowL s (k : Int) = Q := ⟨_, rfl⟩
      have HCR := HROW k wr hlt hb
      rw [hP] at hO' hlen hs
      rw [hQ] at hrl hs HCR
      have HS := hide hs
      clear hO hP hQ hs
      go_wp2_with fail
      go_at_call 49
      refine HCR.mono ?_
      rintro e w3 ⟨v5, rfl, ox3, hb3⟩
      obtain ⟨a3, c3, rfl⟩ := ox3.form
      have hr3 := ox3.ints.read
      have ho3 := hO'.belowb hb3
      have z3 := hb3.size
      clear HCR
      go_wp2_with (first | fail | (at_builtin; refine wpList_append_X _ rfl (.tmp 15) (.tmp 18) 30 rfl w.heap.size 5 .u8 i0 (.int .u8 0) 1 Tryd.underlying30 hi hz0 hz1 hz2 rfl _ _ _ rfl ho3 a3 Q _ c3 rfl rfl hr3 (by unfold maxLen; omega) (by omega) (by omega) ?_; intro v6 w4 own' hgr; have own4 := own'; clear own'; have b4 : Below w.heap.size w w4 := (hb.trans (hb3.mono hsz)).grown hgr (by omega) (fun g hg => (ho3.lt g hg).1); clear hgr ho3 hr3 ox3 hb3))
      have HO6 : Hid (OwnX w4 w.heap.size 5 v6 (rowsB s 0 (k + 1)).length ((rowsB s 0 (k + 1)).map (Value.int .u8))) := by
        refine hide ?_
        rw [HS.out]
        have e1 : P.length + Q.length = (P ++ Q).length := by simp
        rw [← e1]
        simpa using own4
      clear own4
      go_roundw
      case rel => exact ⟨k + 1, by omega, by go_num, HO6, b4⟩
      case measure => simp [intOf]; omega
    · obtain rfl : k = R := by omega
      have hO' := hO.out
      obtain ⟨P, hP⟩ : ∃ P, rowsB s 0 k = P := ⟨_, rfl⟩
      have hdm := HD.out
      rw [hP] at hO' hlen hdm
      clear hO hP HD HLEN HROW HRL
      have HDM := hide hdm
      clear hdm
      go_wp2_with fail
      go_at_call 55
      refine (HT _ hb).mono ?_
      rintro e w3 ⟨v5, rfl, ox3, hb3⟩
      obtain ⟨a3, c3, rfl⟩ := ox3.form
      have hr3 := ox3.ints.read
      have ho3 := hO'.belowb hb3
      have b3 := hb.trans (hb3.mono hsz)
      have z3 := b3.size
      clear hO' hb3 ox3
      go_wp2_with (first | fail | (at_builtin; refine wpList_append_X _ rfl (.tmp 20) (.tmp 22) 30 rfl w.heap.size 5 .u8 i0 (.int .u8 0) 1 Tryd.underlying30 hi hz0 hz1 hz2 rfl _ _ _ rfl ho3 a3 TB _ c3 rfl rfl hr3 (by unfold maxLen; omega) (by omega) (by omega) ?_; intro v6 w4 own' hgr; have own4 := own'; clear own'; have b4 : Below w.heap.size w w4 := b3.grown hgr (by omega) (fun g hg => (ho3.lt g hg).1); clear hgr ho3 hr3))
      go_at_call 56
      refine (HW _ b4).mono ?_
      rintro e w5 ⟨v7, rfl, ox5, hb5⟩
      obtain ⟨a5, c5, rfl⟩ := ox5.form
      have hr5 := ox5.ints.read
      have ho5 := own4.belowb hb5
      have b5 := b4.trans (hb5.mono b4.size)
      have z5 := b5.size
      clear own4 hb5 ox5
      go_wp2_with (first | fail | (at_builtin; refine wpList_append_X _ rfl (.tmp 23) (.tmp 25) 30 rfl w.heap.size 5 .u8 i0 (.int .u8 0) 1 Tryd.underlying30 hi hz0 hz1 hz2 rfl _ _ _ rfl ho5 a5 WH _ c5 rfl rfl hr5 (by unfold maxLen; omega) (by omega) (by omega) ?_; intro v8 w6 own' hgr; have own6 := own'; clear own'; have b6 : Below w.heap.size w w6 := b5.grown hgr (by omega) (fun g hg => (ho5.lt g hg).1); clear hgr ho5 hr5))
      go_at_call 57
      refine (HH _ b6).mono ?_
      rintro e w7 ⟨v9, rfl, ox7, hb7⟩
      obtain ⟨a7, c7, rfl⟩ := ox7.form
      have hr7 := ox7.ints.read
      have ho7 := own6.belowb hb7
      have b7 := b6.trans (hb7.mono b6.size)
      have z7 := b7.size
      clear own6 hb7 ox7
      go_wp2_with (first | fail | (at_builtin; refine wpList_append_X _ rfl (.tmp 26) (.tmp 28) 30 rfl w.heap.size 5 .u8 i0 (.int .u8 0) 1 Tryd.underlying30 hi hz0 hz1 hz2 rfl _ _ _ rfl ho7 a7 HO _ c7 rfl rfl hr7 (by unfold maxLen; omega) (by omega) (by omega) ?_; intro v10 w8 own' hgr; have own8 := own'; clear own'; have b8 : Below w.heap.size w w8 := b7.grown hgr (by omega) (fun g hg => (ho7.lt g hg).1); clear hgr ho7 hr7))
      go_ret
      rw [HDM.out]
      refine ⟨_, rfl, ?_, b8⟩
      have e8 : (P ++ TB ++ WH ++ HO).length = P.length + TB.length + WH.length + HO.length := by simp; try omega
      rw [e8]
      simpa using own8
/-- What DumpScreen answers. -/
def dsBytes (s : Scr) : List Int := if scrCode s = 0 then dumpL s else []
set_option maxHeartbeats 4000000 in
theorem specDumpScreen_calls (s : Scr) (v1 v2 v3 v4 : Value) (w : World) (hn1 : s.cs.length ≤ 1048576) (hn2 : s.bs.length ≤ 1048576) (hn3 : s.tabs.length ≤ 1048576) (hn4 : s.sets.length ≤ 1048576) (hcap : Capped v1) (h : SRead w s v1 v2 v3 v4) :
    Calls Tryd.prog 7 #[.agg (scrA s v1 v2 v3 v4)] w fun e w' => ∃ v, e = .returned (.agg #[.int .i64 (scrCode s), v]) ∧ IntsAt .u8 w.heap.size w'.heap.size w' v (dsBytes s) ∧ Below w.heap.size w w' := by
  have bel0 : Below w.heap.size w ((w.alloc (.cells (scrA s v1 v2 v3 v4) 38)).alloc (.cells #[.int .i64 0, .slice none 0 0] 32)) := (by repeat' (first | with_reducible exact Below.refl _ _ | with_reducible assumption | with_reducible refine Below.drew ?_ | with_reducible refine Below.alloc ?_ ?_ _ | with_reducible refine Below.setCell ?_ ?_ _ | (simp; done) | (simp; omega) | omega))
  have hA := (Blk.new w (scrA s v1 v2 v3 v4) 38).alloc (.cells #[.int .i64 0, .slice none 0 0] 32)
  have hR := Blk.new_at (w := w.alloc (.cells (scrA s v1 v2 v3 v4) 38)) (b := w.heap.size + 1) (by simp) #[.int .i64 0, .slice none 0 0] 32
  unfold dsBytes
  by_cases hc : scrCode s = 0
  · rw [if_pos hc]
    go_enter Tryd.func7, Tryd.ntmps7
    go_wp2_with fail
    go_at_call 22
    refine (l5Fault_o s v1 v2 v3 v4 w.heap.size 0 _ hn1 hn2 hn3 hn4 hA.seg (h.below bel0)).mono ?_
    rintro e w1 ⟨rfl, hb⟩
    replace hA := hA.belowb hb
    replace hR := hR.belowb hb
    have bel1 := bel0.trans (hb.mono bel0.size)
    have z1 : w.heap.size + 2 ≤ w1.heap.size := by have := hb.size; simp at this; omega
    clear hb bel0
    rw [hc]
    go_wp2_with fail
    go_at_call 23
    refine (l7Dump_o s v1 v2 v3 v4 w.heap.size 0 _ hc hA.seg hcap (h.below bel1)).mono ?_
    rintro e w2 ⟨v, rfl, hown, hb⟩
    obtain ⟨av, cv, rfl⟩ := hown.form
    have hI := hown.ints
    replace hR := hR.belowb hb
    have bel3 := bel1.trans (hb.mono bel1.size)
    have z2 : w1.heap.size ≤ w2.heap.size := hb.size
    clear hb hown
    go_wp2_with (first | (refine wpList_build_at rfl 32 _ rfl #[.int .i64 0, .slice av (dumpL s).length cv] (by first | rfl | kernel_rfl) ?_; (try simp only [Act.put, List.setIfInBounds_toArray, List.set_cons_zero, List.set_cons_succ])) | (refine wpList_store_blk rfl _ _ _ rfl (w.heap.size + 1) 0 #[.int .i64 0, .slice none 0 0] #[.int .i64 0, .slice av (dumpL s).length cv] (.agg #[.int .i64 0, .slice av (dumpL s).length cv]) rfl rfl hR rfl (by kernel_rfl) rfl rfl ?_; (try simp only [Act.put, List.setIfInBounds_toArray, List.set_cons_zero, List.set_cons_succ]); clear hR; intro w9 hR hu))
    exact bodyPost_ret (results_blk hR _ _ rfl rfl Tryd.underlying32 rfl (by kernel_rfl)) rfl ⟨_, by rw [hc], (hI.of_blocks (fun q q1 q2 => hu.block q (by omega))).mono (by omega) (by have := hu.size; omega), bel3.trans (hu.below (by omega))⟩
  · rw [if_neg hc]
    obtain ⟨code, hcd⟩ : ∃ c, scrCode s = c := ⟨_, rfl⟩
    rw [hcd]
    have hne : (code != 0) = true := by rw [← hcd]; simpa using hc
    have HC := hide hcd
    clear hc hcd
    go_enter Tryd.func7, Tryd.ntmps7
    go_wp2_with fail
    go_at_call 22
    refine (l5Fault_o s v1 v2 v3 v4 w.heap.size 0 _ hn1 hn2 hn3 hn4 hA.seg (h.below bel0)).mono ?_
    rintro e w1 ⟨rfl, hb⟩
    replace hA := hA.belowb hb
    replace hR := hR.belowb hb
    have bel1 := bel0.trans (hb.mono bel0.size)
    have z1 : w.heap.size + 2 ≤ w1.heap.size := by have := hb.size; simp at this; omega
    clear hb bel0
    rw [HC.out]
    go_wp2_with (first | (refine wpList_build_at rfl 32 _ rfl #[.int .i64 code, .slice none 0 0] (by first | rfl | kernel_rfl) ?_; (try simp only [Act.put, List.setIfInBounds_toArray, List.set_cons_zero, List.set_cons_succ])) | (refine wpList_store_blk rfl _ _ _ rfl (w.heap.size + 1) 0 #[.int .i64 0, .slice none 0 0] #[.int .i64 code, .slice none 0 0] (.agg #[.int .i64 code, .slice none 0 0]) rfl rfl hR rfl (by kernel_rfl) rfl rfl ?_; (try simp only [Act.put, List.setIfInBounds_toArray, List.set_cons_zero, List.set_cons_succ]); clear hR; intro w9 hR hu))
    exact bodyPost_ret (results_blk hR _ _ rfl rfl Tryd.underlying32 rfl (by kernel_rfl)) rfl ⟨.slice none 0 0, rfl, (⟨none, 0, rfl, .inl rfl⟩ : IntsAt .u8 _ _ _ (.slice none 0 0) []), bel1.trans (hu.below (by omega))⟩
end Go.Proofs.YtknkbihjboadjaaDoor
