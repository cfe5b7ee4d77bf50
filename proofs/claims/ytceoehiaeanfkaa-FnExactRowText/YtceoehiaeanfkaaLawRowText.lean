/-
  For every screen and every int64 the law FnExactRowText returns true: impl.RowText answers at each screen and each number what the model's RowText answers, code and text, and turns no argument. No condition (the law itself passes screens of more than 1048576 cells, tab stops and tables together by).
-/
import Derived.Test.YtceoehiaeanfkaaRows
import Derived.Test.YtceoehiaeanfkaaRowText2
import Derived.Test.YtceoehiaeanfkaaScrFull
import Derived.Test.YtceoehiaeanfkaaScrOpen
import Derived.Deep.RegionHeld
import Derived.ShutString
import Derived.ChangeOld
import Derived.Lib.SmallJoins
namespace Go.Proofs.Ytceoehiaeanfkaa
set_option maxRecDepth 20000
open Go.ChangeShapes Go.WideShapes Go.ChangeAt Go.RowKit Go.Joins
set_option linter.unusedVariables false
set_option linter.unusedSimpArgs false

set_option maxRecDepth 20000
theorem run_execLoad {P : Program} {ρ : Operand → Value} {op : Oper} {w : World} (ty : TypeId) (x : Operand) (ho : op.op = .load ty x) (g off : Nat) (hx : ρ x = .pointer (some ⟨g, off, none⟩)) (v : Value) (h : (loadVar ty ⟨g, off, none⟩).run P w = .ok v w) :
    (execOp ρ op).run P w = .ok (Next.value v) w := by
  unfold execOp
  simp only [ho, hx, Instr.loadAt, Instr.sureAddr, Sem.run_bind, Sem.run_pure, Result.andThen_ok, h]
theorem scr_one {w : World} {v1 v2 v3 v4 : Value} {s : Scr} (h : SRead w s v1 v2 v3 v4) : (Value.agg (scrA s v1 v2 v3 v4)).cells.toList.all (·.oneCell') = true := by
  obtain ⟨a1, c1, a2, c2, a3, c3, a4, c4, rfl, rfl, rfl, rfl⟩ := h.forms
  rfl
set_option maxHeartbeats 1000000 in
theorem eqTextResult_calls (c : Int) (x : ByteArray) (w : World) : Calls Try.prog 16 #[.agg #[.int .i64 c, .string x], .agg #[.int .i64 c, .string x]] w fun e w' => e = .returned (.bool true) ∧ Below w.heap.size w w' := by
  have hne : ∀ y : Int, (y != y) = false := fun y => by simp
  go_enter Try.func16, Try.ntmps16
  go_wp2
  go_ret
  exact ⟨rfl, (by repeat' (first | with_reducible exact Below.refl _ _ | with_reducible assumption | with_reducible refine Below.drew ?_ | with_reducible refine Below.alloc ?_ ?_ _ | with_reducible refine Below.setCell ?_ ?_ _ | (simp; done) | (simp; omega) | omega))⟩
set_option maxRecDepth 20000 in
set_option maxHeartbeats 8000000 in
theorem lawRT_walk (s : Scr) (v1 v2 v3 v4 : Value) (y : Int) (w : World) (hrs : SRead w s v1 v2 v3 v4) (hms1 : s.cs.length ≤ maxLen) (hms2 : s.bs.length ≤ maxLen) (hms3 : s.tabs.length ≤ maxLen) (hms4 : s.sets.length ≤ maxLen) :
    Calls Try.prog 4 #[.agg (scrA s v1 v2 v3 v4), .int .i64 y] w fun e w' => e = .returned (.bool true) ∧ Below w.heap.size w w' := by
  by_cases hsum0 : (s.cs.length : Int) + s.bs.length + s.tabs.length + s.sets.length ≤ 1048576
  · skip
    have q0 : Below w.heap.size w (w.alloc (.cells (scrA s v1 v2 v3 v4) 28)) := (by repeat' (first | with_reducible exact Below.refl _ _ | with_reducible assumption | with_reducible refine Below.drew ?_ | with_reducible refine Below.alloc ?_ ?_ _ | with_reducible refine Below.setCell ?_ ?_ _ | (simp; done) | (simp; omega) | omega))
    have hAs := Blk.new w (scrA s v1 v2 v3 v4) 28
    go_enter Try.func4, Try.ntmps4
    go_wp2_with (first | fail | (refine wpList_load_at rfl 28 _ rfl (w.heap.size) 0 rfl _ (scrA s v1 v2 v3 v4) hAs rfl _ Try.underlying28 rfl (by kernel_rfl) ?_; (try simp only [Act.put, List.setIfInBounds_toArray, List.set_cons_zero, List.set_cons_succ])))
    go_at_call 9
    refine (szScreen_calls s v1 v2 v3 v4 1048576 (by omega) (by omega) _ (hrs.below q0) hms1 hms2 hms3 hms4).mono ?_
    rintro e w1 ⟨rfl, hb⟩
    replace hAs := hAs.belowb hb
    have z0 : w.heap.size + 1 ≤ w1.heap.size := by have := hb.size; simp at this; omega
    have b1 : Below w.heap.size w w1 := q0.trans (hb.mono q0.size)
    clear hb q0
    replace hrs := hrs.below b1
    rw [if_pos hsum0]
    have hge0 : ¬ ((1048576 - s.cs.length - s.bs.length - s.tabs.length - s.sets.length) < 0) := by omega
    have hns1 : s.cs.length ≤ 1048576 := by omega
    have hns2 : s.bs.length ≤ 1048576 := by omega
    have hns3 : s.tabs.length ≤ 1048576 := by omega
    have hns4 : s.sets.length ≤ 1048576 := by omega
    go_wp2_with (first | fail | (refine wpList_load_at rfl 28 _ rfl (w.heap.size) 0 rfl _ (scrA s v1 v2 v3 v4) hAs rfl _ Try.underlying28 rfl (by kernel_rfl) ?_; (try simp only [Act.put, List.setIfInBounds_toArray, List.set_cons_zero, List.set_cons_succ])))
    go_at_call 11
    refine (toScreen_full s v1 v2 v3 v4 _ hns1 hns2 hns3 hns4 hrs).mono ?_
    rintro e w2 ⟨p1, p2, p3, p4, rfl, hcp, _, hp, hb⟩
    have z2 : w1.heap.size ≤ w2.heap.size := hb.size
    replace hAs := hAs.belowb hb
    replace hrs := hrs.below hb
    have b2 : Below w.heap.size w w2 := b1.trans (hb.mono (by omega))
    clear hb b1
    go_wp2_with fail
    go_at_call 14
    refine (specRowText_calls s _ _ _ _ y _ hns1 hns2 hns3 hns4 hcp hp.read).mono ?_
    rintro e w3 ⟨rfl, hb⟩
    have z3 : w2.heap.size ≤ w3.heap.size := hb.size
    replace hAs := hAs.belowb hb
    replace hrs := hrs.below hb
    replace hp := hp.below hb (by omega)
    have b3 : Below w.heap.size w w3 := b2.trans (hb.mono (by omega))
    clear hb b2
    clear hp hcp
    obtain ⟨code, HC⟩ : ∃ c, Hid (rtCode s y = c) := ⟨_, hide rfl⟩
    obtain ⟨txt, HT⟩ : ∃ c, Hid (rtText s y = c) := ⟨_, hide rfl⟩
    rw [HC.out, HT.out]
    go_wp2_with (first | fail | (refine wpList_load_at rfl 28 _ rfl (w.heap.size) 0 rfl _ (scrA s v1 v2 v3 v4) hAs rfl _ Try.underlying28 rfl (by kernel_rfl) ?_; (try simp only [Act.put, List.setIfInBounds_toArray, List.set_cons_zero, List.set_cons_succ])) | (refine wpList_store_blk rfl _ _ _ rfl (w3.heap.size) 0 #[.int .i64 0, .string ⟨#[]⟩] #[.int .i64 code, .string txt] (.agg #[.int .i64 code, .string txt]) rfl rfl (Blk.new w3 _ _) rfl (by kernel_rfl) rfl rfl ?_; (try simp only [Act.put, List.setIfInBounds_toArray, List.set_cons_zero, List.set_cons_succ]); intro w4 hW hu; have hb : Below w3.heap.size w3 w4 := ((Below.refl _ w3).alloc (Nat.le_refl _) _).trans (hu.below (Nat.le_refl _)); have z4 : w3.heap.size + 1 = w4.heap.size := (by have := hu.size; simp at this; omega); clear hu; replace hAs := hAs.belowb hb) | (refine wpList_load_at rfl 39 _ rfl (w3.heap.size) 0 rfl _ #[.int .i64 code, .string txt] hW rfl _ Try.underlying39 rfl (by kernel_rfl) ?_; (try simp only [Act.put, List.setIfInBounds_toArray, List.set_cons_zero, List.set_cons_succ])))
    replace hrs := hrs.below hb
    have b4 : Below w.heap.size w w4 := b3.trans (hb.mono (by omega))
    clear hb b3
    go_wp2_with (first | fail | (refine wpList_load_at rfl 28 _ rfl (w.heap.size) 0 rfl _ (scrA s v1 v2 v3 v4) hAs rfl _ Try.underlying28 rfl (by kernel_rfl) ?_; (try simp only [Act.put, List.setIfInBounds_toArray, List.set_cons_zero, List.set_cons_succ])) | (refine wpList_load_at rfl 39 _ rfl (w3.heap.size) 0 rfl _ #[.int .i64 code, .string txt] hW rfl _ Try.underlying39 rfl (by kernel_rfl) ?_; (try simp only [Act.put, List.setIfInBounds_toArray, List.set_cons_zero, List.set_cons_succ])))
    go_at_call 11
    refine (toScreen_calls s v1 v2 v3 v4 _ hns1 hns2 hns3 hns4 hrs).mono ?_
    rintro e w5 ⟨q1, q2, q3, q4, rfl, hq, hb⟩
    have z5 : w4.heap.size ≤ w5.heap.size := hb.size
    replace hAs := hAs.belowb hb
    replace hW := hW.belowb hb
    replace hrs := hrs.below hb
    have b5 : Below w.heap.size w w5 := b4.trans (hb.mono (by omega))
    clear hb b4
    go_wp2_with (first | fail | (refine wpList_load_at rfl 28 _ rfl (w.heap.size) 0 rfl _ (scrA s v1 v2 v3 v4) hAs rfl _ Try.underlying28 rfl (by kernel_rfl) ?_; (try simp only [Act.put, List.setIfInBounds_toArray, List.set_cons_zero, List.set_cons_succ])) | (refine wpList_load_at rfl 39 _ rfl (w3.heap.size) 0 rfl _ #[.int .i64 code, .string txt] hW rfl _ Try.underlying39 rfl (by kernel_rfl) ?_; (try simp only [Act.put, List.setIfInBounds_toArray, List.set_cons_zero, List.set_cons_succ])) | (refine wpList_store_blk rfl _ _ _ rfl (w5.heap.size) 0 (scrA scr0 (.slice none 0 0) (.slice none 0 0) (.slice none 0 0) (.slice none 0 0)) (scrA s q1 q2 q3 q4) (.agg (scrA s q1 q2 q3 q4)) rfl rfl (Blk.new w5 _ _) rfl (by kernel_rfl) (scr_one hq.read) rfl ?_; (try simp only [Act.put, List.setIfInBounds_toArray, List.set_cons_zero, List.set_cons_succ]); intro w6 hX hu; have hb : Below w5.heap.size w5 w6 := ((Below.refl _ w5).alloc (Nat.le_refl _) _).trans (hu.below (Nat.le_refl _)); have z6 : w5.heap.size + 1 = w6.heap.size := (by have := hu.size; simp at this; omega); clear hu; replace hAs := hAs.belowb hb; replace hW := hW.belowb hb) | (refine wpList_load_at rfl 35 _ rfl (w5.heap.size) 0 rfl _ (scrA s q1 q2 q3 q4) hX rfl _ Try.underlying35 rfl (by kernel_rfl) ?_; (try simp only [Act.put, List.setIfInBounds_toArray, List.set_cons_zero, List.set_cons_succ])))
    replace hrs := hrs.below hb
    replace hq := hq.below hb (by omega)
    have b6 : Below w.heap.size w w6 := b5.trans (hb.mono (by omega))
    clear hb b5
    go_wp2_with (first | fail | (refine wpList_load_at rfl 28 _ rfl (w.heap.size) 0 rfl _ (scrA s v1 v2 v3 v4) hAs rfl _ Try.underlying28 rfl (by kernel_rfl) ?_; (try simp only [Act.put, List.setIfInBounds_toArray, List.set_cons_zero, List.set_cons_succ])) | (refine wpList_load_at rfl 39 _ rfl (w3.heap.size) 0 rfl _ #[.int .i64 code, .string txt] hW rfl _ Try.underlying39 rfl (by kernel_rfl) ?_; (try simp only [Act.put, List.setIfInBounds_toArray, List.set_cons_zero, List.set_cons_succ])) | (refine wpList_load_at rfl 35 _ rfl (w5.heap.size) 0 rfl _ (scrA s q1 q2 q3 q4) hX rfl _ Try.underlying35 rfl (by kernel_rfl) ?_; (try simp only [Act.put, List.setIfInBounds_toArray, List.set_cons_zero, List.set_cons_succ])))
    have HRT := implRowText_calls s q1 q2 q3 q4 y w6 hns1 hns2 hns3 hns4 hq.read
    rw [HC.out, HT.out] at HRT
    go_at_call 15
    refine (HRT).mono ?_
    rintro e w7 ⟨rfl, hb⟩
    have z7 : w6.heap.size ≤ w7.heap.size := hb.size
    replace hAs := hAs.belowb hb
    replace hW := hW.belowb hb
    replace hX := hX.belowb hb
    replace hrs := hrs.below hb
    replace hq := hq.below hb (by omega)
    have b7 : Below w.heap.size w w7 := b6.trans (hb.mono (by omega))
    clear hb b6
    clear HRT
    go_wp2_with (first | fail | (refine wpList_load_at rfl 28 _ rfl (w.heap.size) 0 rfl _ (scrA s v1 v2 v3 v4) hAs rfl _ Try.underlying28 rfl (by kernel_rfl) ?_; (try simp only [Act.put, List.setIfInBounds_toArray, List.set_cons_zero, List.set_cons_succ])) | (refine wpList_load_at rfl 39 _ rfl (w3.heap.size) 0 rfl _ #[.int .i64 code, .string txt] hW rfl _ Try.underlying39 rfl (by kernel_rfl) ?_; (try simp only [Act.put, List.setIfInBounds_toArray, List.set_cons_zero, List.set_cons_succ])) | (refine wpList_load_at rfl 35 _ rfl (w5.heap.size) 0 rfl _ (scrA s q1 q2 q3 q4) hX rfl _ Try.underlying35 rfl (by kernel_rfl) ?_; (try simp only [Act.put, List.setIfInBounds_toArray, List.set_cons_zero, List.set_cons_succ])) | (refine wpList_store_blk rfl _ _ _ rfl (w7.heap.size) 0 #[.int .i64 0, .string ⟨#[]⟩] #[.int .i64 code, .string txt] (.agg #[.int .i64 code, .string txt]) rfl rfl (Blk.new w7 _ _) rfl (by kernel_rfl) rfl rfl ?_; (try simp only [Act.put, List.setIfInBounds_toArray, List.set_cons_zero, List.set_cons_succ]); intro w8 hG hu; have hb : Below w7.heap.size w7 w8 := ((Below.refl _ w7).alloc (Nat.le_refl _) _).trans (hu.below (Nat.le_refl _)); have z8 : w7.heap.size + 1 = w8.heap.size := (by have := hu.size; simp at this; omega); clear hu; replace hAs := hAs.belowb hb; replace hW := hW.belowb hb; replace hX := hX.belowb hb) | (refine wpList_load_at rfl 39 _ rfl (w7.heap.size) 0 rfl _ #[.int .i64 code, .string txt] hG rfl _ Try.underlying39 rfl (by kernel_rfl) ?_; (try simp only [Act.put, List.setIfInBounds_toArray, List.set_cons_zero, List.set_cons_succ])))
    replace hrs := hrs.below hb
    replace hq := hq.below hb (by omega)
    have b8 : Below w.heap.size w w8 := b7.trans (hb.mono (by omega))
    clear hb b7
    go_at_call 16
    refine (eqTextResult_calls code txt _).mono ?_
    rintro e w9 ⟨rfl, hb⟩
    have z9 : w8.heap.size ≤ w9.heap.size := hb.size
    replace hAs := hAs.belowb hb
    replace hW := hW.belowb hb
    replace hX := hX.belowb hb
    replace hG := hG.belowb hb
    replace hrs := hrs.below hb
    replace hq := hq.below hb (by omega)
    have b9 : Below w.heap.size w w9 := b8.trans (hb.mono (by omega))
    clear hb b8
    go_wp2_with fail
    have hd : Below w9.heap.size w9 w9.drew := Below.drew (Below.refl _ _)
    have ra := hrs.below hd
    have rx := hq.read.below hd
    refine wp_region_held_drew (S := (fun w' => Below w9.heap.size w9 w' ∧ Blk w' (w.heap.size) (scrA s v1 v2 v3 v4) ∧ Blk w' (w5.heap.size) (scrA s q1 q2 q3 q4))) (by kernel_rfl) ?_ (fun hHeld => ?_)
    · (try dsimp only); exact ⟨hd, hAs, hX⟩
    refine wpAnyH_take (i := 0) (oi := ⟨_, _, _, _, _, _⟩) (v := .agg (scrA s q1 q2 q3 q4)) rfl (by kernel_rfl) (by kernel_rfl) (by kernel_rfl) (fun _ _ _ h => h) (Or.inl ⟨by rfl, ?_⟩) hHeld ?_
    · intro w hSw
      (try dsimp only at hSw)
      have hx := run_loadVar_at (P := Try.prog) (o := 0) (ty := 35) (vs := (scrA s q1 q2 q3 q4)) hSw.2.2 rfl Try.underlying35 rfl (by kernel_rfl)
      exact run_execLoad _ _ rfl _ _ rfl _ hx
    try simp only [Act.put, List.setIfInBounds_toArray, List.set_cons_zero, List.set_cons_succ]
    refine wpAnyH_take (i := 1) (oi := ⟨_, _, _, _, _, _⟩) (v := .agg (scrA s v1 v2 v3 v4)) rfl (by kernel_rfl) (by kernel_rfl) (by kernel_rfl) (fun _ _ _ h => h) (Or.inl ⟨by rfl, ?_⟩) hHeld ?_
    · intro w hSw
      (try dsimp only at hSw)
      have hx := run_loadVar_at (P := Try.prog) (o := 0) (ty := 28) (vs := (scrA s v1 v2 v3 v4)) hSw.2.1 rfl Try.underlying28 rfl (by kernel_rfl)
      exact run_execLoad _ _ rfl _ _ rfl _ hx
    try simp only [Act.put, List.setIfInBounds_toArray, List.set_cons_zero, List.set_cons_succ]
    refine wpAnyH_ready (rs := [2]) (by kernel_rfl) (by simp) ?_
    refine AllReadyH.cons (o := ⟨_, _, _, _, _, _⟩) rfl (fun K hK => ?_) AllReadyH.nil
    go_simp
    go_at_call 11
    refine (toScreen_calls s v1 v2 v3 v4 _ hns1 hns2 hns3 hns4 ra).mono ?_
    rintro e y10_1 ⟨y1, y2, y3, y4, rfl, hya, hb1⟩
    have r1 := hya.read
    replace rx := rx.below hb1
    clear hya
    try go_wp2_with fail
    refine hK.out _ _ ?_ ?_
    · (try dsimp only); exact ⟨hHeld.1.trans (hb1.mono hHeld.1.size), hHeld.2.1.belowb hb1, hHeld.2.2.belowb hb1⟩
    clear hHeld hK K
    intro hHeld
    try simp only [Act.put, List.setIfInBounds_toArray, List.set_cons_zero, List.set_cons_succ]
    refine wpAnyH_ready (rs := [3]) (by kernel_rfl) (by simp) ?_
    refine AllReadyH.cons (o := ⟨_, _, _, _, _, _⟩) rfl (fun K hK => ?_) AllReadyH.nil
    go_simp
    go_at_call 13
    refine (eqScreen_calls s _ _ _ _ _ _ _ _ _ hns1 hns2 hns3 hns4 rx r1).mono ?_
    rintro e w10 ⟨rfl, hb3⟩
    try go_wp2_with fail
    refine hK.out _ _ ?_ ?_
    · (try dsimp only); exact ⟨hHeld.1.trans (hb3.mono hHeld.1.size), hHeld.2.1.belowb hb3, hHeld.2.2.belowb hb3⟩
    clear hHeld hK K
    intro hHeld
    try simp only [Act.put, List.setIfInBounds_toArray, List.set_cons_zero, List.set_cons_succ]
    refine wpAnyH_take (i := 4) (oi := ⟨_, _, _, _, _, _⟩) (v := ?_) rfl (by kernel_rfl) (by kernel_rfl) (by kernel_rfl) (fun _ _ _ h => h) (Or.inl ⟨by rfl, ?_⟩) hHeld ?_
    rotate_left
    · (intro w hSw; (try dsimp only at hSw); go_simp; try (with_reducible rfl))
    try simp only [Act.put, List.setIfInBounds_toArray, List.set_cons_zero, List.set_cons_succ]
    refine wpAnyH_done (by kernel_rfl) ?_ _
    have hb := hHeld.1
    clear hHeld ra rx r1 hb1 hb3 hd
    have z10 : w9.heap.size ≤ w10.heap.size := hb.size
    replace hAs := hAs.belowb hb
    replace hW := hW.belowb hb
    replace hX := hX.belowb hb
    replace hG := hG.belowb hb
    replace hrs := hrs.below hb
    replace hq := hq.below hb (by omega)
    have b10 : Below w.heap.size w w10 := b9.trans (hb.mono (by omega))
    clear hb b9
    go_wp2
    go_ret
    exact ⟨rfl, b10⟩
  · have q0 : Below w.heap.size w (w.alloc (.cells (scrA s v1 v2 v3 v4) 28)) := (by repeat' (first | with_reducible exact Below.refl _ _ | with_reducible assumption | with_reducible refine Below.drew ?_ | with_reducible refine Below.alloc ?_ ?_ _ | with_reducible refine Below.setCell ?_ ?_ _ | (simp; done) | (simp; omega) | omega))
    have hAs := Blk.new w (scrA s v1 v2 v3 v4) 28
    go_enter Try.func4, Try.ntmps4
    go_wp2_with (first | fail | (refine wpList_load_at rfl 28 _ rfl (w.heap.size) 0 rfl _ (scrA s v1 v2 v3 v4) hAs rfl _ Try.underlying28 rfl (by kernel_rfl) ?_; (try simp only [Act.put, List.setIfInBounds_toArray, List.set_cons_zero, List.set_cons_succ])))
    go_at_call 9
    refine (szScreen_calls s v1 v2 v3 v4 1048576 (by omega) (by omega) _ (hrs.below q0) hms1 hms2 hms3 hms4).mono ?_
    rintro e w1 ⟨rfl, hb⟩
    replace hAs := hAs.belowb hb
    have b1 : Below w.heap.size w w1 := q0.trans (hb.mono q0.size)
    clear hb q0
    rw [if_neg (by omega)]
    go_wp2
    go_ret
    exact ⟨rfl, b1⟩

theorem lawRT_laid : laidOutB Try.prog = true := by kernel_rfl
theorem lawRT_own : ownKnob Try.prog.godebug = none := by kernel_rfl
set_option maxRecDepth 100000 in
theorem lawRT_lifted (os : Os) (started : os.Started) (H : Type) (enc : TypeId × Value → H) :
    ReturnsInHanded {} Try.checked os 4 .any (Rows.fnExactRowTextSpec.pre6 enc Try.prog Try.f4 Rows.fnExactRowTextRow.domain false) (Rows.fnExactRowTextSpec.post enc Try.prog Try.f4 false true false false) := by
  refine returnsInHanded_of_change (C := Try.checked) lawRT_own started (by kernel_rfl) Try.func4
    (ChangeSpec.witness6 (enc := enc) (C := Try.checked) false ⟨#[], #[.agg #[.int .i64 0, .int .i64 0, .slice none 0 0, .slice none 0 0, .int .i64 0, .int .i64 0, .bool false, .int .i64 0, .int .i64 0, .int .i64 0, .bool false, .bool false, .bool false, .slice none 0 0, .int .i64 0, .int .i64 0, .int .i64 0, .slice none 0 0, .int .i64 0, .int .i64 0], .int .i64 0], []⟩ 8 (by kernel_rfl) (by kernel_rfl) (by kernel_rfl) (by kernel_rfl)) ?_
  intro W base args ds gs before hval0 hW hcnd _
  have hval : ∀ (j : Nat) t v, Try.f4.params[j]? = some t → args[j]? = some v → Value.okWide Try.prog W .any base t v := hval0
  have hW' := hW
  obtain ⟨p, q, hA0, hV, rfl, hfz, hnd⟩ := hW
  have hA : DataW.TrodAll enc Try.prog W 0 (fun _ => true) true Try.f4.params.toList args.toList ds p := hA0
  rw [Try.params4] at hA hval
  obtain ⟨z0, z1, d0, d1, p0, p1, rfl, rfl, rfl, h0, h1⟩ := trodAll_two hA
  obtain ⟨rfl, rfl⟩ := trodVars_none hV
  have k0 := h0
  have lt0 : ∀ x ∈ p0, x.block < W.heap.size := by obtain ⟨m, hm⟩ := k0; exact DataW.trod_lt m _ _ _ hm
  obtain ⟨s, v1, v2, v3, v4, rfl, hrs, hms1, hms2, hms3, hms4⟩ := open_screen (hval 0 28 z0 rfl rfl) h0
  obtain ⟨y, rfl, rfl, rfl, wi0⟩ := open_int Try.underlying2 (hval 1 2 z1 rfl rfl) h1
  clear hA0 hval0

  refine (lawRT_walk s v1 v2 v3 v4 y W hrs hms1 hms2 hms3 hms4).mono fun e W' ⟨he, bel⟩ => ?_
  subst he
  exact ⟨_, rfl, _, _, _, [], _, [], hW', trodAll_mk1 (shut_bool Try.underlying4 _), trodAll_mk2 (Below.trod lawRT_laid (by kernel_rfl) (of_decide_eq_true (by kernel_rfl)) k0 bel lt0) (shut_int Try.underlying2 wi0), rfl, bel.frame _, fun h => by cases h⟩

theorem lawRT_over : Rows.fnExactRowTextRow.holds Try.pinned (OpenSpec.ofChange Rows.fnExactRowTextSpec) :=
  OpenClaim.holds_of_wide 4 Try.f4 rfl rfl rfl rfl rfl rfl rfl ⟨rfl, rfl, rfl, rfl, rfl⟩ rfl rfl rfl rfl rfl (by kernel_rfl) Try.func4 (by kernel_rfl)
    (of_decide_eq_true (by kernel_rfl)) (by unfold Func.isWrapper; first | (rw [if_pos (by decide +kernel)]; kernel_rfl) | (rw [if_neg (by decide +kernel)]; exact ⟨rfl, rfl⟩))
    (fun os started H enc _ => lawRT_lifted os started H enc)

theorem lawRT_proved : Rows.FnExactRowTextSaid := lawRT_over
#print axioms lawRT_proved
end Go.Proofs.Ytceoehiaeanfkaa
