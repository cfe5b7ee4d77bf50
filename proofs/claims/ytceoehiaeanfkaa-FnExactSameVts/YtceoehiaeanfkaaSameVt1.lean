/-
  Whether two terminals are the same: areSameScreens, SameVts of the program.
-/
import Derived.Test.YtceoehiaeanfkaaSameShown
import Derived.Test.YtceoehiaeanfkaaVtMem
import Derived.Test.YtceoehiaeanfkaaSamePar
import Derived.Laws.StructEq
import Derived.BigGuard
namespace Go.Proofs.Ytceoehiaeanfkaa
set_option maxRecDepth 20000
open Go.ChangeShapes Go.WideShapes Go.ChangeAt Go.RowKit
set_option linter.unusedVariables false
set_option linter.unusedSimpArgs false
set_option maxRecDepth 20000

def sameSB (s t : Scr) : Bool := shownB s t && (sameL s.bs t.bs 0 && ((s.ky == t.ky) && ((s.kx == t.kx) && ((s.ka == t.ka) && (s.bells == t.bells)))))
def decB (t s : VtS) : Bool := (t.l == s.l) && ((t.lo == s.lo) && (t.v == s.v))
def sameVB (t s : VtS) : Bool := decB t s && (samePB t.md t.st t.pv t.ns s.md s.st s.pv s.ns && sameSB t.s s.s)
theorem shown_full {s t : Scr} (h : shownB s t = true) : sameG s.r s.wd s.cs s.bs t.r t.wd t.cs t.bs = sameL s.bs t.bs 0 := by
  unfold shownB sameG at h
  simp only [Bool.and_eq_true] at h
  unfold sameG
  rw [h.1.1, h.1.2.1, h.1.2.2.1]
  rfl
def grdA (s : Scr) (v1 v2 : Value) : Array Value := #[.int .i64 s.r, .int .i64 s.wd, v1, v2]
theorem scrA_grd (s : Scr) (v1 v2 v3 v4 : Value) : ((scrA s v1 v2 v3 v4).toList.drop 0).take (grdA s v1 v2).size = (grdA s v1 v2).toList := rfl
theorem dec_fields : (Try.prog.fieldsOf 58).toList.map (fun f => (f.type, f.offset, decide (f.name = "_"))) = [(2, 0, false), (2, 1, false), (2, 2, false)] := by kernel_rfl
theorem dec_in (t s : VtS) (w : World) : (Op.equalIn 10000 58 (.agg (decA t)) (.agg (decA s))).run Try.prog w = .ok (decB t s) w := by
  rw [show (10000 : Nat) = 9999 + 1 from rfl, run_equalIn_struct w 9999 58 _ _ (by kernel_rfl) (by kernel_rfl)]
  generalize hf : (Try.prog.fieldsOf 58).toList = fs
  have h := dec_fields
  rw [hf] at h
  match fs, h with
  | [f0, f1, f2], h =>
    simp at h
    obtain ⟨⟨t0, o0, n0⟩, ⟨t1, o1, n1⟩, t2, o2, n2⟩ := h
    have hu := Try.underlying2
    unfold decB decA
    cases h1 : t.l == s.l <;> cases h2 : t.lo == s.lo <;> cases h3 : t.v == s.v <;> simp [Op.eqFields, t0, o0, n0, t1, o1, n1, t2, o2, n2, go_sem, run_equalIn_int (P := Try.prog) w _ 2 .i64 .i64 _ _ hu, h1, h2, h3]
theorem dec_eql (t s : VtS) (w : World) : (binOp .eql 58 (.agg (decA t)) (.agg (decA s))).run Try.prog w = .ok (.bool (decB t s)) w := by
  rw [run_eql_struct, dec_in]; rfl
theorem dec_neq (t s : VtS) (w : World) : (binOp .neq 58 (.agg (decA t)) (.agg (decA s))).run Try.prog w = .ok (.bool (!decB t s)) w := by
  rw [run_neq_struct, dec_in]; rfl
theorem dec_guard : Try.prog.eqGuardType Try.prog.depth 58 = false := by kernel_rfl
theorem guard_dec (op : BinOp) (x y : Operand) (xs ys : Array Value) (w : World) : (eqGuard op 58 x y (.agg xs) (.agg ys)).run Try.prog w = .ok () w := run_eqGuard_agg w op 58 x y xs ys dec_guard
set_option maxHeartbeats 4000000 in
theorem areSameScreens_calls (s t : Scr) (v1 v2 v3 v4 u1 u2 u3 u4 : Value) (w : World) (n1 : s.cs.length ≤ 1048576) (n2 : s.bs.length ≤ 1048576) (n3 : s.tabs.length ≤ 1048576) (n4 : s.sets.length ≤ 1048576) (m1 : t.cs.length ≤ 1048576) (m2 : t.bs.length ≤ 1048576) (m3 : t.tabs.length ≤ 1048576) (m4 : t.sets.length ≤ 1048576) (h : SRead w s v1 v2 v3 v4) (k : SRead w t u1 u2 u3 u4) :
    Calls Try.prog 86 #[.agg (scrA s v1 v2 v3 v4), .agg (scrA t u1 u2 u3 u4)] w fun e w' => e = .returned (.bool (sameSB s t)) ∧ Below w.heap.size w w' := by
  have bel0 : Below w.heap.size w ((w.alloc (.cells (scrA s v1 v2 v3 v4) 35)).alloc (.cells (scrA t u1 u2 u3 u4) 35)) := (by repeat' (first | with_reducible exact Below.refl _ _ | with_reducible assumption | with_reducible refine Below.drew ?_ | with_reducible refine Below.alloc ?_ ?_ _ | with_reducible refine Below.setCell ?_ ?_ _ | (simp; done) | (simp; omega) | omega))
  have A0 := (Blk.new w (scrA s v1 v2 v3 v4) 35).alloc (.cells (scrA t u1 u2 u3 u4) 35)
  have B0 := Blk.new_at (w := w.alloc (.cells (scrA s v1 v2 v3 v4) 35)) (b := w.heap.size + 1) (by simp) (scrA t u1 u2 u3 u4) 35
  go_enter Try.func86, Try.ntmps86
  try simp only [List.append_eq, List.cons_append, List.nil_append]
  go_wp2_with (first | fail | (refine wpList_load_at rfl 35 _ rfl (w.heap.size) 0 rfl _ (scrA s v1 v2 v3 v4) A0 rfl _ Try.underlying35 rfl (by kernel_rfl) ?_; (try simp only [Act.put, List.setIfInBounds_toArray, List.set_cons_zero, List.set_cons_succ])) | (refine wpList_load_at rfl 35 _ rfl (w.heap.size + 1) 0 rfl _ (scrA t u1 u2 u3 u4) B0 rfl _ Try.underlying35 rfl (by kernel_rfl) ?_; (try simp only [Act.put, List.setIfInBounds_toArray, List.set_cons_zero, List.set_cons_succ])))
  go_at_call 12
  refine (implSameShown_calls s t _ _ _ _ _ _ _ _ _ n1 n3 n4 m1 m3 m4 (h.below bel0) (k.below bel0)).mono ?_
  rintro e w1 ⟨rfl, hb⟩
  replace A0 := A0.belowb hb
  replace B0 := B0.belowb hb
  have bel1 := bel0.trans (hb.mono bel0.size)
  clear hb bel0
  cases q0 : shownB s t
  · go_wp2
    go_ret
    exact ⟨ret_bool (by simp [sameSB, q0]), bel1⟩
  · skip
    go_wp2_with (first | fail | (refine wpList_load_at rfl 33 _ rfl (w.heap.size) 0 rfl _ (grdA s v1 v2) A0 (scrA_grd s v1 v2 v3 v4) _ Try.underlying33 rfl (by kernel_rfl) ?_; (try simp only [Act.put, List.setIfInBounds_toArray, List.set_cons_zero, List.set_cons_succ])) | (refine wpList_load_at rfl 33 _ rfl (w.heap.size + 1) 0 rfl _ (grdA t u1 u2) B0 (scrA_grd t u1 u2 u3 u4) _ Try.underlying33 rfl (by kernel_rfl) ?_; (try simp only [Act.put, List.setIfInBounds_toArray, List.set_cons_zero, List.set_cons_succ])))
    go_at_call 42
    refine (implSameGrids_calls s.r s.wd s.cs s.bs t.r t.wd t.cs t.bs _ _ _ _ _ n1 n2 m1 m2 (h.g1.below bel1) (h.g2.below bel1) (k.g1.below bel1) (k.g2.below bel1)).mono ?_
    rintro e w2 ⟨rfl, hb⟩
    rw [shown_full q0]
    have cA := (A0.belowb hb).cells
    have cB := (B0.belowb hb).cells
    have bel2 := bel1.trans (hb.mono bel1.size)
    clear hb bel1 A0 B0 h k
    have e14 := scrA_14 s v1 v2 v3 v4
    have f14 := scrA_14 t u1 u2 u3 u4
    have e15 := scrA_15 s v1 v2 v3 v4
    have f15 := scrA_15 t u1 u2 u3 u4
    have e16 := scrA_16 s v1 v2 v3 v4
    have f16 := scrA_16 t u1 u2 u3 u4
    have e19 := scrA_19 s v1 v2 v3 v4
    have f19 := scrA_19 t u1 u2 u3 u4
    cases q1 : sameL s.bs t.bs 0
    · as_aux_lemma =>
        go_wp2
        go_ret
        exact ⟨ret_bool (by simp [sameSB, q0, q1]), bel2⟩
    · skip
      cases q2 : (s.ky == t.ky)
      · as_aux_lemma =>
          go_wp2
          go_ret
          exact ⟨ret_bool (by simp [sameSB, q0, q1, q2]), bel2⟩
      · skip
        cases q3 : (s.kx == t.kx)
        · as_aux_lemma =>
            go_wp2
            go_ret
            exact ⟨ret_bool (by simp [sameSB, q0, q1, q2, q3]), bel2⟩
        · skip
          cases q4 : (s.ka == t.ka)
          · as_aux_lemma =>
              go_wp2
              go_ret
              exact ⟨ret_bool (by simp [sameSB, q0, q1, q2, q3, q4]), bel2⟩
          · skip
            cases q5 : (s.bells == t.bells)
            · as_aux_lemma =>
                go_wp2
                go_ret
                exact ⟨ret_bool (by simp [sameSB, q0, q1, q2, q3, q4, q5]), bel2⟩
            · skip
              go_wp2
              go_ret
              exact ⟨ret_bool (by simp [sameSB, q0, q1, q2, q3, q4, q5]), bel2⟩
set_option maxHeartbeats 4000000 in
theorem implSameVts_calls (t s : VtS) (u v1 v2 v3 v4 k k1 k2 k3 k4 : Value) (w : World) (n0 : t.ns.length ≤ 1048576) (n1 : t.s.cs.length ≤ 1048576) (n2 : t.s.bs.length ≤ 1048576) (n3 : t.s.tabs.length ≤ 1048576) (n4 : t.s.sets.length ≤ 1048576) (m0 : s.ns.length ≤ 1048576) (m1 : s.s.cs.length ≤ 1048576) (m2 : s.s.bs.length ≤ 1048576) (m3 : s.s.tabs.length ≤ 1048576) (m4 : s.s.sets.length ≤ 1048576) (h : VRead w t u v1 v2 v3 v4) (g : VRead w s k k1 k2 k3 k4) :
    Calls Try.prog 34 #[.agg (vtA t u v1 v2 v3 v4), .agg (vtA s k k1 k2 k3 k4)] w fun e w' => e = .returned (.bool (sameVB t s)) ∧ Below w.heap.size w w' := by
  have bel0 : Below w.heap.size w ((w.alloc (.cells (vtA t u v1 v2 v3 v4) 61)).alloc (.cells (vtA s k k1 k2 k3 k4) 61)) := (by repeat' (first | with_reducible exact Below.refl _ _ | with_reducible assumption | with_reducible refine Below.drew ?_ | with_reducible refine Below.alloc ?_ ?_ _ | with_reducible refine Below.setCell ?_ ?_ _ | (simp; done) | (simp; omega) | omega))
  have A0 := (Blk.new w (vtA t u v1 v2 v3 v4) 61).alloc (.cells (vtA s k k1 k2 k3 k4) 61)
  have B0 := Blk.new_at (w := w.alloc (.cells (vtA t u v1 v2 v3 v4) 61)) (b := w.heap.size + 1) (by simp) (vtA s k k1 k2 k3 k4) 61
  have hnc := dec_eql
  have hgc := guard_dec
  cases q0 : decB t s
  · skip
    go_enter Try.func34, Try.ntmps34
    go_wp2_with (first | fail | (refine wpList_load_at rfl 58 _ rfl (w.heap.size) 0 rfl _ (decA t) A0 (vtA_dec t u v1 v2 v3 v4) _ Try.underlying58 rfl (by kernel_rfl) ?_; (try simp only [Act.put, List.setIfInBounds_toArray, List.set_cons_zero, List.set_cons_succ])) | (refine wpList_load_at rfl 58 _ rfl (w.heap.size + 1) 0 rfl _ (decA s) B0 (vtA_dec s k k1 k2 k3 k4) _ Try.underlying58 rfl (by kernel_rfl) ?_; (try simp only [Act.put, List.setIfInBounds_toArray, List.set_cons_zero, List.set_cons_succ])))
    go_ret
    exact ⟨ret_bool (by simp [sameVB, q0]), bel0⟩
  · skip
    go_enter Try.func34, Try.ntmps34
    go_wp2_with (first | fail | (refine wpList_load_at rfl 58 _ rfl (w.heap.size) 0 rfl _ (decA t) A0 (vtA_dec t u v1 v2 v3 v4) _ Try.underlying58 rfl (by kernel_rfl) ?_; (try simp only [Act.put, List.setIfInBounds_toArray, List.set_cons_zero, List.set_cons_succ])) | (refine wpList_load_at rfl 58 _ rfl (w.heap.size + 1) 0 rfl _ (decA s) B0 (vtA_dec s k k1 k2 k3 k4) _ Try.underlying58 rfl (by kernel_rfl) ?_; (try simp only [Act.put, List.setIfInBounds_toArray, List.set_cons_zero, List.set_cons_succ])) | (refine wpList_load_at rfl 59 _ rfl (w.heap.size) 3 rfl _ (parA t u) A0 (vtA_par t u v1 v2 v3 v4) _ Try.underlying59 rfl (by kernel_rfl) ?_; (try simp only [Act.put, List.setIfInBounds_toArray, List.set_cons_zero, List.set_cons_succ])) | (refine wpList_load_at rfl 59 _ rfl (w.heap.size + 1) 3 rfl _ (parA s k) B0 (vtA_par s k k1 k2 k3 k4) _ Try.underlying59 rfl (by kernel_rfl) ?_; (try simp only [Act.put, List.setIfInBounds_toArray, List.set_cons_zero, List.set_cons_succ])))
    go_at_call 85
    refine (implSameParsers_calls t.md t.st t.pv t.ns s.md s.st s.pv s.ns u k _ (by omega) (by omega) (h.p.below bel0) (g.p.below bel0)).mono ?_
    rintro e w1 ⟨rfl, hb⟩
    replace A0 := A0.belowb hb
    replace B0 := B0.belowb hb
    have bel1 := bel0.trans (hb.mono bel0.size)
    clear hb bel0
    cases q1 : samePB t.md t.st t.pv t.ns s.md s.st s.pv s.ns
    · go_wp2
      go_ret
      exact ⟨ret_bool (by simp [sameVB, q0, q1]), bel1⟩
    · skip
      go_wp2_with (first | fail | (refine wpList_load_at rfl 35 _ rfl (w.heap.size) 7 rfl _ (scrA t.s v1 v2 v3 v4) A0 (vtA_scr t u v1 v2 v3 v4) _ Try.underlying35 rfl (by kernel_rfl) ?_; (try simp only [Act.put, List.setIfInBounds_toArray, List.set_cons_zero, List.set_cons_succ])) | (refine wpList_load_at rfl 35 _ rfl (w.heap.size + 1) 7 rfl _ (scrA s.s k1 k2 k3 k4) B0 (vtA_scr s k k1 k2 k3 k4) _ Try.underlying35 rfl (by kernel_rfl) ?_; (try simp only [Act.put, List.setIfInBounds_toArray, List.set_cons_zero, List.set_cons_succ])))
      go_at_call 86
      refine (areSameScreens_calls t.s s.s _ _ _ _ _ _ _ _ _ n1 n2 n3 n4 m1 m2 m3 m4 (h.s.below bel1) (g.s.below bel1)).mono ?_
      rintro e w2 ⟨rfl, hb⟩
      go_wp2
      go_ret
      exact ⟨ret_bool (by simp [sameVB, q0, q1]), bel1.trans (hb.mono bel1.size)⟩
end Go.Proofs.Ytceoehiaeanfkaa
