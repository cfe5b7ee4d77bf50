/-
  For every code of bytes the law FnChars returns true: bytes in two parts tell what they tell at once; characters that are encoded and decoded are the same. No condition (the law itself passes codes of more than 1048576 bytes by).
-/
import Derived.Test.YtoedmfflokknjaaRows
import Derived.Test.YtoedmfflokknjaaLawDraws4
import Derived.Test.YtoedmfflokknjaaCharsMath
import Derived.Test.YtoedmfflokknjaaManyRes
import Derived.Deep.RegionHeld3
import Derived.Deep.Upon
namespace Go.Proofs.Ytoedmfflokknjaa
open Go.ChangeShapes Go.WideShapes Go.ChangeAt Go.RowKit
set_option linter.unusedVariables false
set_option linter.unusedSimpArgs false

theorem fc_dec0 (c : Int) (x1 x2 x3 x4 : Value) (w : World) : (Instr.field 30 (.agg #[.int .i64 c, x1, x2, x3, x4]) 0).run Try.prog w = .ok (.int .i64 c) w := by kernel_rfl
theorem fc_dec1 (x0 x2 x3 x4 : Value) (a : Option Addr) (n m : Nat) (w : World) : (Instr.field 30 (.agg #[x0, .slice a n m, x2, x3, x4]) 1).run Try.prog w = .ok (.slice a n m) w := by kernel_rfl
theorem fc_dec2 (x0 x1 : Value) (l lo v : Int) (w : World) : (Instr.field 30 (.agg #[x0, x1, .int .i64 l, .int .i64 lo, .int .i64 v]) 2).run Try.prog w = .ok (.agg #[.int .i64 l, .int .i64 lo, .int .i64 v]) w := by kernel_rfl
theorem fc_d0 (l : Int) (x1 x2 : Value) (w : World) : (Instr.field 25 (.agg #[.int .i64 l, x1, x2]) 0).run Try.prog w = .ok (.int .i64 l) w := by kernel_rfl
theorem fc_bytes0 (c : Int) (x1 : Value) (w : World) : (Instr.field 35 (.agg #[.int .i64 c, x1]) 0).run Try.prog w = .ok (.int .i64 c) w := by kernel_rfl

theorem dm_cases (l lo v : Int) (zs : List Int) : dmCode l lo v zs = 0 ∨ dmCode l lo v zs = 2 ∨ dmCode l lo v zs = 3 := by
  unfold dmCode; split
  · split
    · exact .inr (.inl rfl)
    · exact .inl rfl
  · exact .inr (.inr rfl)
theorem dm_zero {l lo v : Int} {zs : List Int} (h : dmCode l lo v zs = 0) : dfault l lo v = 0 ∧ zs.length ≤ 2000 := by
  unfold dmCode at h
  split at h
  · split at h
    · cases h
    · exact ⟨by assumption, by omega⟩
  · cases h
theorem dm_ok {l lo v : Int} {zs : List Int} (hd : dfault l lo v = 0) (hl : zs.length ≤ 2000) : dmCode l lo v zs = 0 := by
  unfold dmCode; rw [if_pos hd, if_neg (by omega)]
/-- Bytes in two parts. -/
theorem dm_parts {l lo v : Int} {zs : List Int} (h : dmCode l lo v zs = 0) (hz : ∀ z ∈ zs, 0 ≤ z ∧ z ≤ 255) (k : Nat) (hk : k ≤ zs.length) :
    dmCode l lo v (zs.take k) = 0 ∧ dmCode (dmL l lo v (zs.take k)) (dmLo l lo v (zs.take k)) (dmV l lo v (zs.take k)) (zs.drop k) = 0 ∧
    dmT l lo v zs = dmT l lo v (zs.take k) ++ dmT (dmL l lo v (zs.take k)) (dmLo l lo v (zs.take k)) (dmV l lo v (zs.take k)) (zs.drop k) ∧
    dmL l lo v zs = dmL (dmL l lo v (zs.take k)) (dmLo l lo v (zs.take k)) (dmV l lo v (zs.take k)) (zs.drop k) ∧
    dmLo l lo v zs = dmLo (dmL l lo v (zs.take k)) (dmLo l lo v (zs.take k)) (dmV l lo v (zs.take k)) (zs.drop k) ∧
    dmV l lo v zs = dmV (dmL l lo v (zs.take k)) (dmLo l lo v (zs.take k)) (dmV l lo v (zs.take k)) (zs.drop k) := by
  obtain ⟨hd, hl⟩ := dm_zero h
  have hkl : (zs.take k).length = k := by rw [List.length_take]; omega
  have h1 : dmCode l lo v (zs.take k) = 0 := dm_ok hd (by omega)
  have hf := (run_fault l lo v (zs.take k) hd (fun z hm => hz z (List.mem_of_mem_take hm)) k (by omega)).1
  have eL : dmL l lo v (zs.take k) = rL l lo v (zs.take k) k := by unfold dmL; rw [if_pos h1, hkl]
  have eLo : dmLo l lo v (zs.take k) = rLo l lo v (zs.take k) k := by unfold dmLo; rw [if_pos h1, hkl]
  have eV : dmV l lo v (zs.take k) = rV l lo v (zs.take k) k := by unfold dmV; rw [if_pos h1, hkl]
  have eT : dmT l lo v (zs.take k) = rT l lo v (zs.take k) k := by unfold dmT; rw [if_pos h1, hkl]
  rw [eL, eLo, eV, eT]
  have hdl : (zs.drop k).length = zs.length - k := by simp
  have h2 : dmCode (rL l lo v (zs.take k) k) (rLo l lo v (zs.take k) k) (rV l lo v (zs.take k) k) (zs.drop k) = 0 := dm_ok hf (by omega)
  have hp := run_parts l lo v zs k hk
  refine ⟨h1, h2, ?_, ?_, ?_, ?_⟩
  · unfold dmT; rw [if_pos h, if_pos h2, hdl]; unfold rT rL rLo rV; rw [hp]
  · unfold dmL; rw [if_pos h, if_pos h2, hdl]; unfold rL rLo rV; rw [hp]
  · unfold dmLo; rw [if_pos h, if_pos h2, hdl]; unfold rL rLo rV; rw [hp]
  · unfold dmV; rw [if_pos h, if_pos h2, hdl]; unfold rL rLo rV; rw [hp]

theorem read_high {kd : IntKind} {w : World} {a : Option Addr} {n cap : Nat} {xs : List Int} (h : ReadAt kd w (.slice a n cap) xs) (k : Nat) (hk : k ≤ xs.length) : ReadAt kd w (.slice a k cap) (xs.take k) := by
  obtain ⟨a', cap', he, h⟩ := h
  simp at he
  obtain ⟨rfl, rfl, rfl⟩ := he
  have hkl : (xs.take k).length = k := by rw [List.length_take]; omega
  refine ⟨a, cap, by rw [hkl], ?_⟩
  by_cases h0 : k = 0
  · left; simp [h0]
  rcases h with h | ⟨b, off, rfl, h⟩
  · left; rw [h]; simp
  · right
    refine ⟨b, off, rfl, fun i hi => ?_⟩
    rw [hkl] at hi
    rw [h i (by omega)]
    simp [List.getD_eq_getElem?_getD, List.getElem?_take_of_lt hi]
theorem read_low {kd : IntKind} {w : World} {a : Option Addr} {n cap : Nat} {xs : List Int} (h : ReadAt kd w (.slice a n cap) xs) (hc : n ≤ cap) (k : Nat) (hk : k ≤ xs.length) : ReadAt kd w (.slice (if cap = k then a else a.map (·.add k)) (n - k) (cap - k)) (xs.drop k) := by
  obtain ⟨a', cap', he, h⟩ := h
  simp at he
  obtain ⟨rfl, rfl, rfl⟩ := he
  refine ⟨_, _, by rw [List.length_drop], ?_⟩
  by_cases h0 : k = xs.length
  · left; simp [h0]
  have hne : cap ≠ k := by omega
  rw [if_neg hne]
  rcases h with h | ⟨b, off, rfl, h⟩
  · left; rw [h]; simp
  · right
    refine ⟨b, off + k, by simp [Addr.add], fun i hi => ?_⟩
    rw [List.length_drop] at hi
    rw [show off + k + i = off + (k + i) from by omega, h (k + i) (by omega)]
    simp [List.getD_eq_getElem?_getD, List.getElem?_drop]

/-- A result's box: its five cells. -/
structure Box5 (w : World) (B : Nat) (c : Int) (x : Value) (l lo v : Int) : Prop where
  c0 : w.cell? ⟨B, 0, none⟩ = some (.int .i64 c)
  c1 : w.cell? ⟨B, 1, none⟩ = some x
  c2 : w.cell? ⟨B, 2, none⟩ = some (.int .i64 l)
  c3 : w.cell? ⟨B, 3, none⟩ = some (.int .i64 lo)
  c4 : w.cell? ⟨B, 4, none⟩ = some (.int .i64 v)
  fz : ∀ o, w.frozen? ⟨B, o, none⟩ = false
theorem Box5.below {w w' : World} {B : Nat} {c : Int} {x : Value} {l lo v : Int} (h : Box5 w B c x l lo v) (hb : Below w.heap.size w w') : Box5 w' B c x l lo v :=
  ⟨cellb hb h.c0, cellb hb h.c1, cellb hb h.c2, cellb hb h.c3, cellb hb h.c4, fun o => (hb.frozen (p := ⟨B, o, none⟩) (lt_of_cell h.c0)).trans (h.fz o)⟩
theorem Box5.within {w w' : World} {B p q : Nat} {c : Int} {x : Value} {l lo v : Int} (h : Box5 w B c x l lo v) (hw : Within p q w w') (hB : B < p ∨ q ≤ B) : Box5 w' B c x l lo v :=
  ⟨hw.cellx hB h.c0, hw.cellx hB h.c1, hw.cellx hB h.c2, hw.cellx hB h.c3, hw.cellx hB h.c4, fun o => (hw.frozenx (lt_of_cell h.c0) hB o).trans (h.fz o)⟩
def stored5 (w : World) (B : Nat) (u0 u1 u2 u3 u4 : Value) : World := ((((w.setCell ⟨B, 0, none⟩ u0).setCell ⟨B, 1, none⟩ u1).setCell ⟨B, 2, none⟩ u2).setCell ⟨B, 3, none⟩ u3).setCell ⟨B, 4, none⟩ u4
theorem Within.set5 (w : World) (B : Nat) (a b c d e : Value) : Within B (B + 1) w (stored5 w B a b c d e) :=
  (((((Within.refl B (B + 1) w).setCell (p := ⟨B, 0, none⟩) (Nat.le_refl _) (Nat.lt_succ_self _) a).setCell (p := ⟨B, 1, none⟩) (Nat.le_refl _) (Nat.lt_succ_self _) b).setCell (p := ⟨B, 2, none⟩) (Nat.le_refl _) (Nat.lt_succ_self _) c).setCell (p := ⟨B, 3, none⟩) (Nat.le_refl _) (Nat.lt_succ_self _) d).setCell (p := ⟨B, 4, none⟩) (Nat.le_refl _) (Nat.lt_succ_self _) e
theorem Below.set5 {w0 w : World} {n B : Nat} (h : Below n w0 w) (hB : n ≤ B) (a b c d e : Value) : Below n w0 (stored5 w B a b c d e) :=
  ((((h.setCell hB a).setCell hB b).setCell hB c).setCell hB d).setCell hB e
theorem IntsAt.set5 {k : IntKind} {lo hi B : Nat} {w : World} {v : Value} {xs : List Int} (h : IntsAt k lo hi w v xs) (hb : B < lo ∨ hi ≤ B) (a b c d e : Value) : IntsAt k lo hi (stored5 w B a b c d e) v xs :=
  ((((h.put hb a).put hb b).put hb c).put hb d).put hb e
theorem Box5.stored {w : World} {B : Nat} {c : Int} {x : Value} {l lo v : Int} (h : Box5 w B c x l lo v) (c' : Int) (x' : Value) (l' lo' v' : Int) : Box5 (stored5 w B (.int .i64 c') x' (.int .i64 l') (.int .i64 lo') (.int .i64 v')) B c' x' l' lo' v' := by
  unfold stored5
  obtain ⟨h0, h1, h2, h3, h4, hf⟩ := h
  refine ⟨?_, ?_, ?_, ?_, ?_, fun o => ?_⟩
  · repeat rw [World.cell?_setCell_other _ _ _ _ (addr_ne (by omega))]
    exact World.cell?_setCell_same _ _ _ h0
  · repeat rw [World.cell?_setCell_other _ _ _ _ (addr_ne (by omega))]
    refine World.cell?_setCell_same (u := x) _ _ _ ?_
    repeat rw [World.cell?_setCell_other _ _ _ _ (addr_ne (by omega))]
    exact h1
  · repeat rw [World.cell?_setCell_other _ _ _ _ (addr_ne (by omega))]
    refine World.cell?_setCell_same (u := .int .i64 l) _ _ _ ?_
    repeat rw [World.cell?_setCell_other _ _ _ _ (addr_ne (by omega))]
    exact h2
  · repeat rw [World.cell?_setCell_other _ _ _ _ (addr_ne (by omega))]
    refine World.cell?_setCell_same (u := .int .i64 lo) _ _ _ ?_
    repeat rw [World.cell?_setCell_other _ _ _ _ (addr_ne (by omega))]
    exact h3
  · refine World.cell?_setCell_same (u := .int .i64 v) _ _ _ ?_
    repeat rw [World.cell?_setCell_other _ _ _ _ (addr_ne (by omega))]
    exact h4
  · simp only [World.frozen?_setCell]; exact hf o
/-- Behind a part's decoding: the result's box, however the order was drawn. -/
def CutR (W wx : World) (T : List Int) (l lo v : Int) (s : Value) : Prop :=
  ∃ (F : Nat) (a : Option Addr) (c : Nat), s = .pointer (some ⟨F, 0, none⟩) ∧ Below W.heap.size W wx ∧ W.heap.size ≤ F ∧ Box5 wx F 0 (.slice a T.length c) l lo v ∧ ReadAt .i64 wx (.slice a T.length c) T

theorem dm_fault {l lo v : Int} {zs : List Int} (h : dmCode l lo v zs = 0) (hz : ∀ z ∈ zs, 0 ≤ z ∧ z ≤ 255) : dfault (dmL l lo v zs) (dmLo l lo v zs) (dmV l lo v zs) = 0 := by
  obtain ⟨hd, hl⟩ := dm_zero h
  unfold dmL dmLo dmV
  rw [if_pos h, if_pos h, if_pos h]
  exact (run_fault l lo v zs hd hz zs.length (Nat.le_refl _)).1
theorem enc_cases (zs : List Int) : encAllCode zs = 0 ∨ encAllCode zs = 2 ∨ encAllCode zs = 3 := by
  unfold encAllCode; split
  · exact .inr (.inl rfl)
  · split
    · exact .inl rfl
    · exact .inr (.inr rfl)
/-- What was encoded is decoded to what it was. -/
theorem dm_encoded {cs : List Int} (h : encAllCode cs = 0) : (∀ z ∈ encAllBytes cs, 0 ≤ z ∧ z ≤ 255) ∧ dmCode 0 0 0 (encAllBytes cs) = 0 ∧ dmT 0 0 0 (encAllBytes cs) = cs ∧ dmL 0 0 0 (encAllBytes cs) = 0 := by
  have hall : cs.all chB = true ∧ encAllBytes cs = cs.flatMap encL := by
    unfold encAllCode at h
    unfold encAllBytes
    split at h
    · cases h
    · split at h
      · rename_i h1 h2; exact ⟨h2, by rw [if_neg h1, if_pos h2]⟩
      · cases h
  have hlen := encAllBytes_length cs
  have hb : ∀ z ∈ encAllBytes cs, 0 ≤ z ∧ z ≤ 255 := by rw [hall.2]; exact flat_bytes cs hall.1
  have hc : dmCode 0 0 0 (encAllBytes cs) = 0 := dm_ok (by decide) (by omega)
  have hr : runTo 0 0 0 (encAllBytes cs) (encAllBytes cs).length = (cs, 0, 0, 0) := by
    unfold runTo
    rw [List.take_length, hall.2]
    exact decode_encode cs hall.1
  refine ⟨hb, hc, ?_, ?_⟩
  · unfold dmT; rw [if_pos hc]; unfold rT; rw [hr]
  · unfold dmL; rw [if_pos hc]; unfold rL; rw [hr]

/-- An append of a list that may be empty, to a row of the call's own, as one step of a region that draws its order. -/
theorem step_append_read {P : Program} {ops : Array Oper} {o : Oper} {a : Act} {w : World} {K : Act → World → Prop} {Q : Exit → Act → World → Prop} {E : Prop}
    (hg : o.guard = none) (s x : Operand) (t : TypeId) (hop : o.op = Op.call { callee := Callee.builtin Builtin.append, args := #[s, x], argTypes := #[t, t] })
    (base : Nat) (e : TypeId) (i : TypeInfo) (z : Value) (bytes : Nat) (h1 : P.underlying t = some (.slice e)) (h2 : P.info? e = some i) (h3 : i.zero = some z) (h4 : i.size = 1) (h5 : i.bytes = bytes) (h6 : z.cells.size = 1)
    (v : Value) (n : Nat) (xs : List Int) (hs : a.eval s = v) (hown : w.ownsRow base e 1 v n (intVs xs))
    (ax : Option Addr) (ys : List Int) (c : Nat) (hx : a.eval x = .slice ax ys.length c) (hr : ReadAt .i64 w (.slice ax ys.length c) ys)
    (b1 : n + ys.length ≤ maxLen) (b2 : (n + ys.length) * bytes ≤ 140737488355328) (hbase : base ≤ w.heap.size)
    (hK : ∀ v' w', w'.ownsRow base e 1 v' (n + ys.length) (intVs (xs ++ ys)) → w.grownBy w' v.ownBlock → K (a.put o.dst v') w') :
    if Region.wanted o (yielded ops a.tmps) = true then Oper.wp P o a w K Q else E := by
  by_cases h0 : ys = []
  · subst h0
    have hw : Region.wanted o (yielded ops a.tmps) = true := by simp [Region.wanted, hg]
    rw [if_pos hw]
    obtain ⟨av, cv, rfl, hle⟩ := own_room hown
    have hsrc : Go.Src P i.size t (.slice ax 0 c) 0 [] w := by
      cases ax with
      | none => exact Go.Src.ofNil w h1 c
      | some ad => exact Go.Src.ofSlice w h1 ad 0 c [] (by simp) (by simp) (by simp)
    have hrun := run_append_nothing (P := P) w t t o.type e i h1 h2 av n cv hle _ hsrc
    unfold Oper.wp
    simp [execOp, hop, resolve, invoke, builtin, hs, hx, hrun, Result.andThen]
    exact hK _ _ (by simpa using hown) ⟨rfl, rfl, rfl, Nat.le_refl _, fun _ _ _ => rfl⟩
  · obtain ⟨a', c', he, hr⟩ := hr
    simp at he
    obtain ⟨rfl, rfl⟩ := he
    rcases hr with hr | ⟨b, off, rfl, hr⟩
    · exact absurd hr h0
    · refine step_append_own hg s x t hop base e i z 1 bytes h1 h2 h3 h4 h5 h6 (by omega) v n (intVs xs) hs hown ⟨b, off, none⟩ ys.length c (intVs ys) hx (by simp [intVs]) (ints_news hr) (ints_one_cell _ _) b1 b2 hbase ?_
      intro v' w' ho hgr
      rw [← intVs_append] at ho
      exact hK v' w' ho hgr

theorem kept2 {W w w' : World} {B : Nat} {u0 u1 : Value} (h : Below W.heap.size W w ∧ w.cell? ⟨B, 0, none⟩ = some u0 ∧ w.cell? ⟨B, 1, none⟩ = some u1) (hb : Below w.heap.size w w') :
    Below W.heap.size W w' ∧ w'.cell? ⟨B, 0, none⟩ = some u0 ∧ w'.cell? ⟨B, 1, none⟩ = some u1 :=
  ⟨h.1.trans (hb.mono h.1.size), cellb hb h.2.1, cellb hb h.2.2⟩
theorem kept4 {W w w' : World} {B3 B5 : Nat} {u0 u1 u2 u3 : Value} (h : Below W.heap.size W w ∧ w.cell? ⟨B3, 0, none⟩ = some u0 ∧ w.cell? ⟨B3, 1, none⟩ = some u1 ∧ w.cell? ⟨B3, 2, none⟩ = some u2 ∧ w.cell? ⟨B5, 0, none⟩ = some u3) (hb : Below w.heap.size w w') :
    Below W.heap.size W w' ∧ w'.cell? ⟨B3, 0, none⟩ = some u0 ∧ w'.cell? ⟨B3, 1, none⟩ = some u1 ∧ w'.cell? ⟨B3, 2, none⟩ = some u2 ∧ w'.cell? ⟨B5, 0, none⟩ = some u3 :=
  ⟨h.1.trans (hb.mono h.1.size), cellb hb h.2.1, cellb hb h.2.2.1, cellb hb h.2.2.2.1, cellb hb h.2.2.2.2⟩

set_option maxHeartbeats 4000000 in
theorem lawFC_walk (zs : List Int) (a : Option Addr) (cap : Nat) (w : World) (hv : ReadAt .u8 w (.slice a zs.length cap) zs) (hz : ∀ z ∈ zs, 0 ≤ z ∧ z ≤ 255) (hlen : zs.length ≤ 1048576) :
    Calls Try.prog 3 #[.slice a zs.length cap] w fun e w' => e = .returned (.bool true) ∧ Below w.heap.size w w' := by
  have HZ := hide hz
  clear hz
  have hle : ¬ ((1048576 : Int) < (zs.length : Int)) := by omega
  have fd0 := fc_dec0
  have fd1 := fc_dec1
  have fd2 := fc_dec2
  have fe0 := fc_d0
  have fb0 := fc_bytes0
  go_enter Try.func3, Try.ntmps3
  go_wp2_with (first | (go_at_call 5; go_in))
  refine (drawMany_calls zs a cap _ hv HZ.out hlen).mono ?_
  rintro e w1 ⟨l, lo, v, ay, cy, ys, rfl, hroom, hyl, hyb, hy, q1⟩
  have HYB := hide hyb
  clear hyb
  go_wp2_with fail
  have A1 : Below w1.heap.size w1 (w1.alloc (.cells #[.int .i64 l, .int .i64 lo, .int .i64 v] 25)) := (Below.refl _ _).alloc (Nat.le_refl _) _
  have D1 : Box3 (w1.alloc (.cells #[.int .i64 l, .int .i64 lo, .int .i64 v] 25)) w1.heap.size l lo v := ⟨by simp, by simp, by simp, fun o => by simp⟩
  replace hy := hy.below A1
  replace q1 := q1.trans (A1.mono q1.size)
  clear A1
  generalize (w1.alloc (.cells #[.int .i64 l, .int .i64 lo, .int .i64 v] 25)) = W1 at *
  generalize w1.heap.size = D at *
  refine (implMany_calls l lo v ys _ _ HYB.out (by omega) hy).mono ?_
  rintro e w2 ⟨x2, rfl, hx2, hb2⟩
  replace hy := hy.below hb2
  replace D1 := D1.below hb2
  replace q1 := q1.trans (hb2.mono q1.size)
  have hx := hx2.read
  obtain ⟨ax, cx, rfl, hx2⟩ := hx2
  clear hx2 hb2
  have hTl := dmT_length l lo v ys HYB.out
  rcases dm_cases l lo v ys with hc | hc | hc
  · rw [hc]
    go_wp2_with fail
    have A2 : Below w2.heap.size w2 (w2.alloc (.cells #[.int .i64 0, .slice ax (dmT l lo v ys).length cx, .int .i64 (dmL l lo v ys), .int .i64 (dmLo l lo v ys), .int .i64 (dmV l lo v ys)] 30)) := (Below.refl _ _).alloc (Nat.le_refl _) _
    have R1 : Box5 (w2.alloc (.cells #[.int .i64 0, .slice ax (dmT l lo v ys).length cx, .int .i64 (dmL l lo v ys), .int .i64 (dmLo l lo v ys), .int .i64 (dmV l lo v ys)] 30)) w2.heap.size 0 (.slice ax (dmT l lo v ys).length cx) (dmL l lo v ys) (dmLo l lo v ys) (dmV l lo v ys) := ⟨by simp, by simp, by simp, by simp, by simp, fun o => by simp⟩
    replace D1 := D1.below A2
    replace hy := hy.below A2
    replace hx := hx.below A2
    replace q1 := q1.trans (A2.mono q1.size)
    clear A2
    generalize (w2.alloc (.cells #[.int .i64 0, .slice ax (dmT l lo v ys).length cx, .int .i64 (dmL l lo v ys), .int .i64 (dmLo l lo v ys), .int .i64 (dmV l lo v ys)] 30)) = W2 at *
    generalize w2.heap.size = E at *
    have hv2 := hv.below q1
    refine (lwAt_calls zs a cap (ys.length + 1) 3 _ (by omega) (by omega) hv2 HZ.out hlen (by omega) (by omega)).mono ?_
    rintro e w3 ⟨k, rfl, hk, qn, hw3⟩
    have A3 : Below W2.heap.size W2 w3 := by rw [hw3]; exact below_drewN (Below.refl _ _) qn
    replace D1 := D1.below A3
    replace R1 := R1.below A3
    replace hy := hy.below A3
    replace hx := hx.below A3
    replace q1 := q1.trans (A3.mono q1.size)
    clear A3 hw3 hv2
    have zD : D < w3.heap.size := lt_of_cell D1.c0
    have hkc : (k : Int) ≤ (cy : Int) := by omega
    have hkn : (k : Int) ≤ (ys.length : Int) := by omega
    have hk0 : (0 : Int) ≤ (k : Int) := by omega
    obtain ⟨p1, p2, p3, p4, p5, p6⟩ := dm_parts hc HYB.out k (by omega)
    have P := hide (And.intro p3 (And.intro p4 (And.intro p5 p6)))
    clear p3 p4 p5 p6
    have hyk := read_high hy k (by omega)
    go_wp2_with fail
    go_cut [7] from 36 to 40 (fun s7 wx => CutR w3 wx (dmT l lo v (ys.take k)) (dmL l lo v (ys.take k)) (dmLo l lo v (ys.take k)) (dmV l lo v (ys.take k)) s7)
    case first =>
      refine wp_region_held_drew (S := (fun w' => w'.cell? ⟨D, 0, none⟩ = some (.int .i64 l) ∧ w'.cell? ⟨D, 1, none⟩ = some (.int .i64 lo) ∧ w'.cell? ⟨D, 2, none⟩ = some (.int .i64 v))) (by kernel_rfl) ?_ (fun hHeld => ?_)
      · (try dsimp only); exact ⟨D1.c0, D1.c1, D1.c2⟩
      replace D1 := D1.below (Below.drew (Below.refl _ w3))
      have hyk : ReadAt .u8 w3.drew (.slice ay k cy) (ys.take k) := hyk.below (Below.drew (Below.refl _ w3))
      have q : Below w3.heap.size w3 w3.drew := Below.drew (Below.refl _ _)
      generalize w3.drew = V at *
      refine wpAnyH_take (i := 0) (oi := ⟨_, _, _, _, _, _⟩) (v := ?_) rfl (by kernel_rfl) (by kernel_rfl) (by kernel_rfl) (fun _ _ _ h => h) (Or.inl ⟨by rfl, ?_⟩) hHeld ?_
      rotate_left
      · (intro w hSw; (try dsimp only at hSw); go_simp; try (with_reducible rfl))
      try simp only [Act.put, List.setIfInBounds_toArray, List.set_cons_zero, List.set_cons_succ]
      refine wpAnyH_take (i := 1) (oi := ⟨_, _, _, _, _, _⟩) (v := ?_) rfl (by kernel_rfl) (by kernel_rfl) (by kernel_rfl) (fun _ _ _ h => h) (Or.inl ⟨by rfl, ?_⟩) hHeld ?_
      rotate_left
      · (intro w hSw; (try dsimp only at hSw); go_simp; try (with_reducible rfl))
      try simp only [Act.put, List.setIfInBounds_toArray, List.set_cons_zero, List.set_cons_succ]
      refine wpAnyH_take (i := 2) (oi := ⟨_, _, _, _, _, _⟩) (v := ?_) rfl (by kernel_rfl) (by kernel_rfl) (by kernel_rfl) (fun _ _ _ h => h) (Or.inl ⟨by rfl, ?_⟩) hHeld ?_
      rotate_left
      · (intro w hSw; (try dsimp only at hSw); go_simp; try (with_reducible rfl))
      try simp only [Act.put, List.setIfInBounds_toArray, List.set_cons_zero, List.set_cons_succ]
      refine wpAnyH_take (i := 3) (oi := ⟨_, _, _, _, _, _⟩) (v := ?_) rfl (by kernel_rfl) (by kernel_rfl) (by kernel_rfl) (fun _ _ _ h => h) (Or.inl ⟨by rfl, ?_⟩) hHeld ?_
      rotate_left
      · (intro w hSw; (try dsimp only at hSw); go_simp; try (with_reducible rfl))
      try simp only [Act.put, List.setIfInBounds_toArray, List.set_cons_zero, List.set_cons_succ]
      refine wpAnyH_ready (rs := [4, 5]) (by kernel_rfl) (by simp) ?_
      refine (AllReadyH.cons (o := ⟨_, _, _, _, _, _⟩) rfl (fun K hK => ?_) (AllReadyH.cons (o := ⟨_, _, _, _, _, _⟩) rfl (fun K hK => ?_) AllReadyH.nil))
      · skip
        go_simp
        go_at_call 7
        refine (implMany_calls l lo v (ys.take k) _ _ (fun z hm => HYB.out z (List.mem_of_mem_take hm)) (by simp; omega) hyk).mono ?_
        rintro e Va ⟨x5, rfl, hx5, hb5⟩
        rw [p1]
        replace D1 := D1.below hb5
        replace q := q.trans (hb5.mono q.size)
        obtain ⟨a1, c1, rfl, _⟩ := id hx5
        clear hb5 hyk
        try go_wp2_with fail
        refine hK.out _ _ ?_ ?_
        · (try dsimp only); exact ⟨D1.c0, D1.c1, D1.c2⟩
        clear hHeld hK K
        intro hHeld
        try simp only [Act.put, List.setIfInBounds_toArray, List.set_cons_zero, List.set_cons_succ]
        refine wpAnyH_ready (rs := [5]) (by kernel_rfl) (by simp) ?_
        refine (AllReadyH.cons (o := ⟨_, _, _, _, _, _⟩) rfl (fun K hK => ?_) AllReadyH.nil)
        go_simp
        have zF := q.size
        have kb : Below Va.heap.size Va (Va.alloc (.cells #[.int .i64 0, .slice none 0 0, .int .i64 0, .int .i64 0, .int .i64 0] 30)) := (Below.refl _ _).alloc (Nat.le_refl _) _
        have Z : Box5 (Va.alloc (.cells #[.int .i64 0, .slice none 0 0, .int .i64 0, .int .i64 0, .int .i64 0] 30)) Va.heap.size 0 (.slice none 0 0) 0 0 0 := ⟨by simp, by simp, by simp, by simp, by simp, fun o => by simp⟩
        replace D1 := D1.below kb
        replace q := q.trans (kb.mono q.size)
        replace hx5 := hx5.below kb (Nat.le_refl _)
        clear kb
        generalize (Va.alloc (.cells #[.int .i64 0, .slice none 0 0, .int .i64 0, .int .i64 0, .int .i64 0] 30)) = Vb at *
        have zV : Va.heap.size < Vb.heap.size := lt_of_cell Z.c0
        refine hK.out _ _ ?_ ?_
        · (try dsimp only); exact ⟨D1.c0, D1.c1, D1.c2⟩
        clear hHeld hK K
        intro hHeld
        try simp only [Act.put, List.setIfInBounds_toArray, List.set_cons_zero, List.set_cons_succ]
        refine wpAnyH_ready (rs := [6]) (by kernel_rfl) (by simp) ?_
        refine (AllReadyH.cons (o := ⟨_, _, _, _, _, _⟩) rfl (fun K hK => ?_) AllReadyH.nil)
        have k0 := Z.c0
        have k1 := Z.c1
        have k2 := Z.c2
        have k3 := Z.c3
        have k4 := Z.c4
        have kf := Z.fz
        go_simp
        have e5 : ((((Vb.setCell ⟨Va.heap.size, 0, none⟩ (.int .i64 0)).setCell ⟨Va.heap.size, 1, none⟩ (.slice a1 (dmT l lo v (ys.take k)).length c1)).setCell ⟨Va.heap.size, 2, none⟩ (.int .i64 (dmL l lo v (ys.take k)))).setCell ⟨Va.heap.size, 3, none⟩ (.int .i64 (dmLo l lo v (ys.take k)))).setCell ⟨Va.heap.size, 4, none⟩ (.int .i64 (dmV l lo v (ys.take k))) = stored5 Vb Va.heap.size (.int .i64 0) (.slice a1 (dmT l lo v (ys.take k)).length c1) (.int .i64 (dmL l lo v (ys.take k))) (.int .i64 (dmLo l lo v (ys.take k))) (.int .i64 (dmV l lo v (ys.take k))) := rfl
        rw [e5]
        clear e5
        replace Z := Z.stored 0 (.slice a1 (dmT l lo v (ys.take k)).length c1) (dmL l lo v (ys.take k)) (dmLo l lo v (ys.take k)) (dmV l lo v (ys.take k))
        replace D1 := D1.within (Within.set5 Vb Va.heap.size (.int .i64 0) (.slice a1 (dmT l lo v (ys.take k)).length c1) (.int .i64 (dmL l lo v (ys.take k))) (.int .i64 (dmLo l lo v (ys.take k))) (.int .i64 (dmV l lo v (ys.take k)))) (by omega)
        replace q := Below.set5 q zF (.int .i64 0) (.slice a1 (dmT l lo v (ys.take k)).length c1) (.int .i64 (dmL l lo v (ys.take k))) (.int .i64 (dmLo l lo v (ys.take k))) (.int .i64 (dmV l lo v (ys.take k)))
        replace hx5 := hx5.set5 (B := Va.heap.size) (by omega) (.int .i64 0) (.slice a1 (dmT l lo v (ys.take k)).length c1) (.int .i64 (dmL l lo v (ys.take k))) (.int .i64 (dmLo l lo v (ys.take k))) (.int .i64 (dmV l lo v (ys.take k)))
        clear k0 k1 k2 k3 k4 kf
        generalize stored5 Vb Va.heap.size (.int .i64 0) (.slice a1 (dmT l lo v (ys.take k)).length c1) (.int .i64 (dmL l lo v (ys.take k))) (.int .i64 (dmLo l lo v (ys.take k))) (.int .i64 (dmV l lo v (ys.take k))) = Vc at *
        refine hK.out _ _ ?_ ?_
        · (try dsimp only); exact ⟨D1.c0, D1.c1, D1.c2⟩
        clear hHeld hK K
        intro hHeld
        try simp only [Act.put, List.setIfInBounds_toArray, List.set_cons_zero, List.set_cons_succ]
        refine wpAnyH_done (by kernel_rfl) ?_ _
        go_wp2
        go_meet
        exact ⟨Va.heap.size, a1, c1, rfl, q, zF, Z, hx5.read⟩
      · skip
        go_simp
        have zF := q.size
        have kb : Below V.heap.size V (V.alloc (.cells #[.int .i64 0, .slice none 0 0, .int .i64 0, .int .i64 0, .int .i64 0] 30)) := (Below.refl _ _).alloc (Nat.le_refl _) _
        have Z : Box5 (V.alloc (.cells #[.int .i64 0, .slice none 0 0, .int .i64 0, .int .i64 0, .int .i64 0] 30)) V.heap.size 0 (.slice none 0 0) 0 0 0 := ⟨by simp, by simp, by simp, by simp, by simp, fun o => by simp⟩
        replace D1 := D1.below kb
        replace q := q.trans (kb.mono q.size)
        replace hyk := hyk.below kb
        clear kb
        generalize (V.alloc (.cells #[.int .i64 0, .slice none 0 0, .int .i64 0, .int .i64 0, .int .i64 0] 30)) = Va at *
        have zV : V.heap.size < Va.heap.size := lt_of_cell Z.c0
        refine hK.out _ _ ?_ ?_
        · (try dsimp only); exact ⟨D1.c0, D1.c1, D1.c2⟩
        clear hHeld hK K
        intro hHeld
        try simp only [Act.put, List.setIfInBounds_toArray, List.set_cons_zero, List.set_cons_succ]
        refine wpAnyH_ready (rs := [4]) (by kernel_rfl) (by simp) ?_
        refine (AllReadyH.cons (o := ⟨_, _, _, _, _, _⟩) rfl (fun K hK => ?_) AllReadyH.nil)
        go_simp
        go_at_call 7
        refine (implMany_calls l lo v (ys.take k) _ _ (fun z hm => HYB.out z (List.mem_of_mem_take hm)) (by simp; omega) hyk).mono ?_
        rintro e Vb ⟨x5, rfl, hx5, hb5⟩
        rw [p1]
        replace D1 := D1.below hb5
        replace q := q.trans (hb5.mono q.size)
        replace Z := Z.below hb5
        obtain ⟨a1, c1, rfl, _⟩ := id hx5
        clear hb5 hyk
        try go_wp2_with fail
        refine hK.out _ _ ?_ ?_
        · (try dsimp only); exact ⟨D1.c0, D1.c1, D1.c2⟩
        clear hHeld hK K
        intro hHeld
        try simp only [Act.put, List.setIfInBounds_toArray, List.set_cons_zero, List.set_cons_succ]
        refine wpAnyH_ready (rs := [6]) (by kernel_rfl) (by simp) ?_
        refine (AllReadyH.cons (o := ⟨_, _, _, _, _, _⟩) rfl (fun K hK => ?_) AllReadyH.nil)
        have k0 := Z.c0
        have k1 := Z.c1
        have k2 := Z.c2
        have k3 := Z.c3
        have k4 := Z.c4
        have kf := Z.fz
        go_simp
        have e5 : ((((Vb.setCell ⟨V.heap.size, 0, none⟩ (.int .i64 0)).setCell ⟨V.heap.size, 1, none⟩ (.slice a1 (dmT l lo v (ys.take k)).length c1)).setCell ⟨V.heap.size, 2, none⟩ (.int .i64 (dmL l lo v (ys.take k)))).setCell ⟨V.heap.size, 3, none⟩ (.int .i64 (dmLo l lo v (ys.take k)))).setCell ⟨V.heap.size, 4, none⟩ (.int .i64 (dmV l lo v (ys.take k))) = stored5 Vb V.heap.size (.int .i64 0) (.slice a1 (dmT l lo v (ys.take k)).length c1) (.int .i64 (dmL l lo v (ys.take k))) (.int .i64 (dmLo l lo v (ys.take k))) (.int .i64 (dmV l lo v (ys.take k))) := rfl
        rw [e5]
        clear e5
        replace Z := Z.stored 0 (.slice a1 (dmT l lo v (ys.take k)).length c1) (dmL l lo v (ys.take k)) (dmLo l lo v (ys.take k)) (dmV l lo v (ys.take k))
        replace D1 := D1.within (Within.set5 Vb V.heap.size (.int .i64 0) (.slice a1 (dmT l lo v (ys.take k)).length c1) (.int .i64 (dmL l lo v (ys.take k))) (.int .i64 (dmLo l lo v (ys.take k))) (.int .i64 (dmV l lo v (ys.take k)))) (by omega)
        replace q := Below.set5 q zF (.int .i64 0) (.slice a1 (dmT l lo v (ys.take k)).length c1) (.int .i64 (dmL l lo v (ys.take k))) (.int .i64 (dmLo l lo v (ys.take k))) (.int .i64 (dmV l lo v (ys.take k)))
        replace hx5 := hx5.set5 (B := V.heap.size) (by omega) (.int .i64 0) (.slice a1 (dmT l lo v (ys.take k)).length c1) (.int .i64 (dmL l lo v (ys.take k))) (.int .i64 (dmLo l lo v (ys.take k))) (.int .i64 (dmV l lo v (ys.take k)))
        clear k0 k1 k2 k3 k4 kf
        generalize stored5 Vb V.heap.size (.int .i64 0) (.slice a1 (dmT l lo v (ys.take k)).length c1) (.int .i64 (dmL l lo v (ys.take k))) (.int .i64 (dmLo l lo v (ys.take k))) (.int .i64 (dmV l lo v (ys.take k))) = Vc at *
        refine hK.out _ _ ?_ ?_
        · (try dsimp only); exact ⟨D1.c0, D1.c1, D1.c2⟩
        clear hHeld hK K
        intro hHeld
        try simp only [Act.put, List.setIfInBounds_toArray, List.set_cons_zero, List.set_cons_succ]
        refine wpAnyH_done (by kernel_rfl) ?_ _
        go_wp2
        go_meet
        exact ⟨V.heap.size, a1, c1, rfl, q, zF, Z, hx5.read⟩
    case rest =>
      obtain ⟨F, a1, c1, rfl, q8, zF, Z1, hx1⟩ := hcut
      rename World => w4
      clear hyk
      replace D1 := D1.below q8
      replace R1 := R1.below q8
      replace hy := hy.below q8
      replace hx := hx.below q8
      replace q1 := q1.trans (q8.mono q1.size)
      clear q8 zD zF
      have zF : F < w4.heap.size := lt_of_cell Z1.c0
      have hyk := read_low hy hroom k (by omega)
      go_wp2_with fail
      go_cut [8] from 41 to 46 (fun s8 wx => CutR w4 wx (dmT (dmL l lo v (ys.take k)) (dmLo l lo v (ys.take k)) (dmV l lo v (ys.take k)) (ys.drop k)) (dmL (dmL l lo v (ys.take k)) (dmLo l lo v (ys.take k)) (dmV l lo v (ys.take k)) (ys.drop k)) (dmLo (dmL l lo v (ys.take k)) (dmLo l lo v (ys.take k)) (dmV l lo v (ys.take k)) (ys.drop k)) (dmV (dmL l lo v (ys.take k)) (dmLo l lo v (ys.take k)) (dmV l lo v (ys.take k)) (ys.drop k)) s8)
      case first =>
        refine wp_region_held_drew (S := (fun w' => w'.cell? ⟨F, 2, none⟩ = some (.int .i64 (dmL l lo v (ys.take k))) ∧ w'.cell? ⟨F, 3, none⟩ = some (.int .i64 (dmLo l lo v (ys.take k))) ∧ w'.cell? ⟨F, 4, none⟩ = some (.int .i64 (dmV l lo v (ys.take k))))) (by kernel_rfl) ?_ (fun hHeld => ?_)
        · (try dsimp only); exact ⟨Z1.c2, Z1.c3, Z1.c4⟩
        replace Z1 := Z1.below (Below.drew (Below.refl _ w4))
        have hyk : ReadAt .u8 w4.drew (.slice (if cy = k then ay else ay.map (·.add k)) (ys.length - k) (cy - k)) (ys.drop k) := hyk.below (Below.drew (Below.refl _ w4))
        have q : Below w4.heap.size w4 w4.drew := Below.drew (Below.refl _ _)
        generalize w4.drew = V at *
        refine wpAnyH_take (i := 0) (oi := ⟨_, _, _, _, _, _⟩) (v := ?_) rfl (by kernel_rfl) (by kernel_rfl) (by kernel_rfl) (fun _ _ _ h => h) (Or.inl ⟨by rfl, ?_⟩) hHeld ?_
        rotate_left
        · (intro w hSw; (try dsimp only at hSw); go_simp; try (with_reducible rfl))
        try simp only [Act.put, List.setIfInBounds_toArray, List.set_cons_zero, List.set_cons_succ]
        refine wpAnyH_take (i := 1) (oi := ⟨_, _, _, _, _, _⟩) (v := ?_) rfl (by kernel_rfl) (by kernel_rfl) (by kernel_rfl) (fun _ _ _ h => h) (Or.inl ⟨by rfl, ?_⟩) hHeld ?_
        rotate_left
        · (intro w hSw; (try dsimp only at hSw); go_simp; try (with_reducible rfl))
        try simp only [Act.put, List.setIfInBounds_toArray, List.set_cons_zero, List.set_cons_succ]
        refine wpAnyH_take (i := 2) (oi := ⟨_, _, _, _, _, _⟩) (v := ?_) rfl (by kernel_rfl) (by kernel_rfl) (by kernel_rfl) (fun _ _ _ h => h) (Or.inl ⟨by rfl, ?_⟩) hHeld ?_
        rotate_left
        · (intro w hSw; (try dsimp only at hSw); go_simp; try (with_reducible rfl))
        try simp only [Act.put, List.setIfInBounds_toArray, List.set_cons_zero, List.set_cons_succ]
        refine wpAnyH_take (i := 3) (oi := ⟨_, _, _, _, _, _⟩) (v := ?_) rfl (by kernel_rfl) (by kernel_rfl) (by kernel_rfl) (fun _ _ _ h => h) (Or.inl ⟨by rfl, ?_⟩) hHeld ?_
        rotate_left
        · (intro w hSw; (try dsimp only at hSw); go_simp; try (with_reducible rfl))
        try simp only [Act.put, List.setIfInBounds_toArray, List.set_cons_zero, List.set_cons_succ]
        refine wpAnyH_take (i := 4) (oi := ⟨_, _, _, _, _, _⟩) (v := ?_) rfl (by kernel_rfl) (by kernel_rfl) (by kernel_rfl) (fun _ _ _ h => h) (Or.inl ⟨by rfl, ?_⟩) hHeld ?_
        rotate_left
        · (intro w hSw; (try dsimp only at hSw); go_simp; try (with_reducible rfl))
        try simp only [Act.put, List.setIfInBounds_toArray, List.set_cons_zero, List.set_cons_succ]
        generalize (if cy = k then ay else Option.map (fun x => x.add k) ay) = ad at *
        refine wpAnyH_ready (rs := [5, 6]) (by kernel_rfl) (by simp) ?_
        refine (AllReadyH.cons (o := ⟨_, _, _, _, _, _⟩) rfl (fun K hK => ?_) (AllReadyH.cons (o := ⟨_, _, _, _, _, _⟩) rfl (fun K hK => ?_) AllReadyH.nil))
        · skip
          go_simp
          go_at_call 7
          refine (implMany_calls (dmL l lo v (ys.take k)) (dmLo l lo v (ys.take k)) (dmV l lo v (ys.take k)) (ys.drop k) _ _ (fun z hm => HYB.out z (List.mem_of_mem_drop hm)) (by simp; omega) hyk).mono ?_
          rintro e Va ⟨x5, rfl, hx5, hb5⟩
          rw [p2]
          replace Z1 := Z1.below hb5
          replace q := q.trans (hb5.mono q.size)
          obtain ⟨a1, c1, rfl, _⟩ := id hx5
          clear hb5 hyk
          try go_wp2_with fail
          refine hK.out _ _ ?_ ?_
          · (try dsimp only); exact ⟨Z1.c2, Z1.c3, Z1.c4⟩
          clear hHeld hK K
          intro hHeld
          try simp only [Act.put, List.setIfInBounds_toArray, List.set_cons_zero, List.set_cons_succ]
          refine wpAnyH_ready (rs := [6]) (by kernel_rfl) (by simp) ?_
          refine (AllReadyH.cons (o := ⟨_, _, _, _, _, _⟩) rfl (fun K hK => ?_) AllReadyH.nil)
          go_simp
          have zF := q.size
          have kb : Below Va.heap.size Va (Va.alloc (.cells #[.int .i64 0, .slice none 0 0, .int .i64 0, .int .i64 0, .int .i64 0] 30)) := (Below.refl _ _).alloc (Nat.le_refl _) _
          have Z : Box5 (Va.alloc (.cells #[.int .i64 0, .slice none 0 0, .int .i64 0, .int .i64 0, .int .i64 0] 30)) Va.heap.size 0 (.slice none 0 0) 0 0 0 := ⟨by simp, by simp, by simp, by simp, by simp, fun o => by simp⟩
          replace Z1 := Z1.below kb
          replace q := q.trans (kb.mono q.size)
          replace hx5 := hx5.below kb (Nat.le_refl _)
          clear kb
          generalize (Va.alloc (.cells #[.int .i64 0, .slice none 0 0, .int .i64 0, .int .i64 0, .int .i64 0] 30)) = Vb at *
          have zV : Va.heap.size < Vb.heap.size := lt_of_cell Z.c0
          refine hK.out _ _ ?_ ?_
          · (try dsimp only); exact ⟨Z1.c2, Z1.c3, Z1.c4⟩
          clear hHeld hK K
          intro hHeld
          try simp only [Act.put, List.setIfInBounds_toArray, List.set_cons_zero, List.set_cons_succ]
          refine wpAnyH_ready (rs := [7]) (by kernel_rfl) (by simp) ?_
          refine (AllReadyH.cons (o := ⟨_, _, _, _, _, _⟩) rfl (fun K hK => ?_) AllReadyH.nil)
          have k0 := Z.c0
          have k1 := Z.c1
          have k2 := Z.c2
          have k3 := Z.c3
          have k4 := Z.c4
          have kf := Z.fz
          go_simp
          have e5 : ((((Vb.setCell ⟨Va.heap.size, 0, none⟩ (.int .i64 0)).setCell ⟨Va.heap.size, 1, none⟩ (.slice a1 (dmT (dmL l lo v (ys.take k)) (dmLo l lo v (ys.take k)) (dmV l lo v (ys.take k)) (ys.drop k)).length c1)).setCell ⟨Va.heap.size, 2, none⟩ (.int .i64 (dmL (dmL l lo v (ys.take k)) (dmLo l lo v (ys.take k)) (dmV l lo v (ys.take k)) (ys.drop k)))).setCell ⟨Va.heap.size, 3, none⟩ (.int .i64 (dmLo (dmL l lo v (ys.take k)) (dmLo l lo v (ys.take k)) (dmV l lo v (ys.take k)) (ys.drop k)))).setCell ⟨Va.heap.size, 4, none⟩ (.int .i64 (dmV (dmL l lo v (ys.take k)) (dmLo l lo v (ys.take k)) (dmV l lo v (ys.take k)) (ys.drop k))) = stored5 Vb Va.heap.size (.int .i64 0) (.slice a1 (dmT (dmL l lo v (ys.take k)) (dmLo l lo v (ys.take k)) (dmV l lo v (ys.take k)) (ys.drop k)).length c1) (.int .i64 (dmL (dmL l lo v (ys.take k)) (dmLo l lo v (ys.take k)) (dmV l lo v (ys.take k)) (ys.drop k))) (.int .i64 (dmLo (dmL l lo v (ys.take k)) (dmLo l lo v (ys.take k)) (dmV l lo v (ys.take k)) (ys.drop k))) (.int .i64 (dmV (dmL l lo v (ys.take k)) (dmLo l lo v (ys.take k)) (dmV l lo v (ys.take k)) (ys.drop k))) := rfl
          rw [e5]
          clear e5
          replace Z := Z.stored 0 (.slice a1 (dmT (dmL l lo v (ys.take k)) (dmLo l lo v (ys.take k)) (dmV l lo v (ys.take k)) (ys.drop k)).length c1) (dmL (dmL l lo v (ys.take k)) (dmLo l lo v (ys.take k)) (dmV l lo v (ys.take k)) (ys.drop k)) (dmLo (dmL l lo v (ys.take k)) (dmLo l lo v (ys.take k)) (dmV l lo v (ys.take k)) (ys.drop k)) (dmV (dmL l lo v (ys.take k)) (dmLo l lo v (ys.take k)) (dmV l lo v (ys.take k)) (ys.drop k))
          replace Z1 := Z1.within (Within.set5 Vb Va.heap.size (.int .i64 0) (.slice a1 (dmT (dmL l lo v (ys.take k)) (dmLo l lo v (ys.take k)) (dmV l lo v (ys.take k)) (ys.drop k)).length c1) (.int .i64 (dmL (dmL l lo v (ys.take k)) (dmLo l lo v (ys.take k)) (dmV l lo v (ys.take k)) (ys.drop k))) (.int .i64 (dmLo (dmL l lo v (ys.take k)) (dmLo l lo v (ys.take k)) (dmV l lo v (ys.take k)) (ys.drop k))) (.int .i64 (dmV (dmL l lo v (ys.take k)) (dmLo l lo v (ys.take k)) (dmV l lo v (ys.take k)) (ys.drop k)))) (by omega)
          replace q := Below.set5 q zF (.int .i64 0) (.slice a1 (dmT (dmL l lo v (ys.take k)) (dmLo l lo v (ys.take k)) (dmV l lo v (ys.take k)) (ys.drop k)).length c1) (.int .i64 (dmL (dmL l lo v (ys.take k)) (dmLo l lo v (ys.take k)) (dmV l lo v (ys.take k)) (ys.drop k))) (.int .i64 (dmLo (dmL l lo v (ys.take k)) (dmLo l lo v (ys.take k)) (dmV l lo v (ys.take k)) (ys.drop k))) (.int .i64 (dmV (dmL l lo v (ys.take k)) (dmLo l lo v (ys.take k)) (dmV l lo v (ys.take k)) (ys.drop k)))
          replace hx5 := hx5.set5 (B := Va.heap.size) (by omega) (.int .i64 0) (.slice a1 (dmT (dmL l lo v (ys.take k)) (dmLo l lo v (ys.take k)) (dmV l lo v (ys.take k)) (ys.drop k)).length c1) (.int .i64 (dmL (dmL l lo v (ys.take k)) (dmLo l lo v (ys.take k)) (dmV l lo v (ys.take k)) (ys.drop k))) (.int .i64 (dmLo (dmL l lo v (ys.take k)) (dmLo l lo v (ys.take k)) (dmV l lo v (ys.take k)) (ys.drop k))) (.int .i64 (dmV (dmL l lo v (ys.take k)) (dmLo l lo v (ys.take k)) (dmV l lo v (ys.take k)) (ys.drop k)))
          clear k0 k1 k2 k3 k4 kf
          generalize stored5 Vb Va.heap.size (.int .i64 0) (.slice a1 (dmT (dmL l lo v (ys.take k)) (dmLo l lo v (ys.take k)) (dmV l lo v (ys.take k)) (ys.drop k)).length c1) (.int .i64 (dmL (dmL l lo v (ys.take k)) (dmLo l lo v (ys.take k)) (dmV l lo v (ys.take k)) (ys.drop k))) (.int .i64 (dmLo (dmL l lo v (ys.take k)) (dmLo l lo v (ys.take k)) (dmV l lo v (ys.take k)) (ys.drop k))) (.int .i64 (dmV (dmL l lo v (ys.take k)) (dmLo l lo v (ys.take k)) (dmV l lo v (ys.take k)) (ys.drop k))) = Vc at *
          refine hK.out _ _ ?_ ?_
          · (try dsimp only); exact ⟨Z1.c2, Z1.c3, Z1.c4⟩
          clear hHeld hK K
          intro hHeld
          try simp only [Act.put, List.setIfInBounds_toArray, List.set_cons_zero, List.set_cons_succ]
          refine wpAnyH_done (by kernel_rfl) ?_ _
          go_wp2
          go_meet
          exact ⟨Va.heap.size, a1, c1, rfl, q, zF, Z, hx5.read⟩
        · skip
          go_simp
          have zF := q.size
          have kb : Below V.heap.size V (V.alloc (.cells #[.int .i64 0, .slice none 0 0, .int .i64 0, .int .i64 0, .int .i64 0] 30)) := (Below.refl _ _).alloc (Nat.le_refl _) _
          have Z : Box5 (V.alloc (.cells #[.int .i64 0, .slice none 0 0, .int .i64 0, .int .i64 0, .int .i64 0] 30)) V.heap.size 0 (.slice none 0 0) 0 0 0 := ⟨by simp, by simp, by simp, by simp, by simp, fun o => by simp⟩
          replace Z1 := Z1.below kb
          replace q := q.trans (kb.mono q.size)
          replace hyk := hyk.below kb
          clear kb
          generalize (V.alloc (.cells #[.int .i64 0, .slice none 0 0, .int .i64 0, .int .i64 0, .int .i64 0] 30)) = Va at *
          have zV : V.heap.size < Va.heap.size := lt_of_cell Z.c0
          refine hK.out _ _ ?_ ?_
          · (try dsimp only); exact ⟨Z1.c2, Z1.c3, Z1.c4⟩
          clear hHeld hK K
          intro hHeld
          try simp only [Act.put, List.setIfInBounds_toArray, List.set_cons_zero, List.set_cons_succ]
          refine wpAnyH_ready (rs := [5]) (by kernel_rfl) (by simp) ?_
          refine (AllReadyH.cons (o := ⟨_, _, _, _, _, _⟩) rfl (fun K hK => ?_) AllReadyH.nil)
          go_simp
          go_at_call 7
          refine (implMany_calls (dmL l lo v (ys.take k)) (dmLo l lo v (ys.take k)) (dmV l lo v (ys.take k)) (ys.drop k) _ _ (fun z hm => HYB.out z (List.mem_of_mem_drop hm)) (by simp; omega) hyk).mono ?_
          rintro e Vb ⟨x5, rfl, hx5, hb5⟩
          rw [p2]
          replace Z1 := Z1.below hb5
          replace q := q.trans (hb5.mono q.size)
          replace Z := Z.below hb5
          obtain ⟨a1, c1, rfl, _⟩ := id hx5
          clear hb5 hyk
          try go_wp2_with fail
          refine hK.out _ _ ?_ ?_
          · (try dsimp only); exact ⟨Z1.c2, Z1.c3, Z1.c4⟩
          clear hHeld hK K
          intro hHeld
          try simp only [Act.put, List.setIfInBounds_toArray, List.set_cons_zero, List.set_cons_succ]
          refine wpAnyH_ready (rs := [7]) (by kernel_rfl) (by simp) ?_
          refine (AllReadyH.cons (o := ⟨_, _, _, _, _, _⟩) rfl (fun K hK => ?_) AllReadyH.nil)
          have k0 := Z.c0
          have k1 := Z.c1
          have k2 := Z.c2
          have k3 := Z.c3
          have k4 := Z.c4
          have kf := Z.fz
          go_simp
          have e5 : ((((Vb.setCell ⟨V.heap.size, 0, none⟩ (.int .i64 0)).setCell ⟨V.heap.size, 1, none⟩ (.slice a1 (dmT (dmL l lo v (ys.take k)) (dmLo l lo v (ys.take k)) (dmV l lo v (ys.take k)) (ys.drop k)).length c1)).setCell ⟨V.heap.size, 2, none⟩ (.int .i64 (dmL (dmL l lo v (ys.take k)) (dmLo l lo v (ys.take k)) (dmV l lo v (ys.take k)) (ys.drop k)))).setCell ⟨V.heap.size, 3, none⟩ (.int .i64 (dmLo (dmL l lo v (ys.take k)) (dmLo l lo v (ys.take k)) (dmV l lo v (ys.take k)) (ys.drop k)))).setCell ⟨V.heap.size, 4, none⟩ (.int .i64 (dmV (dmL l lo v (ys.take k)) (dmLo l lo v (ys.take k)) (dmV l lo v (ys.take k)) (ys.drop k))) = stored5 Vb V.heap.size (.int .i64 0) (.slice a1 (dmT (dmL l lo v (ys.take k)) (dmLo l lo v (ys.take k)) (dmV l lo v (ys.take k)) (ys.drop k)).length c1) (.int .i64 (dmL (dmL l lo v (ys.take k)) (dmLo l lo v (ys.take k)) (dmV l lo v (ys.take k)) (ys.drop k))) (.int .i64 (dmLo (dmL l lo v (ys.take k)) (dmLo l lo v (ys.take k)) (dmV l lo v (ys.take k)) (ys.drop k))) (.int .i64 (dmV (dmL l lo v (ys.take k)) (dmLo l lo v (ys.take k)) (dmV l lo v (ys.take k)) (ys.drop k))) := rfl
          rw [e5]
          clear e5
          replace Z := Z.stored 0 (.slice a1 (dmT (dmL l lo v (ys.take k)) (dmLo l lo v (ys.take k)) (dmV l lo v (ys.take k)) (ys.drop k)).length c1) (dmL (dmL l lo v (ys.take k)) (dmLo l lo v (ys.take k)) (dmV l lo v (ys.take k)) (ys.drop k)) (dmLo (dmL l lo v (ys.take k)) (dmLo l lo v (ys.take k)) (dmV l lo v (ys.take k)) (ys.drop k)) (dmV (dmL l lo v (ys.take k)) (dmLo l lo v (ys.take k)) (dmV l lo v (ys.take k)) (ys.drop k))
          replace Z1 := Z1.within (Within.set5 Vb V.heap.size (.int .i64 0) (.slice a1 (dmT (dmL l lo v (ys.take k)) (dmLo l lo v (ys.take k)) (dmV l lo v (ys.take k)) (ys.drop k)).length c1) (.int .i64 (dmL (dmL l lo v (ys.take k)) (dmLo l lo v (ys.take k)) (dmV l lo v (ys.take k)) (ys.drop k))) (.int .i64 (dmLo (dmL l lo v (ys.take k)) (dmLo l lo v (ys.take k)) (dmV l lo v (ys.take k)) (ys.drop k))) (.int .i64 (dmV (dmL l lo v (ys.take k)) (dmLo l lo v (ys.take k)) (dmV l lo v (ys.take k)) (ys.drop k)))) (by omega)
          replace q := Below.set5 q zF (.int .i64 0) (.slice a1 (dmT (dmL l lo v (ys.take k)) (dmLo l lo v (ys.take k)) (dmV l lo v (ys.take k)) (ys.drop k)).length c1) (.int .i64 (dmL (dmL l lo v (ys.take k)) (dmLo l lo v (ys.take k)) (dmV l lo v (ys.take k)) (ys.drop k))) (.int .i64 (dmLo (dmL l lo v (ys.take k)) (dmLo l lo v (ys.take k)) (dmV l lo v (ys.take k)) (ys.drop k))) (.int .i64 (dmV (dmL l lo v (ys.take k)) (dmLo l lo v (ys.take k)) (dmV l lo v (ys.take k)) (ys.drop k)))
          replace hx5 := hx5.set5 (B := V.heap.size) (by omega) (.int .i64 0) (.slice a1 (dmT (dmL l lo v (ys.take k)) (dmLo l lo v (ys.take k)) (dmV l lo v (ys.take k)) (ys.drop k)).length c1) (.int .i64 (dmL (dmL l lo v (ys.take k)) (dmLo l lo v (ys.take k)) (dmV l lo v (ys.take k)) (ys.drop k))) (.int .i64 (dmLo (dmL l lo v (ys.take k)) (dmLo l lo v (ys.take k)) (dmV l lo v (ys.take k)) (ys.drop k))) (.int .i64 (dmV (dmL l lo v (ys.take k)) (dmLo l lo v (ys.take k)) (dmV l lo v (ys.take k)) (ys.drop k)))
          clear k0 k1 k2 k3 k4 kf
          generalize stored5 Vb V.heap.size (.int .i64 0) (.slice a1 (dmT (dmL l lo v (ys.take k)) (dmLo l lo v (ys.take k)) (dmV l lo v (ys.take k)) (ys.drop k)).length c1) (.int .i64 (dmL (dmL l lo v (ys.take k)) (dmLo l lo v (ys.take k)) (dmV l lo v (ys.take k)) (ys.drop k))) (.int .i64 (dmLo (dmL l lo v (ys.take k)) (dmLo l lo v (ys.take k)) (dmV l lo v (ys.take k)) (ys.drop k))) (.int .i64 (dmV (dmL l lo v (ys.take k)) (dmLo l lo v (ys.take k)) (dmV l lo v (ys.take k)) (ys.drop k))) = Vc at *
          refine hK.out _ _ ?_ ?_
          · (try dsimp only); exact ⟨Z1.c2, Z1.c3, Z1.c4⟩
          clear hHeld hK K
          intro hHeld
          try simp only [Act.put, List.setIfInBounds_toArray, List.set_cons_zero, List.set_cons_succ]
          refine wpAnyH_done (by kernel_rfl) ?_ _
          go_wp2
          go_meet
          exact ⟨V.heap.size, a1, c1, rfl, q, zF, Z, hx5.read⟩
      case rest =>
        obtain ⟨G, a2, c2, rfl, q9, zG, Z2, hx2⟩ := hcut
        rename World => w5
        clear hyk
        replace D1 := D1.below q9
        replace R1 := R1.below q9
        replace hy := hy.below q9
        replace hx := hx.below q9
        replace Z1 := Z1.below q9
        replace hx1 := hx1.below q9
        replace q1 := q1.trans (q9.mono q1.size)
        clear q9 zG zF
        have hT1 := dmT_length l lo v (ys.take k) (fun z hm => HYB.out z (List.mem_of_mem_take hm))
        have hT2 := dmT_length (dmL l lo v (ys.take k)) (dmLo l lo v (ys.take k)) (dmV l lo v (ys.take k)) (ys.drop k) (fun z hm => HYB.out z (List.mem_of_mem_drop hm))
        rw [← P.out.2.1, ← P.out.2.2.1, ← P.out.2.2.2] at Z2
        have PT := hide P.out.1
        clear P p1 p2
        generalize dmT (dmL l lo v (ys.take k)) (dmLo l lo v (ys.take k)) (dmV l lo v (ys.take k)) (ys.drop k) = T2 at *
        generalize dmL l lo v (ys.take k) = L1 at *
        generalize dmLo l lo v (ys.take k) = Lo1 at *
        generalize dmV l lo v (ys.take k) = V1 at *
        generalize dmT l lo v (ys.take k) = T1 at *
        go_wp2_with fail
        refine (drawAll_calls zs a cap _ (hv.below q1) HZ.out hlen).mono ?_
        rintro e w6 ⟨v9, cs, rfl, hcl, hcs, q10⟩
        obtain ⟨a9, c9, rfl, _⟩ := id hcs
        replace D1 := D1.below q10
        replace R1 := R1.below q10
        replace hy := hy.below q10
        replace hx := hx.below q10
        replace Z1 := Z1.below q10
        replace hx1 := hx1.below q10
        replace Z2 := Z2.below q10
        replace hx2 := hx2.below q10
        replace q1 := q1.trans (q10.mono q1.size)
        clear q10
        go_wp2_with fail
        refine (implEncodeAll_calls cs _ _ (by omega) hcs).mono ?_
        rintro e w7 ⟨x10, rfl, hx10, q11⟩
        replace D1 := D1.below q11
        replace R1 := R1.below q11
        replace hy := hy.below q11
        replace hx := hx.below q11
        replace Z1 := Z1.below q11
        replace hx1 := hx1.below q11
        replace Z2 := Z2.below q11
        replace hx2 := hx2.below q11
        replace hcs := hcs.below q11
        replace q1 := q1.trans (q11.mono q1.size)
        clear q11
        have he := hx10.read
        obtain ⟨a10, c10, rfl, _⟩ := id hx10
        clear hx10
        go_wp2_with fail
        have A8 : Below w7.heap.size w7 (w7.alloc (.cells #[.int .i64 (encAllCode cs), .slice a10 (encAllBytes cs).length c10] 35)) := (Below.refl _ _).alloc (Nat.le_refl _) _
        have h0 : (w7.alloc (.cells #[.int .i64 (encAllCode cs), .slice a10 (encAllBytes cs).length c10] 35)).cell? ⟨w7.heap.size, 0, none⟩ = some (.int .i64 (encAllCode cs)) := by simp
        have h1 : (w7.alloc (.cells #[.int .i64 (encAllCode cs), .slice a10 (encAllBytes cs).length c10] 35)).cell? ⟨w7.heap.size, 1, none⟩ = some (.slice a10 (encAllBytes cs).length c10) := by simp
        replace D1 := D1.below A8
        replace R1 := R1.below A8
        replace hy := hy.below A8
        replace hx := hx.below A8
        replace Z1 := Z1.below A8
        replace hx1 := hx1.below A8
        replace Z2 := Z2.below A8
        replace hx2 := hx2.below A8
        replace hcs := hcs.below A8
        replace he := he.below A8
        replace q1 := q1.trans (A8.mono q1.size)
        clear A8
        generalize (w7.alloc (.cells #[.int .i64 (encAllCode cs), .slice a10 (encAllBytes cs).length c10] 35)) = W8 at *
        generalize w7.heap.size = H at *
        have hel := encAllBytes_length cs
        go_cut [80] from 50 to 79 (fun s80 wx => s80 = .bool false ∧ Below W8.heap.size W8 wx)
        case first =>
          rcases enc_cases cs with hec | hec | hec
          · rw [hec] at h0
            have HE := hide (dm_encoded hec)
            have HEC := hide hec
            clear hec
            refine wp_region_held_drew (S := (fun w' => Below W8.heap.size W8 w' ∧ w'.cell? ⟨H, 0, none⟩ = some (.int .i64 0) ∧ w'.cell? ⟨H, 1, none⟩ = some (.slice a10 (encAllBytes cs).length c10))) (by kernel_rfl) ?_ (fun hHeld => ?_)
            · (try dsimp only); exact ⟨Below.drew (Below.refl _ W8), h0, h1⟩
            refine wpAnyH_take (i := 0) (oi := ⟨_, _, _, _, _, _⟩) (v := ?_) rfl (by kernel_rfl) (by kernel_rfl) (by kernel_rfl) (fun _ _ _ h => h) (Or.inl ⟨by rfl, ?_⟩) hHeld ?_
            rotate_left
            · (intro w hSw; (try dsimp only at hSw); go_simp; try (with_reducible rfl))
            try simp only [Act.put, List.setIfInBounds_toArray, List.set_cons_zero, List.set_cons_succ]
            refine wpAnyH_take (i := 1) (oi := ⟨_, _, _, _, _, _⟩) (v := ?_) rfl (by kernel_rfl) (by kernel_rfl) (by kernel_rfl) (fun _ _ _ h => h) (Or.inl ⟨by rfl, ?_⟩) hHeld ?_
            rotate_left
            · (intro w hSw; (try dsimp only at hSw); go_simp; try (with_reducible rfl))
            try simp only [Act.put, List.setIfInBounds_toArray, List.set_cons_zero, List.set_cons_succ]
            refine wpAnyH_take (i := 2) (oi := ⟨_, _, _, _, _, _⟩) (v := ?_) rfl (by kernel_rfl) (by kernel_rfl) (by kernel_rfl) (fun _ _ _ h => h) (Or.inl ⟨by rfl, ?_⟩) hHeld ?_
            rotate_left
            · (intro w hSw; (try dsimp only at hSw); go_simp; try (with_reducible rfl))
            try simp only [Act.put, List.setIfInBounds_toArray, List.set_cons_zero, List.set_cons_succ]
            refine wpAnyH_ready (rs := [3]) (by kernel_rfl) (by simp) ?_
            refine (AllReadyH.cons (o := ⟨_, _, _, _, _, _⟩) rfl (fun K hK => ?_) AllReadyH.nil)
            go_simp
            go_at_call 12
            refine (specEncodeAll_calls cs _ _ (by omega) (hcs.below hHeld.1)).mono ?_
            rintro e w9 ⟨x9, rfl, hx9, hb9⟩
            rw [HEC.out]
            obtain ⟨a11, c11, rfl, hx9⟩ := hx9
            clear hx9
            try go_wp2_with fail
            refine hK.out _ _ ?_ ?_
            · (try dsimp only); exact kept2 hHeld hb9
            clear hHeld hK K
            intro hHeld
            try simp only [Act.put, List.setIfInBounds_toArray, List.set_cons_zero, List.set_cons_succ]
            refine wpAnyH_take (i := 4) (oi := ⟨_, _, _, _, _, _⟩) (v := ?_) rfl (by kernel_rfl) (by kernel_rfl) (by kernel_rfl) (fun _ _ _ h => h) (Or.inl ⟨by rfl, ?_⟩) hHeld ?_
            rotate_left
            · (intro w hSw; (try dsimp only at hSw); go_simp; try (with_reducible rfl))
            try simp only [Act.put, List.setIfInBounds_toArray, List.set_cons_zero, List.set_cons_succ]
            refine wpAnyH_take (i := 5) (oi := ⟨_, _, _, _, _, _⟩) (v := ?_) rfl (by kernel_rfl) (by kernel_rfl) (by kernel_rfl) (fun _ _ _ h => h) (Or.inl ⟨by rfl, ?_⟩) hHeld ?_
            rotate_left
            · (intro w hSw; (try dsimp only at hSw); go_simp; try (with_reducible rfl))
            try simp only [Act.put, List.setIfInBounds_toArray, List.set_cons_zero, List.set_cons_succ]
            refine wpAnyH_take (i := 6) (oi := ⟨_, _, _, _, _, _⟩) (v := ?_) rfl (by kernel_rfl) (by kernel_rfl) (by kernel_rfl) (fun _ _ _ h => h) (Or.inl ⟨by rfl, ?_⟩) hHeld ?_
            rotate_left
            · (intro w hSw; (try dsimp only at hSw); go_simp; try (with_reducible rfl))
            try simp only [Act.put, List.setIfInBounds_toArray, List.set_cons_zero, List.set_cons_succ]
            refine wpAnyH_take (i := 7) (oi := ⟨_, _, _, _, _, _⟩) (v := ?_) rfl (by kernel_rfl) (by kernel_rfl) (by kernel_rfl) (fun _ _ _ h => h) (Or.inl ⟨by rfl, ?_⟩) hHeld ?_
            rotate_left
            · (intro w hSw; (try dsimp only at hSw); go_simp; try (with_reducible rfl))
            try simp only [Act.put, List.setIfInBounds_toArray, List.set_cons_zero, List.set_cons_succ]
            refine wpAnyH_take (i := 8) (oi := ⟨_, _, _, _, _, _⟩) (v := ?_) rfl (by kernel_rfl) (by kernel_rfl) (by kernel_rfl) (fun _ _ _ h => h) (Or.inl ⟨by rfl, ?_⟩) hHeld ?_
            rotate_left
            · (intro w hSw; (try dsimp only at hSw); go_simp; try (with_reducible rfl))
            try simp only [Act.put, List.setIfInBounds_toArray, List.set_cons_zero, List.set_cons_succ]
            refine wpAnyH_take (i := 9) (oi := ⟨_, _, _, _, _, _⟩) (v := ?_) rfl (by kernel_rfl) (by kernel_rfl) (by kernel_rfl) (fun _ _ _ h => h) (Or.inl ⟨by rfl, ?_⟩) hHeld ?_
            rotate_left
            · (intro w hSw; (try dsimp only at hSw); go_simp; try (with_reducible rfl))
            try simp only [Act.put, List.setIfInBounds_toArray, List.set_cons_zero, List.set_cons_succ]
            refine wpAnyH_take (i := 10) (oi := ⟨_, _, _, _, _, _⟩) (v := ?_) rfl (by kernel_rfl) (by kernel_rfl) (by kernel_rfl) (fun _ _ _ h => h) (Or.inl ⟨by rfl, ?_⟩) hHeld ?_
            rotate_left
            · (intro w hSw; (try dsimp only at hSw); go_simp; try (with_reducible rfl))
            try simp only [Act.put, List.setIfInBounds_toArray, List.set_cons_zero, List.set_cons_succ]
            refine wpAnyH_take (i := 11) (oi := ⟨_, _, _, _, _, _⟩) (v := ?_) rfl (by kernel_rfl) (by kernel_rfl) (by kernel_rfl) (fun _ _ _ h => h) (Or.inl ⟨by rfl, ?_⟩) hHeld ?_
            rotate_left
            · (intro w hSw; (try dsimp only at hSw); go_simp; try (with_reducible rfl))
            try simp only [Act.put, List.setIfInBounds_toArray, List.set_cons_zero, List.set_cons_succ]
            refine wpAnyH_take (i := 12) (oi := ⟨_, _, _, _, _, _⟩) (v := ?_) rfl (by kernel_rfl) (by kernel_rfl) (by kernel_rfl) (fun _ _ _ h => h) (Or.inl ⟨by rfl, ?_⟩) hHeld ?_
            rotate_left
            · (intro w hSw; (try dsimp only at hSw); go_simp; try (with_reducible rfl))
            try simp only [Act.put, List.setIfInBounds_toArray, List.set_cons_zero, List.set_cons_succ]
            refine wpAnyH_take (i := 13) (oi := ⟨_, _, _, _, _, _⟩) (v := ?_) rfl (by kernel_rfl) (by kernel_rfl) (by kernel_rfl) (fun _ _ _ h => h) (Or.inl ⟨by rfl, ?_⟩) hHeld ?_
            rotate_left
            · (intro w hSw; (try dsimp only at hSw); go_simp; try (with_reducible rfl))
            try simp only [Act.put, List.setIfInBounds_toArray, List.set_cons_zero, List.set_cons_succ]
            refine wpAnyH_take (i := 16) (oi := ⟨_, _, _, _, _, _⟩) (v := ?_) rfl (by kernel_rfl) (by kernel_rfl) (by kernel_rfl) (fun _ _ _ h => h) (Or.inl ⟨by rfl, ?_⟩) hHeld ?_
            rotate_left
            · (intro w hSw; (try dsimp only at hSw); go_simp; try (with_reducible rfl))
            try simp only [Act.put, List.setIfInBounds_toArray, List.set_cons_zero, List.set_cons_succ]
            refine wpAnyH_ready (rs := [14]) (by kernel_rfl) (by simp) ?_
            refine (AllReadyH.cons (o := ⟨_, _, _, _, _, _⟩) rfl (fun K hK => ?_) AllReadyH.nil)
            go_simp
            go_at_call 7
            refine (implMany_calls 0 0 0 (encAllBytes cs) _ _ HE.out.1 (by omega) (he.below hHeld.1)).mono ?_
            rintro e w9 ⟨x9, rfl, hx9, hb9⟩
            rw [HE.out.2.1, HE.out.2.2.2]
            rw [HE.out.2.2.1] at hx9
            have hr9 := hx9.read
            obtain ⟨a11, c11, rfl, hx9⟩ := hx9
            clear hx9
            try go_wp2_with fail
            refine hK.out _ _ ?_ ?_
            · (try dsimp only); exact kept2 hHeld hb9
            clear hHeld hK K
            intro hHeld
            try simp only [Act.put, List.setIfInBounds_toArray, List.set_cons_zero, List.set_cons_succ]
            refine wpAnyH_take (i := 15) (oi := ⟨_, _, _, _, _, _⟩) (v := ?_) rfl (by kernel_rfl) (by kernel_rfl) (by kernel_rfl) (fun _ _ _ h => h) (Or.inl ⟨by rfl, ?_⟩) hHeld ?_
            rotate_left
            · (intro w hSw; (try dsimp only at hSw); go_simp; try (with_reducible rfl))
            try simp only [Act.put, List.setIfInBounds_toArray, List.set_cons_zero, List.set_cons_succ]
            refine wpAnyH_ready (rs := [17]) (by kernel_rfl) (by simp) ?_
            refine (AllReadyH.cons (o := ⟨_, _, _, _, _, _⟩) rfl (fun K hK => ?_) AllReadyH.nil)
            go_simp
            go_at_call 13
            refine (lwNums_below cs _ _ _ (by omega) hr9 (hcs.below hHeld.1)).mono ?_
            rintro e w9 ⟨rfl, hb9⟩
            clear hr9
            try go_wp2_with fail
            refine hK.out _ _ ?_ ?_
            · (try dsimp only); exact kept2 hHeld hb9
            clear hHeld hK K
            intro hHeld
            try simp only [Act.put, List.setIfInBounds_toArray, List.set_cons_zero, List.set_cons_succ]
            refine wpAnyH_take (i := 18) (oi := ⟨_, _, _, _, _, _⟩) (v := ?_) rfl (by kernel_rfl) (by kernel_rfl) (by kernel_rfl) (fun _ _ _ h => h) (Or.inl ⟨by rfl, ?_⟩) hHeld ?_
            rotate_left
            · (intro w hSw; (try dsimp only at hSw); go_simp; try (with_reducible rfl))
            try simp only [Act.put, List.setIfInBounds_toArray, List.set_cons_zero, List.set_cons_succ]
            refine wpAnyH_take (i := 19) (oi := ⟨_, _, _, _, _, _⟩) (v := ?_) rfl (by kernel_rfl) (by kernel_rfl) (by kernel_rfl) (fun _ _ _ h => h) (Or.inl ⟨by rfl, ?_⟩) hHeld ?_
            rotate_left
            · (intro w hSw; (try dsimp only at hSw); go_simp; try (with_reducible rfl))
            try simp only [Act.put, List.setIfInBounds_toArray, List.set_cons_zero, List.set_cons_succ]
            refine wpAnyH_take (i := 20) (oi := ⟨_, _, _, _, _, _⟩) (v := ?_) rfl (by kernel_rfl) (by kernel_rfl) (by kernel_rfl) (fun _ _ _ h => h) (Or.inl ⟨by rfl, ?_⟩) hHeld ?_
            rotate_left
            · (intro w hSw; (try dsimp only at hSw); go_simp; try (with_reducible rfl))
            try simp only [Act.put, List.setIfInBounds_toArray, List.set_cons_zero, List.set_cons_succ]
            refine wpAnyH_take (i := 21) (oi := ⟨_, _, _, _, _, _⟩) (v := ?_) rfl (by kernel_rfl) (by kernel_rfl) (by kernel_rfl) (fun _ _ _ h => h) (Or.inl ⟨by rfl, ?_⟩) hHeld ?_
            rotate_left
            · (intro w hSw; (try dsimp only at hSw); go_simp; try (with_reducible rfl))
            try simp only [Act.put, List.setIfInBounds_toArray, List.set_cons_zero, List.set_cons_succ]
            refine wpAnyH_take (i := 22) (oi := ⟨_, _, _, _, _, _⟩) (v := ?_) rfl (by kernel_rfl) (by kernel_rfl) (by kernel_rfl) (fun _ _ _ h => h) (Or.inl ⟨by rfl, ?_⟩) hHeld ?_
            rotate_left
            · (intro w hSw; (try dsimp only at hSw); go_simp; try (with_reducible rfl))
            try simp only [Act.put, List.setIfInBounds_toArray, List.set_cons_zero, List.set_cons_succ]
            refine wpAnyH_ready (rs := [23]) (by kernel_rfl) (by simp) ?_
            refine (AllReadyH.cons (o := ⟨_, _, _, _, _, _⟩) rfl (fun K hK => ?_) AllReadyH.nil)
            go_simp
            go_at_call 7
            refine (implMany_calls 0 0 0 (encAllBytes cs) _ _ HE.out.1 (by omega) (he.below hHeld.1)).mono ?_
            rintro e w9 ⟨x9, rfl, hx9, hb9⟩
            rw [HE.out.2.1, HE.out.2.2.2]
            obtain ⟨a11, c11, rfl, hx9⟩ := hx9
            clear hx9
            try go_wp2_with fail
            refine hK.out _ _ ?_ ?_
            · (try dsimp only); exact kept2 hHeld hb9
            clear hHeld hK K
            intro hHeld
            try simp only [Act.put, List.setIfInBounds_toArray, List.set_cons_zero, List.set_cons_succ]
            refine wpAnyH_take (i := 24) (oi := ⟨_, _, _, _, _, _⟩) (v := ?_) rfl (by kernel_rfl) (by kernel_rfl) (by kernel_rfl) (fun _ _ _ h => h) (Or.inl ⟨by rfl, ?_⟩) hHeld ?_
            rotate_left
            · (intro w hSw; (try dsimp only at hSw); go_simp; try (with_reducible rfl))
            try simp only [Act.put, List.setIfInBounds_toArray, List.set_cons_zero, List.set_cons_succ]
            refine wpAnyH_take (i := 25) (oi := ⟨_, _, _, _, _, _⟩) (v := ?_) rfl (by kernel_rfl) (by kernel_rfl) (by kernel_rfl) (fun _ _ _ h => h) (Or.inl ⟨by rfl, ?_⟩) hHeld ?_
            rotate_left
            · (intro w hSw; (try dsimp only at hSw); go_simp; try (with_reducible rfl))
            try simp only [Act.put, List.setIfInBounds_toArray, List.set_cons_zero, List.set_cons_succ]
            refine wpAnyH_take (i := 26) (oi := ⟨_, _, _, _, _, _⟩) (v := ?_) rfl (by kernel_rfl) (by kernel_rfl) (by kernel_rfl) (fun _ _ _ h => h) (Or.inl ⟨by rfl, ?_⟩) hHeld ?_
            rotate_left
            · (intro w hSw; (try dsimp only at hSw); go_simp; try (with_reducible rfl))
            try simp only [Act.put, List.setIfInBounds_toArray, List.set_cons_zero, List.set_cons_succ]
            refine wpAnyH_take (i := 27) (oi := ⟨_, _, _, _, _, _⟩) (v := ?_) rfl (by kernel_rfl) (by kernel_rfl) (by kernel_rfl) (fun _ _ _ h => h) (Or.inl ⟨by rfl, ?_⟩) hHeld ?_
            rotate_left
            · (intro w hSw; (try dsimp only at hSw); go_simp; try (with_reducible rfl))
            try simp only [Act.put, List.setIfInBounds_toArray, List.set_cons_zero, List.set_cons_succ]
            refine wpAnyH_take (i := 28) (oi := ⟨_, _, _, _, _, _⟩) (v := ?_) rfl (by kernel_rfl) (by kernel_rfl) (by kernel_rfl) (fun _ _ _ h => h) (Or.inl ⟨by rfl, ?_⟩) hHeld ?_
            rotate_left
            · (intro w hSw; (try dsimp only at hSw); go_simp; try (with_reducible rfl))
            try simp only [Act.put, List.setIfInBounds_toArray, List.set_cons_zero, List.set_cons_succ]
            refine wpAnyH_take (i := 29) (oi := ⟨_, _, _, _, _, _⟩) (v := ?_) rfl (by kernel_rfl) (by kernel_rfl) (by kernel_rfl) (fun _ _ _ h => h) (Or.inl ⟨by rfl, ?_⟩) hHeld ?_
            rotate_left
            · (intro w hSw; (try dsimp only at hSw); go_simp; try (with_reducible rfl))
            try simp only [Act.put, List.setIfInBounds_toArray, List.set_cons_zero, List.set_cons_succ]
            refine wpAnyH_done (by kernel_rfl) ?_ _
            go_wp2
            go_meet
            exact ⟨rfl, hHeld.1⟩
          · rw [hec] at h0
            have HEC := hide hec
            clear hec
            refine wp_region_held_drew (S := (fun w' => Below W8.heap.size W8 w' ∧ w'.cell? ⟨H, 0, none⟩ = some (.int .i64 2) ∧ w'.cell? ⟨H, 1, none⟩ = some (.slice a10 (encAllBytes cs).length c10))) (by kernel_rfl) ?_ (fun hHeld => ?_)
            · (try dsimp only); exact ⟨Below.drew (Below.refl _ W8), h0, h1⟩
            refine wpAnyH_take (i := 0) (oi := ⟨_, _, _, _, _, _⟩) (v := ?_) rfl (by kernel_rfl) (by kernel_rfl) (by kernel_rfl) (fun _ _ _ h => h) (Or.inl ⟨by rfl, ?_⟩) hHeld ?_
            rotate_left
            · (intro w hSw; (try dsimp only at hSw); go_simp; try (with_reducible rfl))
            try simp only [Act.put, List.setIfInBounds_toArray, List.set_cons_zero, List.set_cons_succ]
            refine wpAnyH_take (i := 1) (oi := ⟨_, _, _, _, _, _⟩) (v := ?_) rfl (by kernel_rfl) (by kernel_rfl) (by kernel_rfl) (fun _ _ _ h => h) (Or.inl ⟨by rfl, ?_⟩) hHeld ?_
            rotate_left
            · (intro w hSw; (try dsimp only at hSw); go_simp; try (with_reducible rfl))
            try simp only [Act.put, List.setIfInBounds_toArray, List.set_cons_zero, List.set_cons_succ]
            refine wpAnyH_take (i := 2) (oi := ⟨_, _, _, _, _, _⟩) (v := ?_) rfl (by kernel_rfl) (by kernel_rfl) (by kernel_rfl) (fun _ _ _ h => h) (Or.inl ⟨by rfl, ?_⟩) hHeld ?_
            rotate_left
            · (intro w hSw; (try dsimp only at hSw); go_simp; try (with_reducible rfl))
            try simp only [Act.put, List.setIfInBounds_toArray, List.set_cons_zero, List.set_cons_succ]
            refine wpAnyH_ready (rs := [3]) (by kernel_rfl) (by simp) ?_
            refine (AllReadyH.cons (o := ⟨_, _, _, _, _, _⟩) rfl (fun K hK => ?_) AllReadyH.nil)
            go_simp
            go_at_call 12
            refine (specEncodeAll_calls cs _ _ (by omega) (hcs.below hHeld.1)).mono ?_
            rintro e w9 ⟨x9, rfl, hx9, hb9⟩
            rw [HEC.out]
            obtain ⟨a11, c11, rfl, hx9⟩ := hx9
            clear hx9
            try go_wp2_with fail
            refine hK.out _ _ ?_ ?_
            · (try dsimp only); exact kept2 hHeld hb9
            clear hHeld hK K
            intro hHeld
            try simp only [Act.put, List.setIfInBounds_toArray, List.set_cons_zero, List.set_cons_succ]
            refine wpAnyH_take (i := 4) (oi := ⟨_, _, _, _, _, _⟩) (v := ?_) rfl (by kernel_rfl) (by kernel_rfl) (by kernel_rfl) (fun _ _ _ h => h) (Or.inl ⟨by rfl, ?_⟩) hHeld ?_
            rotate_left
            · (intro w hSw; (try dsimp only at hSw); go_simp; try (with_reducible rfl))
            try simp only [Act.put, List.setIfInBounds_toArray, List.set_cons_zero, List.set_cons_succ]
            refine wpAnyH_take (i := 5) (oi := ⟨_, _, _, _, _, _⟩) (v := ?_) rfl (by kernel_rfl) (by kernel_rfl) (by kernel_rfl) (fun _ _ _ h => h) (Or.inl ⟨by rfl, ?_⟩) hHeld ?_
            rotate_left
            · (intro w hSw; (try dsimp only at hSw); go_simp; try (with_reducible rfl))
            try simp only [Act.put, List.setIfInBounds_toArray, List.set_cons_zero, List.set_cons_succ]
            refine wpAnyH_take (i := 6) (oi := ⟨_, _, _, _, _, _⟩) (v := ?_) rfl (by kernel_rfl) (by kernel_rfl) (by kernel_rfl) (fun _ _ _ h => h) (Or.inl ⟨by rfl, ?_⟩) hHeld ?_
            rotate_left
            · (intro w hSw; (try dsimp only at hSw); go_simp; try (with_reducible rfl))
            try simp only [Act.put, List.setIfInBounds_toArray, List.set_cons_zero, List.set_cons_succ]
            refine wpAnyH_take (i := 7) (oi := ⟨_, _, _, _, _, _⟩) (v := ?_) rfl (by kernel_rfl) (by kernel_rfl) (by kernel_rfl) (fun _ _ _ h => h) (Or.inl ⟨by rfl, ?_⟩) hHeld ?_
            rotate_left
            · (intro w hSw; (try dsimp only at hSw); go_simp; try (with_reducible rfl))
            try simp only [Act.put, List.setIfInBounds_toArray, List.set_cons_zero, List.set_cons_succ]
            refine wpAnyH_take (i := 8) (oi := ⟨_, _, _, _, _, _⟩) (v := ?_) rfl (by kernel_rfl) (by kernel_rfl) (by kernel_rfl) (fun _ _ _ h => h) (Or.inl ⟨by rfl, ?_⟩) hHeld ?_
            rotate_left
            · (intro w hSw; (try dsimp only at hSw); go_simp; try (with_reducible rfl))
            try simp only [Act.put, List.setIfInBounds_toArray, List.set_cons_zero, List.set_cons_succ]
            refine wpAnyH_take (i := 9) (oi := ⟨_, _, _, _, _, _⟩) (v := ?_) rfl (by kernel_rfl) (by kernel_rfl) (by kernel_rfl) (fun _ _ _ h => h) (Or.inl ⟨by rfl, ?_⟩) hHeld ?_
            rotate_left
            · (intro w hSw; (try dsimp only at hSw); go_simp; try (with_reducible rfl))
            try simp only [Act.put, List.setIfInBounds_toArray, List.set_cons_zero, List.set_cons_succ]
            refine wpAnyH_take (i := 10) (oi := ⟨_, _, _, _, _, _⟩) (v := ?_) rfl (by kernel_rfl) (by kernel_rfl) (by kernel_rfl) (fun _ _ _ h => h) (Or.inl ⟨by rfl, ?_⟩) hHeld ?_
            rotate_left
            · (intro w hSw; (try dsimp only at hSw); go_simp; try (with_reducible rfl))
            try simp only [Act.put, List.setIfInBounds_toArray, List.set_cons_zero, List.set_cons_succ]
            refine wpAnyH_take (i := 11) (oi := ⟨_, _, _, _, _, _⟩) (v := undef) rfl (by kernel_rfl) (by kernel_rfl) (by kernel_rfl) (fun _ _ _ h => h) (Or.inr ⟨by rfl, rfl⟩) hHeld ?_
            try simp only [Act.put, List.setIfInBounds_toArray, List.set_cons_zero, List.set_cons_succ]
            refine wpAnyH_take (i := 12) (oi := ⟨_, _, _, _, _, _⟩) (v := undef) rfl (by kernel_rfl) (by kernel_rfl) (by kernel_rfl) (fun _ _ _ h => h) (Or.inr ⟨by rfl, rfl⟩) hHeld ?_
            try simp only [Act.put, List.setIfInBounds_toArray, List.set_cons_zero, List.set_cons_succ]
            refine wpAnyH_take (i := 13) (oi := ⟨_, _, _, _, _, _⟩) (v := undef) rfl (by kernel_rfl) (by kernel_rfl) (by kernel_rfl) (fun _ _ _ h => h) (Or.inr ⟨by rfl, rfl⟩) hHeld ?_
            try simp only [Act.put, List.setIfInBounds_toArray, List.set_cons_zero, List.set_cons_succ]
            refine wpAnyH_take (i := 14) (oi := ⟨_, _, _, _, _, _⟩) (v := undef) rfl (by kernel_rfl) (by kernel_rfl) (by kernel_rfl) (fun _ _ _ h => h) (Or.inr ⟨by rfl, rfl⟩) hHeld ?_
            try simp only [Act.put, List.setIfInBounds_toArray, List.set_cons_zero, List.set_cons_succ]
            refine wpAnyH_take (i := 15) (oi := ⟨_, _, _, _, _, _⟩) (v := undef) rfl (by kernel_rfl) (by kernel_rfl) (by kernel_rfl) (fun _ _ _ h => h) (Or.inr ⟨by rfl, rfl⟩) hHeld ?_
            try simp only [Act.put, List.setIfInBounds_toArray, List.set_cons_zero, List.set_cons_succ]
            refine wpAnyH_take (i := 16) (oi := ⟨_, _, _, _, _, _⟩) (v := undef) rfl (by kernel_rfl) (by kernel_rfl) (by kernel_rfl) (fun _ _ _ h => h) (Or.inr ⟨by rfl, rfl⟩) hHeld ?_
            try simp only [Act.put, List.setIfInBounds_toArray, List.set_cons_zero, List.set_cons_succ]
            refine wpAnyH_take (i := 17) (oi := ⟨_, _, _, _, _, _⟩) (v := undef) rfl (by kernel_rfl) (by kernel_rfl) (by kernel_rfl) (fun _ _ _ h => h) (Or.inr ⟨by rfl, rfl⟩) hHeld ?_
            try simp only [Act.put, List.setIfInBounds_toArray, List.set_cons_zero, List.set_cons_succ]
            refine wpAnyH_take (i := 18) (oi := ⟨_, _, _, _, _, _⟩) (v := undef) rfl (by kernel_rfl) (by kernel_rfl) (by kernel_rfl) (fun _ _ _ h => h) (Or.inr ⟨by rfl, rfl⟩) hHeld ?_
            try simp only [Act.put, List.setIfInBounds_toArray, List.set_cons_zero, List.set_cons_succ]
            refine wpAnyH_take (i := 19) (oi := ⟨_, _, _, _, _, _⟩) (v := undef) rfl (by kernel_rfl) (by kernel_rfl) (by kernel_rfl) (fun _ _ _ h => h) (Or.inr ⟨by rfl, rfl⟩) hHeld ?_
            try simp only [Act.put, List.setIfInBounds_toArray, List.set_cons_zero, List.set_cons_succ]
            refine wpAnyH_take (i := 20) (oi := ⟨_, _, _, _, _, _⟩) (v := undef) rfl (by kernel_rfl) (by kernel_rfl) (by kernel_rfl) (fun _ _ _ h => h) (Or.inr ⟨by rfl, rfl⟩) hHeld ?_
            try simp only [Act.put, List.setIfInBounds_toArray, List.set_cons_zero, List.set_cons_succ]
            refine wpAnyH_take (i := 21) (oi := ⟨_, _, _, _, _, _⟩) (v := undef) rfl (by kernel_rfl) (by kernel_rfl) (by kernel_rfl) (fun _ _ _ h => h) (Or.inr ⟨by rfl, rfl⟩) hHeld ?_
            try simp only [Act.put, List.setIfInBounds_toArray, List.set_cons_zero, List.set_cons_succ]
            refine wpAnyH_take (i := 22) (oi := ⟨_, _, _, _, _, _⟩) (v := undef) rfl (by kernel_rfl) (by kernel_rfl) (by kernel_rfl) (fun _ _ _ h => h) (Or.inr ⟨by rfl, rfl⟩) hHeld ?_
            try simp only [Act.put, List.setIfInBounds_toArray, List.set_cons_zero, List.set_cons_succ]
            refine wpAnyH_take (i := 23) (oi := ⟨_, _, _, _, _, _⟩) (v := undef) rfl (by kernel_rfl) (by kernel_rfl) (by kernel_rfl) (fun _ _ _ h => h) (Or.inr ⟨by rfl, rfl⟩) hHeld ?_
            try simp only [Act.put, List.setIfInBounds_toArray, List.set_cons_zero, List.set_cons_succ]
            refine wpAnyH_take (i := 24) (oi := ⟨_, _, _, _, _, _⟩) (v := undef) rfl (by kernel_rfl) (by kernel_rfl) (by kernel_rfl) (fun _ _ _ h => h) (Or.inr ⟨by rfl, rfl⟩) hHeld ?_
            try simp only [Act.put, List.setIfInBounds_toArray, List.set_cons_zero, List.set_cons_succ]
            refine wpAnyH_take (i := 25) (oi := ⟨_, _, _, _, _, _⟩) (v := undef) rfl (by kernel_rfl) (by kernel_rfl) (by kernel_rfl) (fun _ _ _ h => h) (Or.inr ⟨by rfl, rfl⟩) hHeld ?_
            try simp only [Act.put, List.setIfInBounds_toArray, List.set_cons_zero, List.set_cons_succ]
            refine wpAnyH_take (i := 26) (oi := ⟨_, _, _, _, _, _⟩) (v := undef) rfl (by kernel_rfl) (by kernel_rfl) (by kernel_rfl) (fun _ _ _ h => h) (Or.inr ⟨by rfl, rfl⟩) hHeld ?_
            try simp only [Act.put, List.setIfInBounds_toArray, List.set_cons_zero, List.set_cons_succ]
            refine wpAnyH_take (i := 27) (oi := ⟨_, _, _, _, _, _⟩) (v := undef) rfl (by kernel_rfl) (by kernel_rfl) (by kernel_rfl) (fun _ _ _ h => h) (Or.inr ⟨by rfl, rfl⟩) hHeld ?_
            try simp only [Act.put, List.setIfInBounds_toArray, List.set_cons_zero, List.set_cons_succ]
            refine wpAnyH_take (i := 28) (oi := ⟨_, _, _, _, _, _⟩) (v := ?_) rfl (by kernel_rfl) (by kernel_rfl) (by kernel_rfl) (fun _ _ _ h => h) (Or.inl ⟨by rfl, ?_⟩) hHeld ?_
            rotate_left
            · (intro w hSw; (try dsimp only at hSw); go_simp; try (with_reducible rfl))
            try simp only [Act.put, List.setIfInBounds_toArray, List.set_cons_zero, List.set_cons_succ]
            refine wpAnyH_take (i := 29) (oi := ⟨_, _, _, _, _, _⟩) (v := ?_) rfl (by kernel_rfl) (by kernel_rfl) (by kernel_rfl) (fun _ _ _ h => h) (Or.inl ⟨by rfl, ?_⟩) hHeld ?_
            rotate_left
            · (intro w hSw; (try dsimp only at hSw); go_simp; try (with_reducible rfl))
            try simp only [Act.put, List.setIfInBounds_toArray, List.set_cons_zero, List.set_cons_succ]
            refine wpAnyH_done (by kernel_rfl) ?_ _
            go_wp2
            go_meet
            exact ⟨rfl, hHeld.1⟩
          · rw [hec] at h0
            have HEC := hide hec
            clear hec
            refine wp_region_held_drew (S := (fun w' => Below W8.heap.size W8 w' ∧ w'.cell? ⟨H, 0, none⟩ = some (.int .i64 3) ∧ w'.cell? ⟨H, 1, none⟩ = some (.slice a10 (encAllBytes cs).length c10))) (by kernel_rfl) ?_ (fun hHeld => ?_)
            · (try dsimp only); exact ⟨Below.drew (Below.refl _ W8), h0, h1⟩
            refine wpAnyH_take (i := 0) (oi := ⟨_, _, _, _, _, _⟩) (v := ?_) rfl (by kernel_rfl) (by kernel_rfl) (by kernel_rfl) (fun _ _ _ h => h) (Or.inl ⟨by rfl, ?_⟩) hHeld ?_
            rotate_left
            · (intro w hSw; (try dsimp only at hSw); go_simp; try (with_reducible rfl))
            try simp only [Act.put, List.setIfInBounds_toArray, List.set_cons_zero, List.set_cons_succ]
            refine wpAnyH_take (i := 1) (oi := ⟨_, _, _, _, _, _⟩) (v := ?_) rfl (by kernel_rfl) (by kernel_rfl) (by kernel_rfl) (fun _ _ _ h => h) (Or.inl ⟨by rfl, ?_⟩) hHeld ?_
            rotate_left
            · (intro w hSw; (try dsimp only at hSw); go_simp; try (with_reducible rfl))
            try simp only [Act.put, List.setIfInBounds_toArray, List.set_cons_zero, List.set_cons_succ]
            refine wpAnyH_take (i := 2) (oi := ⟨_, _, _, _, _, _⟩) (v := ?_) rfl (by kernel_rfl) (by kernel_rfl) (by kernel_rfl) (fun _ _ _ h => h) (Or.inl ⟨by rfl, ?_⟩) hHeld ?_
            rotate_left
            · (intro w hSw; (try dsimp only at hSw); go_simp; try (with_reducible rfl))
            try simp only [Act.put, List.setIfInBounds_toArray, List.set_cons_zero, List.set_cons_succ]
            refine wpAnyH_ready (rs := [3]) (by kernel_rfl) (by simp) ?_
            refine (AllReadyH.cons (o := ⟨_, _, _, _, _, _⟩) rfl (fun K hK => ?_) AllReadyH.nil)
            go_simp
            go_at_call 12
            refine (specEncodeAll_calls cs _ _ (by omega) (hcs.below hHeld.1)).mono ?_
            rintro e w9 ⟨x9, rfl, hx9, hb9⟩
            rw [HEC.out]
            obtain ⟨a11, c11, rfl, hx9⟩ := hx9
            clear hx9
            try go_wp2_with fail
            refine hK.out _ _ ?_ ?_
            · (try dsimp only); exact kept2 hHeld hb9
            clear hHeld hK K
            intro hHeld
            try simp only [Act.put, List.setIfInBounds_toArray, List.set_cons_zero, List.set_cons_succ]
            refine wpAnyH_take (i := 4) (oi := ⟨_, _, _, _, _, _⟩) (v := ?_) rfl (by kernel_rfl) (by kernel_rfl) (by kernel_rfl) (fun _ _ _ h => h) (Or.inl ⟨by rfl, ?_⟩) hHeld ?_
            rotate_left
            · (intro w hSw; (try dsimp only at hSw); go_simp; try (with_reducible rfl))
            try simp only [Act.put, List.setIfInBounds_toArray, List.set_cons_zero, List.set_cons_succ]
            refine wpAnyH_take (i := 5) (oi := ⟨_, _, _, _, _, _⟩) (v := ?_) rfl (by kernel_rfl) (by kernel_rfl) (by kernel_rfl) (fun _ _ _ h => h) (Or.inl ⟨by rfl, ?_⟩) hHeld ?_
            rotate_left
            · (intro w hSw; (try dsimp only at hSw); go_simp; try (with_reducible rfl))
            try simp only [Act.put, List.setIfInBounds_toArray, List.set_cons_zero, List.set_cons_succ]
            refine wpAnyH_take (i := 6) (oi := ⟨_, _, _, _, _, _⟩) (v := ?_) rfl (by kernel_rfl) (by kernel_rfl) (by kernel_rfl) (fun _ _ _ h => h) (Or.inl ⟨by rfl, ?_⟩) hHeld ?_
            rotate_left
            · (intro w hSw; (try dsimp only at hSw); go_simp; try (with_reducible rfl))
            try simp only [Act.put, List.setIfInBounds_toArray, List.set_cons_zero, List.set_cons_succ]
            refine wpAnyH_take (i := 7) (oi := ⟨_, _, _, _, _, _⟩) (v := ?_) rfl (by kernel_rfl) (by kernel_rfl) (by kernel_rfl) (fun _ _ _ h => h) (Or.inl ⟨by rfl, ?_⟩) hHeld ?_
            rotate_left
            · (intro w hSw; (try dsimp only at hSw); go_simp; try (with_reducible rfl))
            try simp only [Act.put, List.setIfInBounds_toArray, List.set_cons_zero, List.set_cons_succ]
            refine wpAnyH_take (i := 8) (oi := ⟨_, _, _, _, _, _⟩) (v := ?_) rfl (by kernel_rfl) (by kernel_rfl) (by kernel_rfl) (fun _ _ _ h => h) (Or.inl ⟨by rfl, ?_⟩) hHeld ?_
            rotate_left
            · (intro w hSw; (try dsimp only at hSw); go_simp; try (with_reducible rfl))
            try simp only [Act.put, List.setIfInBounds_toArray, List.set_cons_zero, List.set_cons_succ]
            refine wpAnyH_take (i := 9) (oi := ⟨_, _, _, _, _, _⟩) (v := ?_) rfl (by kernel_rfl) (by kernel_rfl) (by kernel_rfl) (fun _ _ _ h => h) (Or.inl ⟨by rfl, ?_⟩) hHeld ?_
            rotate_left
            · (intro w hSw; (try dsimp only at hSw); go_simp; try (with_reducible rfl))
            try simp only [Act.put, List.setIfInBounds_toArray, List.set_cons_zero, List.set_cons_succ]
            refine wpAnyH_take (i := 10) (oi := ⟨_, _, _, _, _, _⟩) (v := ?_) rfl (by kernel_rfl) (by kernel_rfl) (by kernel_rfl) (fun _ _ _ h => h) (Or.inl ⟨by rfl, ?_⟩) hHeld ?_
            rotate_left
            · (intro w hSw; (try dsimp only at hSw); go_simp; try (with_reducible rfl))
            try simp only [Act.put, List.setIfInBounds_toArray, List.set_cons_zero, List.set_cons_succ]
            refine wpAnyH_take (i := 11) (oi := ⟨_, _, _, _, _, _⟩) (v := undef) rfl (by kernel_rfl) (by kernel_rfl) (by kernel_rfl) (fun _ _ _ h => h) (Or.inr ⟨by rfl, rfl⟩) hHeld ?_
            try simp only [Act.put, List.setIfInBounds_toArray, List.set_cons_zero, List.set_cons_succ]
            refine wpAnyH_take (i := 12) (oi := ⟨_, _, _, _, _, _⟩) (v := undef) rfl (by kernel_rfl) (by kernel_rfl) (by kernel_rfl) (fun _ _ _ h => h) (Or.inr ⟨by rfl, rfl⟩) hHeld ?_
            try simp only [Act.put, List.setIfInBounds_toArray, List.set_cons_zero, List.set_cons_succ]
            refine wpAnyH_take (i := 13) (oi := ⟨_, _, _, _, _, _⟩) (v := undef) rfl (by kernel_rfl) (by kernel_rfl) (by kernel_rfl) (fun _ _ _ h => h) (Or.inr ⟨by rfl, rfl⟩) hHeld ?_
            try simp only [Act.put, List.setIfInBounds_toArray, List.set_cons_zero, List.set_cons_succ]
            refine wpAnyH_take (i := 14) (oi := ⟨_, _, _, _, _, _⟩) (v := undef) rfl (by kernel_rfl) (by kernel_rfl) (by kernel_rfl) (fun _ _ _ h => h) (Or.inr ⟨by rfl, rfl⟩) hHeld ?_
            try simp only [Act.put, List.setIfInBounds_toArray, List.set_cons_zero, List.set_cons_succ]
            refine wpAnyH_take (i := 15) (oi := ⟨_, _, _, _, _, _⟩) (v := undef) rfl (by kernel_rfl) (by kernel_rfl) (by kernel_rfl) (fun _ _ _ h => h) (Or.inr ⟨by rfl, rfl⟩) hHeld ?_
            try simp only [Act.put, List.setIfInBounds_toArray, List.set_cons_zero, List.set_cons_succ]
            refine wpAnyH_take (i := 16) (oi := ⟨_, _, _, _, _, _⟩) (v := undef) rfl (by kernel_rfl) (by kernel_rfl) (by kernel_rfl) (fun _ _ _ h => h) (Or.inr ⟨by rfl, rfl⟩) hHeld ?_
            try simp only [Act.put, List.setIfInBounds_toArray, List.set_cons_zero, List.set_cons_succ]
            refine wpAnyH_take (i := 17) (oi := ⟨_, _, _, _, _, _⟩) (v := undef) rfl (by kernel_rfl) (by kernel_rfl) (by kernel_rfl) (fun _ _ _ h => h) (Or.inr ⟨by rfl, rfl⟩) hHeld ?_
            try simp only [Act.put, List.setIfInBounds_toArray, List.set_cons_zero, List.set_cons_succ]
            refine wpAnyH_take (i := 18) (oi := ⟨_, _, _, _, _, _⟩) (v := undef) rfl (by kernel_rfl) (by kernel_rfl) (by kernel_rfl) (fun _ _ _ h => h) (Or.inr ⟨by rfl, rfl⟩) hHeld ?_
            try simp only [Act.put, List.setIfInBounds_toArray, List.set_cons_zero, List.set_cons_succ]
            refine wpAnyH_take (i := 19) (oi := ⟨_, _, _, _, _, _⟩) (v := undef) rfl (by kernel_rfl) (by kernel_rfl) (by kernel_rfl) (fun _ _ _ h => h) (Or.inr ⟨by rfl, rfl⟩) hHeld ?_
            try simp only [Act.put, List.setIfInBounds_toArray, List.set_cons_zero, List.set_cons_succ]
            refine wpAnyH_take (i := 20) (oi := ⟨_, _, _, _, _, _⟩) (v := undef) rfl (by kernel_rfl) (by kernel_rfl) (by kernel_rfl) (fun _ _ _ h => h) (Or.inr ⟨by rfl, rfl⟩) hHeld ?_
            try simp only [Act.put, List.setIfInBounds_toArray, List.set_cons_zero, List.set_cons_succ]
            refine wpAnyH_take (i := 21) (oi := ⟨_, _, _, _, _, _⟩) (v := undef) rfl (by kernel_rfl) (by kernel_rfl) (by kernel_rfl) (fun _ _ _ h => h) (Or.inr ⟨by rfl, rfl⟩) hHeld ?_
            try simp only [Act.put, List.setIfInBounds_toArray, List.set_cons_zero, List.set_cons_succ]
            refine wpAnyH_take (i := 22) (oi := ⟨_, _, _, _, _, _⟩) (v := undef) rfl (by kernel_rfl) (by kernel_rfl) (by kernel_rfl) (fun _ _ _ h => h) (Or.inr ⟨by rfl, rfl⟩) hHeld ?_
            try simp only [Act.put, List.setIfInBounds_toArray, List.set_cons_zero, List.set_cons_succ]
            refine wpAnyH_take (i := 23) (oi := ⟨_, _, _, _, _, _⟩) (v := undef) rfl (by kernel_rfl) (by kernel_rfl) (by kernel_rfl) (fun _ _ _ h => h) (Or.inr ⟨by rfl, rfl⟩) hHeld ?_
            try simp only [Act.put, List.setIfInBounds_toArray, List.set_cons_zero, List.set_cons_succ]
            refine wpAnyH_take (i := 24) (oi := ⟨_, _, _, _, _, _⟩) (v := undef) rfl (by kernel_rfl) (by kernel_rfl) (by kernel_rfl) (fun _ _ _ h => h) (Or.inr ⟨by rfl, rfl⟩) hHeld ?_
            try simp only [Act.put, List.setIfInBounds_toArray, List.set_cons_zero, List.set_cons_succ]
            refine wpAnyH_take (i := 25) (oi := ⟨_, _, _, _, _, _⟩) (v := undef) rfl (by kernel_rfl) (by kernel_rfl) (by kernel_rfl) (fun _ _ _ h => h) (Or.inr ⟨by rfl, rfl⟩) hHeld ?_
            try simp only [Act.put, List.setIfInBounds_toArray, List.set_cons_zero, List.set_cons_succ]
            refine wpAnyH_take (i := 26) (oi := ⟨_, _, _, _, _, _⟩) (v := undef) rfl (by kernel_rfl) (by kernel_rfl) (by kernel_rfl) (fun _ _ _ h => h) (Or.inr ⟨by rfl, rfl⟩) hHeld ?_
            try simp only [Act.put, List.setIfInBounds_toArray, List.set_cons_zero, List.set_cons_succ]
            refine wpAnyH_take (i := 27) (oi := ⟨_, _, _, _, _, _⟩) (v := undef) rfl (by kernel_rfl) (by kernel_rfl) (by kernel_rfl) (fun _ _ _ h => h) (Or.inr ⟨by rfl, rfl⟩) hHeld ?_
            try simp only [Act.put, List.setIfInBounds_toArray, List.set_cons_zero, List.set_cons_succ]
            refine wpAnyH_take (i := 28) (oi := ⟨_, _, _, _, _, _⟩) (v := ?_) rfl (by kernel_rfl) (by kernel_rfl) (by kernel_rfl) (fun _ _ _ h => h) (Or.inl ⟨by rfl, ?_⟩) hHeld ?_
            rotate_left
            · (intro w hSw; (try dsimp only at hSw); go_simp; try (with_reducible rfl))
            try simp only [Act.put, List.setIfInBounds_toArray, List.set_cons_zero, List.set_cons_succ]
            refine wpAnyH_take (i := 29) (oi := ⟨_, _, _, _, _, _⟩) (v := ?_) rfl (by kernel_rfl) (by kernel_rfl) (by kernel_rfl) (fun _ _ _ h => h) (Or.inl ⟨by rfl, ?_⟩) hHeld ?_
            rotate_left
            · (intro w hSw; (try dsimp only at hSw); go_simp; try (with_reducible rfl))
            try simp only [Act.put, List.setIfInBounds_toArray, List.set_cons_zero, List.set_cons_succ]
            refine wpAnyH_done (by kernel_rfl) ?_ _
            go_wp2
            go_meet
            exact ⟨rfl, hHeld.1⟩
        case rest =>
          obtain ⟨rfl, q12⟩ := hcut
          rename World => W9
          replace D1 := D1.below q12
          replace R1 := R1.below q12
          replace hy := hy.below q12
          replace hx := hx.below q12
          replace Z1 := Z1.below q12
          replace hx1 := hx1.below q12
          replace Z2 := Z2.below q12
          replace hx2 := hx2.below q12
          replace q1 := q1.trans (q12.mono q1.size)
          have HFIN := hide (dm_fault hc HYB.out)
          have HC := hide hc
          have hTT : T1.length + T2.length ≤ 4000 := by have := PT.out; rw [this, List.length_append] at hTl; exact hTl
          clear q12 h0 h1 he hcs hc
          obtain ⟨i0, hi, hz0, hz1, hz2⟩ := info_parts info_i64
          go_wp2_with fail
          have mkS : ∀ w', Below W9.heap.size W9 w' → (Below W9.heap.size W9 w' ∧ w'.cell? ⟨D, 0, none⟩ = some (.int .i64 l) ∧ w'.cell? ⟨D, 1, none⟩ = some (.int .i64 lo) ∧ w'.cell? ⟨D, 2, none⟩ = some (.int .i64 v) ∧ w'.cell? ⟨E, 1, none⟩ = some (.slice ax (dmT l lo v ys).length cx) ∧ w'.cell? ⟨E, 2, none⟩ = some (.int .i64 (dmL l lo v ys)) ∧ w'.cell? ⟨E, 3, none⟩ = some (.int .i64 (dmLo l lo v ys)) ∧ w'.cell? ⟨E, 4, none⟩ = some (.int .i64 (dmV l lo v ys)) ∧ w'.cell? ⟨F, 1, none⟩ = some (.slice a1 T1.length c1) ∧ w'.cell? ⟨G, 1, none⟩ = some (.slice a2 T2.length c2) ∧ w'.cell? ⟨G, 2, none⟩ = some (.int .i64 (dmL l lo v ys)) ∧ w'.cell? ⟨G, 3, none⟩ = some (.int .i64 (dmLo l lo v ys)) ∧ w'.cell? ⟨G, 4, none⟩ = some (.int .i64 (dmV l lo v ys))) := fun w' hB => ⟨hB, cellb hB D1.c0, cellb hB D1.c1, cellb hB D1.c2, cellb hB R1.c1, cellb hB R1.c2, cellb hB R1.c3, cellb hB R1.c4, cellb hB Z1.c1, cellb hB Z2.c1, cellb hB Z2.c2, cellb hB Z2.c3, cellb hB Z2.c4⟩
          refine wp_region_held_drew (S := (fun w' => (Below W9.heap.size W9 w' ∧ w'.cell? ⟨D, 0, none⟩ = some (.int .i64 l) ∧ w'.cell? ⟨D, 1, none⟩ = some (.int .i64 lo) ∧ w'.cell? ⟨D, 2, none⟩ = some (.int .i64 v) ∧ w'.cell? ⟨E, 1, none⟩ = some (.slice ax (dmT l lo v ys).length cx) ∧ w'.cell? ⟨E, 2, none⟩ = some (.int .i64 (dmL l lo v ys)) ∧ w'.cell? ⟨E, 3, none⟩ = some (.int .i64 (dmLo l lo v ys)) ∧ w'.cell? ⟨E, 4, none⟩ = some (.int .i64 (dmV l lo v ys)) ∧ w'.cell? ⟨F, 1, none⟩ = some (.slice a1 T1.length c1) ∧ w'.cell? ⟨G, 1, none⟩ = some (.slice a2 T2.length c2) ∧ w'.cell? ⟨G, 2, none⟩ = some (.int .i64 (dmL l lo v ys)) ∧ w'.cell? ⟨G, 3, none⟩ = some (.int .i64 (dmLo l lo v ys)) ∧ w'.cell? ⟨G, 4, none⟩ = some (.int .i64 (dmV l lo v ys))))) (by kernel_rfl) ?_ (fun hHeld => ?_)
          · (try dsimp only); exact mkS _ (Below.drew (Below.refl _ W9))
          have hB : Below W9.heap.size W9 W9.drew := Below.drew (Below.refl _ W9)
          generalize W9.drew = V at *
          refine wpAnyH_take (i := 1) (oi := ⟨_, _, _, _, _, _⟩) (v := ?_) rfl (by kernel_rfl) (by kernel_rfl) (by kernel_rfl) (fun _ _ _ h => h) (Or.inl ⟨by rfl, ?_⟩) hHeld ?_
          rotate_left
          · (intro w hSw; (try dsimp only at hSw); go_simp; try (with_reducible rfl))
          try simp only [Act.put, List.setIfInBounds_toArray, List.set_cons_zero, List.set_cons_succ]
          refine wpAnyH_take (i := 2) (oi := ⟨_, _, _, _, _, _⟩) (v := ?_) rfl (by kernel_rfl) (by kernel_rfl) (by kernel_rfl) (fun _ _ _ h => h) (Or.inl ⟨by rfl, ?_⟩) hHeld ?_
          rotate_left
          · (intro w hSw; (try dsimp only at hSw); go_simp; try (with_reducible rfl))
          try simp only [Act.put, List.setIfInBounds_toArray, List.set_cons_zero, List.set_cons_succ]
          refine wpAnyH_take (i := 4) (oi := ⟨_, _, _, _, _, _⟩) (v := ?_) rfl (by kernel_rfl) (by kernel_rfl) (by kernel_rfl) (fun _ _ _ h => h) (Or.inl ⟨by rfl, ?_⟩) hHeld ?_
          rotate_left
          · (intro w hSw; (try dsimp only at hSw); go_simp; try (with_reducible rfl))
          try simp only [Act.put, List.setIfInBounds_toArray, List.set_cons_zero, List.set_cons_succ]
          refine wpAnyH_take (i := 5) (oi := ⟨_, _, _, _, _, _⟩) (v := ?_) rfl (by kernel_rfl) (by kernel_rfl) (by kernel_rfl) (fun _ _ _ h => h) (Or.inl ⟨by rfl, ?_⟩) hHeld ?_
          rotate_left
          · (intro w hSw; (try dsimp only at hSw); go_simp; try (with_reducible rfl))
          try simp only [Act.put, List.setIfInBounds_toArray, List.set_cons_zero, List.set_cons_succ]
          refine wpAnyH_take (i := 7) (oi := ⟨_, _, _, _, _, _⟩) (v := ?_) rfl (by kernel_rfl) (by kernel_rfl) (by kernel_rfl) (fun _ _ _ h => h) (Or.inl ⟨by rfl, ?_⟩) hHeld ?_
          rotate_left
          · (intro w hSw; (try dsimp only at hSw); go_simp; try (with_reducible rfl))
          try simp only [Act.put, List.setIfInBounds_toArray, List.set_cons_zero, List.set_cons_succ]
          refine wpAnyH_take (i := 8) (oi := ⟨_, _, _, _, _, _⟩) (v := ?_) rfl (by kernel_rfl) (by kernel_rfl) (by kernel_rfl) (fun _ _ _ h => h) (Or.inl ⟨by rfl, ?_⟩) hHeld ?_
          rotate_left
          · (intro w hSw; (try dsimp only at hSw); go_simp; try (with_reducible rfl))
          try simp only [Act.put, List.setIfInBounds_toArray, List.set_cons_zero, List.set_cons_succ]
          refine wpAnyH_ready (rs := [0]) (by kernel_rfl) (by simp) ?_
          refine (AllReadyH.cons (o := ⟨_, _, _, _, _, _⟩) rfl (fun K hK => ?_) AllReadyH.nil)
          go_simp
          have own0 : (V.alloc (.cells #[] 2)).ownsRow V.heap.size 2 1 (.slice (some ⟨V.heap.size, 0, none⟩) 0 0) 0 (intVs []) := World.ownsRow_lit (base := V.heap.size) (e := 2) (size := 1) V #[] 0 (Nat.le_refl _) (by simp) rfl
          have zV := hB.size
          replace hB : Below W9.heap.size W9 (V.alloc (.cells #[] 2)) := hB.alloc hB.size _
          have zW : V.heap.size ≤ (V.alloc (.cells #[] 2)).heap.size := by simp
          generalize (V.alloc (.cells #[] 2)) = Va at *
          refine hK.out _ _ ?_ ?_
          · (try dsimp only); exact mkS _ hB
          clear hHeld hK K
          intro hHeld
          try simp only [Act.put, List.setIfInBounds_toArray, List.set_cons_zero, List.set_cons_succ]
          refine wpAnyH_ready (rs := [3]) (by kernel_rfl) (by simp) ?_
          refine (AllReadyH.cons (o := ⟨_, _, _, _, _, _⟩) rfl (fun K hK => ?_) AllReadyH.nil)
          refine step_append_read rfl (.tmp 81) (.tmp 83) 28 rfl V.heap.size 2 i0 (.int .i64 0) 8 Try.underlying28 hi hz0 hz1 hz2 rfl _ (0) ([]) rfl own0 a1 T1 c1 rfl (hx1.below hB) (by unfold maxLen; omega) (by omega) zW ?_
          intro vown3 Vb own3 gr
          replace hB : Below W9.heap.size W9 Vb := hB.grown gr hB.size (fun q hq => by have := (own0.lt q hq).1; omega)
          replace zW : V.heap.size ≤ Vb.heap.size := Nat.le_trans zW gr.size
          clear gr own0
          refine hK.out _ _ ?_ ?_
          · (try dsimp only); exact mkS _ hB
          clear hHeld hK K
          intro hHeld
          try simp only [Act.put, List.setIfInBounds_toArray, List.set_cons_zero, List.set_cons_succ]
          refine wpAnyH_ready (rs := [6]) (by kernel_rfl) (by simp) ?_
          refine (AllReadyH.cons (o := ⟨_, _, _, _, _, _⟩) rfl (fun K hK => ?_) AllReadyH.nil)
          refine step_append_read rfl (.tmp 84) (.tmp 86) 28 rfl V.heap.size 2 i0 (.int .i64 0) 8 Try.underlying28 hi hz0 hz1 hz2 rfl _ (0 + T1.length) ([] ++ T1) rfl own3 a2 T2 c2 rfl (hx2.below hB) (by unfold maxLen; omega) (by omega) zW ?_
          intro vown6 Vc own6 gr
          replace hB : Below W9.heap.size W9 Vc := hB.grown gr hB.size (fun q hq => by have := (own3.lt q hq).1; omega)
          replace zW : V.heap.size ≤ Vc.heap.size := Nat.le_trans zW gr.size
          clear gr own3
          have hr6 : ReadAt .i64 Vc vown6 (dmT l lo v ys) := by rw [PT.out]; exact (own_ints (xs := T1 ++ T2) (by have h := own6; simp only [List.nil_append] at h; exact h) (Nat.le_refl _)).read
          clear own6
          refine hK.out _ _ ?_ ?_
          · (try dsimp only); exact mkS _ hB
          clear hHeld hK K
          intro hHeld
          try simp only [Act.put, List.setIfInBounds_toArray, List.set_cons_zero, List.set_cons_succ]
          refine wpAnyH_ready (rs := [9]) (by kernel_rfl) (by simp) ?_
          refine (AllReadyH.cons (o := ⟨_, _, _, _, _, _⟩) rfl (fun K hK => ?_) AllReadyH.nil)
          go_simp
          go_at_call 13
          refine (lwNums_below (dmT l lo v ys) _ _ _ (by omega) hr6 (hx.below hB)).mono ?_
          rintro e w9 ⟨rfl, hb9⟩
          clear hr6
          replace hB := hB.trans (hb9.mono hB.size)
          clear hb9
          try go_wp2_with fail
          refine hK.out _ _ ?_ ?_
          · (try dsimp only); exact mkS _ hB
          clear hHeld hK K
          intro hHeld
          try simp only [Act.put, List.setIfInBounds_toArray, List.set_cons_zero, List.set_cons_succ]
          refine wpAnyH_take (i := 10) (oi := ⟨_, _, _, _, _, _⟩) (v := ?_) rfl (by kernel_rfl) (by kernel_rfl) (by kernel_rfl) (fun _ _ _ h => h) (Or.inl ⟨by rfl, ?_⟩) hHeld ?_
          rotate_left
          · (intro w hSw; (try dsimp only at hSw); go_simp; try (with_reducible rfl))
          try simp only [Act.put, List.setIfInBounds_toArray, List.set_cons_zero, List.set_cons_succ]
          refine wpAnyH_take (i := 11) (oi := ⟨_, _, _, _, _, _⟩) (v := ?_) rfl (by kernel_rfl) (by kernel_rfl) (by kernel_rfl) (fun _ _ _ h => h) (Or.inl ⟨by rfl, ?_⟩) hHeld ?_
          rotate_left
          · (intro w hSw; (try dsimp only at hSw); go_simp; try (with_reducible rfl))
          try simp only [Act.put, List.setIfInBounds_toArray, List.set_cons_zero, List.set_cons_succ]
          refine wpAnyH_take (i := 12) (oi := ⟨_, _, _, _, _, _⟩) (v := ?_) rfl (by kernel_rfl) (by kernel_rfl) (by kernel_rfl) (fun _ _ _ h => h) (Or.inl ⟨by rfl, ?_⟩) hHeld ?_
          rotate_left
          · (intro w hSw; (try dsimp only at hSw); go_simp; try (with_reducible rfl))
          try simp only [Act.put, List.setIfInBounds_toArray, List.set_cons_zero, List.set_cons_succ]
          refine wpAnyH_take (i := 13) (oi := ⟨_, _, _, _, _, _⟩) (v := ?_) rfl (by kernel_rfl) (by kernel_rfl) (by kernel_rfl) (fun _ _ _ h => h) (Or.inl ⟨by rfl, ?_⟩) hHeld ?_
          rotate_left
          · (intro w hSw; (try dsimp only at hSw); go_simp; try (with_reducible rfl))
          try simp only [Act.put, List.setIfInBounds_toArray, List.set_cons_zero, List.set_cons_succ]
          refine wpAnyH_take (i := 14) (oi := ⟨_, _, _, _, _, _⟩) (v := ?_) rfl (by kernel_rfl) (by kernel_rfl) (by kernel_rfl) (fun _ _ _ h => h) (Or.inl ⟨by rfl, ?_⟩) hHeld ?_
          rotate_left
          · (intro w hSw; (try dsimp only at hSw); go_simp; try (with_reducible rfl))
          try simp only [Act.put, List.setIfInBounds_toArray, List.set_cons_zero, List.set_cons_succ]
          refine wpAnyH_take (i := 15) (oi := ⟨_, _, _, _, _, _⟩) (v := ?_) rfl (by kernel_rfl) (by kernel_rfl) (by kernel_rfl) (fun _ _ _ h => h) (Or.inl ⟨by rfl, ?_⟩) hHeld ?_
          rotate_left
          · (intro w hSw; (try dsimp only at hSw); go_simp; try (with_reducible rfl))
          try simp only [Act.put, List.setIfInBounds_toArray, List.set_cons_zero, List.set_cons_succ]
          refine wpAnyH_take (i := 16) (oi := ⟨_, _, _, _, _, _⟩) (v := ?_) rfl (by kernel_rfl) (by kernel_rfl) (by kernel_rfl) (fun _ _ _ h => h) (Or.inl ⟨by rfl, ?_⟩) hHeld ?_
          rotate_left
          · (intro w hSw; (try dsimp only at hSw); go_simp; try (with_reducible rfl))
          try simp only [Act.put, List.setIfInBounds_toArray, List.set_cons_zero, List.set_cons_succ]
          refine wpAnyH_take (i := 17) (oi := ⟨_, _, _, _, _, _⟩) (v := ?_) rfl (by kernel_rfl) (by kernel_rfl) (by kernel_rfl) (fun _ _ _ h => h) (Or.inl ⟨by rfl, ?_⟩) hHeld ?_
          rotate_left
          · (intro w hSw; (try dsimp only at hSw); go_simp; try (with_reducible rfl))
          try simp only [Act.put, List.setIfInBounds_toArray, List.set_cons_zero, List.set_cons_succ]
          refine wpAnyH_take (i := 18) (oi := ⟨_, _, _, _, _, _⟩) (v := ?_) rfl (by kernel_rfl) (by kernel_rfl) (by kernel_rfl) (fun _ _ _ h => h) (Or.inl ⟨by rfl, ?_⟩) hHeld ?_
          rotate_left
          · (intro w hSw; (try dsimp only at hSw); go_simp; try (with_reducible rfl))
          try simp only [Act.put, List.setIfInBounds_toArray, List.set_cons_zero, List.set_cons_succ]
          refine wpAnyH_take (i := 19) (oi := ⟨_, _, _, _, _, _⟩) (v := ?_) rfl (by kernel_rfl) (by kernel_rfl) (by kernel_rfl) (fun _ _ _ h => h) (Or.inl ⟨by rfl, ?_⟩) hHeld ?_
          rotate_left
          · (intro w hSw; (try dsimp only at hSw); go_simp; try (with_reducible rfl))
          try simp only [Act.put, List.setIfInBounds_toArray, List.set_cons_zero, List.set_cons_succ]
          refine wpAnyH_ready (rs := [20]) (by kernel_rfl) (by simp) ?_
          refine (AllReadyH.cons (o := ⟨_, _, _, _, _, _⟩) rfl (fun K hK => ?_) AllReadyH.nil)
          go_simp
          go_at_call 14
          refine (implFault_calls (dmL l lo v ys) (dmLo l lo v ys) (dmV l lo v ys) _).mono ?_
          rintro e w9 ⟨rfl, hb9⟩
          rw [HFIN.out]
          replace hB := hB.trans (hb9.mono hB.size)
          clear hb9
          try go_wp2_with fail
          refine hK.out _ _ ?_ ?_
          · (try dsimp only); exact mkS _ hB
          clear hHeld hK K
          intro hHeld
          try simp only [Act.put, List.setIfInBounds_toArray, List.set_cons_zero, List.set_cons_succ]
          refine wpAnyH_take (i := 21) (oi := ⟨_, _, _, _, _, _⟩) (v := ?_) rfl (by kernel_rfl) (by kernel_rfl) (by kernel_rfl) (fun _ _ _ h => h) (Or.inl ⟨by rfl, ?_⟩) hHeld ?_
          rotate_left
          · (intro w hSw; (try dsimp only at hSw); go_simp; try (with_reducible rfl))
          try simp only [Act.put, List.setIfInBounds_toArray, List.set_cons_zero, List.set_cons_succ]
          refine wpAnyH_take (i := 22) (oi := ⟨_, _, _, _, _, _⟩) (v := ?_) rfl (by kernel_rfl) (by kernel_rfl) (by kernel_rfl) (fun _ _ _ h => h) (Or.inl ⟨by rfl, ?_⟩) hHeld ?_
          rotate_left
          · (intro w hSw; (try dsimp only at hSw); go_simp; try (with_reducible rfl))
          try simp only [Act.put, List.setIfInBounds_toArray, List.set_cons_zero, List.set_cons_succ]
          refine wpAnyH_take (i := 23) (oi := ⟨_, _, _, _, _, _⟩) (v := ?_) rfl (by kernel_rfl) (by kernel_rfl) (by kernel_rfl) (fun _ _ _ h => h) (Or.inl ⟨by rfl, ?_⟩) hHeld ?_
          rotate_left
          · (intro w hSw; (try dsimp only at hSw); go_simp; try (with_reducible rfl))
          try simp only [Act.put, List.setIfInBounds_toArray, List.set_cons_zero, List.set_cons_succ]
          refine wpAnyH_take (i := 24) (oi := ⟨_, _, _, _, _, _⟩) (v := ?_) rfl (by kernel_rfl) (by kernel_rfl) (by kernel_rfl) (fun _ _ _ h => h) (Or.inl ⟨by rfl, ?_⟩) hHeld ?_
          rotate_left
          · (intro w hSw; (try dsimp only at hSw); go_simp; try (with_reducible rfl))
          try simp only [Act.put, List.setIfInBounds_toArray, List.set_cons_zero, List.set_cons_succ]
          refine wpAnyH_take (i := 25) (oi := ⟨_, _, _, _, _, _⟩) (v := ?_) rfl (by kernel_rfl) (by kernel_rfl) (by kernel_rfl) (fun _ _ _ h => h) (Or.inl ⟨by rfl, ?_⟩) hHeld ?_
          rotate_left
          · (intro w hSw; (try dsimp only at hSw); go_simp; try (with_reducible rfl))
          try simp only [Act.put, List.setIfInBounds_toArray, List.set_cons_zero, List.set_cons_succ]
          refine wpAnyH_take (i := 26) (oi := ⟨_, _, _, _, _, _⟩) (v := ?_) rfl (by kernel_rfl) (by kernel_rfl) (by kernel_rfl) (fun _ _ _ h => h) (Or.inl ⟨by rfl, ?_⟩) hHeld ?_
          rotate_left
          · (intro w hSw; (try dsimp only at hSw); go_simp; try (with_reducible rfl))
          try simp only [Act.put, List.setIfInBounds_toArray, List.set_cons_zero, List.set_cons_succ]
          refine wpAnyH_take (i := 27) (oi := ⟨_, _, _, _, _, _⟩) (v := ?_) rfl (by kernel_rfl) (by kernel_rfl) (by kernel_rfl) (fun _ _ _ h => h) (Or.inl ⟨by rfl, ?_⟩) hHeld ?_
          rotate_left
          · (intro w hSw; (try dsimp only at hSw); go_simp; try (with_reducible rfl))
          try simp only [Act.put, List.setIfInBounds_toArray, List.set_cons_zero, List.set_cons_succ]
          refine wpAnyH_ready (rs := [28]) (by kernel_rfl) (by simp) ?_
          refine (AllReadyH.cons (o := ⟨_, _, _, _, _, _⟩) rfl (fun K hK => ?_) AllReadyH.nil)
          go_simp
          go_at_call 8
          refine (specMany_calls l lo v ys _ _ HYB.out (by omega) (hy.below hB)).mono ?_
          rintro e w9 ⟨x9, rfl, hx9, hb9⟩
          have hr9 := hx9.read
          obtain ⟨a12, c12, rfl, hx9⟩ := hx9
          clear hx9
          replace hB := hB.trans (hb9.mono hB.size)
          clear hb9
          try go_wp2_with fail
          refine hK.out _ _ ?_ ?_
          · (try dsimp only); exact mkS _ hB
          clear hHeld hK K
          intro hHeld
          try simp only [Act.put, List.setIfInBounds_toArray, List.set_cons_zero, List.set_cons_succ]
          refine wpAnyH_take (i := 29) (oi := ⟨_, _, _, _, _, _⟩) (v := ?_) rfl (by kernel_rfl) (by kernel_rfl) (by kernel_rfl) (fun _ _ _ h => h) (Or.inl ⟨by rfl, ?_⟩) hHeld ?_
          rotate_left
          · (intro w hSw; (try dsimp only at hSw); go_simp; try (with_reducible rfl))
          try simp only [Act.put, List.setIfInBounds_toArray, List.set_cons_zero, List.set_cons_succ]
          refine wpAnyH_ready (rs := [30]) (by kernel_rfl) (by simp) ?_
          refine (AllReadyH.cons (o := ⟨_, _, _, _, _, _⟩) rfl (fun K hK => ?_) AllReadyH.nil)
          go_simp
          go_at_call 13
          refine (lwNums_below (dmT l lo v ys) _ _ _ (by omega) (hx.below hB) hr9).mono ?_
          rintro e w9 ⟨rfl, hb9⟩
          clear hr9
          replace hB := hB.trans (hb9.mono hB.size)
          clear hb9
          try go_wp2_with fail
          refine hK.out _ _ ?_ ?_
          · (try dsimp only); exact mkS _ hB
          clear hHeld hK K
          intro hHeld
          try simp only [Act.put, List.setIfInBounds_toArray, List.set_cons_zero, List.set_cons_succ]
          refine wpAnyH_take (i := 31) (oi := ⟨_, _, _, _, _, _⟩) (v := ?_) rfl (by kernel_rfl) (by kernel_rfl) (by kernel_rfl) (fun _ _ _ h => h) (Or.inl ⟨by rfl, ?_⟩) hHeld ?_
          rotate_left
          · (intro w hSw; (try dsimp only at hSw); go_simp; try (with_reducible rfl))
          try simp only [Act.put, List.setIfInBounds_toArray, List.set_cons_zero, List.set_cons_succ]
          refine wpAnyH_take (i := 32) (oi := ⟨_, _, _, _, _, _⟩) (v := ?_) rfl (by kernel_rfl) (by kernel_rfl) (by kernel_rfl) (fun _ _ _ h => h) (Or.inl ⟨by rfl, ?_⟩) hHeld ?_
          rotate_left
          · (intro w hSw; (try dsimp only at hSw); go_simp; try (with_reducible rfl))
          try simp only [Act.put, List.setIfInBounds_toArray, List.set_cons_zero, List.set_cons_succ]
          refine wpAnyH_done (by kernel_rfl) ?_ _
          go_wp2
          go_ret
          exact ⟨rfl, q1.trans (hB.mono q1.size)⟩
  · rw [hc]
    go_wp2_with fail
    have A2 : Below w2.heap.size w2 (w2.alloc (.cells #[.int .i64 2, .slice ax (dmT l lo v ys).length cx, .int .i64 (dmL l lo v ys), .int .i64 (dmLo l lo v ys), .int .i64 (dmV l lo v ys)] 30)) := (Below.refl _ _).alloc (Nat.le_refl _) _
    have R1 : Box5 (w2.alloc (.cells #[.int .i64 2, .slice ax (dmT l lo v ys).length cx, .int .i64 (dmL l lo v ys), .int .i64 (dmLo l lo v ys), .int .i64 (dmV l lo v ys)] 30)) w2.heap.size 2 (.slice ax (dmT l lo v ys).length cx) (dmL l lo v ys) (dmLo l lo v ys) (dmV l lo v ys) := ⟨by simp, by simp, by simp, by simp, by simp, fun o => by simp⟩
    replace D1 := D1.below A2
    replace hy := hy.below A2
    replace hx := hx.below A2
    replace q1 := q1.trans (A2.mono q1.size)
    clear A2
    generalize (w2.alloc (.cells #[.int .i64 2, .slice ax (dmT l lo v ys).length cx, .int .i64 (dmL l lo v ys), .int .i64 (dmLo l lo v ys), .int .i64 (dmV l lo v ys)] 30)) = W2 at *
    generalize w2.heap.size = E at *
    refine wp_region_held_drew (S := (fun w' => Below W2.heap.size W2 w' ∧ w'.cell? ⟨D, 0, none⟩ = some (.int .i64 l) ∧ w'.cell? ⟨D, 1, none⟩ = some (.int .i64 lo) ∧ w'.cell? ⟨D, 2, none⟩ = some (.int .i64 v) ∧ w'.cell? ⟨E, 0, none⟩ = some (.int .i64 2))) (by kernel_rfl) ?_ (fun hHeld => ?_)
    · (try dsimp only); exact ⟨Below.drew (Below.refl _ W2), D1.c0, D1.c1, D1.c2, R1.c0⟩
    refine wpAnyH_take (i := 0) (oi := ⟨_, _, _, _, _, _⟩) (v := ?_) rfl (by kernel_rfl) (by kernel_rfl) (by kernel_rfl) (fun _ _ _ h => h) (Or.inl ⟨by rfl, ?_⟩) hHeld ?_
    rotate_left
    · (intro w hSw; (try dsimp only at hSw); go_simp; try (with_reducible rfl))
    try simp only [Act.put, List.setIfInBounds_toArray, List.set_cons_zero, List.set_cons_succ]
    refine wpAnyH_take (i := 1) (oi := ⟨_, _, _, _, _, _⟩) (v := ?_) rfl (by kernel_rfl) (by kernel_rfl) (by kernel_rfl) (fun _ _ _ h => h) (Or.inl ⟨by rfl, ?_⟩) hHeld ?_
    rotate_left
    · (intro w hSw; (try dsimp only at hSw); go_simp; try (with_reducible rfl))
    try simp only [Act.put, List.setIfInBounds_toArray, List.set_cons_zero, List.set_cons_succ]
    refine wpAnyH_take (i := 4) (oi := ⟨_, _, _, _, _, _⟩) (v := ?_) rfl (by kernel_rfl) (by kernel_rfl) (by kernel_rfl) (fun _ _ _ h => h) (Or.inl ⟨by rfl, ?_⟩) hHeld ?_
    rotate_left
    · (intro w hSw; (try dsimp only at hSw); go_simp; try (with_reducible rfl))
    try simp only [Act.put, List.setIfInBounds_toArray, List.set_cons_zero, List.set_cons_succ]
    refine wpAnyH_take (i := 5) (oi := ⟨_, _, _, _, _, _⟩) (v := ?_) rfl (by kernel_rfl) (by kernel_rfl) (by kernel_rfl) (fun _ _ _ h => h) (Or.inl ⟨by rfl, ?_⟩) hHeld ?_
    rotate_left
    · (intro w hSw; (try dsimp only at hSw); go_simp; try (with_reducible rfl))
    try simp only [Act.put, List.setIfInBounds_toArray, List.set_cons_zero, List.set_cons_succ]
    refine wpAnyH_ready (rs := [2]) (by kernel_rfl) (by simp) ?_
    refine (AllReadyH.cons (o := ⟨_, _, _, _, _, _⟩) rfl (fun K hK => ?_) AllReadyH.nil)
    go_simp
    go_at_call 8
    refine (specMany_calls l lo v ys _ _ HYB.out (by omega) (hy.below hHeld.1)).mono ?_
    rintro e w9 ⟨x9, rfl, hx9, hb9⟩
    rw [hc]
    obtain ⟨a9, c9, rfl, hx9⟩ := hx9
    clear hx9
    try go_wp2_with fail
    refine hK.out _ _ ?_ ?_
    · (try dsimp only); exact kept4 hHeld hb9
    clear hHeld hK K
    intro hHeld
    try simp only [Act.put, List.setIfInBounds_toArray, List.set_cons_zero, List.set_cons_succ]
    refine wpAnyH_take (i := 3) (oi := ⟨_, _, _, _, _, _⟩) (v := ?_) rfl (by kernel_rfl) (by kernel_rfl) (by kernel_rfl) (fun _ _ _ h => h) (Or.inl ⟨by rfl, ?_⟩) hHeld ?_
    rotate_left
    · (intro w hSw; (try dsimp only at hSw); go_simp; try (with_reducible rfl))
    try simp only [Act.put, List.setIfInBounds_toArray, List.set_cons_zero, List.set_cons_succ]
    refine wpAnyH_take (i := 6) (oi := ⟨_, _, _, _, _, _⟩) (v := ?_) rfl (by kernel_rfl) (by kernel_rfl) (by kernel_rfl) (fun _ _ _ h => h) (Or.inl ⟨by rfl, ?_⟩) hHeld ?_
    rotate_left
    · (intro w hSw; (try dsimp only at hSw); go_simp; try (with_reducible rfl))
    try simp only [Act.put, List.setIfInBounds_toArray, List.set_cons_zero, List.set_cons_succ]
    refine wpAnyH_take (i := 7) (oi := ⟨_, _, _, _, _, _⟩) (v := ?_) rfl (by kernel_rfl) (by kernel_rfl) (by kernel_rfl) (fun _ _ _ h => h) (Or.inl ⟨by rfl, ?_⟩) hHeld ?_
    rotate_left
    · (intro w hSw; (try dsimp only at hSw); go_simp; try (with_reducible rfl))
    try simp only [Act.put, List.setIfInBounds_toArray, List.set_cons_zero, List.set_cons_succ]
    refine wpAnyH_done (by kernel_rfl) ?_ _
    go_wp2
    go_ret
    exact ⟨rfl, q1.trans (hHeld.1.mono q1.size)⟩
  · rw [hc]
    go_wp2_with fail
    have A2 : Below w2.heap.size w2 (w2.alloc (.cells #[.int .i64 3, .slice ax (dmT l lo v ys).length cx, .int .i64 (dmL l lo v ys), .int .i64 (dmLo l lo v ys), .int .i64 (dmV l lo v ys)] 30)) := (Below.refl _ _).alloc (Nat.le_refl _) _
    have R1 : Box5 (w2.alloc (.cells #[.int .i64 3, .slice ax (dmT l lo v ys).length cx, .int .i64 (dmL l lo v ys), .int .i64 (dmLo l lo v ys), .int .i64 (dmV l lo v ys)] 30)) w2.heap.size 3 (.slice ax (dmT l lo v ys).length cx) (dmL l lo v ys) (dmLo l lo v ys) (dmV l lo v ys) := ⟨by simp, by simp, by simp, by simp, by simp, fun o => by simp⟩
    replace D1 := D1.below A2
    replace hy := hy.below A2
    replace hx := hx.below A2
    replace q1 := q1.trans (A2.mono q1.size)
    clear A2
    generalize (w2.alloc (.cells #[.int .i64 3, .slice ax (dmT l lo v ys).length cx, .int .i64 (dmL l lo v ys), .int .i64 (dmLo l lo v ys), .int .i64 (dmV l lo v ys)] 30)) = W2 at *
    generalize w2.heap.size = E at *
    refine wp_region_held_drew (S := (fun w' => Below W2.heap.size W2 w' ∧ w'.cell? ⟨D, 0, none⟩ = some (.int .i64 l) ∧ w'.cell? ⟨D, 1, none⟩ = some (.int .i64 lo) ∧ w'.cell? ⟨D, 2, none⟩ = some (.int .i64 v) ∧ w'.cell? ⟨E, 0, none⟩ = some (.int .i64 3))) (by kernel_rfl) ?_ (fun hHeld => ?_)
    · (try dsimp only); exact ⟨Below.drew (Below.refl _ W2), D1.c0, D1.c1, D1.c2, R1.c0⟩
    refine wpAnyH_take (i := 0) (oi := ⟨_, _, _, _, _, _⟩) (v := ?_) rfl (by kernel_rfl) (by kernel_rfl) (by kernel_rfl) (fun _ _ _ h => h) (Or.inl ⟨by rfl, ?_⟩) hHeld ?_
    rotate_left
    · (intro w hSw; (try dsimp only at hSw); go_simp; try (with_reducible rfl))
    try simp only [Act.put, List.setIfInBounds_toArray, List.set_cons_zero, List.set_cons_succ]
    refine wpAnyH_take (i := 1) (oi := ⟨_, _, _, _, _, _⟩) (v := ?_) rfl (by kernel_rfl) (by kernel_rfl) (by kernel_rfl) (fun _ _ _ h => h) (Or.inl ⟨by rfl, ?_⟩) hHeld ?_
    rotate_left
    · (intro w hSw; (try dsimp only at hSw); go_simp; try (with_reducible rfl))
    try simp only [Act.put, List.setIfInBounds_toArray, List.set_cons_zero, List.set_cons_succ]
    refine wpAnyH_take (i := 4) (oi := ⟨_, _, _, _, _, _⟩) (v := ?_) rfl (by kernel_rfl) (by kernel_rfl) (by kernel_rfl) (fun _ _ _ h => h) (Or.inl ⟨by rfl, ?_⟩) hHeld ?_
    rotate_left
    · (intro w hSw; (try dsimp only at hSw); go_simp; try (with_reducible rfl))
    try simp only [Act.put, List.setIfInBounds_toArray, List.set_cons_zero, List.set_cons_succ]
    refine wpAnyH_take (i := 5) (oi := ⟨_, _, _, _, _, _⟩) (v := ?_) rfl (by kernel_rfl) (by kernel_rfl) (by kernel_rfl) (fun _ _ _ h => h) (Or.inl ⟨by rfl, ?_⟩) hHeld ?_
    rotate_left
    · (intro w hSw; (try dsimp only at hSw); go_simp; try (with_reducible rfl))
    try simp only [Act.put, List.setIfInBounds_toArray, List.set_cons_zero, List.set_cons_succ]
    refine wpAnyH_ready (rs := [2]) (by kernel_rfl) (by simp) ?_
    refine (AllReadyH.cons (o := ⟨_, _, _, _, _, _⟩) rfl (fun K hK => ?_) AllReadyH.nil)
    go_simp
    go_at_call 8
    refine (specMany_calls l lo v ys _ _ HYB.out (by omega) (hy.below hHeld.1)).mono ?_
    rintro e w9 ⟨x9, rfl, hx9, hb9⟩
    rw [hc]
    obtain ⟨a9, c9, rfl, hx9⟩ := hx9
    clear hx9
    try go_wp2_with fail
    refine hK.out _ _ ?_ ?_
    · (try dsimp only); exact kept4 hHeld hb9
    clear hHeld hK K
    intro hHeld
    try simp only [Act.put, List.setIfInBounds_toArray, List.set_cons_zero, List.set_cons_succ]
    refine wpAnyH_take (i := 3) (oi := ⟨_, _, _, _, _, _⟩) (v := ?_) rfl (by kernel_rfl) (by kernel_rfl) (by kernel_rfl) (fun _ _ _ h => h) (Or.inl ⟨by rfl, ?_⟩) hHeld ?_
    rotate_left
    · (intro w hSw; (try dsimp only at hSw); go_simp; try (with_reducible rfl))
    try simp only [Act.put, List.setIfInBounds_toArray, List.set_cons_zero, List.set_cons_succ]
    refine wpAnyH_take (i := 6) (oi := ⟨_, _, _, _, _, _⟩) (v := ?_) rfl (by kernel_rfl) (by kernel_rfl) (by kernel_rfl) (fun _ _ _ h => h) (Or.inl ⟨by rfl, ?_⟩) hHeld ?_
    rotate_left
    · (intro w hSw; (try dsimp only at hSw); go_simp; try (with_reducible rfl))
    try simp only [Act.put, List.setIfInBounds_toArray, List.set_cons_zero, List.set_cons_succ]
    refine wpAnyH_take (i := 7) (oi := ⟨_, _, _, _, _, _⟩) (v := ?_) rfl (by kernel_rfl) (by kernel_rfl) (by kernel_rfl) (fun _ _ _ h => h) (Or.inl ⟨by rfl, ?_⟩) hHeld ?_
    rotate_left
    · (intro w hSw; (try dsimp only at hSw); go_simp; try (with_reducible rfl))
    try simp only [Act.put, List.setIfInBounds_toArray, List.set_cons_zero, List.set_cons_succ]
    refine wpAnyH_done (by kernel_rfl) ?_ _
    go_wp2
    go_ret
    exact ⟨rfl, q1.trans (hHeld.1.mono q1.size)⟩

end Go.Proofs.Ytoedmfflokknjaa
