/-
  slices.Clone and slices.Insert (of one) at binds.
-/
import Derived.Test.YtcfechnkgefhcaaDoorBinSearch
import Derived.Test.YtcfechnkgefhcaaDoorBindRow
import Derived.Laws.CopyOwn
import Derived.Laws.CopyRow
import Derived.Deep.RegionLaw
import Derived.Lib.AppendZerosOnto
import Derived.Lib.Overlaps
import Derived.Laws.Externs
namespace Go.Proofs.YtcfechnkgefhcaaDoor
set_option maxRecDepth 20000
open Go.ChangeShapes Go.WideShapes Go.ChangeAt Go.RowKit
set_option linter.unusedVariables false
set_option linter.unusedSimpArgs false
set_option maxRecDepth 20000

/-- A copy of whole binds into a row that is known whole. -/
theorem run_copy_row4 {P : Program} (w : World) (dT sT ty elem : TypeId) (g o dLen dCap : Nat) (a : Addr) (sLen sCap : Nat) (cur : Array Value) (t : TypeId) (cs : List Value)
    (hu : P.underlying dT = some (.slice elem)) (hs : (P.info? elem).map (·.size) = some 4)
    (hg : w.heap[g]? = some (.cells cur t (0, 0))) (hn : cs.length = Nat.min sLen dLen * 4)
    (hsrc : ∀ j v, cs[j]? = some v → w.cell? (a.add j) = some v) (hfit : o + cs.length ≤ cur.size) (h1 : ∀ v ∈ cs, v.oneCell' = true) :
    (Builtin.copy_ #[dT, sT] ty #[.slice (some ⟨g, o, none⟩) dLen dCap, .slice (some a) sLen sCap]).run P w =
      .ok (goInt (Nat.min sLen dLen)) (w.setRow g (cur.toList.take o ++ cs ++ cur.toList.drop (o + cs.length)).toArray) := by
  have hl := run_loadCells_list (P := P) w a cs hsrc
  have hst := run_storeCells_at P g o t cs 0 cur w hg (by simpa using hfit) h1
  cases hq : P.info? elem with
  | none => simp [hq] at hs
  | some i =>
    have hi : i.size = 4 := by simpa [hq] using hs
    simp [Builtin.copy_, run_underlying hu, Builtin.lenOf, Builtin.firstCells, sizeOf, typeInfo, hq, hi, ← hn, hl, hst]
theorem upd_setRow (w : World) (g : Nat) (cs : Array Value) : Upd g w (w.setRow g cs) :=
  ⟨rfl, rfl, rfl, by simp [World.setRow], fun k hk => setRow_other w g k cs (by omega)⟩
theorem bvs_take (bs : List Bd) (i : Nat) : bvs (bs.take i) = (bvs bs).take (i * 4) := by
  induction bs generalizing i with
  | nil => simp [bvs]
  | cons p ps ih =>
    cases i with
    | zero => simp [bvs]
    | succ i =>
      rw [List.take_succ_cons, bvs_cons, bvs_cons, ih, List.take_append, show (bcs p).length = 4 from rfl, show (i + 1) * 4 - 4 = i * 4 by omega, List.take_of_length_le (show (bcs p).length ≤ (i + 1) * 4 by simp [bcs]; omega)]
theorem bvs_drop (bs : List Bd) (i : Nat) : bvs (bs.drop i) = (bvs bs).drop (i * 4) := by
  induction bs generalizing i with
  | nil => simp [bvs]
  | cons p ps ih =>
    cases i with
    | zero => simp
    | succ i =>
      rw [List.drop_succ_cons, bvs_cons, ih, List.drop_append, show (bcs p).length = 4 from rfl, show (i + 1) * 4 - 4 = i * 4 by omega, List.drop_eq_nil_of_le (show (bcs p).length ≤ (i + 1) * 4 by simp [bcs]; omega), List.nil_append]
theorem splice_ins {α : Type} (L X Y : List α) (a : Nat) (h : a + X.length + Y.length ≤ L.length) : (splice (splice L (a + X.length) Y) a X).take (a + X.length + Y.length) = L.take a ++ (X ++ Y) := by
  have e1 : (splice L (a + X.length) Y).take a = L.take a := by
    unfold splice
    rw [List.take_append_of_le_length (by rw [List.length_take]; omega), List.take_take]
    congr 1
    omega
  have e2 : (splice L (a + X.length) Y).drop (a + X.length) = Y ++ L.drop (a + X.length + Y.length) := by
    unfold splice
    rw [List.drop_append, List.length_take, List.drop_eq_nil_of_le (by rw [List.length_take]; omega), List.nil_append, show a + X.length - min (a + X.length) L.length = 0 by omega, List.drop_zero]
  have t1 : (L.take a).take (a + X.length + Y.length) = L.take a := List.take_of_length_le (by rw [List.length_take]; omega)
  have t2 : ∀ R : List α, (X ++ (Y ++ R)).take (X.length + Y.length) = X ++ Y := fun R => by
    rw [← List.append_assoc, List.take_append_of_le_length (by rw [List.length_append]; exact Nat.le_refl _)]
    exact List.take_of_length_le (by rw [List.length_append]; exact Nat.le_refl _)
  rw [splice, e1, e2, List.take_append, t1, List.length_take, show a + X.length + Y.length - min a L.length = X.length + Y.length by omega, t2]
theorem splice_ins2 {α : Type} (L X Y : List α) (a : Nat) (h : a + X.length + Y.length ≤ L.length) : (splice (splice L a X) (a + X.length) Y).take (a + X.length + Y.length) = L.take a ++ (X ++ Y) := by
  have t1 : (L.take a).take (a + X.length) = L.take a := List.take_of_length_le (by rw [List.length_take]; omega)
  have t2 : ∀ (Z R : List α), (Z ++ R).take Z.length = Z := fun Z R => by rw [List.take_append_of_le_length (Nat.le_refl _)]; exact List.take_of_length_le (Nat.le_refl _)
  have e1 : (splice L a X).take (a + X.length) = L.take a ++ X := by
    unfold splice
    rw [List.take_append, t1, List.length_take, show a + X.length - min a L.length = X.length by omega, t2]
  have t3 : (L.take a ++ X).take (a + X.length + Y.length) = L.take a ++ X := List.take_of_length_le (by rw [List.length_append, List.length_take]; omega)
  rw [splice, e1, List.take_append, t3, List.length_append, List.length_take, show a + X.length + Y.length - (min a L.length + X.length) = Y.length by omega, t2, List.append_assoc]
theorem cells_of_blk {w : World} {g : Nat} {cur : Array Value} (hg : Blk w g cur) {n i : Nat} {bs : List Bd} (hn : bs.length = n) (hcur : cur.toList.take (n * 4) = bvs bs) : ∀ j v, (bvs (bs.drop i))[j]? = some v → w.cell? ((⟨g, i * 4, none⟩ : Addr).add j) = some v := by
  intro j v hj
  rw [Addr.add_lit, hg.cells]
  rw [bvs_drop, ← hcur, List.getElem?_drop, List.getElem?_take] at hj
  split at hj
  · rw [← Array.getElem?_toList]; exact hj
  · cases hj
theorem cells_of_one {w : World} {vb : Nat} {q : Bd} (hq : Blk w vb (bcs q).toArray) : ∀ j v, (bcs q)[j]? = some v → w.cell? ((⟨vb, 0, none⟩ : Addr).add j) = some v := by
  intro j v hj
  rw [Addr.add_lit, hq.cells, Nat.zero_add]
  simpa using hj
theorem wpList_copy4 {P : Program} {w : World} {ops : Array Oper} {rest : List Oper} {o : Oper} {a : Act} {Q : Exit → Act → World → Prop} (hgd : o.guard = none) (d s : Operand) (dT sT : TypeId)
    (ho : o.op = .call { callee := .builtin .copy, args := #[d, s], argTypes := #[dT, sT] }) (elem : TypeId) (hu : P.underlying dT = some (.slice elem)) (hsz : (P.info? elem).map (·.size) = some 4)
    (g off dLen dCap : Nat) (ad : Addr) (sLen sCap : Nat) (hd : a.eval d = .slice (some ⟨g, off, none⟩) dLen dCap) (hs : a.eval s = .slice (some ad) sLen sCap)
    (cur : List Value) (t : TypeId) (hg : w.heap[g]? = some (.cells cur.toArray t (0, 0))) (cs : List Value) (hn : cs.length = Nat.min sLen dLen * 4)
    (hsrc : ∀ j v, cs[j]? = some v → w.cell? (ad.add j) = some v) (hfit : off + cs.length ≤ cur.length) (h1 : ∀ v ∈ cs, v.oneCell' = true)
    (h : ∀ w', Hid (w'.heap[g]? = some (.cells (splice cur off cs).toArray t (0, 0))) → Upd g w w' → wpList P ops Q rest (a.put o.dst (goInt (Nat.min sLen dLen))) w') : wpList P ops Q (o :: rest) a w := by
  refine wpList_plain hgd fun K hK => ?_
  have hrun := run_copy_row4 (P := P) w dT sT o.type elem g off dLen dCap ad sLen sCap cur.toArray t cs hu hsz hg hn hsrc (by simpa using hfit) h1
  unfold Oper.wp
  simp [execOp, ho, resolve, invoke, builtin, hd, hs, hrun, Result.andThen]
  exact hK _ _ (h _ (show _ = _ by simpa [splice] using setRow_heap w g _ _ t _ hg) (upd_setRow _ _ _))
theorem step_copy4 {P : Program} {ops : Array Oper} {o : Oper} {a : Act} {w : World} {K : Act → World → Prop} {Q : Exit → Act → World → Prop} {E : Prop} (hgd : o.guard = none) (d s : Operand) (dT sT : TypeId)
    (ho : o.op = .call { callee := .builtin .copy, args := #[d, s], argTypes := #[dT, sT] }) (elem : TypeId) (hu : P.underlying dT = some (.slice elem)) (hsz : (P.info? elem).map (·.size) = some 4)
    (g off dLen dCap : Nat) (ad : Addr) (sLen sCap : Nat) (hd : a.eval d = .slice (some ⟨g, off, none⟩) dLen dCap) (hs : a.eval s = .slice (some ad) sLen sCap)
    (cur : List Value) (t : TypeId) (hg : w.heap[g]? = some (.cells cur.toArray t (0, 0))) (cs : List Value) (hn : cs.length = Nat.min sLen dLen * 4)
    (hsrc : ∀ j v, cs[j]? = some v → w.cell? (ad.add j) = some v) (hfit : off + cs.length ≤ cur.length) (h1 : ∀ v ∈ cs, v.oneCell' = true)
    (h : ∀ w', Hid (w'.heap[g]? = some (.cells (splice cur off cs).toArray t (0, 0))) → Upd g w w' → K (a.put o.dst (goInt (Nat.min sLen dLen))) w') :
    if Region.wanted o (yielded ops a.tmps) = true then Oper.wp P o a w K Q else E := by
  have hw : Region.wanted o (yielded ops a.tmps) = true := by simp [Region.wanted, hgd]
  rw [if_pos hw]
  have hrun := run_copy_row4 (P := P) w dT sT o.type elem g off dLen dCap ad sLen sCap cur.toArray t cs hu hsz hg hn hsrc (by simpa using hfit) h1
  unfold Oper.wp
  simp [execOp, ho, resolve, invoke, builtin, hd, hs, hrun, Result.andThen]
  exact h _ (show _ = _ by simpa [splice] using setRow_heap w g _ _ t _ hg) (upd_setRow _ _ _)

set_option maxHeartbeats 2000000 in
theorem cloneB_calls (bs : List Bd) (v : Value) (w : World) (hn : bs.length ≤ 1048576) (h1 : QRead w v bs) :
    Calls Tryd.prog 44 #[v] w fun e w' => ∃ v', e = .returned v' ∧ w'.ownsRow w.heap.size 28 4 v' bs.length (bvs bs) ∧ Below w.heap.size w w' := by
  obtain ⟨i0, hi, hz0, hz1, hz2⟩ := info_parts info_bind
  have hr := h1
  obtain ⟨a1, c1, rfl, h1⟩ := h1
  cases a1 with
  | none =>
    have heq : ∀ W : World, (binOp .eql 24 (.slice none 0 c1) (.slice none 0 0)).run Tryd.prog W = .ok (.bool true) W := fun W => run_eql_nil_slice W _ 28 none 0 0 0 c1 Tryd.underlying24
    have hb : bs = [] := by
      rcases h1 with h1 | ⟨b, o, h, _⟩
      · exact h1
      · cases h
    subst hb
    clear h1 hr
    go_enter Tryd.func44, Tryd.ntmps44
    go_wp2
    go_ret
    exact ⟨_, rfl, World.ownsRow_nil _ _ _ _, Below.refl _ _⟩
  | some ad =>
    have heq : ∀ W : World, (binOp .eql 24 (.slice (some ad) bs.length c1) (.slice none 0 0)).run Tryd.prog W = .ok (.bool false) W := fun W => Lib.run_eql_slice_nil W _ 28 (some ad) bs.length c1 0 0 Tryd.underlying24
    have hlit : (w.alloc (.cells #[] 28)).ownsRow w.heap.size 28 4 (.slice (some ⟨w.heap.size, 0, none⟩) 0 0) 0 (bvs []) := World.ownsRow_lit (base := w.heap.size) (e := 28) (size := 4) w #[] 0 (Nat.le_refl _) (by unfold maxLen; omega) rfl
    have hb0 : Below w.heap.size w (w.alloc (.cells #[] 28)) := (by repeat' (first | with_reducible exact Below.refl _ _ | with_reducible assumption | with_reducible refine Below.drew ?_ | with_reducible refine Below.alloc ?_ ?_ _ | with_reducible refine Below.setCell ?_ ?_ _ | (simp; done) | (simp; omega) | omega))
    have hr0 := hr.below hb0
    clear h1 hr
    go_enter Tryd.func44, Tryd.ntmps44
    go_wp2_with (at_builtin; refine wpList_append_binds _ rfl _ _ 24 rfl w.heap.size 28 i0 (.agg #[.int .i64 0, .int .i64 0, .int .i64 0, .int .i64 0]) 32 Tryd.underlying24 hi hz0 hz1 hz2 rfl _ 0 [] rfl hlit (some ad) bs bs.length c1 rfl rfl hr0 ?c1 ?c2 ?c3 ?_)
    case c1 => unfold maxLen; omega
    case c2 => omega
    case c3 => exact hb0.size
    intro v' w1 hown hgrow
    try rw [List.nil_append] at hown
    try rw [Nat.zero_add] at hown
    have hb1 := hb0.grown hgrow hb0.size (fun k hk => by cases hk; exact Nat.le_refl _)
    clear hlit hgrow hr0 hb0
    go_wp2
    go_ret
    exact ⟨_, rfl, hown, hb1⟩

set_option maxHeartbeats 2000000 in
theorem insB_end (bs : List Bd) (v : Value) (q : Bd) (vb base : Nat) (w : World) (hn : bs.length ≤ 1000) (hown : w.ownsRow base 28 4 v bs.length (bvs bs)) (hbase : base ≤ w.heap.size) (hq : Blk w vb (bcs q).toArray) :
    Calls Tryd.prog 47 #[v, .int .i64 bs.length, .slice (some ⟨vb, 0, none⟩) 1 1] w fun e w' => ∃ v', e = .returned v' ∧ QAt base w'.heap.size w' v' (bs ++ [q]) ∧ Below base w w' := by
  obtain ⟨i0, hi, hz0, hz1, hz2⟩ := info_parts info_bind
  obtain ⟨av, cv, rfl, hcv⟩ := own_room4 hown
  have hqr : QRead w (.slice (some ⟨vb, 0, none⟩) 1 1) [q] := ⟨_, _, rfl, .inr ⟨vb, 0, rfl, fun i hi => by
    obtain rfl : i = 0 := by simpa using hi
    exact ⟨hq.at 0 rfl, hq.at 1 rfl, hq.at 2 rfl, hq.at 3 rfl⟩⟩⟩
  have hlt : ∀ k, (Value.slice av bs.length cv).ownBlock = some k → base ≤ k := fun k hk => (hown.lt k hk).1
  have HOWN := hide hown
  have hcm : ¬ (cv < bs.length) := by omega
  have hcI : (bs.length : Int) ≤ (cv : Int) := by omega
  have hn0 : ¬ ((bs.length : Int) < 0) := by omega
  clear hown
  go_enter Tryd.func47, Tryd.ntmps47
  go_wp2_with (at_builtin; refine wpList_append_binds _ rfl _ _ 24 rfl base 28 i0 (.agg #[.int .i64 0, .int .i64 0, .int .i64 0, .int .i64 0]) 32 Tryd.underlying24 hi hz0 hz1 hz2 rfl _ bs.length bs rfl HOWN.out (some ⟨vb, 0, none⟩) [q] 1 1 rfl rfl hqr (by unfold maxLen; omega) (by omega) hbase ?_)
  all_goals (
    intro v' w1 hown2 hgrow
    have hb1 := (Below.refl base w).grown hgrow hbase (fun k hk => hlt k (show (Value.slice av bs.length cv).ownBlock = some k by cases av <;> exact hk))
    clear hgrow
    go_wp2
    go_ret
    exact ⟨_, rfl, own_binds (n := bs.length + 1) hown2 (Nat.le_refl _), hb1⟩)

theorem ov_bind (w : World) (a b : Nat) (o la ca lb cb : Nat) (cs ds : Array Value) (h1 : Blk w a cs) (h2 : Blk w b ds) (hne : a ≠ b) (h0 : ds.size ≠ 0) :
    (callFunc 69 #[.slice (some ⟨a, 0, none⟩) la ca, .slice (some ⟨b, o, none⟩) lb cb]).run Tryd.prog w = .ok (.value (.bool false)) w := by
  obtain ⟨t1, e1⟩ := h1
  obtain ⟨t2, e2⟩ := h2
  rw [run_callFunc_extern Tryd.func69 (by kernel_rfl) (by kernel_rfl) (by kernel_rfl) (e := Extern.SlicesOverlaps.overlaps #[24, 24] #[4]) (by kernel_rfl),
    Lib.run_overlaps_apart w 24 4 28 Tryd.underlying24 4 (fun w => by kernel_rfl) ⟨a, 0, none⟩ ⟨b, o, none⟩ la ca lb cb hne t1 t2 cs.size ds.size (by simp [World.shape?, e1]) (by simp [World.shape?, e2]) h0 (by simp [World.frozen?, e1]) (by simp [World.frozen?, e1])]
  rfl

set_option maxHeartbeats 4000000 in
theorem insB_room (bs : List Bd) (q : Bd) (i g cap vb : Nat) (cur : Array Value) (w : World) (hn : bs.length ≤ 1000) (hi : i < bs.length) (hcap : bs.length < cap) (hc1 : cap ≤ maxLen)
    (hg : Blk w g cur) (hcs : cur.size = cap * 4) (hcur : cur.toList.take (bs.length * 4) = bvs bs) (hq : Blk w vb (bcs q).toArray) (hne : vb ≠ g) :
    Calls Tryd.prog 47 #[.slice (some ⟨g, 0, none⟩) bs.length cap, .int .i64 i, .slice (some ⟨vb, 0, none⟩) 1 1] w fun e w' => e = .returned (.slice (some ⟨g, 0, none⟩) (bs.length + 1) cap) ∧ ∃ fin : List Value, Blk w' g fin.toArray ∧ fin.length = cap * 4 ∧ fin.take ((bs.length + 1) * 4) = bvs (bs.take i ++ q :: bs.drop i) ∧ Upd g w w' := by
  unfold maxLen at hc1
  have hz2 : ¬ ((i : Int) = (bs.length : Int)) := by omega
  have hze : ((i : Int) == (bs.length : Int)) = false := by simpa using hz2
  have hw1 : IntKind.i64.wrap ((i : Int) + 1) = (i : Int) + 1 := wrap_small (by omega) (by omega)
  have hw2 : IntKind.i64.wrap ((bs.length : Int) + 1) = (bs.length : Int) + 1 := wrap_small (by omega) (by omega)
  have hnr : ¬ ((bs.length : Int) + 1 > (cap : Int)) := by omega
  have hnr' : ¬ ((cap : Int) < (bs.length : Int) + 1) := by omega
  have hci : ¬ (cap = i) := by omega
  have hci1 : ¬ (cap = i + 1) := by omega
  have hii : (i : Int) ≤ (bs.length : Int) + 1 := by omega
  have hii1 : (i : Int) + 1 ≤ (bs.length : Int) + 1 := by omega
  have hi0 : (0 : Int) ≤ (i : Int) + 1 := by omega
  have htn : ((i : Int) + 1).toNat = i + 1 := by omega
  have htn2 : ((bs.length : Int) + 1).toNat = bs.length + 1 := by omega
  have hO : ∀ la ca o lb cb, (callFunc 69 #[.slice (some ⟨vb, 0, none⟩) la ca, .slice (some ⟨g, o, none⟩) lb cb]).run Tryd.prog w = .ok (.value (.bool false)) w := fun la ca o lb cb => ov_bind w vb g o la ca lb cb _ _ hq hg hne (by omega)
  have hs1 := hide (cells_of_blk (i := i) hg rfl hcur)
  have hcl : cur.toList.length = cap * 4 := by simpa using hcs
  have hdl : (bvs (bs.drop i)).length = (bs.length - i) * 4 := by rw [bvs_length, List.length_drop]
  have hql : (bcs q).length = 4 := rfl
  have hmin1 : (bvs (bs.drop i)).length = Nat.min (bs.length + 1 - i) (bs.length + 1 - (i + 1)) * 4 := by rw [hdl]; simp only [Nat.min_def]; split <;> omega
  have hmin2 : (bcs q).length = Nat.min 1 (bs.length + 1 - i) * 4 := by rw [hql]; simp only [Nat.min_def]; split <;> omega
  have hfit1 : (i + 1) * 4 + (bvs (bs.drop i)).length ≤ cur.toList.length := by rw [hdl, hcl]; omega
  have hfin : ((splice (splice cur.toList ((i + 1) * 4) (bvs (bs.drop i))) (i * 4) (bcs q)).take ((bs.length + 1) * 4) = bvs (bs.take i ++ q :: bs.drop i)) := by
    have h := splice_ins cur.toList (bcs q) (bvs (bs.drop i)) (i * 4) (by rw [hdl, hql, hcl]; omega)
    rw [hdl, hql, show i * 4 + 4 + (bs.length - i) * 4 = (bs.length + 1) * 4 by omega, show i * 4 + 4 = (i + 1) * 4 by omega] at h
    rw [h, bvs_append, bvs_cons, bvs_take, ← hcur, List.take_take, show min (i * 4) (bs.length * 4) = i * 4 by omega]
  have hlen1 : (splice cur.toList ((i + 1) * 4) (bvs (bs.drop i))).length = cap * 4 := by rw [length_splice _ _ _ hfit1, hcl]
  have hlen2 : (splice (splice cur.toList ((i + 1) * 4) (bvs (bs.drop i))) (i * 4) (bcs q)).length = cap * 4 := by rw [length_splice _ _ _ (by rw [hlen1, hql]; omega), hlen1]
  have HFIN := hide (And.intro hfin hlen2)
  have HM := hide (And.intro hmin1 (And.intro hmin2 (And.intro hfit1 hlen1)))
  have HCL := hide hcl
  have HQ := hide hq
  have HNE := hide hne
  obtain ⟨tg, hgt⟩ := hg
  have HGT : Hid (w.heap[g]? = some (.cells cur.toList.toArray tg (0, 0))) := hide (by simpa using hgt)
  clear hfin hlen1 hlen2 hmin1 hmin2 hfit1 hdl hql hcl hcs hcur hq hne hgt
  go_enter Tryd.func47, Tryd.ntmps47
  go_wp2_with (simp only [hO])
  go_region_law (refine step_copy4 rfl (.tmp 73) (.tmp 76) 24 24 rfl 28 Tryd.underlying24 (by kernel_rfl) g ((i + 1) * 4) (bs.length + 1 - (i + 1)) (cap - (i + 1)) ⟨g, i * 4, none⟩ (bs.length + 1 - i) (cap - i) (by simp [Act.eval, Act.put]) (by simp [Act.eval, Act.put]) cur.toList tg HGT.out (bvs (bs.drop i)) HM.out.1 hs1.out HM.out.2.2.1 (fun u hu => bvs_one _ u hu) ?_; intro w2 HG2 hU2)
  go_wp2_with (refine wpList_copy4 rfl _ _ 24 24 rfl 28 Tryd.underlying24 (by kernel_rfl) g (i * 4) (bs.length + 1 - i) (cap - i) ⟨vb, 0, none⟩ 1 1 rfl rfl _ tg HG2.out (bcs q) HM.out.2.1 (cells_of_one (Blk.upd (w := w.drew) HQ.out hU2 HNE.out)) (by rw [HM.out.2.2.2]; show i * 4 + 4 ≤ cap * 4; omega) (fun u hu => bvs_one [q] u (by simpa [bvs] using hu)) ?_; intro w3 HG3 hU3)
  go_ret
  exact ⟨rfl, _, ⟨tg, HG3.out⟩, HFIN.out.2, HFIN.out.1, Upd.trans (show Upd g w w2 from ⟨hU2.os, hU2.tape, hU2.output, hU2.size, hU2.block⟩) hU3⟩

set_option maxHeartbeats 4000000 in
theorem insB_grow (bs : List Bd) (q : Bd) (i g vb : Nat) (cur : Array Value) (w : World) (hn : bs.length ≤ 1000) (hi : i < bs.length)
    (hg : Blk w g cur) (hcur : cur.toList.take (bs.length * 4) = bvs bs) (hq : Blk w vb (bcs q).toArray) :
    Calls Tryd.prog 47 #[.slice (some ⟨g, 0, none⟩) bs.length bs.length, .int .i64 i, .slice (some ⟨vb, 0, none⟩) 1 1] w fun e w' => ∃ G, bs.length + 1 ≤ G ∧ e = .returned (.slice (some ⟨w.heap.size, 0, none⟩) (bs.length + 1) G) ∧ (∃ fin : List Value, Blk w' w.heap.size fin.toArray ∧ fin.length = G * 4 ∧ fin.take ((bs.length + 1) * 4) = bvs (bs.take i ++ q :: bs.drop i)) ∧ Below w.heap.size w w' := by
  obtain ⟨i0, hinf, hz0, hz1, hzb⟩ := info_parts info_bind
  have hz2 : ¬ ((i : Int) = (bs.length : Int)) := by omega
  have hze : ((i : Int) == (bs.length : Int)) = false := by simpa using hz2
  have hw1 : IntKind.i64.wrap ((i : Int) + 1) = (i : Int) + 1 := wrap_small (by omega) (by omega)
  have hw2 : IntKind.i64.wrap ((bs.length : Int) + 1) = (bs.length : Int) + 1 := wrap_small (by omega) (by omega)
  have hw3 : IntKind.i64.wrap ((bs.length : Int) + 1 - (i : Int)) = (bs.length : Int) + 1 - (i : Int) := wrap_small (by omega) (by omega)
  have hgt : (bs.length : Int) < (bs.length : Int) + 1 := by omega
  have hci : ¬ (bs.length = i) := by omega
  have hii : (i : Int) ≤ (bs.length : Int) + 1 := by omega
  have hii0 : (i : Int) ≤ (bs.length : Int) := by omega
  have hii1 : (i : Int) + 1 ≤ (bs.length : Int) + 1 := by omega
  have hi0 : (0 : Int) ≤ (i : Int) + 1 := by omega
  have htn : ((i : Int) + 1).toNat = i + 1 := by omega
  have hkk : (bs.length : Int) + 1 - (i : Int) = ((bs.length + 1 - i : Nat) : Int) := by omega
  have hik : i + (bs.length + 1 - i) = bs.length + 1 := by omega
  have hold : (Builtin.firstCells i0.size i (.slice (some ⟨g, 0, none⟩) i bs.length)).run Tryd.prog w.drew = .ok (bvs (bs.take i)).toArray w.drew := by
    rw [hz1]
    refine run_firstCells_some w.drew 4 i ⟨g, 0, none⟩ i bs.length (bvs (bs.take i)) (by rw [bvs_length, List.length_take]; omega) (fun j v hj => ?_)
    show w.cell? _ = _
    rw [Addr.add_lit, Nat.zero_add, hg.cells]
    rw [bvs_take, ← hcur, List.take_take, show min (i * 4) (bs.length * 4) = i * 4 by omega, List.getElem?_take] at hj
    split at hj
    · rw [← Array.getElem?_toList]; exact hj
    · cases hj
  obtain ⟨G, hG⟩ : ∃ G, G = grownCap w (bs.length + 1) bs.length 28 := ⟨_, rfl⟩
  have hGn : bs.length + 1 ≤ G := by rw [hG]; exact grownCap_ge w _ _ _
  have hG63 : G ≤ 9223372036854775807 := by
    have := grownCap_le_maxLen w (bs.length + 1) bs.length 28 (by unfold maxLen; omega)
    rw [← hG] at this
    unfold maxLen at this
    omega
  obtain ⟨ROW, hROW⟩ : ∃ ROW : Array Value, ROW = (bvs (bs.take i)).toArray ++ Builtin.zeroCells (Value.agg #[.int .i64 0, .int .i64 0, .int .i64 0, .int .i64 0]).cells (bs.length + 1 - i) ++ Builtin.zeroCells (Value.agg #[.int .i64 0, .int .i64 0, .int .i64 0, .int .i64 0]).cells (G - (bs.length + 1)) := ⟨_, rfl⟩
  have hrz : ∀ ty, (Builtin.append_ #[24, 3] ty #[.slice (some ⟨g, 0, none⟩) i bs.length, .int .i64 ((bs.length : Int) + 1 - (i : Int))]).run Tryd.prog w =
      .ok (.slice (some ⟨w.heap.size, 0, none⟩) (bs.length + 1) G) (w.drew.alloc (.cells ROW 28)) := fun ty => by
    have h := Lib.run_append_grow_zeros w 24 3 ty 28 i0 _ .i64 .i64 Tryd.underlying24 Tryd.underlying3 hinf hz0 (some ⟨g, 0, none⟩) i bs.length (bvs (bs.take i)) hold (bs.length + 1 - i) (by omega) (by rw [hz1]; omega) (by omega) (by omega) (by rw [hzb]; omega) (by rw [hzb, hik]; exact growslice_fits (by omega) (by omega))
    rw [hik] at h
    rw [hkk, hROW, hG]
    exact h
  have hRs : ROW.size = G * 4 := by
    rw [hROW]
    simp [Builtin.zeroCells, Value.cells, bvs_length]
    omega
  have hRt : ROW.toList.take (i * 4) = bvs (bs.take i) := by
    rw [hROW]
    have hl : (bvs (bs.take i)).length = i * 4 := by rw [bvs_length, List.length_take]; omega
    rw [Array.toList_append, Array.toList_append, List.append_assoc, List.take_append_of_le_length (by simpa using Nat.le_of_eq hl.symm)]
    exact List.take_of_length_le (by simpa using Nat.le_of_eq hl)
  have hBN : Below w.heap.size w (w.drew.alloc (.cells ROW 28)) := (by repeat' (first | with_reducible exact Below.refl _ _ | with_reducible assumption | with_reducible refine Below.drew ?_ | with_reducible refine Below.alloc ?_ ?_ _ | with_reducible refine Below.setCell ?_ ?_ _ | (simp; done) | (simp; omega) | omega))
  have hgN : (w.drew.alloc (.cells ROW 28)).heap[w.heap.size]? = some (.cells ROW.toList.toArray 28 (0, 0)) := by
    have := (heap_alloc_new w.drew (.cells ROW 28))
    simpa using this
  have hglt := hg.lt
  have hqlt := hq.lt
  have hg1 := hg.belowb hBN
  have hq1 := hq.belowb hBN
  have hs1 := hide (cells_of_blk (i := i) hg1 rfl hcur)
  have hdl : (bvs (bs.drop i)).length = (bs.length - i) * 4 := by rw [bvs_length, List.length_drop]
  have hql : (bcs q).length = 4 := rfl
  have hRl : ROW.toList.length = G * 4 := by simpa using hRs
  have hmin1 : (bcs q).length = Nat.min 1 (bs.length + 1 - i) * 4 := by rw [hql]; simp only [Nat.min_def]; split <;> omega
  have hmin2 : (bvs (bs.drop i)).length = Nat.min (bs.length - i) (bs.length + 1 - (i + 1)) * 4 := by rw [hdl]; simp only [Nat.min_def]; split <;> omega
  have hfit1 : i * 4 + (bcs q).length ≤ ROW.toList.length := by rw [hql, hRl]; omega
  have hlen1 : (splice ROW.toList (i * 4) (bcs q)).length = G * 4 := by rw [length_splice _ _ _ hfit1, hRl]
  have hfit2 : (i + 1) * 4 + (bvs (bs.drop i)).length ≤ (splice ROW.toList (i * 4) (bcs q)).length := by rw [hlen1, hdl]; omega
  have hlen2 : (splice (splice ROW.toList (i * 4) (bcs q)) ((i + 1) * 4) (bvs (bs.drop i))).length = G * 4 := by rw [length_splice _ _ _ hfit2, hlen1]
  have hfin : ((splice (splice ROW.toList (i * 4) (bcs q)) ((i + 1) * 4) (bvs (bs.drop i))).take ((bs.length + 1) * 4) = bvs (bs.take i ++ q :: bs.drop i)) := by
    have h := splice_ins2 ROW.toList (bcs q) (bvs (bs.drop i)) (i * 4) (by rw [hdl, hql, hRl]; omega)
    rw [hdl, hql, show i * 4 + 4 + (bs.length - i) * 4 = (bs.length + 1) * 4 by omega, show i * 4 + 4 = (i + 1) * 4 by omega] at h
    rw [h, bvs_append, bvs_cons, hRt]
  have HM := hide (And.intro hmin1 (And.intro hmin2 (And.intro hfit1 hfit2)))
  have HFIN := hide (And.intro hlen2 hfin)
  have HGN := hide hgN
  have HQ1 := hide hq1
  have HBN := hide hBN
  have hGi : ¬ (G = i) := by omega
  have hGi1 : ¬ (G = i + 1) := by omega
  have hneq : vb ≠ w.heap.size := by omega
  have hneg : g ≠ w.heap.size := by omega
  have HNE := hide (And.intro hneq hneg)
  clear hfin hlen1 hlen2 hmin1 hmin2 hfit1 hfit2 hdl hql hRl hRs hRt hROW hG hcur hq hg hgN hq1 hBN hg1 hold hkk hik hneq hneg hglt hqlt
  go_enter Tryd.func47, Tryd.ntmps47
  go_wp2_with (first
    | (at_builtin; refine Lib.wpList_append_run _ rfl _ _ _ _ rfl _ _ rfl rfl _ _ (hrz _) ?_)
    | (refine wpList_copy4 rfl _ _ 24 24 rfl 28 Tryd.underlying24 (by kernel_rfl) w.heap.size (i * 4) (bs.length + 1 - i) (G - i) ⟨vb, 0, none⟩ 1 1 rfl rfl _ 28 HGN.out (bcs q) HM.out.1 (cells_of_one HQ1.out) HM.out.2.2.1 (fun u hu => bvs_one [q] u (by simpa [bvs] using hu)) ?_; intro w2 HG2 hU2))
  have hU2' : Upd w.heap.size (w.drew.alloc (.cells ROW 28)) w2 := ⟨hU2.os, hU2.tape, hU2.output, hU2.size, hU2.block⟩
  have hs2 : Hid (∀ j v, (bvs (bs.drop i))[j]? = some v → w2.cell? ((⟨g, i * 4, none⟩ : Addr).add j) = some v) := hide (fun j v hj => by
    have := hs1.out j v hj
    rw [Addr.add_lit] at this ⊢
    rw [World.cell?_of_block (hU2'.block g HNE.out.2)]
    exact this)
  clear hU2 hs1
  go_region_law (refine step_copy4 rfl (.tmp 50) (.tmp 53) 24 24 rfl 28 Tryd.underlying24 (by kernel_rfl) w.heap.size ((i + 1) * 4) (bs.length + 1 - (i + 1)) (G - (i + 1)) ⟨g, i * 4, none⟩ (bs.length - i) (bs.length - i) (by simp [Act.eval, Act.put]) (by simp [Act.eval, Act.put]) (splice ROW.toList (i * 4) (bcs q)) 28 HG2.out (bvs (bs.drop i)) HM.out.2.1 hs2.out HM.out.2.2.2 (fun u hu => bvs_one _ u hu) ?_; intro w3 HG3 hU3)
  have hU3' : Upd w.heap.size w2 w3 := ⟨hU3.os, hU3.tape, hU3.output, hU3.size, hU3.block⟩
  clear hU3 hs2 hrz
  go_wp2
  go_ret
  exact ⟨G, hGn, rfl, ⟨_, ⟨_, HG3.out⟩, HFIN.out.1, HFIN.out.2⟩, HBN.out.trans ((hU2'.below (Nat.le_refl _)).trans (hU3'.below (Nat.le_refl _)))⟩

theorem qat_of_blk {w : World} {g cap k lo hi : Nat} {fin : List Value} {L : List Bd} (hg : Blk w g fin.toArray) (hL : L.length = k) (ht : fin.take (k * 4) = bvs L) (hk : k ≤ cap) (hlo : lo ≤ g) (hhi : g < hi) : QAt lo hi w (.slice (some ⟨g, 0, none⟩) k cap) L := by
  subst hL
  have hcell : ∀ j, j < L.length * 4 → w.cell? ⟨g, 0 + j, none⟩ = (bvs L)[j]? := by
    intro j hj
    rw [Nat.zero_add, hg.cells, ← ht, List.getElem?_take_of_lt hj]
    simp
  refine ⟨_, _, rfl, hk, .inr ⟨g, 0, rfl, hlo, hhi, fun i hi => ⟨⟨?_, ?_, ?_, ?_⟩, hg.froz _, hg.froz _, hg.froz _, hg.froz _⟩⟩⟩
  · rw [hcell _ (by omega)]; exact (bvs_get L i hi).1
  · rw [Nat.add_assoc, hcell _ (by omega)]; exact (bvs_get L i hi).2.1
  · rw [Nat.add_assoc, hcell _ (by omega)]; exact (bvs_get L i hi).2.2.1
  · rw [Nat.add_assoc, hcell _ (by omega)]; exact (bvs_get L i hi).2.2.2
theorem insB_calls (bs : List Bd) (v : Value) (q : Bd) (i vb base : Nat) (w : World) (hn : bs.length ≤ 1000) (hi : i ≤ bs.length) (hown : w.ownsRow base 28 4 v bs.length (bvs bs)) (hbase : base ≤ w.heap.size) (hq : Blk w vb (bcs q).toArray) (hvb : v.ownBlock ≠ some vb) :
    Calls Tryd.prog 47 #[v, .int .i64 i, .slice (some ⟨vb, 0, none⟩) 1 1] w fun e w' => ∃ v', e = .returned v' ∧ QAt base w'.heap.size w' v' (bs.take i ++ q :: bs.drop i) ∧ Below base w w' := by
  have hLl : (bs.take i ++ q :: bs.drop i).length = bs.length + 1 := by simp; omega
  by_cases hie : i = bs.length
  · subst hie
    rw [List.take_length, List.drop_length]
    exact insB_end bs v q vb base w hn hown hbase hq
  · have hlt : i < bs.length := by omega
    rcases hown.2 with ⟨_, h0⟩ | ⟨g, cap, cur, rfl, hgb, hg, hnc, hcm, hcs, hcur⟩
    · omega
    · have hB : Blk w g cur := ⟨_, hg⟩
      have hne : vb ≠ g := fun h => hvb (by rw [h]; rfl)
      by_cases hroom : bs.length < cap
      · refine (insB_room bs q i g cap vb cur w hn hlt hroom hcm hB hcs hcur hq hne).mono ?_
        rintro e w' ⟨rfl, fin, hf, hfl, hft, hu⟩
        exact ⟨_, rfl, qat_of_blk hf hLl hft (by omega) hgb (by rw [hu.size]; exact hB.lt), hu.below hgb⟩
      · obtain rfl : cap = bs.length := by omega
        refine (insB_grow bs q i g vb cur w hn hlt hB hcur hq).mono ?_
        rintro e w' ⟨G, hG, rfl, ⟨fin, hf, hfl, hft⟩, hb⟩
        exact ⟨_, rfl, qat_of_blk hf hLl hft hG hbase hf.lt, hb.mono hbase⟩
end Go.Proofs.YtcfechnkgefhcaaDoor
