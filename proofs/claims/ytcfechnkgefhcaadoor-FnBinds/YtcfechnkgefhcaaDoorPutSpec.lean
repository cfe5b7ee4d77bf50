/-
  A bind put among rising ones: what it gives, and spec.l8Put, spec.PutBind; laws on results with binds.
-/
import Derived.Test.YtcfechnkgefhcaaDoorSymOfFns
namespace Go.Proofs.YtcfechnkgefhcaaDoor
set_option maxRecDepth 20000
open Go.ChangeShapes Go.WideShapes Go.ChangeAt Go.RowKit
set_option linter.unusedVariables false
set_option linter.unusedSimpArgs false
set_option maxRecDepth 20000

def stepP (q : Bd) (st : List Bd × Bool) (p : Bd) : List Bd × Bool :=
  let a := if st.2 = false ∧ aheadB p q = false then (st.1 ++ [q], true) else st
  if aheadB p q = true ∨ aheadB q p = true then (a.1 ++ [p], a.2) else a
def putS (q : Bd) (bs : List Bd) : List Bd × Bool := bs.foldl (stepP q) ([], false)
/-- The binds with q in its place. -/
def putR (bs : List Bd) (q : Bd) : List Bd := if (putS q bs).2 = true then (putS q bs).1 else (putS q bs).1 ++ [q]
theorem putS_next {bs : List Bd} {q : Bd} {k : Nat} (h : k < bs.length) : putS q (bs.take (k + 1)) = stepP q (putS q (bs.take k)) (bs.getD k b0) := by
  unfold putS
  rw [List.take_add_one, List.foldl_append, getB h, List.getElem?_eq_getElem h]
  rfl
theorem stepP_len (q p : Bd) (st : List Bd × Bool) : (stepP q st p).1.length ≤ st.1.length + 2 := by
  unfold stepP
  dsimp only
  split <;> split <;> simp <;> omega
theorem putS_len (q : Bd) (bs : List Bd) : ∀ st : List Bd × Bool, (bs.foldl (stepP q) st).1.length ≤ st.1.length + 2 * bs.length := by
  induction bs with
  | nil => intro st; simp
  | cons p ps ih =>
    intro st
    have h1 := ih (stepP q st p)
    have h2 := stepP_len q p st
    simp only [List.foldl_cons, List.length_cons]
    omega
theorem putS_le (q : Bd) (bs : List Bd) : (putS q bs).1.length ≤ 2 * bs.length := by
  have := putS_len q bs ([], false)
  simpa [putS] using this
def bud (b : Bool) : Nat := if b = true then 0 else 1
theorem stepP_bud (q p : Bd) (st : List Bd × Bool) : (stepP q st p).1.length + bud (stepP q st p).2 ≤ st.1.length + bud st.2 + 1 := by
  obtain ⟨acc, dn⟩ := st
  unfold stepP bud
  cases dn <;> cases aheadB p q <;> cases aheadB q p <;> simp
theorem putS_bud (q : Bd) (bs : List Bd) : ∀ st : List Bd × Bool, (bs.foldl (stepP q) st).1.length + bud (bs.foldl (stepP q) st).2 ≤ st.1.length + bud st.2 + bs.length := by
  induction bs with
  | nil => intro st; simp
  | cons p ps ih =>
    intro st
    have h1 := ih (stepP q st p)
    have h2 := stepP_bud q p st
    simp only [List.foldl_cons, List.length_cons]
    omega
theorem stepP_pos (q p : Bd) (st : List Bd × Bool) (h : st.2 = true → 1 ≤ st.1.length) : (stepP q st p).2 = true → 1 ≤ (stepP q st p).1.length := by
  obtain ⟨acc, dn⟩ := st
  unfold stepP
  cases dn <;> cases aheadB p q <;> cases aheadB q p <;> simp at h ⊢ <;> omega
theorem putS_pos (q : Bd) (bs : List Bd) : ∀ st : List Bd × Bool, (st.2 = true → 1 ≤ st.1.length) → (bs.foldl (stepP q) st).2 = true → 1 ≤ (bs.foldl (stepP q) st).1.length := by
  induction bs with
  | nil => intro st h; exact h
  | cons p ps ih => intro st h; exact ih _ (stepP_pos q p st h)
theorem putR_len (bs : List Bd) (q : Bd) : 1 ≤ (putR bs q).length ∧ (putR bs q).length ≤ bs.length + 1 := by
  have h := putS_bud q bs ([], false)
  have hp := putS_pos q bs ([], false) (by simp)
  unfold putR putS
  split
  · rename_i hd
    refine ⟨hp hd, ?_⟩
    simp [bud, hd] at h
    omega
  · rename_i hd
    simp only [List.length_append, List.length_cons, List.length_nil]
    simp [bud, hd] at h
    omega
theorem fold_ahead (q : Bd) : ∀ (xs : List Bd) (acc : List Bd), (∀ p ∈ xs, aheadB p q = true) → xs.foldl (stepP q) (acc, false) = (acc ++ xs, false)
  | [], acc, _ => by simp
  | p :: xs, acc, h => by
    have hp := h p List.mem_cons_self
    have e : stepP q (acc, false) p = (acc ++ [p], false) := by
      unfold stepP
      simp [hp]
    rw [List.foldl_cons, e, fold_ahead q xs _ (fun r hr => h r (List.mem_cons_of_mem _ hr))]
    simp
theorem fold_done (q : Bd) : ∀ (ys : List Bd) (acc : List Bd), (∀ p ∈ ys, aheadB p q = false) → ys.foldl (stepP q) (acc, true) = (acc ++ ys.filter (fun p => aheadB q p), true)
  | [], acc, _ => by simp
  | p :: ys, acc, h => by
    have hp := h p List.mem_cons_self
    have ih := fun acc => fold_done q ys acc (fun r hr => h r (List.mem_cons_of_mem _ hr))
    rw [List.foldl_cons]
    cases hq : aheadB q p with
    | true =>
      have e : stepP q (acc, true) p = (acc ++ [p], true) := by unfold stepP; simp [hp, hq]
      rw [e, ih, List.filter_cons, hq]
      simp
    | false =>
      have e : stepP q (acc, true) p = (acc, true) := by unfold stepP; simp [hp, hq]
      rw [e, ih, List.filter_cons, hq]
      simp
theorem fold_rest (q : Bd) : ∀ (ys : List Bd) (acc : List Bd), (∀ p ∈ ys, aheadB p q = false) → (if (ys.foldl (stepP q) (acc, false)).2 = true then (ys.foldl (stepP q) (acc, false)).1 else (ys.foldl (stepP q) (acc, false)).1 ++ [q]) = acc ++ q :: ys.filter (fun p => aheadB q p)
  | [], acc, _ => by simp
  | p :: ys, acc, h => by
    have hp := h p List.mem_cons_self
    have hr : ∀ r ∈ ys, aheadB r q = false := fun r hr => h r (List.mem_cons_of_mem _ hr)
    rw [List.foldl_cons]
    cases hq : aheadB q p with
    | true =>
      have e : stepP q (acc, false) p = (acc ++ [q] ++ [p], true) := by unfold stepP; simp [hp, hq]
      rw [e, fold_done q ys _ hr, if_pos rfl, List.filter_cons, hq]
      simp
    | false =>
      have e : stepP q (acc, false) p = (acc ++ [q], true) := by unfold stepP; simp [hp, hq]
      rw [e, fold_done q ys _ hr, if_pos rfl, List.filter_cons, hq]
      simp
theorem putR_cut {bs : List Bd} {q : Bd} {n : Nat} (hc : CutAt bs q n) : putR bs q = bs.take n ++ q :: (bs.drop n).filter (fun p => aheadB q p) := by
  obtain ⟨hle, h1, h2⟩ := hc
  have hx : ∀ p ∈ bs.take n, aheadB p q = true := fun p hp => by
    obtain ⟨i, hi, rfl⟩ := List.mem_iff_getElem.1 hp
    rw [List.length_take] at hi
    have := h1 i (by omega)
    rw [getB (by omega : i < bs.length)] at this
    rw [List.getElem_take]; exact this
  have hy : ∀ p ∈ bs.drop n, aheadB p q = false := fun p hp => by
    obtain ⟨i, hi, rfl⟩ := List.mem_iff_getElem.1 hp
    rw [List.length_drop] at hi
    have := h2 (n + i) (by omega) (by omega)
    rw [getB (by omega : n + i < bs.length)] at this
    rw [List.getElem_drop]; exact this
  have e : putS q bs = (bs.drop n).foldl (stepP q) (bs.take n, false) := by
    unfold putS
    conv => lhs; rw [← List.take_append_drop n bs, List.foldl_append, fold_ahead q _ [] hx, List.nil_append]
  unfold putR
  rw [e]
  exact fold_rest q (bs.drop n) (bs.take n) hy
theorem putR_hit {bs : List Bd} {q : Bd} {n : Nat} (hs : SortedB bs) (hc : CutAt bs q n) (h : hitB bs q n = true) : n < bs.length ∧ putR bs q = bs.set n q := by
  unfold hitB at h
  simp only [Bool.and_eq_true, decide_eq_true_eq] at h
  obtain ⟨hn, hz⟩ := h
  have hz := (cmp_hit _ _).1 hz
  refine ⟨hn, ?_⟩
  have hd : bs.drop n = bs.getD n b0 :: bs.drop (n + 1) := by rw [getB hn]; exact List.drop_eq_getElem_cons hn
  have h0 : aheadB q (bs.getD n b0) = false := by
    cases hA : aheadB q (bs.getD n b0) with
    | false => rfl
    | true => rw [ahead_iff] at hA; omega
  have hf : (bs.drop (n + 1)).filter (fun p => aheadB q p) = bs.drop (n + 1) := by
    rw [List.filter_eq_self]
    intro p hp
    obtain ⟨i, hi, rfl⟩ := List.mem_iff_getElem.1 hp
    rw [List.length_drop] at hi
    have := hs.at (show n < n + 1 + i by omega) (by omega)
    rw [getB (by omega : n + 1 + i < bs.length)] at this
    rw [List.getElem_drop]
    rw [ahead_iff] at this ⊢
    omega
  rw [putR_cut hc, hd, List.filter_cons, h0, hf, List.set_eq_take_append_cons_drop]
  simp [hn]
theorem putR_miss {bs : List Bd} {q : Bd} {n : Nat} (hs : SortedB bs) (hc : CutAt bs q n) (h : hitB bs q n = false) : putR bs q = bs.take n ++ q :: bs.drop n := by
  rw [putR_cut hc]
  congr 2
  obtain ⟨hle, h1, h2⟩ := hc
  rw [List.filter_eq_self]
  intro p hp
  obtain ⟨i, hi, rfl⟩ := List.mem_iff_getElem.1 hp
  rw [List.length_drop] at hi
  rw [List.getElem_drop, ← getB (by omega : n + i < bs.length)]
  have hn : n < bs.length := by omega
  have hz : ¬ cmpK (bs.getD n b0) q = 0 := by
    intro hz
    unfold hitB at h
    rw [hz, decide_eq_true hn] at h
    cases h
  rw [cmp_hit] at hz
  have h2n := h2 n (Nat.le_refl _) hn
  have h3 : ¬ ((bs.getD n b0).1 < q.1 ∨ ((bs.getD n b0).1 = q.1 ∧ (bs.getD n b0).2.1 < q.2.1)) := fun hh => by
    have := (ahead_iff (bs.getD n b0) q).2 hh
    rw [h2n] at this; cases this
  by_cases e : i = 0
  · subst e
    rw [Nat.add_zero, ahead_iff]
    omega
  · have h4 := hs.at (show n < n + i by omega) (by omega)
    rw [ahead_iff] at h4 ⊢
    omega

/-- What PutBind answers: its code and its binds. -/
def putCd (bs : List Bd) (q : Bd) : Int := if bindsCode bs = 0 then (if bindCode q = 0 then (if 24 < (putR bs q).length then 2 else 0) else bindCode q) else bindsCode bs
def putRs (bs : List Bd) (q : Bd) : List Bd := if putCd bs q = 0 then putR bs q else []
theorem putRs_len (bs : List Bd) (q : Bd) : (putRs bs q).length ≤ 24 := by
  unfold putRs
  by_cases h : putCd bs q = 0
  · rw [if_pos h]
    unfold putCd at h
    by_cases h1 : bindsCode bs = 0
    · rw [if_pos h1] at h
      by_cases h2 : bindCode q = 0
      · rw [if_pos h2] at h
        by_cases h3 : 24 < (putR bs q).length
        · rw [if_pos h3] at h; cases h
        · omega
      · rw [if_neg h2] at h; exact absurd h h2
    · rw [if_neg h1] at h; exact absurd h h1
  · rw [if_neg h]; simp
theorem own_bel {w w' : World} {base n size : Nat} {e : TypeId} {v : Value} {xs : List Value} (h : w.ownsRow base e size v n xs) (hb : Below w.heap.size w w') : w'.ownsRow base e size v n xs := by
  obtain ⟨hl, h⟩ := h
  refine ⟨hl, ?_⟩
  rcases h with h | ⟨g, cap, cur, hv, hbs, hg, hr⟩
  · exact .inl h
  · have hlt : g < w.heap.size := by
      rcases Nat.lt_or_ge g w.heap.size with h' | h'
      · exact h'
      · rw [Array.getElem?_eq_none h'] at hg; cases hg
    exact .inr ⟨g, cap, cur, hv, hbs, by rw [hb.block g hlt]; exact hg, hr⟩
theorem own_alloc {w : World} {base n size : Nat} {e : TypeId} {v : Value} {xs : List Value} (h : w.ownsRow base e size v n xs) (o : Obj) : (w.alloc o).ownsRow base e size v n xs := own_bel h ((Below.refl _ _).alloc (Nat.le_refl _) o)
theorem new_one (w : World) (q : Bd) (t : TypeId) : QRead (w.alloc (.cells #[.int .i64 q.1, .int .i64 q.2.1, .int .i64 q.2.2.1, .int .i64 q.2.2.2] t)) (.slice (some ⟨w.heap.size, 0, none⟩) 1 1) [q] :=
  ⟨_, _, rfl, .inr ⟨w.heap.size, 0, rfl, fun i hi => by
    obtain rfl : i = 0 := by simpa using hi
    exact ⟨by simp, by simp, by simp, by simp⟩⟩⟩
set_option maxHeartbeats 8000000 in
theorem l8Put_own (bs : List Bd) (v : Value) (q : Bd) (w : World) (hn : bs.length ≤ 100000) (h1 : QRead w v bs) :
    Calls Tryd.prog 51 #[v, .agg #[.int .i64 q.1, .int .i64 q.2.1, .int .i64 q.2.2.1, .int .i64 q.2.2.2]] w fun e w' => ∃ v', e = .returned v' ∧ w'.ownsRow (w.heap.size + 1) 28 4 v' (putR bs q).length (bvs (putR bs q)) ∧ Below w.heap.size w w' := by
  obtain ⟨i0, hi, hz0, hz1, hz2⟩ := info_parts info_bind
  obtain ⟨a1, c1, rfl, h1⟩ := h1
  obtain ⟨q0, q1, q2, q3⟩ := q
  show Calls _ _ #[_, .agg #[.int .i64 q0, .int .i64 q1, .int .i64 q2, .int .i64 q3]] _ _
  generalize hres : putR bs (q0, q1, q2, q3) = res
  have HR := hide hres
  clear hres
  have bel0 : Below w.heap.size w ((w.alloc (.cells #[.int .i64 q0, .int .i64 q1, .int .i64 q2, .int .i64 q3] 28)).alloc (.cells #[] 28)) := (by repeat' (first | with_reducible exact Below.refl _ _ | with_reducible assumption | with_reducible refine Below.drew ?_ | with_reducible refine Below.alloc ?_ ?_ _ | with_reducible refine Below.setCell ?_ ?_ _ | (simp; done) | (simp; omega) | omega))
  have T0 : Q4 ((w.alloc (.cells #[.int .i64 q0, .int .i64 q1, .int .i64 q2, .int .i64 q3] 28)).alloc (.cells #[] 28)) w.heap.size 0 (q0, q1, q2, q3) := ⟨by simp, by simp, by simp, by simp⟩
  have own0 : ((w.alloc (.cells #[.int .i64 q0, .int .i64 q1, .int .i64 q2, .int .i64 q3] 28)).alloc (.cells #[] 28)).ownsRow (w.heap.size + 1) 28 4 (.slice (some ⟨w.heap.size + 1, 0, none⟩) 0 0) 0 (bvs []) := by
    have h := World.ownsRow_lit (base := w.heap.size + 1) (e := 28) (size := 4) (w.alloc (.cells #[.int .i64 q0, .int .i64 q1, .int .i64 q2, .int .i64 q3] 28)) #[] 0 (by simp) (by unfold maxLen; omega) rfl
    rw [show (w.alloc (.cells #[.int .i64 q0, .int .i64 q1, .int .i64 q2, .int .i64 q3] 28)).heap.size = w.heap.size + 1 by simp] at h
    exact h
  have H1 := hide h1
  clear h1
  go_enter Tryd.func51, Tryd.ntmps51
  go_wp2_with fail
  generalize ((w.alloc (.cells #[.int .i64 q0, .int .i64 q1, .int .i64 q2, .int .i64 q3] 28)).alloc (.cells #[] 28)) = W at *
  have hOWN := hide own0
  clear own0
  go_loopw [5, 6, 7] (fun ov dn i wr => ∃ (k : Nat) (st : List Bd × Bool), k ≤ bs.length ∧ i = .int .i64 k ∧ dn = .bool st.2 ∧ Hid (putS (q0, q1, q2, q3) (bs.take k) = st) ∧ Hid (wr.ownsRow (w.heap.size + 1) 28 4 ov st.1.length (bvs st.1)) ∧ Below w.heap.size w wr ∧ Q4 wr w.heap.size 0 (q0, q1, q2, q3) ∧ w.heap.size < wr.heap.size) (fun _ _ i _ => bs.length - (intOf i).toNat)
  case atStart => exact ⟨0, ([], false), Nat.zero_le _, rfl, rfl, hide rfl, hOWN, bel0, T0, lt_of_cell T0.1⟩
  case round =>
    obtain ⟨k, ⟨acc, dn⟩, hkk, rfl, rfl, HS, OWN, hb, T, hlw⟩ := hrel
    clear bel0 T0 hOWN
    have hacc : acc.length ≤ 200000 := by
      have h := putS_le (q0, q1, q2, q3) (bs.take k)
      rw [HS.out, List.length_take] at h
      simp only at h
      omega
    by_cases hlt : k < bs.length
    · have hpos : bs ≠ [] := by intro h; rw [h] at hlt; simp at hlt
      rcases H1.out with h1 | ⟨b1, o1, rfl, h1⟩
      · exact absurd h1 hpos
      have XW := hide (h1 k hlt)
      have hltI : (k : Int) < (bs.length : Int) := by omega
      have HN := hide (putS_next (q := (q0, q1, q2, q3)) hlt)
      clear h1 hpos H1
      generalize bs.getD k b0 = x at XW HN
      obtain ⟨x0, x1, x2, x3⟩ := x
      have X := XW.out.below hb
      rw [HS.out] at HN
      cases hA1 : aheadB (x0, x1, x2, x3) (q0, q1, q2, q3) with
      | true =>
        cases dn with
        | true =>
          go_wp2_with fail
          refine (l8Ahead_calls (x0, x1, x2, x3) (q0, q1, q2, q3) b1 w.heap.size (o1 + k * 4) 0 _ X T).mono ?_
          rintro e r1 ⟨rfl, qb⟩
          rw [hA1]
          replace T := T.below qb
          replace OWN := hide (own_bel OWN.out qb)
          replace hb := hb.trans (qb.mono hb.size)
          replace hlw := Nat.lt_of_lt_of_le hlw qb.size
          have X := XW.out.below hb
          clear qb
          have g0 := X.1
          have g1 := X.2.1
          have g2 := X.2.2.1
          have g3 := X.2.2.2
          dsimp only at g0 g1 g2 g3
          obtain ⟨av2, cv2, hov2, hcv2⟩ := own_room4 OWN.out
          subst hov2
          have OWN2 := hide (own_alloc OWN.out (.cells #[.int .i64 x0, .int .i64 x1, .int .i64 x2, .int .i64 x3] 28))
          have qa : Below r1.heap.size r1 (r1.alloc (.cells #[.int .i64 x0, .int .i64 x1, .int .i64 x2, .int .i64 x3] 28)) := (by repeat' (first | with_reducible exact Below.refl _ _ | with_reducible assumption | with_reducible refine Below.drew ?_ | with_reducible refine Below.alloc ?_ ?_ _ | with_reducible refine Below.setCell ?_ ?_ _ | (simp; done) | (simp; omega) | omega))
          have T2 := T.below qa
          have hb2 := hb.trans (qa.mono hb.size)
          have hlw2 := Nat.lt_of_lt_of_le hlw qa.size
          go_wp2_with (at_builtin; refine wpList_append_binds _ rfl _ _ 24 rfl (w.heap.size + 1) 28 i0 (.agg #[.int .i64 0, .int .i64 0, .int .i64 0, .int .i64 0]) 32 Tryd.underlying24 hi hz0 hz1 hz2 rfl (.slice av2 (acc.length) cv2) (acc.length) (acc) (by first | rfl | simp) (by first | exact OWN2.out | simpa using OWN2.out) (some ⟨r1.heap.size, 0, none⟩) [(x0, x1, x2, x3)] 1 1 rfl rfl (new_one r1 (x0, x1, x2, x3) 28) (by unfold maxLen; first | omega | (simp; omega)) (by first | omega | (simp; omega)) (by omega) ?_; intro ov2 r2 own2 hgr)
          have qg : Below (w.heap.size + 1) (r1.alloc (.cells #[.int .i64 x0, .int .i64 x1, .int .i64 x2, .int .i64 x3] 28)) r2 := (Below.refl _ _).grown hgr (by omega) (fun k hk => (OWN2.out.lt k (by simpa [Value.ownBlock] using hk)).1)
          replace T := T2.belowb qg (by omega)
          replace hb := hb2.trans (qg.mono (by omega))
          replace hlw := Nat.lt_of_lt_of_le hlw2 qg.size
          have X := XW.out.below hb
          have OWN := hide (show r2.ownsRow (w.heap.size + 1) 28 4 ov2 (acc ++ [(x0, x1, x2, x3)]).length (bvs (acc ++ [(x0, x1, x2, x3)])) by simpa using own2)
          clear qg qa T2 hb2 hlw2 OWN2 hgr own2 g0 g1 g2 g3
          have HS2 : Hid (putS (q0, q1, q2, q3) (bs.take (k + 1)) = (acc ++ [(x0, x1, x2, x3)], true)) := hide (by rw [HN.out]; unfold stepP; simp [hA1])
          clear HS HN
          go_wp2
          go_roundw
          case rel => exact ⟨k + 1, (acc ++ [(x0, x1, x2, x3)], true), by omega, by go_num, rfl, HS2, OWN, hb, T, hlw⟩
          case measure => simp [intOf]; omega
        | false =>
          go_wp2_with fail
          refine (l8Ahead_calls (x0, x1, x2, x3) (q0, q1, q2, q3) b1 w.heap.size (o1 + k * 4) 0 _ X T).mono ?_
          rintro e r1 ⟨rfl, qb⟩
          rw [hA1]
          replace T := T.below qb
          replace OWN := hide (own_bel OWN.out qb)
          replace hb := hb.trans (qb.mono hb.size)
          replace hlw := Nat.lt_of_lt_of_le hlw qb.size
          have X := XW.out.below hb
          clear qb
          go_wp2_with fail
          refine (l8Ahead_calls (x0, x1, x2, x3) (q0, q1, q2, q3) b1 w.heap.size (o1 + k * 4) 0 _ X T).mono ?_
          rintro e r2 ⟨rfl, qb⟩
          rw [hA1]
          replace T := T.below qb
          replace OWN := hide (own_bel OWN.out qb)
          replace hb := hb.trans (qb.mono hb.size)
          replace hlw := Nat.lt_of_lt_of_le hlw qb.size
          have X := XW.out.below hb
          clear qb
          have g0 := X.1
          have g1 := X.2.1
          have g2 := X.2.2.1
          have g3 := X.2.2.2
          dsimp only at g0 g1 g2 g3
          obtain ⟨av3, cv3, hov3, hcv3⟩ := own_room4 OWN.out
          subst hov3
          have OWN2 := hide (own_alloc OWN.out (.cells #[.int .i64 x0, .int .i64 x1, .int .i64 x2, .int .i64 x3] 28))
          have qa : Below r2.heap.size r2 (r2.alloc (.cells #[.int .i64 x0, .int .i64 x1, .int .i64 x2, .int .i64 x3] 28)) := (by repeat' (first | with_reducible exact Below.refl _ _ | with_reducible assumption | with_reducible refine Below.drew ?_ | with_reducible refine Below.alloc ?_ ?_ _ | with_reducible refine Below.setCell ?_ ?_ _ | (simp; done) | (simp; omega) | omega))
          have T2 := T.below qa
          have hb2 := hb.trans (qa.mono hb.size)
          have hlw2 := Nat.lt_of_lt_of_le hlw qa.size
          go_wp2_with (at_builtin; refine wpList_append_binds _ rfl _ _ 24 rfl (w.heap.size + 1) 28 i0 (.agg #[.int .i64 0, .int .i64 0, .int .i64 0, .int .i64 0]) 32 Tryd.underlying24 hi hz0 hz1 hz2 rfl (.slice av3 (acc.length) cv3) (acc.length) (acc) (by first | rfl | simp) (by first | exact OWN2.out | simpa using OWN2.out) (some ⟨r2.heap.size, 0, none⟩) [(x0, x1, x2, x3)] 1 1 rfl rfl (new_one r2 (x0, x1, x2, x3) 28) (by unfold maxLen; first | omega | (simp; omega)) (by first | omega | (simp; omega)) (by omega) ?_; intro ov3 r3 own3 hgr)
          have qg : Below (w.heap.size + 1) (r2.alloc (.cells #[.int .i64 x0, .int .i64 x1, .int .i64 x2, .int .i64 x3] 28)) r3 := (Below.refl _ _).grown hgr (by omega) (fun k hk => (OWN2.out.lt k (by simpa [Value.ownBlock] using hk)).1)
          replace T := T2.belowb qg (by omega)
          replace hb := hb2.trans (qg.mono (by omega))
          replace hlw := Nat.lt_of_lt_of_le hlw2 qg.size
          have X := XW.out.below hb
          have OWN := hide (show r3.ownsRow (w.heap.size + 1) 28 4 ov3 (acc ++ [(x0, x1, x2, x3)]).length (bvs (acc ++ [(x0, x1, x2, x3)])) by simpa using own3)
          clear qg qa T2 hb2 hlw2 OWN2 hgr own3 g0 g1 g2 g3
          have HS2 : Hid (putS (q0, q1, q2, q3) (bs.take (k + 1)) = (acc ++ [(x0, x1, x2, x3)], false)) := hide (by rw [HN.out]; unfold stepP; simp [hA1])
          clear HS HN
          go_wp2
          go_roundw
          case rel => exact ⟨k + 1, (acc ++ [(x0, x1, x2, x3)], false), by omega, by go_num, rfl, HS2, OWN, hb, T, hlw⟩
          case measure => simp [intOf]; omega
      | false =>
        cases hA2 : aheadB (q0, q1, q2, q3) (x0, x1, x2, x3) with
        | true =>
          cases dn with
          | true =>
            go_wp2_with fail
            refine (l8Ahead_calls (x0, x1, x2, x3) (q0, q1, q2, q3) b1 w.heap.size (o1 + k * 4) 0 _ X T).mono ?_
            rintro e r1 ⟨rfl, qb⟩
            rw [hA1]
            replace T := T.below qb
            replace OWN := hide (own_bel OWN.out qb)
            replace hb := hb.trans (qb.mono hb.size)
            replace hlw := Nat.lt_of_lt_of_le hlw qb.size
            have X := XW.out.below hb
            clear qb
            go_wp2_with fail
            refine (l8Ahead_calls (q0, q1, q2, q3) (x0, x1, x2, x3) w.heap.size b1 0 (o1 + k * 4) _ T X).mono ?_
            rintro e r2 ⟨rfl, qb⟩
            rw [hA2]
            replace T := T.below qb
            replace OWN := hide (own_bel OWN.out qb)
            replace hb := hb.trans (qb.mono hb.size)
            replace hlw := Nat.lt_of_lt_of_le hlw qb.size
            have X := XW.out.below hb
            clear qb
            have g0 := X.1
            have g1 := X.2.1
            have g2 := X.2.2.1
            have g3 := X.2.2.2
            dsimp only at g0 g1 g2 g3
            obtain ⟨av3, cv3, hov3, hcv3⟩ := own_room4 OWN.out
            subst hov3
            have OWN2 := hide (own_alloc OWN.out (.cells #[.int .i64 x0, .int .i64 x1, .int .i64 x2, .int .i64 x3] 28))
            have qa : Below r2.heap.size r2 (r2.alloc (.cells #[.int .i64 x0, .int .i64 x1, .int .i64 x2, .int .i64 x3] 28)) := (by repeat' (first | with_reducible exact Below.refl _ _ | with_reducible assumption | with_reducible refine Below.drew ?_ | with_reducible refine Below.alloc ?_ ?_ _ | with_reducible refine Below.setCell ?_ ?_ _ | (simp; done) | (simp; omega) | omega))
            have T2 := T.below qa
            have hb2 := hb.trans (qa.mono hb.size)
            have hlw2 := Nat.lt_of_lt_of_le hlw qa.size
            go_wp2_with (at_builtin; refine wpList_append_binds _ rfl _ _ 24 rfl (w.heap.size + 1) 28 i0 (.agg #[.int .i64 0, .int .i64 0, .int .i64 0, .int .i64 0]) 32 Tryd.underlying24 hi hz0 hz1 hz2 rfl (.slice av3 (acc.length) cv3) (acc.length) (acc) (by first | rfl | simp) (by first | exact OWN2.out | simpa using OWN2.out) (some ⟨r2.heap.size, 0, none⟩) [(x0, x1, x2, x3)] 1 1 rfl rfl (new_one r2 (x0, x1, x2, x3) 28) (by unfold maxLen; first | omega | (simp; omega)) (by first | omega | (simp; omega)) (by omega) ?_; intro ov3 r3 own3 hgr)
            have qg : Below (w.heap.size + 1) (r2.alloc (.cells #[.int .i64 x0, .int .i64 x1, .int .i64 x2, .int .i64 x3] 28)) r3 := (Below.refl _ _).grown hgr (by omega) (fun k hk => (OWN2.out.lt k (by simpa [Value.ownBlock] using hk)).1)
            replace T := T2.belowb qg (by omega)
            replace hb := hb2.trans (qg.mono (by omega))
            replace hlw := Nat.lt_of_lt_of_le hlw2 qg.size
            have X := XW.out.below hb
            have OWN := hide (show r3.ownsRow (w.heap.size + 1) 28 4 ov3 (acc ++ [(x0, x1, x2, x3)]).length (bvs (acc ++ [(x0, x1, x2, x3)])) by simpa using own3)
            clear qg qa T2 hb2 hlw2 OWN2 hgr own3 g0 g1 g2 g3
            have HS2 : Hid (putS (q0, q1, q2, q3) (bs.take (k + 1)) = (acc ++ [(x0, x1, x2, x3)], true)) := hide (by rw [HN.out]; unfold stepP; simp [hA1, hA2])
            clear HS HN
            go_wp2
            go_roundw
            case rel => exact ⟨k + 1, (acc ++ [(x0, x1, x2, x3)], true), by omega, by go_num, rfl, HS2, OWN, hb, T, hlw⟩
            case measure => simp [intOf]; omega
          | false =>
            go_wp2_with fail
            refine (l8Ahead_calls (x0, x1, x2, x3) (q0, q1, q2, q3) b1 w.heap.size (o1 + k * 4) 0 _ X T).mono ?_
            rintro e r1 ⟨rfl, qb⟩
            rw [hA1]
            replace T := T.below qb
            replace OWN := hide (own_bel OWN.out qb)
            replace hb := hb.trans (qb.mono hb.size)
            replace hlw := Nat.lt_of_lt_of_le hlw qb.size
            have X := XW.out.below hb
            clear qb
            have g0 := T.1
            have g1 := T.2.1
            have g2 := T.2.2.1
            have g3 := T.2.2.2
            dsimp only at g0 g1 g2 g3
            simp only [Nat.zero_add] at g1 g2 g3
            obtain ⟨av2, cv2, hov2, hcv2⟩ := own_room4 OWN.out
            subst hov2
            have OWN2 := hide (own_alloc OWN.out (.cells #[.int .i64 q0, .int .i64 q1, .int .i64 q2, .int .i64 q3] 28))
            have qa : Below r1.heap.size r1 (r1.alloc (.cells #[.int .i64 q0, .int .i64 q1, .int .i64 q2, .int .i64 q3] 28)) := (by repeat' (first | with_reducible exact Below.refl _ _ | with_reducible assumption | with_reducible refine Below.drew ?_ | with_reducible refine Below.alloc ?_ ?_ _ | with_reducible refine Below.setCell ?_ ?_ _ | (simp; done) | (simp; omega) | omega))
            have T2 := T.below qa
            have hb2 := hb.trans (qa.mono hb.size)
            have hlw2 := Nat.lt_of_lt_of_le hlw qa.size
            go_wp2_with (at_builtin; refine wpList_append_binds _ rfl _ _ 24 rfl (w.heap.size + 1) 28 i0 (.agg #[.int .i64 0, .int .i64 0, .int .i64 0, .int .i64 0]) 32 Tryd.underlying24 hi hz0 hz1 hz2 rfl (.slice av2 (acc.length) cv2) (acc.length) (acc) (by first | rfl | simp) (by first | exact OWN2.out | simpa using OWN2.out) (some ⟨r1.heap.size, 0, none⟩) [(q0, q1, q2, q3)] 1 1 rfl rfl (new_one r1 (q0, q1, q2, q3) 28) (by unfold maxLen; first | omega | (simp; omega)) (by first | omega | (simp; omega)) (by omega) ?_; intro ov2 r2 own2 hgr)
            have qg : Below (w.heap.size + 1) (r1.alloc (.cells #[.int .i64 q0, .int .i64 q1, .int .i64 q2, .int .i64 q3] 28)) r2 := (Below.refl _ _).grown hgr (by omega) (fun k hk => (OWN2.out.lt k (by simpa [Value.ownBlock] using hk)).1)
            replace T := T2.belowb qg (by omega)
            replace hb := hb2.trans (qg.mono (by omega))
            replace hlw := Nat.lt_of_lt_of_le hlw2 qg.size
            have X := XW.out.below hb
            have OWN := hide (show r2.ownsRow (w.heap.size + 1) 28 4 ov2 (acc ++ [(q0, q1, q2, q3)]).length (bvs (acc ++ [(q0, q1, q2, q3)])) by simpa using own2)
            clear qg qa T2 hb2 hlw2 OWN2 hgr own2 g0 g1 g2 g3
            go_wp2_with fail
            refine (l8Ahead_calls (x0, x1, x2, x3) (q0, q1, q2, q3) b1 w.heap.size (o1 + k * 4) 0 _ X T).mono ?_
            rintro e r3 ⟨rfl, qb⟩
            rw [hA1]
            replace T := T.below qb
            replace OWN := hide (own_bel OWN.out qb)
            replace hb := hb.trans (qb.mono hb.size)
            replace hlw := Nat.lt_of_lt_of_le hlw qb.size
            have X := XW.out.below hb
            clear qb
            go_wp2_with fail
            refine (l8Ahead_calls (q0, q1, q2, q3) (x0, x1, x2, x3) w.heap.size b1 0 (o1 + k * 4) _ T X).mono ?_
            rintro e r4 ⟨rfl, qb⟩
            rw [hA2]
            replace T := T.below qb
            replace OWN := hide (own_bel OWN.out qb)
            replace hb := hb.trans (qb.mono hb.size)
            replace hlw := Nat.lt_of_lt_of_le hlw qb.size
            have X := XW.out.below hb
            clear qb
            have g0 := X.1
            have g1 := X.2.1
            have g2 := X.2.2.1
            have g3 := X.2.2.2
            dsimp only at g0 g1 g2 g3
            obtain ⟨av5, cv5, hov5, hcv5⟩ := own_room4 OWN.out
            subst hov5
            have OWN2 := hide (own_alloc OWN.out (.cells #[.int .i64 x0, .int .i64 x1, .int .i64 x2, .int .i64 x3] 28))
            have qa : Below r4.heap.size r4 (r4.alloc (.cells #[.int .i64 x0, .int .i64 x1, .int .i64 x2, .int .i64 x3] 28)) := (by repeat' (first | with_reducible exact Below.refl _ _ | with_reducible assumption | with_reducible refine Below.drew ?_ | with_reducible refine Below.alloc ?_ ?_ _ | with_reducible refine Below.setCell ?_ ?_ _ | (simp; done) | (simp; omega) | omega))
            have T2 := T.below qa
            have hb2 := hb.trans (qa.mono hb.size)
            have hlw2 := Nat.lt_of_lt_of_le hlw qa.size
            go_wp2_with (at_builtin; refine wpList_append_binds _ rfl _ _ 24 rfl (w.heap.size + 1) 28 i0 (.agg #[.int .i64 0, .int .i64 0, .int .i64 0, .int .i64 0]) 32 Tryd.underlying24 hi hz0 hz1 hz2 rfl (.slice av5 (acc.length + 1) cv5) (acc.length + 1) ((acc ++ [(q0, q1, q2, q3)])) (by first | rfl | simp) (by first | exact OWN2.out | simpa using OWN2.out) (some ⟨r4.heap.size, 0, none⟩) [(x0, x1, x2, x3)] 1 1 rfl rfl (new_one r4 (x0, x1, x2, x3) 28) (by unfold maxLen; first | omega | (simp; omega)) (by first | omega | (simp; omega)) (by omega) ?_; intro ov5 r5 own5 hgr)
            have qg : Below (w.heap.size + 1) (r4.alloc (.cells #[.int .i64 x0, .int .i64 x1, .int .i64 x2, .int .i64 x3] 28)) r5 := (Below.refl _ _).grown hgr (by omega) (fun k hk => (OWN2.out.lt k (by simpa [Value.ownBlock] using hk)).1)
            replace T := T2.belowb qg (by omega)
            replace hb := hb2.trans (qg.mono (by omega))
            replace hlw := Nat.lt_of_lt_of_le hlw2 qg.size
            have X := XW.out.below hb
            have OWN := hide (show r5.ownsRow (w.heap.size + 1) 28 4 ov5 ((acc ++ [(q0, q1, q2, q3)]) ++ [(x0, x1, x2, x3)]).length (bvs ((acc ++ [(q0, q1, q2, q3)]) ++ [(x0, x1, x2, x3)])) by simpa using own5)
            clear qg qa T2 hb2 hlw2 OWN2 hgr own5 g0 g1 g2 g3
            have HS2 : Hid (putS (q0, q1, q2, q3) (bs.take (k + 1)) = (acc ++ [(q0, q1, q2, q3)] ++ [(x0, x1, x2, x3)], true)) := hide (by rw [HN.out]; unfold stepP; simp [hA1, hA2])
            clear HS HN
            go_wp2
            go_roundw
            case rel => exact ⟨k + 1, (acc ++ [(q0, q1, q2, q3)] ++ [(x0, x1, x2, x3)], true), by omega, by go_num, rfl, HS2, OWN, hb, T, hlw⟩
            case measure => simp [intOf]; omega
        | false =>
          cases dn with
          | true =>
            go_wp2_with fail
            refine (l8Ahead_calls (x0, x1, x2, x3) (q0, q1, q2, q3) b1 w.heap.size (o1 + k * 4) 0 _ X T).mono ?_
            rintro e r1 ⟨rfl, qb⟩
            rw [hA1]
            replace T := T.below qb
            replace OWN := hide (own_bel OWN.out qb)
            replace hb := hb.trans (qb.mono hb.size)
            replace hlw := Nat.lt_of_lt_of_le hlw qb.size
            have X := XW.out.below hb
            clear qb
            go_wp2_with fail
            refine (l8Ahead_calls (q0, q1, q2, q3) (x0, x1, x2, x3) w.heap.size b1 0 (o1 + k * 4) _ T X).mono ?_
            rintro e r2 ⟨rfl, qb⟩
            rw [hA2]
            replace T := T.below qb
            replace OWN := hide (own_bel OWN.out qb)
            replace hb := hb.trans (qb.mono hb.size)
            replace hlw := Nat.lt_of_lt_of_le hlw qb.size
            have X := XW.out.below hb
            clear qb
            have HS2 : Hid (putS (q0, q1, q2, q3) (bs.take (k + 1)) = (acc, true)) := hide (by rw [HN.out]; unfold stepP; simp [hA1, hA2])
            clear HS HN
            go_wp2
            go_roundw
            case rel => exact ⟨k + 1, (acc, true), by omega, by go_num, rfl, HS2, OWN, hb, T, hlw⟩
            case measure => simp [intOf]; omega
          | false =>
            go_wp2_with fail
            refine (l8Ahead_calls (x0, x1, x2, x3) (q0, q1, q2, q3) b1 w.heap.size (o1 + k * 4) 0 _ X T).mono ?_
            rintro e r1 ⟨rfl, qb⟩
            rw [hA1]
            replace T := T.below qb
            replace OWN := hide (own_bel OWN.out qb)
            replace hb := hb.trans (qb.mono hb.size)
            replace hlw := Nat.lt_of_lt_of_le hlw qb.size
            have X := XW.out.below hb
            clear qb
            have g0 := T.1
            have g1 := T.2.1
            have g2 := T.2.2.1
            have g3 := T.2.2.2
            dsimp only at g0 g1 g2 g3
            simp only [Nat.zero_add] at g1 g2 g3
            obtain ⟨av2, cv2, hov2, hcv2⟩ := own_room4 OWN.out
            subst hov2
            have OWN2 := hide (own_alloc OWN.out (.cells #[.int .i64 q0, .int .i64 q1, .int .i64 q2, .int .i64 q3] 28))
            have qa : Below r1.heap.size r1 (r1.alloc (.cells #[.int .i64 q0, .int .i64 q1, .int .i64 q2, .int .i64 q3] 28)) := (by repeat' (first | with_reducible exact Below.refl _ _ | with_reducible assumption | with_reducible refine Below.drew ?_ | with_reducible refine Below.alloc ?_ ?_ _ | with_reducible refine Below.setCell ?_ ?_ _ | (simp; done) | (simp; omega) | omega))
            have T2 := T.below qa
            have hb2 := hb.trans (qa.mono hb.size)
            have hlw2 := Nat.lt_of_lt_of_le hlw qa.size
            go_wp2_with (at_builtin; refine wpList_append_binds _ rfl _ _ 24 rfl (w.heap.size + 1) 28 i0 (.agg #[.int .i64 0, .int .i64 0, .int .i64 0, .int .i64 0]) 32 Tryd.underlying24 hi hz0 hz1 hz2 rfl (.slice av2 (acc.length) cv2) (acc.length) (acc) (by first | rfl | simp) (by first | exact OWN2.out | simpa using OWN2.out) (some ⟨r1.heap.size, 0, none⟩) [(q0, q1, q2, q3)] 1 1 rfl rfl (new_one r1 (q0, q1, q2, q3) 28) (by unfold maxLen; first | omega | (simp; omega)) (by first | omega | (simp; omega)) (by omega) ?_; intro ov2 r2 own2 hgr)
            have qg : Below (w.heap.size + 1) (r1.alloc (.cells #[.int .i64 q0, .int .i64 q1, .int .i64 q2, .int .i64 q3] 28)) r2 := (Below.refl _ _).grown hgr (by omega) (fun k hk => (OWN2.out.lt k (by simpa [Value.ownBlock] using hk)).1)
            replace T := T2.belowb qg (by omega)
            replace hb := hb2.trans (qg.mono (by omega))
            replace hlw := Nat.lt_of_lt_of_le hlw2 qg.size
            have X := XW.out.below hb
            have OWN := hide (show r2.ownsRow (w.heap.size + 1) 28 4 ov2 (acc ++ [(q0, q1, q2, q3)]).length (bvs (acc ++ [(q0, q1, q2, q3)])) by simpa using own2)
            clear qg qa T2 hb2 hlw2 OWN2 hgr own2 g0 g1 g2 g3
            go_wp2_with fail
            refine (l8Ahead_calls (x0, x1, x2, x3) (q0, q1, q2, q3) b1 w.heap.size (o1 + k * 4) 0 _ X T).mono ?_
            rintro e r3 ⟨rfl, qb⟩
            rw [hA1]
            replace T := T.below qb
            replace OWN := hide (own_bel OWN.out qb)
            replace hb := hb.trans (qb.mono hb.size)
            replace hlw := Nat.lt_of_lt_of_le hlw qb.size
            have X := XW.out.below hb
            clear qb
            go_wp2_with fail
            refine (l8Ahead_calls (q0, q1, q2, q3) (x0, x1, x2, x3) w.heap.size b1 0 (o1 + k * 4) _ T X).mono ?_
            rintro e r4 ⟨rfl, qb⟩
            rw [hA2]
            replace T := T.below qb
            replace OWN := hide (own_bel OWN.out qb)
            replace hb := hb.trans (qb.mono hb.size)
            replace hlw := Nat.lt_of_lt_of_le hlw qb.size
            have X := XW.out.below hb
            clear qb
            have HS2 : Hid (putS (q0, q1, q2, q3) (bs.take (k + 1)) = (acc ++ [(q0, q1, q2, q3)], true)) := hide (by rw [HN.out]; unfold stepP; simp [hA1, hA2])
            clear HS HN
            go_wp2
            go_roundw
            case rel => exact ⟨k + 1, (acc ++ [(q0, q1, q2, q3)], true), by omega, by go_num, rfl, HS2, OWN, hb, T, hlw⟩
            case measure => simp [intOf]; omega
    · have hge : ¬ ((k : Int) < (bs.length : Int)) := by omega
      have HS2 : Hid (putS (q0, q1, q2, q3) bs = (acc, dn)) := hide (by have := HS.out; rw [List.take_of_length_le (by omega)] at this; exact this)
      cases dn with
      | true =>
        obtain rfl : res = acc := by rw [← HR.out]; unfold putR; rw [HS2.out]; rfl
        clear HS
        go_wp2
        go_ret
        exact ⟨_, rfl, OWN.out, hb⟩
      | false =>
        obtain rfl : res = acc ++ [(q0, q1, q2, q3)] := by rw [← HR.out]; unfold putR; rw [HS2.out]; rfl
        obtain ⟨g0, g1, g2, g3⟩ := T
        dsimp only at g0 g1 g2 g3
        clear HS
        obtain ⟨av, cv, rfl, hcv⟩ := own_room4 OWN.out
        have OWN2 := hide (own_alloc OWN.out (.cells #[.int .i64 q0, .int .i64 q1, .int .i64 q2, .int .i64 q3] 28))
        have hbl : Below w.heap.size w (wr.alloc (.cells #[.int .i64 q0, .int .i64 q1, .int .i64 q2, .int .i64 q3] 28)) := (by repeat' (first | with_reducible exact Below.refl _ _ | with_reducible assumption | with_reducible refine Below.drew ?_ | with_reducible refine Below.alloc ?_ ?_ _ | with_reducible refine Below.setCell ?_ ?_ _ | (simp; done) | (simp; omega) | omega))
        go_wp2_with (at_builtin; refine wpList_append_binds _ rfl _ _ 24 rfl (w.heap.size + 1) 28 i0 (.agg #[.int .i64 0, .int .i64 0, .int .i64 0, .int .i64 0]) 32 Tryd.underlying24 hi hz0 hz1 hz2 rfl _ acc.length acc rfl OWN2.out (some ⟨wr.heap.size, 0, none⟩) [(q0, q1, q2, q3)] 1 1 rfl rfl (new_one wr (q0, q1, q2, q3) 28) (by unfold maxLen; omega) (by omega) (by simp; omega) ?_; intro v' w1 own1 hgr)
        have hb1 := hbl.grown hgr (by simp; omega) (fun k hk => by have := (OWN2.out.lt k hk).1; omega)
        clear hgr
        go_wp2
        go_ret
        exact ⟨_, rfl, by simpa using own1, hb1⟩
theorem l8Put_calls (bs : List Bd) (v : Value) (q : Bd) (w : World) (hn : bs.length ≤ 100000) (h1 : QRead w v bs) :
    Calls Tryd.prog 51 #[v, .agg #[.int .i64 q.1, .int .i64 q.2.1, .int .i64 q.2.2.1, .int .i64 q.2.2.2]] w fun e w' => ∃ v', e = .returned v' ∧ QAt w.heap.size w'.heap.size w' v' (putR bs q) ∧ Below w.heap.size w w' :=
  (l8Put_own bs v q w hn h1).mono fun e w' ⟨v', he, ho, hb⟩ => ⟨v', he, (own_binds ho (Nat.le_refl _)).mono (Nat.le_succ _) (Nat.le_refl _), hb⟩
end Go.Proofs.YtcfechnkgefhcaaDoor
