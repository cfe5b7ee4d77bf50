/-
  Slices of binds (four cells each: key, mods, the sym's kind and value) in memory: what is read of one (QRead), what a call owns (QAt), appends of binds.
-/
import Derived.Test.YtcfechnkgefhcaaDoorMem
import Derived.Test.YtcfechnkgefhcaaDoorAppendStep
import Derived.OwnWalk
import Derived.Laws.OwnMore
import Derived.Deep.Upon
namespace Go.Proofs.YtcfechnkgefhcaaDoor
open Go.ChangeShapes Go.WideShapes Go.ChangeAt Go.RowKit
set_option linter.unusedVariables false
set_option linter.unusedSimpArgs false

abbrev Bd := Int × Int × Int × Int
def b0 : Bd := (0, 0, 0, 0)
def bcs (p : Bd) : List Value := [.int .i64 p.1, .int .i64 p.2.1, .int .i64 p.2.2.1, .int .i64 p.2.2.2]
/-- The cells of binds, in order. -/
def bvs (ps : List Bd) : List Value := ps.flatMap bcs
theorem bvs_append (a b : List Bd) : bvs (a ++ b) = bvs a ++ bvs b := by simp [bvs]
theorem bvs_cons (p : Bd) (a : List Bd) : bvs (p :: a) = bcs p ++ bvs a := by simp [bvs]
theorem bvs_length (a : List Bd) : (bvs a).length = a.length * 4 := by
  induction a with
  | nil => rfl
  | cons p ps ih => rw [bvs_cons, List.length_append, ih]; simp [bcs]; omega
theorem bvs_get : ∀ (a : List Bd) (i : Nat), i < a.length → (bvs a)[i * 4]? = some (.int .i64 (a.getD i b0).1) ∧ (bvs a)[i * 4 + 1]? = some (.int .i64 (a.getD i b0).2.1) ∧ (bvs a)[i * 4 + 2]? = some (.int .i64 (a.getD i b0).2.2.1) ∧ (bvs a)[i * 4 + 3]? = some (.int .i64 (a.getD i b0).2.2.2)
  | [], i, h => by simp at h
  | p :: ps, 0, _ => by simp [bvs, bcs]
  | p :: ps, i + 1, h => by
    have ih := bvs_get ps i (by simpa using h)
    have e : bvs (p :: ps) = .int .i64 p.1 :: .int .i64 p.2.1 :: .int .i64 p.2.2.1 :: .int .i64 p.2.2.2 :: bvs ps := by simp [bvs, bcs]
    rw [e, show (i + 1) * 4 = i * 4 + 1 + 1 + 1 + 1 by omega]
    simpa using ih
theorem bvs_one (ps : List Bd) : ∀ u ∈ bvs ps, u.oneCell' = true := by
  intro u hu
  simp only [bvs, List.mem_flatMap] at hu
  obtain ⟨p, _, hp⟩ := hu
  simp [bcs] at hp
  rcases hp with rfl | rfl | rfl | rfl <;> rfl

/-- The four cells from o on hold p. -/
def Q4 (w : World) (b o : Nat) (p : Bd) : Prop :=
  w.cell? ⟨b, o, none⟩ = some (.int .i64 p.1) ∧ w.cell? ⟨b, o + 1, none⟩ = some (.int .i64 p.2.1) ∧ w.cell? ⟨b, o + 2, none⟩ = some (.int .i64 p.2.2.1) ∧ w.cell? ⟨b, o + 3, none⟩ = some (.int .i64 p.2.2.2)
def Z4 (w : World) (b o : Nat) : Prop :=
  w.frozen? ⟨b, o, none⟩ = false ∧ w.frozen? ⟨b, o + 1, none⟩ = false ∧ w.frozen? ⟨b, o + 2, none⟩ = false ∧ w.frozen? ⟨b, o + 3, none⟩ = false
theorem Q4.of_block {w w' : World} {b o : Nat} {p : Bd} (h : Q4 w b o p) (e : w'.heap[b]? = w.heap[b]?) : Q4 w' b o p := by
  unfold Q4
  rw [World.cell?_of_block (w := w) (a := ⟨b, o, none⟩) e, World.cell?_of_block (w := w) (a := ⟨b, o + 1, none⟩) e, World.cell?_of_block (w := w) (a := ⟨b, o + 2, none⟩) e, World.cell?_of_block (w := w) (a := ⟨b, o + 3, none⟩) e]
  exact h
theorem Z4.of_block {w w' : World} {b o : Nat} (h : Z4 w b o) (e : w'.heap[b]? = w.heap[b]?) : Z4 w' b o := by
  unfold Z4
  rw [World.frozen?_of_block (w := w) (a := ⟨b, o, none⟩) e, World.frozen?_of_block (w := w) (a := ⟨b, o + 1, none⟩) e, World.frozen?_of_block (w := w) (a := ⟨b, o + 2, none⟩) e, World.frozen?_of_block (w := w) (a := ⟨b, o + 3, none⟩) e]
  exact h
theorem Q4.belowb {w w' : World} {b o B : Nat} {p : Bd} (h : Q4 w b o p) (hb : Below B w w') (hB : b < B) : Q4 w' b o p := h.of_block (hb.block b hB)
theorem Q4.below {w w' : World} {b o : Nat} {p : Bd} (h : Q4 w b o p) (hb : Below w.heap.size w w') : Q4 w' b o p := ⟨cellb hb h.1, cellb hb h.2.1, cellb hb h.2.2.1, cellb hb h.2.2.2⟩

/-- The slice v reads as the binds ps in the world w. -/
def QRead (w : World) (v : Value) (ps : List Bd) : Prop :=
  ∃ a cap, v = .slice a ps.length cap ∧ (ps = [] ∨ ∃ b off, a = some ⟨b, off, none⟩ ∧ ∀ i, i < ps.length → Q4 w b (off + i * 4) (ps.getD i b0))

/-- The same, and (where there is one) its block is one of lo to hi - 1, and may be written. -/
def QAt (lo hi : Nat) (w : World) (v : Value) (ps : List Bd) : Prop :=
  ∃ a cap, v = .slice a ps.length cap ∧ ps.length ≤ cap ∧ (ps = [] ∨ ∃ b off, a = some ⟨b, off, none⟩ ∧ lo ≤ b ∧ b < hi ∧ ∀ i, i < ps.length → Q4 w b (off + i * 4) (ps.getD i b0) ∧ Z4 w b (off + i * 4))

theorem QAt.read {lo hi : Nat} {w : World} {v : Value} {xs : List Bd} (h : QAt lo hi w v xs) : QRead w v xs := by
  obtain ⟨a, cap, hv, _, h⟩ := h
  refine ⟨a, cap, hv, ?_⟩
  rcases h with h | ⟨b, off, ha, _, _, hc⟩
  · exact .inl h
  · exact .inr ⟨b, off, ha, fun i hi => (hc i hi).1⟩
theorem QAt.mono {lo hi lo' hi' : Nat} {w : World} {v : Value} {xs : List Bd} (h : QAt lo hi w v xs) (h1 : lo' ≤ lo) (h2 : hi ≤ hi') : QAt lo' hi' w v xs := by
  obtain ⟨a, cap, hv, hcap, h⟩ := h
  refine ⟨a, cap, hv, hcap, ?_⟩
  rcases h with h | ⟨b, off, ha, hl, hh, hc⟩
  · exact .inl h
  · exact .inr ⟨b, off, ha, by omega, by omega, hc⟩
theorem QAt.of_blocks {lo hi : Nat} {w w' : World} {v : Value} {xs : List Bd} (h : QAt lo hi w v xs) (hb : ∀ i, lo ≤ i → i < hi → w'.heap[i]? = w.heap[i]?) : QAt lo hi w' v xs := by
  obtain ⟨a, cap, hv, hcap, h⟩ := h
  refine ⟨a, cap, hv, hcap, ?_⟩
  rcases h with h | ⟨b, off, ha, hl, hh, hc⟩
  · exact .inl h
  · refine .inr ⟨b, off, ha, hl, hh, fun i hi => ?_⟩
    have e := hb b hl hh
    exact ⟨(hc i hi).1.of_block e, (hc i hi).2.of_block e⟩
theorem QAt.below {lo hi B : Nat} {w w' : World} {v : Value} {xs : List Bd} (h : QAt lo hi w v xs) (hb : Below B w w') (hB : hi ≤ B) : QAt lo hi w' v xs :=
  h.of_blocks fun i _ h2 => hb.block i (by omega)
theorem QAt.within {lo hi lo' hi' : Nat} {w w' : World} {v : Value} {xs : List Bd} (h : QAt lo hi w v xs) (hb : Within lo' hi' w w') (hw : hi ≤ w.heap.size) (hB : hi ≤ lo' ∨ hi' ≤ lo) : QAt lo hi w' v xs :=
  h.of_blocks fun i h1 h2 => hb.block i (by omega) (by omega)
theorem QAt.drewN {lo hi : Nat} {w : World} {v : Value} {xs : List Bd} (h : QAt lo hi w v xs) (n : Nat) : QAt lo hi (w.drewN n) v xs :=
  h.of_blocks fun i h1 h2 => rfl
theorem QAt.nil (lo hi : Nat) (w : World) (a : Option Addr) (cap : Nat) : QAt lo hi w (.slice a 0 cap) [] := ⟨a, cap, rfl, Nat.zero_le _, .inl rfl⟩
theorem QRead.nil (w : World) (a : Option Addr) (cap : Nat) : QRead w (.slice a 0 cap) [] := ⟨a, cap, rfl, .inl rfl⟩
theorem QRead.drewN {w : World} {v : Value} {xs : List Bd} (h : QRead w v xs) (n : Nat) : QRead (w.drewN n) v xs := h
theorem QRead.below {w w' : World} {v : Value} {xs : List Bd} (h : QRead w v xs) (hb : Below w.heap.size w w') : QRead w' v xs := by
  obtain ⟨a, cap, hv, h⟩ := h
  refine ⟨a, cap, hv, ?_⟩
  rcases h with h | ⟨b, off, ha, hc⟩
  · exact .inl h
  · exact .inr ⟨b, off, ha, fun i hi => (hc i hi).below hb⟩

/-- What a call owns by appending, read as binds. -/
theorem own_binds {w : World} {base n hi : Nat} {e : TypeId} {v : Value} {xs : List Bd} (h : w.ownsRow base e 4 v n (bvs xs)) (hh : w.heap.size ≤ hi) : QAt base hi w v xs := by
  obtain ⟨hl, h⟩ := h
  rw [bvs_length] at hl
  have hl' : xs.length = n := by omega
  rcases h with ⟨rfl, h0⟩ | ⟨g, cap, cur, rfl, hb, hg, h1, h2, h3, h4⟩
  · obtain rfl : xs = [] := List.length_eq_zero_iff.1 (by omega)
    exact ⟨_, _, rfl, by simp, .inl rfl⟩
  · subst hl'
    have hlt : g < w.heap.size := by
      rcases Nat.lt_or_ge g w.heap.size with h' | h'
      · exact h'
      · rw [Array.getElem?_eq_none h'] at hg; cases hg
    have hcell : ∀ j, j < xs.length * 4 → w.cell? ⟨g, 0 + j, none⟩ = (bvs xs)[j]? := by
      intro j hj
      simp only [World.cell?, hg, Nat.zero_add]
      have e1 : cur[j]? = (cur.toList.take (xs.length * 4))[j]? := by
        rw [List.getElem?_take_of_lt (by omega), Array.getElem?_toList]
      simp only [Option.isSome_none, Bool.false_eq_true, if_false]
      rw [e1, h4]
    have hz : ∀ j, w.frozen? ⟨g, j, none⟩ = false := fun j => by simp [World.frozen?, hg]
    refine ⟨_, _, rfl, by omega, .inr ⟨g, 0, rfl, hb, by omega, fun i hi => ⟨⟨?_, ?_, ?_, ?_⟩, hz _, hz _, hz _, hz _⟩⟩⟩
    · rw [hcell _ (by omega)]; exact (bvs_get xs i hi).1
    · rw [Nat.add_assoc, hcell _ (by omega)]; exact (bvs_get xs i hi).2.1
    · rw [Nat.add_assoc, hcell _ (by omega)]; exact (bvs_get xs i hi).2.2.1
    · rw [Nat.add_assoc, hcell _ (by omega)]; exact (bvs_get xs i hi).2.2.2

/-- A row of binds, as its cells. -/
theorem binds_news {w : World} {b off : Nat} {xs : List Bd} (h : ∀ i, i < xs.length → Q4 w b (off + i * 4) (xs.getD i b0)) : ∀ j u, (bvs xs)[j]? = some u → w.cell? ((⟨b, off, none⟩ : Addr).add j) = some u := by
  intro j u hj
  have hlt : j < xs.length * 4 := by
    rcases Nat.lt_or_ge j (xs.length * 4) with h' | h'
    · exact h'
    · rw [List.getElem?_eq_none (by rw [bvs_length]; exact h')] at hj; cases hj
  have e : ((⟨b, off, none⟩ : Addr).add j) = ⟨b, off + j, none⟩ := by simp [Addr.add]
  rw [e]
  obtain ⟨p0, p1, p2, p3⟩ := bvs_get xs (j / 4) (by omega)
  obtain ⟨c0, c1, c2, c3⟩ := h (j / 4) (by omega)
  rw [Nat.add_assoc] at c1 c2 c3
  have h4 : j % 4 = 0 ∨ j % 4 = 1 ∨ j % 4 = 2 ∨ j % 4 = 3 := by omega
  rcases h4 with h0 | h0 | h0 | h0
  · have ej : j / 4 * 4 = j := by omega
    rw [ej] at p0 c0; rw [p0] at hj; rw [c0, hj]
  · have ej : j / 4 * 4 + 1 = j := by omega
    rw [ej] at p1 c1; rw [p1] at hj; rw [c1, hj]
  · have ej : j / 4 * 4 + 2 = j := by omega
    rw [ej] at p2 c2; rw [p2] at hj; rw [c2, hj]
  · have ej : j / 4 * 4 + 3 = j := by omega
    rw [ej] at p3 c3; rw [p3] at hj; rw [c3, hj]
theorem own_room4 {w : World} {base n : Nat} {e : TypeId} {v : Value} {xs : List Value} (h : w.ownsRow base e 4 v n xs) : ∃ a cap, v = .slice a n cap ∧ n ≤ cap := by
  rcases h.2 with ⟨hv, h0⟩ | ⟨g, cap, cur, hv, hrest⟩
  · exact ⟨none, 0, by rw [hv, h0], by omega⟩
  · exact ⟨_, cap, hv, by omega⟩

/-- The run of an append of binds (that may be none) to a row of the call's own. -/
theorem run_append_binds {P : Program} (w : World) (base : Nat) (t ty e : TypeId) (i : TypeInfo) (z : Value) (bytes : Nat) (h1 : P.underlying t = some (.slice e)) (h2 : P.info? e = some i) (h3 : i.zero = some z) (h4 : i.size = 4) (h5 : i.bytes = bytes) (h6 : z.cells.size = 4)
    (v : Value) (n : Nat) (xs : List Bd) (hown : w.ownsRow base e 4 v n (bvs xs))
    (ax : Option Addr) (ys : List Bd) (m c : Nat) (hm : m = ys.length) (hr : QRead w (.slice ax m c) ys)
    (b1 : n + m ≤ maxLen) (b2 : (n + m) * bytes ≤ 140737488355328) (hbase : base ≤ w.heap.size) :
    ∃ v' w', (Builtin.append_ #[t, t] ty #[v, .slice ax m c]).run P w = .ok v' w' ∧ w'.ownsRow base e 4 v' (n + m) (bvs (xs ++ ys)) ∧ w.grownBy w' v.ownBlock := by
  subst hm
  by_cases h0 : ys = []
  · subst h0
    obtain ⟨av, cv, rfl, hle⟩ := own_room4 hown
    have hsrc : Go.Src P i.size t (.slice ax 0 c) 0 [] w := by
      cases ax with
      | none => exact Go.Src.ofNil w h1 c
      | some ad => exact Go.Src.ofSlice w h1 ad 0 c [] (by simp) (by simp) (by simp)
    exact ⟨_, _, run_append_nothing (P := P) w t t ty e i h1 h2 av n cv hle _ hsrc, by simpa using hown, ⟨rfl, rfl, rfl, Nat.le_refl _, fun _ _ _ => rfl⟩⟩
  · obtain ⟨a', c', he, hr⟩ := hr
    simp at he
    obtain ⟨rfl, rfl⟩ := he
    rcases hr with hr | ⟨b, off, rfl, hr⟩
    · exact absurd hr h0
    · obtain ⟨v', w', hrun, r1, r2, _⟩ := run_append_own (P := P) w base t ty e i z 4 bytes h1 h2 h3 h4 h5 h6 (by omega) v n (bvs xs) hown ⟨b, off, none⟩ ys.length c (bvs ys) (by rw [bvs_length]) (binds_news hr) (bvs_one _) b1 b2 hbase
      exact ⟨v', w', hrun, by rw [bvs_append]; exact r1, r2⟩

theorem wpList_append_binds {P : Program} (w : World) {ops : Array Oper} {rest : List Oper} {o : Oper} {a : Act} {Q : Exit → Act → World → Prop} (hgd : o.guard = none) (s x : Operand) (t : TypeId)
    (hop : o.op = .call { callee := .builtin .append, args := #[s, x], argTypes := #[t, t] })
    (base : Nat) (e : TypeId) (i : TypeInfo) (z : Value) (bytes : Nat) (h1 : P.underlying t = some (.slice e)) (h2 : P.info? e = some i) (h3 : i.zero = some z) (h4 : i.size = 4) (h5 : i.bytes = bytes) (h6 : z.cells.size = 4)
    (v : Value) (n : Nat) (xs : List Bd) (hs : a.eval s = v) (hown : w.ownsRow base e 4 v n (bvs xs))
    (ax : Option Addr) (ys : List Bd) (m c : Nat) (hx : a.eval x = .slice ax m c) (hm : m = ys.length) (hr : QRead w (.slice ax m c) ys)
    (b1 : n + m ≤ maxLen) (b2 : (n + m) * bytes ≤ 140737488355328) (hbase : base ≤ w.heap.size)
    (hK : ∀ v' w', w'.ownsRow base e 4 v' (n + m) (bvs (xs ++ ys)) → w.grownBy w' v.ownBlock → wpList P ops Q rest (a.put o.dst v') w') : wpList P ops Q (o :: rest) a w := by
  refine wpList_plain hgd fun K hK' => ?_
  obtain ⟨v', w', hrun, r1, r2⟩ := run_append_binds w base t o.type e i z bytes h1 h2 h3 h4 h5 h6 v n xs hown ax ys m c hm hr b1 b2 hbase
  unfold Oper.wp
  simp [execOp, hop, resolve, invoke, builtin, hs, hx, hrun, Result.andThen]
  exact hK' _ _ (hK v' w' r1 r2)
theorem step_append_binds {P : Program} {ops : Array Oper} {o : Oper} {a : Act} {w : World} {K : Act → World → Prop} {Q : Exit → Act → World → Prop} {E : Prop}
    (hg : o.guard = none) (s x : Operand) (t : TypeId) (hop : o.op = Op.call { callee := Callee.builtin Builtin.append, args := #[s, x], argTypes := #[t, t] })
    (base : Nat) (e : TypeId) (i : TypeInfo) (z : Value) (bytes : Nat) (h1 : P.underlying t = some (.slice e)) (h2 : P.info? e = some i) (h3 : i.zero = some z) (h4 : i.size = 4) (h5 : i.bytes = bytes) (h6 : z.cells.size = 4)
    (v : Value) (n : Nat) (xs : List Bd) (hs : a.eval s = v) (hown : w.ownsRow base e 4 v n (bvs xs))
    (ax : Option Addr) (ys : List Bd) (m c : Nat) (hx : a.eval x = .slice ax m c) (hm : m = ys.length) (hr : QRead w (.slice ax m c) ys)
    (b1 : n + m ≤ maxLen) (b2 : (n + m) * bytes ≤ 140737488355328) (hbase : base ≤ w.heap.size)
    (hK : ∀ v' w', w'.ownsRow base e 4 v' (n + m) (bvs (xs ++ ys)) → w.grownBy w' v.ownBlock → K (a.put o.dst v') w') :
    if Region.wanted o (yielded ops a.tmps) = true then Oper.wp P o a w K Q else E := by
  have hw : Region.wanted o (yielded ops a.tmps) = true := by simp [Region.wanted, hg]
  rw [if_pos hw]
  obtain ⟨v', w', hrun, r1, r2⟩ := run_append_binds w base t o.type e i z bytes h1 h2 h3 h4 h5 h6 v n xs hown ax ys m c hm hr b1 b2 hbase
  unfold Oper.wp
  simp [execOp, hop, resolve, invoke, builtin, hs, hx, hrun, Result.andThen]
  exact hK v' w' r1 r2

end Go.Proofs.YtcfechnkgefhcaaDoor
