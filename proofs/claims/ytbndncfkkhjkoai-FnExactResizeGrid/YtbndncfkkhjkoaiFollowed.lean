/-
  A sheet followed by the rows of another, walked: impl's followedBy, that ranges over the iterator of rows.
-/
import Derived.Test.YtbndncfkkhjkoaiRangeRows
import Derived.Test.YtbndncfkkhjkoaiGridRes
import Derived.Test.YtbndncfkkhjkoaiGrow
import Derived.Test.YtbndncfkkhjkoaiResMem
import Derived.Maps.OwnIn
namespace Go.Proofs.Ytbndncfkkhjkoai
open Go.ChangeShapes Go.WideShapes Go.ChangeAt Go.RowKit Go.Shelf
attribute [local go_sem] Oper.semAt_some
set_option linter.unusedVariables false
set_option linter.unusedSimpArgs false
set_option maxRecDepth 100000

/-- The cells of the rows that have come. -/
def rowsL (m H : Nat) (f : Nat → Int × Int) (pre : List Nat) : List (Int × Int) := pre.flatMap fun y => mkL m (fun i => f ((y % H) * m + i))
theorem rowsL_snoc (m H : Nat) (f : Nat → Int × Int) (pre : List Nat) (x : Nat) : rowsL m H f (pre ++ [x]) = rowsL m H f pre ++ mkL m (fun i => f ((x % H) * m + i)) := by simp [rowsL]
theorem cvs_mk (m : Nat) (g : Nat → Int × Int) : cvs m g = pvs (mkL m g) := by simp [cvs, pvs, mkL, List.flatMap_map]
theorem mkL_add (n k : Nat) (f : Nat → Int × Int) : mkL (n + k) f = mkL n f ++ mkL k (fun i => f (n + i)) := by
  simp [mkL, List.range_add]
theorem rowsL_range (m H : Nat) (f : Nat → Int × Int) : ∀ k, k ≤ H → rowsL m H f (List.range k) = mkL (k * m) f
  | 0, _ => by simp [rowsL, mkL]
  | k + 1, h => by
    rw [List.range_succ, rowsL_snoc, rowsL_range m H f k (by omega), Nat.add_mul, Nat.one_mul, mkL_add, Nat.mod_eq_of_lt (by omega : k < H)]

/-- Between two rounds: the box of the sheet that is appended to (sb), the result's box, the row that is owned. -/
structure FolI (w : World) (wd : Int) (base k m H : Nat) (bs : List (Int × Int)) (f : Nat → Int × Int) (v0 : Value) (pre : List Nat) (W : World) : Prop where
  c0 : W.cell? ⟨w.heap.size, 0, none⟩ = some (.int .i64 wd)
  f1 : W.frozen? ⟨w.heap.size, 1, none⟩ = false
  r0 : W.cell? ⟨w.heap.size + 2, 0, none⟩ = some (.int .i64 0)
  r1 : W.cell? ⟨w.heap.size + 2, 1, none⟩ = some (.slice none 0 0)
  z0 : W.frozen? ⟨w.heap.size + 2, 0, none⟩ = false
  z1 : W.frozen? ⟨w.heap.size + 2, 1, none⟩ = false
  size : w.heap.size + 4 ≤ W.heap.size
  ex : ∃ v, W.cell? ⟨w.heap.size, 1, none⟩ = some v ∧ W.ownsRow base 39 2 v (k + pre.length * m) (pvs (bs ++ rowsL m H f pre)) ∧ GrowTo w W v0 v ∧ (∀ j, v.ownBlock = some j → j < w.heap.size ∨ w.heap.size + 4 ≤ j)

theorem FolI.own {w : World} {wd : Int} {base k m H : Nat} {bs : List (Int × Int)} {f : Nat → Int × Int} {v0 : Value} {B : Nat} (hB : w.heap.size ≤ B) : OwnFrom B (fun pre W => FolI w wd base k m H bs f v0 pre W) := by
  intro pre W W' row h hg hr
  have hr' : ∀ r, row = some r → ∃ o : Obj, W.heap[r]? = some o ∧ o.isCells = false := fun r e => (hr r e).2
  obtain ⟨v, h1, h2, h3, h4⟩ := h.ex
  refine ⟨cell_kept h.c0 hg hr', (frozen_kept h1 hg hr').trans h.f1, cell_kept h.r0 hg hr', cell_kept h.r1 hg hr', (frozen_kept h.r0 hg hr').trans h.z0, (frozen_kept h.r1 hg hr').trans h.z1, Nat.le_trans h.size hg.size, v, cell_kept h1 hg hr', ?_, ?_, h4⟩
  · refine own_block h2 fun j hj => ?_
    obtain ⟨_, h2'⟩ := h2
    rcases h2' with ⟨rfl, _⟩ | ⟨g, cap, cur, rfl, _, hgc, _⟩
    · cases hj
    · have : g = j := by simpa [Value.ownBlock] using hj
      subst this
      exact grownBy_keeps_cells hg hr' hgc rfl
  · refine ⟨⟨hg.os.trans h3.grown.os, hg.tape.trans h3.grown.tape, hg.output.trans h3.grown.output, Nat.le_trans h3.grown.size hg.size, fun j hj hne => ?_⟩, h3.spot⟩
    refine (hg.block j (Nat.lt_of_lt_of_le hj h3.grown.size) (fun e => ?_)).trans (h3.grown.block j hj hne)
    have := (hr j e.symm).1
    omega

set_option maxHeartbeats 4000000 in
theorem followedBy_calls (wd : Int) (base k m H N cap b off : Nat) (a : Option Addr) (v : Value) (bs : List (Int × Int)) (f : Nat → Int × Int) (w : World) (hown : w.ownsRow base 39 2 v k (pvs bs)) (hbase : base ≤ w.heap.size)
    (hr : RowR w b off N f) (hbne : some b ≠ v.ownBlock) (hN : N = H * m) (hwd : wd = (m : Int)) (hm : 1 ≤ m) (hm2 : m ≤ 1000) (hH : H ≤ 1000) (hc : N ≤ cap) (ha : 0 < N → a = some ⟨b, off, none⟩) (hN1 : N ≤ 100000) (hk : k ≤ 100000) :
    Calls Try.prog 55 #[.agg #[.int .i64 wd, v], .agg #[.int .i64 wd, .slice a N cap]] w fun e w' => ∃ v', e = .returned (.agg #[.int .i64 wd, v']) ∧ w'.ownsRow base 39 2 v' (k + N) (pvs (bs ++ mkL N f)) ∧ GrowTo w w' v v' := by
  obtain ⟨i0, hi, hz0, hz1, hz2⟩ := info_parts info_cell
  have hlt := hown.lt
  obtain ⟨av, cv, rfl, hcv⟩ := own_room2 hown
  have HOWN := hide hown
  have HLT := hide hlt
  have HR := hide hr
  have HN := hide hN
  have HW := hide hwd
  have HA := hide ha
  clear hown hlt hr hN hwd ha
  refine (callsIn_wide (n := 5)).1 ?_
  refine callsIn_of_wp_marks Try.func55 rfl trivial ?_ rfl
  simp only [Try.ntmps55, List.size_toArray, List.length_cons, List.length_nil, Nat.reduceAdd, Nat.reduceSub, Array.replicate_succ, Array.replicate_zero, List.push_toArray, List.append_toArray, List.nil_append, List.cons_append]
  gi_wp2
  refine ⟨trivial, (callsIn_wide.2 (rows_calls wd a N cap _)).mono ?_⟩
  rintro e w' ⟨rfl, rfl⟩
  have hbL : Below w.heap.size w ((((w.alloc (.cells #[.int .i64 wd, .slice av k cv] 53)).alloc (.cells #[.int .i64 wd, .slice a N cap] 53)).alloc (.cells #[.int .i64 0, .slice none 0 0] 53)).alloc (.cells #[.int .i64 wd, .slice a N cap] 53)) := (by repeat' (first | with_reducible exact Below.refl _ _ | with_reducible assumption | with_reducible refine Below.drew ?_ | with_reducible refine Below.alloc ?_ ?_ _ | with_reducible refine Below.setCell ?_ ?_ _ | (simp; done) | (simp; omega) | omega))
  have hI0 : FolI w wd base k m H bs f (.slice av k cv) [] ((((w.alloc (.cells #[.int .i64 wd, .slice av k cv] 53)).alloc (.cells #[.int .i64 wd, .slice a N cap] 53)).alloc (.cells #[.int .i64 0, .slice none 0 0] 53)).alloc (.cells #[.int .i64 wd, .slice a N cap] 53)) := by
    refine ⟨by simp [go_sem], by simp [go_sem], by simp [go_sem], by simp [go_sem], by simp [go_sem], by simp [go_sem], by simp, .slice av k cv, by simp [go_sem], ?_, GrowTo.of_below hbL _, fun j hj => .inl (HLT.out j hj).2⟩
    have h := own_below HOWN.out hbL
    simpa [rowsL] using h
  have hsL : ((((w.alloc (.cells #[.int .i64 wd, .slice av k cv] 53)).alloc (.cells #[.int .i64 wd, .slice a N cap] 53)).alloc (.cells #[.int .i64 0, .slice none 0 0] 53)).alloc (.cells #[.int .i64 wd, .slice a N cap] 53)).heap.size = w.heap.size + 4 := by simp
  have q0 : ((((w.alloc (.cells #[.int .i64 wd, .slice av k cv] 53)).alloc (.cells #[.int .i64 wd, .slice a N cap] 53)).alloc (.cells #[.int .i64 0, .slice none 0 0] 53)).alloc (.cells #[.int .i64 wd, .slice a N cap] 53)).cell? ⟨w.heap.size + 3, 0, none⟩ = some (.int .i64 wd) := by simp [go_sem]
  have q1 : ((((w.alloc (.cells #[.int .i64 wd, .slice av k cv] 53)).alloc (.cells #[.int .i64 wd, .slice a N cap] 53)).alloc (.cells #[.int .i64 0, .slice none 0 0] 53)).alloc (.cells #[.int .i64 wd, .slice a N cap] 53)).cell? ⟨w.heap.size + 3, 1, none⟩ = some (.slice a N cap) := by simp [go_sem]
  have esz : (((w.alloc (.cells #[.int .i64 wd, .slice av k cv] 53)).alloc (.cells #[.int .i64 wd, .slice a N cap] 53)).alloc (.cells #[.int .i64 0, .slice none 0 0] 53)).heap.size = w.heap.size + 3 := by simp
  rw [esz]
  clear esz
  generalize ((((w.alloc (.cells #[.int .i64 wd, .slice av k cv] 53)).alloc (.cells #[.int .i64 wd, .slice a N cap] 53)).alloc (.cells #[.int .i64 0, .slice none 0 0] 53)).alloc (.cells #[.int .i64 wd, .slice a N cap] 53)) = wL at *
  gi_wp2
  have hblt : 0 < N → b < w.heap.size := fun h => HR.out.lt h
  refine wpIn_rangeFunc_ownF rfl (by omega) (gf := 80) (lb := #[.pointer (some ⟨w.heap.size + 3, 0, none⟩)]) rfl trivial (enters_of Try.func80 (by kernel_rfl) rfl)
    (rows_stops _ (w.heap.size + 3) b off m H N cap wd a HN.out HW.out hm hm2 hH hc HA.out (by omega) wL (by omega) q0 q1) (fun h k => k.trans h) (fun W l o o' hl h h1 h2 => World.putObj_heap_other (by omega)) (Below.refl _ _) (fun _ => rfl)
    (fun pre W => FolI w wd base k m H bs f (.slice av k cv) pre W) (fun _ _ _ => False) (FolI.own (by omega)) (fun _ _ _ _ _ hs _ _ => hs) hI0
    (fun x => { tmps := #[.agg #[.int .i64 wd, .slice av k cv], .agg #[.int .i64 wd, .slice a N cap], .pointer (some ⟨w.heap.size, 0, none⟩), .pointer (some ⟨w.heap.size + 1, 0, none⟩), .pointer (some ⟨w.heap.size + 1 + 1, 0, none⟩), undef, .slice (some ⟨b, off + (x % H) * m * 2, none⟩) m (cap - (x % H) * m), .agg #[.int .i64 wd, .slice a N cap], .func (.func 80) #[] #[.pointer (some ⟨w.heap.size + 3, 0, none⟩)], .int .i64 ((x : Int) % (H : Int)), .slice (some ⟨b, off + (x % H) * m * 2, none⟩) m (cap - (x % H) * m), undef, undef, undef, undef, undef, undef], defers := [] }) ?assign ?body ?done ?stop
  case assign =>
    intro l x W K hK
    simp only [rowEnc]
    gi_wp2
    exact hK
  case body =>
    rintro l pre x W hF hlen
    obtain ⟨v, c1, ho, hgt, hsp⟩ := hF.ex
    have hH0 : 0 < H := by omega
    have hx : x % H < H := Nat.mod_lt _ hH0
    have hrl := rowsL_snoc m H f pre x
    have hym : x % H * m + m ≤ N := by
      have h := Nat.mul_le_mul_right m (show x % H + 1 ≤ H by omega)
      rw [Nat.add_mul, ← HN.out] at h
      omega
    have hlm : pre.length * m + m ≤ N := by
      have h := Nat.mul_le_mul_right m (show pre.length + 1 ≤ H by omega)
      rw [Nat.add_mul, ← HN.out] at h
      omega
    have hrow : RowR W b (off + x % H * m * 2) m (fun i => f (x % H * m + i)) := ((HR.out.block (hgt.grown.block b (hblt (by omega)) hbne)).sub (x % H * m) m hym)
    have hnews := rowr_cells hrow
    have HRL := hide hrl
    generalize x % H = y at *
    obtain ⟨avv, cvv, rfl, hcvv⟩ := own_room2 ho
    have hbs : base ≤ W.heap.size := Nat.le_trans hbase (Nat.le_trans (by omega) hF.size)
    have F0 := hF.c0
    have F1 := hF.f1
    have HI := hide hF
    clear hrl hrow hF
    gi_wp2_with (gi_at_builtin; refine wpListIn_append_own_at (w := W) rfl (.tmp 12) (.tmp 13) 22 rfl base 39 i0 (.agg #[.int .i64 0, .int .i64 0]) 2 16 Try.underlying22 hi hz0 hz1 hz2 rfl (by decide) _ _ _ rfl ho ⟨b, off + y * m * 2, none⟩ m (cap - y * m) (cvs m (fun i => f (y * m + i))) rfl (cvs_length _ _) hnews (cvs_one _ _) (by unfold maxLen; omega) (by omega) hbs ?_; intro v2 W2 ho2 hg2 hn2 hs2; obtain ⟨a2, c2, rfl, hc2⟩ := own_room2 ho2; have hbk : ∀ j, w.heap.size ≤ j → j < w.heap.size + 4 → W2.heap[j]? = W.heap[j]? := fun j h1 h2 => hg2.block j (by have := HI.out.size; omega) (fun e => by have := hsp j e.symm; omega); have d1 := (World.cell?_of_block (w := W) (a := ⟨w.heap.size, 1, none⟩) (hbk _ (Nat.le_refl _) (by show w.heap.size < _; omega))).trans c1; have e1 := (World.frozen?_of_block (w := W) (a := ⟨w.heap.size, 1, none⟩) (hbk _ (Nat.le_refl _) (by show w.heap.size < _; omega))).trans F1)
    have hI := HI.out
    have hW2 : W.heap.size ≤ W2.heap.size := hg2.size
    have hsz := hI.size
    have hcells : ∀ j o, (Value.slice avv (k + pre.length * m) cvv).ownBlock = some j → W.heap[j]? = some o → o.isCells = true := by
      intro j o hj ho'
      obtain ⟨_, h2'⟩ := ho
      rcases h2' with ⟨h3, _⟩ | ⟨g, cap', cur, h3, _, hgc, _⟩
      · rw [h3] at hj; cases hj
      · rw [h3] at hj
        have : g = j := by simpa [Value.ownBlock] using hj
        subst this
        rw [hgc] at ho'
        injection ho' with ho'
        subst ho'
        rfl
    refine ⟨(KeepsOthers.of_grownBy hg2 (fun j o e h => hcells j o e h)).trans (KeepsOthers.setCell _ _ _), ?_, ?_⟩
    · show _ = _
      rw [Below.heap_setCell _ _ _ _ (by simp)]
      exact hbk _ (by omega) (by omega)
    · have cc : ∀ {q o u}, w.heap.size ≤ q → q < w.heap.size + 4 → W.cell? ⟨q, o, none⟩ = some u → W2.cell? ⟨q, o, none⟩ = some u := fun h1 h2 h => (World.cell?_of_block (w := W) (hbk _ h1 h2)).trans h
      have zz : ∀ {q o x}, w.heap.size ≤ q → q < w.heap.size + 4 → W.frozen? ⟨q, o, none⟩ = x → W2.frozen? ⟨q, o, none⟩ = x := fun h1 h2 h => (World.frozen?_of_block (w := W) (hbk _ h1 h2)).trans h
      have hgt2 : GrowTo W W2 (.slice avv (k + pre.length * m) cvv) (.slice a2 (k + pre.length * m + m) c2) := ⟨hg2, by rcases hs2 with e | e; exact .inl e; exact .inr ⟨_, e, Nat.le_refl _⟩⟩
      have hsp2 : ∀ j, (Value.slice a2 (k + pre.length * m + m) c2).ownBlock = some j → j < w.heap.size ∨ w.heap.size + 4 ≤ j := by
        intro j hj
        rcases hs2 with e | e
        · exact hsp j (e.symm.trans hj)
        · rw [e] at hj; injection hj with hj; omega
      refine ⟨?_, ?_, ?_, ?_, ?_, ?_, ?_, .slice a2 (k + pre.length * m + m) c2, ?_, ?_, ?_, hsp2⟩
      · rw [World.cell?_setCell_other _ _ _ _ (addr_ne (by omega))]; exact cc (Nat.le_refl _) (by omega) hI.c0
      · rw [World.frozen?_setCell]; exact e1
      · rw [World.cell?_setCell_other _ _ _ _ (addr_ne (by omega))]; exact cc (by omega) (by omega) hI.r0
      · rw [World.cell?_setCell_other _ _ _ _ (addr_ne (by omega))]; exact cc (by omega) (by omega) hI.r1
      · rw [World.frozen?_setCell]; exact zz (by omega) (by omega) hI.z0
      · rw [World.frozen?_setCell]; exact zz (by omega) (by omega) hI.z1
      · simp [World.setCell]; omega
      · exact World.cell?_setCell_same _ _ _ d1
      · have h := own_setCell (b := w.heap.size) (o := 1) (u := .slice a2 (k + pre.length * m + m) c2) ho2 (fun e => by have := hsp2 _ e.symm; omega)
        rw [List.length_append, List.length_singleton, Nat.add_mul, Nat.one_mul, ← Nat.add_assoc, HRL.out, ← List.append_assoc, pvs_append, ← cvs_mk]
        exact h
      · exact (hgt.trans hgt2).setCell (by simp) _
  case done =>
    rintro D ys W hD rfl hF hK
    obtain ⟨v, c1, ho, hgt, hsp⟩ := hF.ex
    have hlen : (List.range H).length * m = N := by rw [List.length_range]; exact HN.out.symm
    rw [hlen, rowsL_range m H f H (Nat.le_refl _), ← HN.out] at ho
    obtain ⟨avv, cvv, rfl, hcvv⟩ := own_room2 ho
    have F0 := hF.c0
    have F1 := hF.f1
    have R0 := hF.r0
    have R1 := hF.r1
    have Z0 := hF.z0
    have Z1 := hF.z1
    have hsz := hF.size
    obtain ⟨s0, s1⟩ := res2 (w := W) (r := w.heap.size + 2) (.int .i64 wd) (.slice avv (k + N) cvv) R0 R1
    have HO := hide ho
    have HG := hide hgt
    have HS := hide hsp
    have HKK := hide hK
    clear ho hgt hsp hF hlen
    gi_wp2
    rw [show w.heap.size + 1 + 1 = w.heap.size + 2 from rfl]
    have HOO := hide (own_setCell (b := w.heap.size + 2) (o := 1) (u := .slice avv (k + N) cvv) (own_setCell (b := w.heap.size + 2) (o := 0) (u := .int .i64 wd) HO.out (fun e => by have := HS.out _ e.symm; omega)) (fun e => by have := HS.out _ e.symm; omega))
    have HGG := hide ((HG.out.setCell (p := ⟨w.heap.size + 2, 0, none⟩) (by simp) (.int .i64 wd)).setCell (p := ⟨w.heap.size + 2, 1, none⟩) (by simp) (.slice avv (k + N) cvv))
    have hK2 := ((KeepsOthers.setCell W ⟨w.heap.size + 2, 0, none⟩ (.int .i64 wd)).trans (KeepsOthers.setCell _ ⟨w.heap.size + 2, 1, none⟩ (.slice avv (k + N) cvv))).same D _ HKK.out rfl
    generalize ((W.setCell ⟨w.heap.size + 2, 0, none⟩ (.int .i64 wd)).setCell ⟨w.heap.size + 2, 1, none⟩ (.slice avv (k + N) cvv)) = W3 at *
    refine ⟨by simp, .inl ⟨_, _, rfl, run_takeDeferred hK2, ?_⟩⟩
    have hrow : ∀ r, some D = some r → ∃ o : Obj, W3.heap[r]? = some o ∧ o.isCells = false := by
      rintro r e
      injection e with e
      subst e
      exact ⟨_, hK2, rfl⟩
    have t0 := cell_kept s0 (grownBy_putObj' W3 D (.deferred none)) hrow
    have t1 := cell_kept s1 (grownBy_putObj' W3 D (.deferred none)) hrow
    refine ⟨_, ?_, .slice avv (k + N) cvv, rfl, ownsRow_putObj HOO.out _ hK2 rfl, ?_⟩
    · simp [results, Try.results55, go_sem, t0, t1]
    · have hG := HGG.out
      have hgp := grownBy_putObj' W3 D (.deferred none)
      refine ⟨⟨hgp.os.trans hG.grown.os, hgp.tape.trans hG.grown.tape, hgp.output.trans hG.grown.output, Nat.le_trans hG.grown.size hgp.size, fun j hj hne => ?_⟩, hG.spot⟩
      refine (hgp.block j (Nat.lt_of_lt_of_le hj hG.grown.size) (fun e => ?_)).trans (hG.grown.block j hj hne)
      injection e with e
      omega
  case stop =>
    rintro D c pre W _ _ h _
    exact h.elim

end Go.Proofs.Ytbndncfkkhjkoai
