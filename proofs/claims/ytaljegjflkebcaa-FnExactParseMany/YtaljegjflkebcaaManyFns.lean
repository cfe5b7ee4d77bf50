/-
  What ParseMany answers, in memory; the laws' functions on it: eq, mark, held.
-/
import Derived.Test.YtaljegjflkebcaaRows
import Derived.Test.YtaljegjflkebcaaActsFns
import Derived.Test.YtaljegjflkebcaaManyI4
namespace Go.Proofs.Ytaljegjflkebcaa
open Go.ChangeShapes Go.WideShapes Go.ChangeAt Go.RowKit
set_option linter.unusedVariables false
set_option linter.unusedSimpArgs false

def fnOf (al : List Axn) : Nat → Axn := fun i => al.getD i Axn.zero
/-- Actions and a parser's numbers, in the blocks lo to hi - 1. -/
def ManyOwn (lo hi : Nat) (w : World) (v x : Value) (al : List Axn) (ns : List Int) : Prop :=
  ∃ us w0, Acts lo w0 v x us al ns ∧ lo ≤ w0.heap.size ∧ w0.heap.size ≤ hi ∧ hi ≤ w.heap.size ∧ ∀ b, lo ≤ b → b < hi → w.heap[b]? = w0.heap[b]?
theorem ManyOwn.mk {base : Nat} {w : World} {v x : Value} {al : List Axn} {ns : List Int} (h : ActsAt base w v x al ns) (hb : base ≤ w.heap.size) : ManyOwn base w.heap.size w v x al ns := by
  obtain ⟨us, h⟩ := h
  exact ⟨us, w, h, hb, Nat.le_refl _, Nat.le_refl _, fun _ _ _ => rfl⟩
theorem ManyOwn.below {lo hi B : Nat} {w w' : World} {v x : Value} {al : List Axn} {ns : List Int} (h : ManyOwn lo hi w v x al ns) (hb : Below B w w') (hB : hi ≤ B) : ManyOwn lo hi w' v x al ns := by
  obtain ⟨us, w0, h1, h2, h3, h4, h5⟩ := h
  exact ⟨us, w0, h1, h2, h3, Nat.le_trans h4 hb.size, fun b q1 q2 => (hb.block b (by omega)).trans (h5 b q1 q2)⟩
theorem ManyOwn.within {lo hi lo' hi' : Nat} {w w' : World} {v x : Value} {al : List Axn} {ns : List Int} (h : ManyOwn lo hi w v x al ns) (hb : Within lo' hi' w w') (hw : hi ≤ w.heap.size) (hB : hi ≤ lo' ∨ hi' ≤ lo) : ManyOwn lo hi w' v x al ns := by
  obtain ⟨us, w0, h1, h2, h3, h4, h5⟩ := h
  exact ⟨us, w0, h1, h2, h3, Nat.le_trans h4 hb.size, fun b q1 q2 => (hb.block b (by omega) (by omega)).trans (h5 b q1 q2)⟩
theorem ManyOwn.mono {lo hi lo' : Nat} {w : World} {v x : Value} {al : List Axn} {ns : List Int} (h : ManyOwn lo hi w v x al ns) (hl : lo = lo') : ManyOwn lo' hi w v x al ns := hl ▸ h
theorem ManyOwn.acts {lo hi : Nat} {w : World} {v x : Value} {al : List Axn} {ns : List Int} (h : ManyOwn lo hi w v x al ns) : ∃ us, Acts lo w v x us al ns := by
  obtain ⟨us, w0, h1, h2, h3, h4, h5⟩ := h
  exact ⟨us, h1.blocks fun k q1 q2 => h5 k q1 (by omega)⟩
theorem Acts.cellAt {lo : Nat} {w : World} {v x : Value} {us : List Value} {al : List Axn} {ns : List Int} (h : Acts lo w v x us al ns) {g cap : Nat} (hv : v = .slice (some ⟨g, 0, none⟩) al.length cap) (i : Nat) (hi : i < al.length) :
    w.cell? ⟨g, 0 + i * 5, none⟩ = some (.int .i64 (fnOf al i).kd) ∧ w.cell? ⟨g, 0 + i * 5 + 1, none⟩ = some (.int .i64 (fnOf al i).ch) ∧ w.cell? ⟨g, 0 + i * 5 + 2, none⟩ = some (.int .i64 (fnOf al i).st) ∧ w.cell? ⟨g, 0 + i * 5 + 3, none⟩ = some (.bool (fnOf al i).pv) ∧ w.cell? ⟨g, 0 + i * 5 + 4, none⟩ = some (us.getD i (.slice none 0 0)) := by
  have hr := h.row
  rw [hv] at hr
  have hc : ∀ j, j < 5 → w.cell? ⟨g, 0 + i * 5 + j, none⟩ = (cells5 (al.getD i Axn.zero) (us.getD i (.slice none 0 0)))[j]? := fun j hj => by
    rw [show 0 + i * 5 + j = 5 * i + j by omega, hr.cellAt (5 * i + j) (by omega)]
    exact cellsOf_get al us i j h.len hi hj
  exact ⟨hc 0 (by omega), hc 1 (by omega), hc 2 (by omega), hc 3 (by omega), hc 4 (by omega)⟩
theorem Acts.spot {lo : Nat} {w : World} {v x : Value} {us : List Value} {al : List Axn} {ns : List Int} (h : Acts lo w v x us al ns) (hn : al.length ≠ 0) : ∃ g cap, v = .slice (some ⟨g, 0, none⟩) al.length cap ∧ lo ≤ g ∧ g < w.heap.size ∧ ∀ o, w.frozen? ⟨g, o, none⟩ = false := by
  rcases h.row.2 with ⟨_, h0⟩ | ⟨g, cap, cur, hv, hg, _⟩
  · omega
  · have hr := h.row
    rw [hv] at hr
    exact ⟨g, cap, hv, hg, (hr.lt g rfl).2, fun o => hr.frozenAt o⟩
theorem Acts.reads {lo : Nat} {w : World} {v x : Value} {us : List Value} {al : List Axn} {ns : List Int} (h : Acts lo w v x us al ns) : ActsR w v al.length (fnOf al) := by
  by_cases hn : al.length = 0
  · obtain ⟨a, cap, hv⟩ := row_form h.row
    exact ⟨a, cap, hv, .inl hn⟩
  · obtain ⟨g, cap, hv, _⟩ := h.spot hn
    refine ⟨_, cap, hv, .inr ⟨g, 0, rfl, fun i => us.getD i (.slice none 0 0), fun i hi => ?_⟩⟩
    obtain ⟨c0, c1, c2, c3, c4⟩ := h.cellAt hv i hi
    exact ⟨c0, c1, c2, c3, c4, (own_ints (h.each i hi) (Nat.le_refl _)).read⟩
theorem ManyOwn.read1 {lo hi : Nat} {w : World} {v x : Value} {al : List Axn} {ns : List Int} (h : ManyOwn lo hi w v x al ns) : ActsR w v al.length (fnOf al) := by
  obtain ⟨us, h⟩ := h.acts
  exact h.reads
theorem ManyOwn.read2 {lo hi : Nat} {w : World} {v x : Value} {al : List Axn} {ns : List Int} (h : ManyOwn lo hi w v x al ns) : ReadAt .i64 w x ns := by
  obtain ⟨us, h⟩ := h.acts
  exact (own_ints h.par (Nat.le_refl _)).read
theorem ManyOwn.forms {lo hi : Nat} {w : World} {v x : Value} {al : List Axn} {ns : List Int} (h : ManyOwn lo hi w v x al ns) : ∃ a c d e, v = .slice a al.length c ∧ x = .slice d ns.length e := by
  obtain ⟨us, h⟩ := h.acts
  obtain ⟨a, c, e1⟩ := row_form h.row
  obtain ⟨d, e, e2⟩ := own_form h.par
  exact ⟨a, c, d, e, e1, e2⟩
/-- What is wanted for the marks: where each list lies. -/
theorem ManyOwn.mark {lo hi : Nat} {w : World} {v x : Value} {al : List Axn} {ns : List Int} (h : ManyOwn lo hi w v x al ns) (hn : al.length ≠ 0) : ∃ g cap U, v = .slice (some ⟨g, 0, none⟩) al.length cap ∧ MarkIn lo hi w g 0 al.length U (fnOf al) ∧ IntsAt .i64 (blkL lo x) (blkH lo x) w x ns ∧ lo ≤ blkL lo x ∧ blkH lo x ≤ hi ∧ (g < blkL lo x ∨ blkH lo x ≤ g) ∧ ∀ i, i < al.length → blkH lo x ≤ blkL lo (U i) ∨ blkH lo (U i) ≤ blkL lo x := by
  obtain ⟨us, w0, h1, h2, h3, h4, h5⟩ := h
  have hA : Acts lo w v x us al ns := h1.blocks fun k q1 q2 => h5 k q1 (by omega)
  obtain ⟨g, cap, hv, hg1, hg2, hfz⟩ := hA.spot hn
  have hg3 : g < w0.heap.size := (h1.row.lt g (by rw [hv]; rfl)).2
  have hm : ∀ i, i < al.length → us.getD i (.slice none 0 0) ∈ us := fun i hi => by rw [List.getD_eq_getElem?_getD, List.getElem?_eq_getElem (by rw [h1.len]; exact hi)]; exact List.getElem_mem _
  have hE : ∀ i, i < al.length → _ := fun i hi => own_blk (hA.each i hi) (show lo ≤ w.heap.size by omega)
  have hR : ∀ i, i < al.length → lo ≤ blkL lo (us.getD i (.slice none 0 0)) ∧ blkH lo (us.getD i (.slice none 0 0)) ≤ w0.heap.size := fun i hi => (own_blk (h1.each i hi) h2).2
  have hx := own_blk hA.par (show lo ≤ w.heap.size by omega)
  have hx0 := (own_blk h1.par h2).2
  have hgv : blkL lo v = g ∧ blkH lo v = g + 1 := by rw [hv]; exact ⟨rfl, rfl⟩
  refine ⟨g, cap, fun i => us.getD i (.slice none 0 0), hv, ⟨h4, hg1, by omega, fun i hi => hA.cellAt hv i hi, hfz, fun i hi => (hE i hi).1, fun i hi => ⟨(hR i hi).1, by have := (hR i hi).2; omega⟩, fun i hi => ?_, fun i j hi hj hne => ?_⟩, hx.1, hx.2.1, by omega, ?_, fun i hi => ?_⟩
  · have := apart_blk (hA.vu _ (hm i hi)) (by omega) (hR i hi).1
    omega
  · refine apart_blk ?_ (hR i hi).1 (hR j hj).1
    have e1 : ∀ q, q < al.length → us[q]? = some (us.getD q (.slice none 0 0)) := fun q hq => by rw [List.getD_eq_getElem?_getD, List.getElem?_eq_getElem (by rw [h1.len]; exact hq)]; rfl
    have hp := List.pairwise_iff_getElem.1 hA.uu
    have hil : i < us.length := by rw [h1.len]; exact hi
    have hjl : j < us.length := by rw [h1.len]; exact hj
    have ei : us.getD i (.slice none 0 0) = us[i] := by simp [List.getD_eq_getElem?_getD, hil]
    have ej : us.getD j (.slice none 0 0) = us[j] := by simp [List.getD_eq_getElem?_getD, hjl]
    rw [ei, ej]
    rcases Nat.lt_or_ge i j with hlt | hge
    · exact hp i j hil hjl hlt
    · exact (hp j i hjl hil (by omega)).symm
  · have := apart_blk hA.xv hx.2.1 (by omega)
    omega
  · exact apart_blk (hA.xu _ (hm i hi)) hx.2.1 (hR i hi).1
theorem MarkIn.after {lo hi l h' : Nat} {w w' : World} {g off n cap : Nat} {U : Nat → Value} {F : Nat → Axn} (h : MarkIn lo hi w g off n U F) (hw : Within l h' w w') (hg : g < l ∨ h' ≤ g) (hs : ∀ i, i < n → h' ≤ blkL lo (U i) ∨ blkH lo (U i) ≤ l) : ActsR w' (.slice (some ⟨g, off, none⟩) n cap) n F := by
  have hb : w'.heap[g]? = w.heap[g]? := hw.block g (Nat.lt_of_lt_of_le h.ghi h.sz) hg
  have hc : ∀ o, w'.cell? ⟨g, o, none⟩ = w.cell? ⟨g, o, none⟩ := fun o => World.cell?_of_block (w := w) (a := ⟨g, o, none⟩) hb
  refine ⟨_, _, rfl, .inr ⟨g, off, rfl, U, fun i hi => ?_⟩⟩
  obtain ⟨c0, c1, c2, c3, c4⟩ := h.cell i hi
  refine ⟨(hc _).trans c0, (hc _).trans c1, (hc _).trans c2, (hc _).trans c3, (hc _).trans c4, ?_⟩
  exact ((h.lst i hi).of_blocks fun j h1 h2 => hw.block j (by have := (h.rng i hi).2; have := h.sz; omega) (by have := hs i hi; omega)).read

set_option maxHeartbeats 400000 in
theorem markActS_nil (a : Option Addr) (cap : Nat) (k0 : Int) (w : World) :
    Calls Try.prog 49 #[.slice a 0 cap, .int .i64 k0] w fun e w' => e = .returned (.int .i64 k0) ∧ w' = w := by
  go_enter Try.func49, Try.ntmps49
  go_wp2
  go_loop [1, 5] (fun t i => t = .int .i64 k0 ∧ i = .int .i64 0) (fun _ i => 0)
  case atStart => exact ⟨rfl, rfl⟩
  case round =>
    obtain ⟨rfl, rfl⟩ := hrel
    go_wp2
    go_ret
    exact ⟨rfl, rfl⟩

set_option maxHeartbeats 1000000 in
theorem eqActionsResult_calls (cd md st : Int) (pv : Bool) (al : List Axn) (ns : List Int) (u1 u2 v1 v2 : Value) (w : World) (hn : al.length ≤ 2000) (hns : ns.length ≤ 6) (hF : ∀ i, i < al.length → (fnOf al i).ns.length ≤ 6) (h1 : ActsR w u1 al.length (fnOf al)) (h2 : ReadAt .i64 w u2 ns) (h3 : ActsR w v1 al.length (fnOf al)) (h4 : ReadAt .i64 w v2 ns) :
    Calls Try.prog 22 #[.agg #[.int .i64 cd, u1, .int .i64 md, .int .i64 st, .bool pv, u2], .agg #[.int .i64 cd, v1, .int .i64 md, .int .i64 st, .bool pv, v2]] w fun e w' => e = .returned (.bool true) ∧ Below w.heap.size w w' := by
  have h1' := h1
  obtain ⟨a1, c1, rfl, _⟩ := h1'
  have h2' := h2
  obtain ⟨a2, c2, rfl, _⟩ := h2'
  have h3' := h3
  obtain ⟨a3, c3, rfl, _⟩ := h3'
  have h4' := h4
  obtain ⟨a4, c4, rfl, _⟩ := h4'
  have HF := hide hF
  clear hF
  have hne1 : (cd != cd) = false := by simp
  go_enter Try.func22, Try.ntmps22
  go_wp2_with fail
  have hb : Below w.heap.size w ((w.alloc (.cells #[.int .i64 cd, .slice a1 al.length c1, .int .i64 md, .int .i64 st, .bool pv, .slice a2 ns.length c2] 42)).alloc (.cells #[.int .i64 cd, .slice a3 al.length c3, .int .i64 md, .int .i64 st, .bool pv, .slice a4 ns.length c4] 42)) := (by repeat' (first | with_reducible exact Below.refl _ _ | with_reducible assumption | with_reducible refine Below.drew ?_ | with_reducible refine Below.alloc ?_ ?_ _ | with_reducible refine Below.setCell ?_ ?_ _ | (simp; done) | (simp; omega) | omega))
  refine (eqActS_calls al.length (fnOf al) _ _ _ (by omega) HF.out (h1.below hb) (h3.below hb)).mono ?_
  rintro e w1 ⟨rfl, hb1⟩
  have A2 : w1.cell? ⟨w.heap.size, 2, none⟩ = some (.int .i64 md) := cellb hb1 (by simp)
  have A3 : w1.cell? ⟨w.heap.size, 3, none⟩ = some (.int .i64 st) := cellb hb1 (by simp)
  have A4 : w1.cell? ⟨w.heap.size, 4, none⟩ = some (.bool pv) := cellb hb1 (by simp)
  have A5 : w1.cell? ⟨w.heap.size, 5, none⟩ = some (.slice a2 ns.length c2) := cellb hb1 (by simp)
  have B2 : w1.cell? ⟨w.heap.size + 1, 2, none⟩ = some (.int .i64 md) := cellb hb1 (by simp)
  have B3 : w1.cell? ⟨w.heap.size + 1, 3, none⟩ = some (.int .i64 st) := cellb hb1 (by simp)
  have B4 : w1.cell? ⟨w.heap.size + 1, 4, none⟩ = some (.bool pv) := cellb hb1 (by simp)
  have B5 : w1.cell? ⟨w.heap.size + 1, 5, none⟩ = some (.slice a4 ns.length c4) := cellb hb1 (by simp)
  have hb2 := hb.trans (hb1.mono hb.size)
  clear hb1 hb
  go_wp2_with fail
  refine (eqParser_calls md st pv ns _ _ _ (by omega) (h2.below hb2) (h4.below hb2)).mono ?_
  rintro e w2 ⟨rfl, hb3⟩
  go_wp2
  go_ret
  exact ⟨rfl, hb2.trans (hb3.mono hb2.size)⟩

set_option maxHeartbeats 1000000 in
theorem heldActionsResult_calls (cd md st : Int) (pv : Bool) (n : Nat) (F : Nat → Axn) (ns : List Int) (x y : Value) (w : World) (hn : n ≤ 2000) (hns : ns.length ≤ 6) (hF : ∀ i, i < n → (F i).ns.length ≤ 6) (h1 : ActsR w x n F) (h2 : ReadAt .i64 w y ns) (m1 : ∀ i, i < n → F i = mark1 (kF 1 F i) (F i)) (m2 : ∀ i, i < ns.length → ns.getD i 0 = (kF 1 F n + i : Int)) :
    Calls Try.prog 26 #[.agg #[.int .i64 cd, x, .int .i64 md, .int .i64 st, .bool pv, y], .int .i64 1] w fun e w' => e = .returned (.int .i64 (kF 1 F n + ns.length)) ∧ Below w.heap.size w w' := by
  have h1' := h1
  obtain ⟨a1, c1, rfl, _⟩ := h1'
  have h2' := h2
  obtain ⟨a2, c2, rfl, _⟩ := h2'
  have hK1 := kF_ge 1 F n
  have hK2 := kF_le 1 F n (fun j hj => hF j hj)
  have HF := hide hF
  have M1 := hide m1
  have M2 := hide m2
  clear m1 m2 hF
  have hb : Below w.heap.size w (w.alloc (.cells #[.int .i64 cd, .slice a1 n c1, .int .i64 md, .int .i64 st, .bool pv, .slice a2 ns.length c2] 42)) := (by repeat' (first | with_reducible exact Below.refl _ _ | with_reducible assumption | with_reducible refine Below.drew ?_ | with_reducible refine Below.alloc ?_ ?_ _ | with_reducible refine Below.setCell ?_ ?_ _ | (simp; done) | (simp; omega) | omega))
  have hge1 : ¬ (kF 1 F n < 0) := by omega
  have hge2 : ¬ (kF 1 F n + (ns.length : Int) < 0) := by omega
  go_enter Try.func26, Try.ntmps26
  go_wp2_with fail
  refine (heldActS_calls n F 1 _ _ (by omega) HF.out (by omega) (by omega) (h1.below hb) M1.out).mono ?_
  rintro e w1 ⟨rfl, hw⟩
  rw [hw]
  clear hw w1
  go_wp2_with fail
  refine (heldParser_calls md st pv ns (kF 1 F n) _ _ (by omega) (by omega) (by omega) (h2.below hb) M2.out).mono ?_
  rintro e w2 ⟨rfl, hb3⟩
  go_wp2
  go_ret
  exact ⟨rfl, hb.trans (hb3.mono hb.size)⟩

set_option maxHeartbeats 1000000 in
theorem markActionsResult_calls (cd md st : Int) (pv : Bool) (al : List Axn) (ns : List Int) (lo hi : Nat) (x y : Value) (w : World) (hn : al.length ≤ 2000) (hns : ns.length ≤ 6) (hF : ∀ i, i < al.length → (fnOf al i).ns.length ≤ 6) (h : ManyOwn lo hi w x y al ns) (hh : hi ≤ w.heap.size) :
    Calls Try.prog 25 #[.agg #[.int .i64 cd, x, .int .i64 md, .int .i64 st, .bool pv, y], .int .i64 1] w fun e w' => e = .returned (.int .i64 (kF 1 (fnOf al) al.length + ns.length)) ∧ ActsR w' x al.length (fun i => mark1 (kF 1 (fnOf al) i) (fnOf al i)) ∧ ReadAt .i64 w' y (marks (kF 1 (fnOf al) al.length) ns.length) ∧ Within lo hi w w' := by
  obtain ⟨a1, c1, a2, c2, rfl, rfl⟩ := h.forms
  have hb : Below w.heap.size w (w.alloc (.cells #[.int .i64 cd, .slice a1 al.length c1, .int .i64 md, .int .i64 st, .bool pv, .slice a2 ns.length c2] 42)) := (by repeat' (first | with_reducible exact Below.refl _ _ | with_reducible assumption | with_reducible refine Below.drew ?_ | with_reducible refine Below.alloc ?_ ?_ _ | with_reducible refine Below.setCell ?_ ?_ _ | (simp; done) | (simp; omega) | omega))
  have h2 := h.below hb hh
  have hK1 := kF_ge 1 (fnOf al) al.length
  have hK2 := kF_le 1 (fnOf al) al.length (fun j hj => hF j hj)
  have HF := hide hF
  clear hF h
  by_cases hz : al.length = 0
  · obtain ⟨us, ha⟩ := h2.acts
    obtain ⟨us0, w0, q1, q2, q3, q4, q5⟩ := h2
    have hx := own_blk ha.par (by omega)
    have hx0 := (own_blk q1.par q2).2
    clear ha q5
    rw [hz] at hx hb q4 ⊢
    go_enter Try.func25, Try.ntmps25
    go_wp2_with fail
    refine (markActS_nil _ _ _ _).mono ?_
    rintro e w1 ⟨rfl, hw⟩
    rw [hw]
    clear hw w1
    go_wp2_with fail
    refine (markParser_calls md st pv ns 1 _ _ _ _ (by omega) (by omega) (by omega) hx.2.2 hx.1).mono ?_
    rintro e w2 ⟨rfl, hm2, hw2⟩
    go_wp2
    go_ret
    refine ⟨rfl, ⟨_, _, rfl, .inl rfl⟩, hm2.read, (Within.of_below hb (by omega)).trans (within_mono hw2 (by omega) (by omega))⟩
  · obtain ⟨g, cap, U, hv, hM, hx, hx1, hx2, hgx, hsx⟩ := h2.mark hz
    injection hv with hv1 hv2 hv3
    subst hv1 hv3
    clear hv2
    have HSX := hide hsx
    clear hsx
    go_enter Try.func25, Try.ntmps25
    go_wp2_with fail
    refine (markActS_calls al.length (fnOf al) 1 lo hi g 0 _ U _ (by omega) HF.out (by omega) (by omega) hM).mono ?_
    rintro e w1 ⟨rfl, hM1, hmf⟩
    have hw1 := hmf.toWithin hM
    have A2 : w1.cell? ⟨w.heap.size, 2, none⟩ = some (.int .i64 md) := hw1.cell (by simp) (by omega) (by simp)
    have A3 : w1.cell? ⟨w.heap.size, 3, none⟩ = some (.int .i64 st) := hw1.cell (by simp) (by omega) (by simp)
    have A4 : w1.cell? ⟨w.heap.size, 4, none⟩ = some (.bool pv) := hw1.cell (by simp) (by omega) (by simp)
    have A5 : w1.cell? ⟨w.heap.size, 5, none⟩ = some (.slice a2 ns.length c2) := hw1.cell (by simp) (by omega) (by simp)
    have hs1 : w.heap.size + 1 ≤ w1.heap.size := by have := hw1.size; simp at this; omega
    have hxm : IntsAt .i64 (blkL lo (.slice a2 ns.length c2)) (blkH lo (.slice a2 ns.length c2)) w1 (.slice a2 ns.length c2) ns := hx.of_blocks fun b p1 p2 => hmf.block b (by simp; omega) (by omega) (fun i hi => by have := HSX.out i hi; omega)
    have HM1 := hide hM1
    clear hM hM1 hmf hx h2
    go_wp2_with fail
    refine (markParser_calls md st pv ns (kF 1 (fnOf al) al.length) _ _ _ _ (by omega) (by omega) (by omega) (by omega) hxm).mono ?_
    rintro e w2 ⟨rfl, hm2, hw2⟩
    have HR := hide (HM1.out.after (cap := c1) hw2 hgx HSX.out)
    go_wp2
    go_ret
    exact ⟨rfl, HR.out, hm2.read, (Within.of_below hb (by omega)).trans (hw1.trans (within_mono hw2 (by omega) (by omega)))⟩

/-- The marked actions, as a function of their own. -/
def markFn (al : List Axn) : Nat → Axn := fun i => mark1 (kF 1 (fnOf al) i) (fnOf al i)
theorem markFn_k (al : List Axn) : ∀ i, kF 1 (markFn al) i = kF 1 (fnOf al) i
  | 0 => rfl
  | i + 1 => by simp only [kF]; rw [markFn_k al i]; simp [markFn, mark1, marks_length]
theorem markFn_self (al : List Axn) (i : Nat) : markFn al i = mark1 (kF 1 (markFn al) i) (markFn al i) := by
  rw [markFn_k]
  simp [markFn, mark1, marks_length]
theorem markFn_len (al : List Axn) (i : Nat) : (markFn al i).ns.length = (fnOf al i).ns.length := by simp [markFn, mark1, marks_length]
theorem fnOf_len {al : List Axn} (h : ∀ a ∈ al, a.ns.length ≤ 6) : ∀ i, i < al.length → (fnOf al i).ns.length ≤ 6 := fun i hi => by
  unfold fnOf
  rw [List.getD_eq_getElem?_getD, List.getElem?_eq_getElem hi]
  exact h _ (List.getElem_mem _)

end Go.Proofs.Ytaljegjflkebcaa
