/-
  spec.ParseMany walked.
-/
import Derived.Test.YtaljegjflkebcaaRows
import Derived.Test.YtaljegjflkebcaaManyI4
import Derived.Deep.RegionHeld
import Derived.Deep.CutRange
namespace Go.Proofs.Ytaljegjflkebcaa
open Go.ChangeShapes Go.WideShapes Go.ChangeAt Go.RowKit
set_option linter.unusedVariables false
set_option linter.unusedSimpArgs false

/-- Behind the step: where the action and the parser lie. -/
def CutS (wr wx : World) (kd ch st2 : Int) (pv2 : Bool) (al : List Int) (md st : Int) (pv : Bool) (ns : List Int) (s8 s9 : Value) : Prop :=
  ∃ b8 b9 a5 cu5 a4 c4, s8 = .pointer (some ⟨b8, 0, none⟩) ∧ s9 = .pointer (some ⟨b9, 0, none⟩) ∧ Below wr.heap.size wr wx ∧ wr.heap.size ≤ b8 ∧ wr.heap.size ≤ b9 ∧ b8 < wx.heap.size ∧ b9 < wx.heap.size ∧
    wx.cell? ⟨b8, 0, none⟩ = some (.int .i64 kd) ∧ wx.cell? ⟨b8, 1, none⟩ = some (.int .i64 ch) ∧ wx.cell? ⟨b8, 2, none⟩ = some (.int .i64 st2) ∧ wx.cell? ⟨b8, 3, none⟩ = some (.bool pv2) ∧ wx.cell? ⟨b8, 4, none⟩ = some (.slice a5 al.length cu5) ∧
    wx.cell? ⟨b9, 0, none⟩ = some (.int .i64 md) ∧ wx.cell? ⟨b9, 1, none⟩ = some (.int .i64 st) ∧ wx.cell? ⟨b9, 2, none⟩ = some (.bool pv) ∧ wx.cell? ⟨b9, 3, none⟩ = some (.slice a4 ns.length c4) ∧
    wx.ownsRow wr.heap.size 2 1 (.slice a5 al.length cu5) al.length (intsV al) ∧ wx.ownsRow wr.heap.size 2 1 (.slice a4 ns.length c4) ns.length (intsV ns) ∧ Apart (.slice a5 al.length cu5) (.slice a4 ns.length c4)
theorem grown_of {w w' : World} (h : Below w.heap.size w w') (o : Option Nat) : w.grownBy w' o := ⟨h.os, h.tape, h.output, h.size, fun k hk _ => h.block k hk⟩
theorem from_new {w w' : World} {n : Nat} {e : TypeId} {v x : Value} {xs : List Value} (h : w'.ownsRow w.heap.size e 1 x n xs) : From w v x := fun k hk => .inr (h.lt k hk).1

set_option maxHeartbeats 4000000 in
theorem specMany_code (md st : Int) (pv : Bool) (ns cs : List Int) (v y : Value) (w : World) (hn : ns.length ≤ maxLen) (hn2 : cs.length ≤ maxLen) (h1 : ReadAt .i64 w v ns) (h2 : ReadAt .i64 w y cs) (hp : ¬ (⟨md, st, pv, ns⟩ : Par).code = 0) :
    Calls Try.prog 19 #[.agg #[.int .i64 md, .int .i64 st, .bool pv, v], y] w (ManyEnds ⟨md, st, pv, ns⟩ cs w) := by
  unfold ManyEnds
  have h1' := h1
  obtain ⟨a1, c1, rfl, _⟩ := h1'
  have h2' := h2
  obtain ⟨a2, c2, rfl, _⟩ := h2'
  have hb0 : Below w.heap.size w ((w.alloc (.cells #[.int .i64 md, .int .i64 st, .bool pv, .slice a1 ns.length c1] 27)).alloc (.cells #[.int .i64 0, .slice none 0 0, .int .i64 0, .int .i64 0, .bool false, .slice none 0 0] 42)) := (by repeat' (first | with_reducible exact Below.refl _ _ | with_reducible assumption | with_reducible refine Below.drew ?_ | with_reducible refine Below.alloc ?_ ?_ _ | with_reducible refine Below.setCell ?_ ?_ _ | (simp; done) | (simp; omega) | omega))
  rw [manyRes_code hp]
  unfold manyV
  dsimp only [Par.zero]
  generalize hcd : (⟨md, st, pv, ns⟩ : Par).code = code at *
  have HCD := hide hcd
  clear hcd
  have hne : (code != 0) = true := by simpa using hp
  go_enter Try.func19, Try.ntmps19
  go_wp2_with fail
  refine (l4Fault_calls md st pv ns _ w.heap.size ((w.alloc (.cells #[.int .i64 md, .int .i64 st, .bool pv, .slice a1 ns.length c1] 27)).alloc (.cells #[.int .i64 0, .slice none 0 0, .int .i64 0, .int .i64 0, .bool false, .slice none 0 0] 42)) hn (h1.below hb0) (by simp [go_sem]) (by simp [go_sem]) (by simp [go_sem]) (by simp [go_sem])).mono ?_
  rintro e w1 ⟨rfl, hw1⟩
  have hb1 : Below (((w.alloc (.cells #[.int .i64 md, .int .i64 st, .bool pv, .slice a1 ns.length c1] 27)).alloc (.cells #[.int .i64 0, .slice none 0 0, .int .i64 0, .int .i64 0, .bool false, .slice none 0 0] 42))).heap.size ((w.alloc (.cells #[.int .i64 md, .int .i64 st, .bool pv, .slice a1 ns.length c1] 27)).alloc (.cells #[.int .i64 0, .slice none 0 0, .int .i64 0, .int .i64 0, .bool false, .slice none 0 0] 42)) w1 := by rw [hw1]; exact Below.refl _ _
  have k0_0 : w1.cell? ⟨w.heap.size, 0, none⟩ = some (.int .i64 md) := cellb hb1 (by simp [go_sem])
  have k0_1 : w1.cell? ⟨w.heap.size, 1, none⟩ = some (.int .i64 st) := cellb hb1 (by simp [go_sem])
  have k0_2 : w1.cell? ⟨w.heap.size, 2, none⟩ = some (.bool pv) := cellb hb1 (by simp [go_sem])
  have k0_3 : w1.cell? ⟨w.heap.size, 3, none⟩ = some (.slice a1 ns.length c1) := cellb hb1 (by simp [go_sem])
  have k1_0 : w1.cell? ⟨w.heap.size + 1, 0, none⟩ = some (.int .i64 0) := cellb hb1 (by simp [go_sem])
  have k1_1 : w1.cell? ⟨w.heap.size + 1, 1, none⟩ = some (.slice none 0 0) := cellb hb1 (by simp [go_sem])
  have k1_2 : w1.cell? ⟨w.heap.size + 1, 2, none⟩ = some (.int .i64 0) := cellb hb1 (by simp [go_sem])
  have k1_3 : w1.cell? ⟨w.heap.size + 1, 3, none⟩ = some (.int .i64 0) := cellb hb1 (by simp [go_sem])
  have k1_4 : w1.cell? ⟨w.heap.size + 1, 4, none⟩ = some (.bool false) := cellb hb1 (by simp [go_sem])
  have k1_5 : w1.cell? ⟨w.heap.size + 1, 5, none⟩ = some (.slice none 0 0) := cellb hb1 (by simp [go_sem])
  have f1 : ∀ o, w1.frozen? ⟨w.heap.size + 1, o, none⟩ = false := fun o => by rw [hb1.frozen (p := ⟨w.heap.size + 1, o, none⟩) (by simp)]; simp [go_sem]
  have hs1 : w.heap.size + 2 ≤ w1.heap.size := by have := hb1.size; simp at this; omega
  replace hb1 := hb0.trans (hb1.mono (by simp; omega))
  clear hb0 hw1
  rw [show parCode md st pv ns = code from HCD.out]
  go_wp2
  refine bodyPost_ret (v := .agg #[.int .i64 code, .slice none 0 0, .int .i64 0, .int .i64 0, .bool false, .slice none 0 0]) (by simp only [results, Try.results19]; simp [go_sem, k0_0, k0_1, k0_2, k0_3, k1_0, k1_1, k1_2, k1_3, k1_4, k1_5]) rfl ⟨_, _, rfl, acts_zero _ _, (by repeat' (first | with_reducible exact Below.refl _ _ | with_reducible assumption | with_reducible refine Below.drew ?_ | with_reducible refine Below.alloc ?_ ?_ _ | with_reducible refine Below.setCell ?_ ?_ _ | (simp; done) | (simp; omega) | omega))⟩

set_option maxHeartbeats 4000000 in
theorem specMany_many (md st : Int) (pv : Bool) (ns cs : List Int) (v y : Value) (w : World) (hn : ns.length ≤ maxLen) (hn2 : cs.length ≤ maxLen) (h1 : ReadAt .i64 w v ns) (h2 : ReadAt .i64 w y cs) (hp : (⟨md, st, pv, ns⟩ : Par).code = 0) (hc : 2000 < cs.length) :
    Calls Try.prog 19 #[.agg #[.int .i64 md, .int .i64 st, .bool pv, v], y] w (ManyEnds ⟨md, st, pv, ns⟩ cs w) := by
  unfold ManyEnds
  have h1' := h1
  obtain ⟨a1, c1, rfl, _⟩ := h1'
  have h2' := h2
  obtain ⟨a2, c2, rfl, _⟩ := h2'
  have hb0 : Below w.heap.size w ((w.alloc (.cells #[.int .i64 md, .int .i64 st, .bool pv, .slice a1 ns.length c1] 27)).alloc (.cells #[.int .i64 0, .slice none 0 0, .int .i64 0, .int .i64 0, .bool false, .slice none 0 0] 42)) := (by repeat' (first | with_reducible exact Below.refl _ _ | with_reducible assumption | with_reducible refine Below.drew ?_ | with_reducible refine Below.alloc ?_ ?_ _ | with_reducible refine Below.setCell ?_ ?_ _ | (simp; done) | (simp; omega) | omega))
  rw [manyRes_many hp hc]
  unfold manyV
  dsimp only [Par.zero]
  have hcI : (2000 : Int) < (cs.length : Int) := by omega
  go_enter Try.func19, Try.ntmps19
  go_wp2_with fail
  refine (l4Fault_calls md st pv ns _ w.heap.size ((w.alloc (.cells #[.int .i64 md, .int .i64 st, .bool pv, .slice a1 ns.length c1] 27)).alloc (.cells #[.int .i64 0, .slice none 0 0, .int .i64 0, .int .i64 0, .bool false, .slice none 0 0] 42)) hn (h1.below hb0) (by simp [go_sem]) (by simp [go_sem]) (by simp [go_sem]) (by simp [go_sem])).mono ?_
  rintro e w1 ⟨rfl, hw1⟩
  have hb1 : Below (((w.alloc (.cells #[.int .i64 md, .int .i64 st, .bool pv, .slice a1 ns.length c1] 27)).alloc (.cells #[.int .i64 0, .slice none 0 0, .int .i64 0, .int .i64 0, .bool false, .slice none 0 0] 42))).heap.size ((w.alloc (.cells #[.int .i64 md, .int .i64 st, .bool pv, .slice a1 ns.length c1] 27)).alloc (.cells #[.int .i64 0, .slice none 0 0, .int .i64 0, .int .i64 0, .bool false, .slice none 0 0] 42)) w1 := by rw [hw1]; exact Below.refl _ _
  have k0_0 : w1.cell? ⟨w.heap.size, 0, none⟩ = some (.int .i64 md) := cellb hb1 (by simp [go_sem])
  have k0_1 : w1.cell? ⟨w.heap.size, 1, none⟩ = some (.int .i64 st) := cellb hb1 (by simp [go_sem])
  have k0_2 : w1.cell? ⟨w.heap.size, 2, none⟩ = some (.bool pv) := cellb hb1 (by simp [go_sem])
  have k0_3 : w1.cell? ⟨w.heap.size, 3, none⟩ = some (.slice a1 ns.length c1) := cellb hb1 (by simp [go_sem])
  have k1_0 : w1.cell? ⟨w.heap.size + 1, 0, none⟩ = some (.int .i64 0) := cellb hb1 (by simp [go_sem])
  have k1_1 : w1.cell? ⟨w.heap.size + 1, 1, none⟩ = some (.slice none 0 0) := cellb hb1 (by simp [go_sem])
  have k1_2 : w1.cell? ⟨w.heap.size + 1, 2, none⟩ = some (.int .i64 0) := cellb hb1 (by simp [go_sem])
  have k1_3 : w1.cell? ⟨w.heap.size + 1, 3, none⟩ = some (.int .i64 0) := cellb hb1 (by simp [go_sem])
  have k1_4 : w1.cell? ⟨w.heap.size + 1, 4, none⟩ = some (.bool false) := cellb hb1 (by simp [go_sem])
  have k1_5 : w1.cell? ⟨w.heap.size + 1, 5, none⟩ = some (.slice none 0 0) := cellb hb1 (by simp [go_sem])
  have f1 : ∀ o, w1.frozen? ⟨w.heap.size + 1, o, none⟩ = false := fun o => by rw [hb1.frozen (p := ⟨w.heap.size + 1, o, none⟩) (by simp)]; simp [go_sem]
  have hs1 : w.heap.size + 2 ≤ w1.heap.size := by have := hb1.size; simp at this; omega
  replace hb1 := hb0.trans (hb1.mono (by simp; omega))
  clear hb0 hw1
  rw [show parCode md st pv ns = (⟨md, st, pv, ns⟩ : Par).code from rfl, hp]
  go_wp2
  refine bodyPost_ret (v := .agg #[.int .i64 2, .slice none 0 0, .int .i64 0, .int .i64 0, .bool false, .slice none 0 0]) (by simp only [results, Try.results19]; simp [go_sem, k0_0, k0_1, k0_2, k0_3, k1_0, k1_1, k1_2, k1_3, k1_4, k1_5]) rfl ⟨_, _, rfl, acts_zero _ _, (by repeat' (first | with_reducible exact Below.refl _ _ | with_reducible assumption | with_reducible refine Below.drew ?_ | with_reducible refine Below.alloc ?_ ?_ _ | with_reducible refine Below.setCell ?_ ?_ _ | (simp; done) | (simp; omega) | omega))⟩

set_option maxHeartbeats 4000000 in
theorem specMany_list (md st : Int) (pv : Bool) (ns cs : List Int) (v y : Value) (w : World) (hn : ns.length ≤ maxLen) (hn2 : cs.length ≤ maxLen) (h1 : ReadAt .i64 w v ns) (h2 : ReadAt .i64 w y cs) (hp : (⟨md, st, pv, ns⟩ : Par).code = 0) (hc : ¬ 2000 < cs.length) :
    Calls Try.prog 19 #[.agg #[.int .i64 md, .int .i64 st, .bool pv, v], y] w (ManyEnds ⟨md, st, pv, ns⟩ cs w) := by
  unfold ManyEnds
  have h1' := h1
  obtain ⟨a1, c1, rfl, _⟩ := h1'
  have h2' := h2
  obtain ⟨a2, c2, rfl, _⟩ := h2'
  have hb0 : Below w.heap.size w ((w.alloc (.cells #[.int .i64 md, .int .i64 st, .bool pv, .slice a1 ns.length c1] 27)).alloc (.cells #[.int .i64 0, .slice none 0 0, .int .i64 0, .int .i64 0, .bool false, .slice none 0 0] 42)) := (by repeat' (first | with_reducible exact Below.refl _ _ | with_reducible assumption | with_reducible refine Below.drew ?_ | with_reducible refine Below.alloc ?_ ?_ _ | with_reducible refine Below.setCell ?_ ?_ _ | (simp; done) | (simp; omega) | omega))
  have hle : ¬ ((2000 : Int) < (cs.length : Int)) := by omega
  have hlen : ns.length ≤ 6 := par_len hp
  have HP := hide hp
  go_enter Try.func19, Try.ntmps19
  go_wp2_with fail
  refine (l4Fault_calls md st pv ns _ w.heap.size ((w.alloc (.cells #[.int .i64 md, .int .i64 st, .bool pv, .slice a1 ns.length c1] 27)).alloc (.cells #[.int .i64 0, .slice none 0 0, .int .i64 0, .int .i64 0, .bool false, .slice none 0 0] 42)) hn (h1.below hb0) (by simp [go_sem]) (by simp [go_sem]) (by simp [go_sem]) (by simp [go_sem])).mono ?_
  rintro e w1 ⟨rfl, hw1⟩
  have hb1 : Below (((w.alloc (.cells #[.int .i64 md, .int .i64 st, .bool pv, .slice a1 ns.length c1] 27)).alloc (.cells #[.int .i64 0, .slice none 0 0, .int .i64 0, .int .i64 0, .bool false, .slice none 0 0] 42))).heap.size ((w.alloc (.cells #[.int .i64 md, .int .i64 st, .bool pv, .slice a1 ns.length c1] 27)).alloc (.cells #[.int .i64 0, .slice none 0 0, .int .i64 0, .int .i64 0, .bool false, .slice none 0 0] 42)) w1 := by rw [hw1]; exact Below.refl _ _
  have k0_0 : w1.cell? ⟨w.heap.size, 0, none⟩ = some (.int .i64 md) := cellb hb1 (by simp [go_sem])
  have k0_1 : w1.cell? ⟨w.heap.size, 1, none⟩ = some (.int .i64 st) := cellb hb1 (by simp [go_sem])
  have k0_2 : w1.cell? ⟨w.heap.size, 2, none⟩ = some (.bool pv) := cellb hb1 (by simp [go_sem])
  have k0_3 : w1.cell? ⟨w.heap.size, 3, none⟩ = some (.slice a1 ns.length c1) := cellb hb1 (by simp [go_sem])
  have k1_0 : w1.cell? ⟨w.heap.size + 1, 0, none⟩ = some (.int .i64 0) := cellb hb1 (by simp [go_sem])
  have k1_1 : w1.cell? ⟨w.heap.size + 1, 1, none⟩ = some (.slice none 0 0) := cellb hb1 (by simp [go_sem])
  have k1_2 : w1.cell? ⟨w.heap.size + 1, 2, none⟩ = some (.int .i64 0) := cellb hb1 (by simp [go_sem])
  have k1_3 : w1.cell? ⟨w.heap.size + 1, 3, none⟩ = some (.int .i64 0) := cellb hb1 (by simp [go_sem])
  have k1_4 : w1.cell? ⟨w.heap.size + 1, 4, none⟩ = some (.bool false) := cellb hb1 (by simp [go_sem])
  have k1_5 : w1.cell? ⟨w.heap.size + 1, 5, none⟩ = some (.slice none 0 0) := cellb hb1 (by simp [go_sem])
  have f1 : ∀ o, w1.frozen? ⟨w.heap.size + 1, o, none⟩ = false := fun o => by rw [hb1.frozen (p := ⟨w.heap.size + 1, o, none⟩) (by simp)]; simp [go_sem]
  have hs1 : w.heap.size + 2 ≤ w1.heap.size := by have := hb1.size; simp at this; omega
  replace hb1 := hb0.trans (hb1.mono (by simp; omega))
  clear hb0 hw1
  rw [show parCode md st pv ns = (⟨md, st, pv, ns⟩ : Par).code from rfl, hp]
  clear hp
  go_wp2_with fail
  refine (l4Copy_calls md st pv ns _ _ (by omega) (h1.below hb1)).mono ?_
  rintro e w2 ⟨v', rfl, hown, hb2⟩
  obtain ⟨a3, c3, rfl⟩ := own_form hown
  replace k1_0 := cellb hb2 k1_0
  replace k1_1 := cellb hb2 k1_1
  replace k1_2 := cellb hb2 k1_2
  replace k1_3 := cellb hb2 k1_3
  replace k1_4 := cellb hb2 k1_4
  replace k1_5 := cellb hb2 k1_5
  replace f1 : ∀ o, _ = _ := fun o => (hb2.frozen (p := ⟨w.heap.size + 1, o, none⟩) (show w.heap.size + 1 < w1.heap.size by omega)).trans (f1 o)
  have hs2 := hb2.size
  have hb3 := hb1.trans (hb2.mono (by omega))
  clear hb2 hb1 h1 k0_0 k0_1 k0_2 k0_3
  go_wp2_with fail
  go_loopw [7] (fun i wr => ∃ k : Nat, k ≤ cs.length ∧ i = .int .i64 k ∧ allB cs k = true ∧ ∃ v x us, Acts w1.heap.size wr v x us (hearTo ⟨md, st, pv, ns⟩ cs k).2 (hearTo ⟨md, st, pv, ns⟩ cs k).1.ns ∧ Free w2.heap.size v x us ∧ Below w1.heap.size w2 wr ∧ w2.heap.size < wr.heap.size ∧ wr.cell? ⟨w2.heap.size, 0, none⟩ = some (.int .i64 0) ∧ wr.cell? ⟨w2.heap.size, 1, none⟩ = some v ∧ wr.cell? ⟨w2.heap.size, 2, none⟩ = some (.int .i64 (hearTo ⟨md, st, pv, ns⟩ cs k).1.md) ∧ wr.cell? ⟨w2.heap.size, 3, none⟩ = some (.int .i64 (hearTo ⟨md, st, pv, ns⟩ cs k).1.st) ∧ wr.cell? ⟨w2.heap.size, 4, none⟩ = some (.bool (hearTo ⟨md, st, pv, ns⟩ cs k).1.pv) ∧ wr.cell? ⟨w2.heap.size, 5, none⟩ = some x ∧ ∀ o, wr.frozen? ⟨w2.heap.size, o, none⟩ = false) (fun i _ => cs.length - (intOf i).toNat)
  case atStart => exact ⟨0, Nat.zero_le _, rfl, rfl, _, _, [], (Acts.start _ _ (own_alloc hown _)), ⟨by simp [Value.ownBlock], fun h => by have := hown.lt _ h.symm; omega, by simp⟩, (Below.refl _ _).alloc hs2 _, by simp, by simp [hearTo], by simp [hearTo], by simp [hearTo], by simp [hearTo], by simp [hearTo], by simp [hearTo], fun o => by simp⟩
  case round =>
    obtain ⟨k, hkk, rfl, hall, v, x, us, hacts, hfree, hb, hsz, c0, c1', c2', c3', c4, c5, c6⟩ := hrel
    have hbw : Below w.heap.size w wr := hb3.trans (hb.mono (by omega))
    have hcode := (hear_fine ⟨md, st, pv, ns⟩ cs HP.out k hkk).1
    have hlk := (hear_fine ⟨md, st, pv, ns⟩ cs HP.out k hkk).2.1
    by_cases hlt : k < cs.length
    · have hltI : (k : Int) < (cs.length : Int) := by omega
      obtain ⟨b1, o1, rfl, g00⟩ := h2.spot k hlt
      have g0 := cellb hbw g00
      have hres := hide (fun h => manyRes_char HP.out hc (allB_no hlt h))
      have hal' := hide (allB_succ cs k hlt)
      have hq := hearTo_succ ⟨md, st, pv, ns⟩ cs k hlt
      generalize hearTo ⟨md, st, pv, ns⟩ cs k = s at *
      obtain ⟨⟨mdk, stk, pvk, nsk⟩, alk⟩ := s
      have HQ := hide hq
      have HAC := hide hacts
      clear g00 h2 hq
      generalize cs.getD k 0 = c at *
      dsimp only at *
      cases hch : chB c with
      | false =>
        replace k1_0 := cellk hb (by omega) k1_0
        replace k1_1 := cellk hb (by omega) k1_1
        replace k1_2 := cellk hb (by omega) k1_2
        replace k1_3 := cellk hb (by omega) k1_3
        replace k1_4 := cellk hb (by omega) k1_4
        replace k1_5 := cellk hb (by omega) k1_5
        replace f1 : ∀ o, _ = _ := fun o => (hb.frozen (p := ⟨w.heap.size + 1, o, none⟩) (show w.heap.size + 1 < w1.heap.size by omega)).trans (f1 o)
        go_wp2_with fail
        refine (l1Char_calls c _).mono ?_
        rintro e w9 ⟨rfl, hw9⟩
        rw [hw9, hch]
        clear hw9 w9
        clear hb3 hb
        go_wp2
        refine bodyPost_ret (v := .agg #[.int .i64 3, .slice none 0 0, .int .i64 0, .int .i64 0, .bool false, .slice none 0 0]) (by simp only [results, Try.results19]; simp [go_sem, k1_0, k1_1, k1_2, k1_3, k1_4, k1_5]) rfl ⟨_, _, by rw [hres.out hch]; rfl, by rw [hres.out hch]; exact acts_zero _ _, (by repeat' (first | with_reducible exact Below.refl _ _ | with_reducible assumption | with_reducible refine Below.drew ?_ | with_reducible refine Below.alloc ?_ ?_ _ | with_reducible refine Below.setCell ?_ ?_ _ | (simp; done) | (simp; omega) | omega))⟩
      | true =>
        have hC := fun v W h1 => l4Step_calls ⟨mdk, stk, pvk, nsk⟩ c v W hcode h1
        unfold StepPost at hC
        have hq := HQ.out
        unfold hear1 at hq
        dsimp only at hq
        clear HQ
        generalize stepPA ⟨mdk, stk, pvk, nsk⟩ c = q at *
        obtain ⟨⟨md', st', pv', ns'⟩, ⟨kd, ch, st2, pv2, al⟩⟩ := q
        unfold parVal axnVal at hC
        dsimp only at *
        have HC := hide hC
        have HQ := hide hq
        clear hC hq
        obtain ⟨ax, cx, hxf⟩ := own_form hacts.par
        obtain ⟨av, cv, hvf⟩ := row_form hacts.row
        subst hxf hvf
        have HR : Hid (ReadAt .i64 wr (.slice ax nsk.length cx) nsk) := hide (own_ints hacts.par (Nat.le_refl _)).read
        clear hacts
        go_wp2_with fail
        refine (l1Char_calls c _).mono ?_
        rintro e w9 ⟨rfl, hw9⟩
        rw [hw9, hch]
        clear hw9 w9
        go_wp2_with fail
        go_cut [8, 9] from 35 to 44 (fun s8 s9 wx => CutS wr wx kd ch st2 pv2 al md' st' pv' ns' s8 s9)
        case first =>
          refine wp_region_held_drew (S := (fun w' => w'.cell? ⟨w2.heap.size, 2, none⟩ = some (.int .i64 mdk) ∧ w'.cell? ⟨w2.heap.size, 3, none⟩ = some (.int .i64 stk) ∧ w'.cell? ⟨w2.heap.size, 4, none⟩ = some (.bool pvk) ∧ w'.cell? ⟨w2.heap.size, 5, none⟩ = some (.slice ax nsk.length cx) ∧ w'.cell? ⟨b1, o1 + k, none⟩ = some (.int .i64 c))) (by kernel_rfl) ?_ (fun hHeld => ?_)
          · (try dsimp only); exact ⟨c2', c3', c4, c5, g0⟩
          have D : Below wr.heap.size wr wr.drew := Below.drew (Below.refl _ _)
          generalize wr.drew = V0 at *
          refine wpAnyH_take (i := 0) (oi := ⟨_, _, _, _, _, _⟩) (v := ?_) rfl (by kernel_rfl) (by kernel_rfl) (by kernel_rfl) (fun _ _ _ h => h) (Or.inl ⟨by rfl, ?_⟩) hHeld ?_
          rotate_left
          · (intro w hSw; (try dsimp only at hSw); go_simp; try (with_reducible rfl))
          try simp only [Act.put, List.setIfInBounds_toArray, List.set_cons_zero, List.set_cons_succ]
          refine wpAnyH_take (i := 1) (oi := ⟨_, _, _, _, _, _⟩) (v := ?_) rfl (by kernel_rfl) (by kernel_rfl) (by kernel_rfl) (fun _ _ _ h => h) (Or.inl ⟨by rfl, ?_⟩) hHeld ?_
          rotate_left
          · (intro w hSw; (try dsimp only at hSw); go_simp; try (with_reducible rfl))
          try simp only [Act.put, List.setIfInBounds_toArray, List.set_cons_zero, List.set_cons_succ]
          refine wpAnyH_take (i := 2) (oi := ⟨_, _, _, _, _, _⟩) (v := ?_) rfl (by kernel_rfl) (by kernel_rfl) (by kernel_rfl) (fun _ _ _ h => h) (Or.inl ⟨by rfl, ?_⟩) hHeld ?_
          rotate_left
          · (intro w hSw; (try dsimp only at hSw); go_simp; try (with_reducible rfl))
          try simp only [Act.put, List.setIfInBounds_toArray, List.set_cons_zero, List.set_cons_succ]
          refine wpAnyH_take (i := 3) (oi := ⟨_, _, _, _, _, _⟩) (v := ?_) rfl (by kernel_rfl) (by kernel_rfl) (by kernel_rfl) (fun _ _ _ h => h) (Or.inl ⟨by rfl, ?_⟩) hHeld ?_
          rotate_left
          · (intro w hSw; (try dsimp only at hSw); go_simp; try (with_reducible rfl))
          try simp only [Act.put, List.setIfInBounds_toArray, List.set_cons_zero, List.set_cons_succ]
          refine wpAnyH_take (i := 4) (oi := ⟨_, _, _, _, _, _⟩) (v := ?_) rfl (by kernel_rfl) (by kernel_rfl) (by kernel_rfl) (fun _ _ _ h => h) (Or.inl ⟨by rfl, ?_⟩) hHeld ?_
          rotate_left
          · (intro w hSw; (try dsimp only at hSw); go_simp; try (with_reducible rfl))
          try simp only [Act.put, List.setIfInBounds_toArray, List.set_cons_zero, List.set_cons_succ]
          refine wpAnyH_take (i := 5) (oi := ⟨_, _, _, _, _, _⟩) (v := ?_) rfl (by kernel_rfl) (by kernel_rfl) (by kernel_rfl) (fun _ _ _ h => h) (Or.inl ⟨by rfl, ?_⟩) hHeld ?_
          rotate_left
          · (intro w hSw; (try dsimp only at hSw); go_simp; try (with_reducible rfl))
          try simp only [Act.put, List.setIfInBounds_toArray, List.set_cons_zero, List.set_cons_succ]
          refine wpAnyH_ready (rs := [6, 10, 11]) (by kernel_rfl) (by simp) ?_
          refine (AllReadyH.cons (o := ⟨_, _, _, _, _, _⟩) rfl (fun K hK => ?_) (AllReadyH.cons (o := ⟨_, _, _, _, _, _⟩) rfl (fun K hK => ?_) (AllReadyH.cons (o := ⟨_, _, _, _, _, _⟩) rfl (fun K hK => ?_) AllReadyH.nil)))
          · skip
            go_simp
            go_at_call 40
            refine (HC.out _ _ (HR.out.below D)).mono ?_
            rintro e V1 ⟨u, x', rfl, hu, hx2, hor, rr⟩
            have huL := hu.lt
            have hxL := hx2.lt
            replace hu := own_base hu D.size
            replace hx2 := own_base hx2 D.size
            obtain ⟨a5, cu5, rfl⟩ := own_form hu
            obtain ⟨a4, c4x, rfl⟩ := own_form hx2
            have HUX : Apart (.slice a5 al.length cu5) (.slice a4 ns'.length c4x) := by rcases hor with h | h; rw [h]; exact Apart.nil _; rw [h]; exact (Apart.nil _).symm
            clear hor
            replace D := D.trans (rr.mono D.size)
            clear rr huL hxL
            try go_wp2_with fail
            refine hK.out _ _ ?_ ?_
            · (try dsimp only); exact ⟨cellb D c2', cellb D c3', cellb D c4, cellb D c5, cellb D g0⟩
            clear hHeld hK K
            intro hHeld
            try simp only [Act.put, List.setIfInBounds_toArray, List.set_cons_zero, List.set_cons_succ]
            refine wpAnyH_take (i := 7) (oi := ⟨_, _, _, _, _, _⟩) (v := ?_) rfl (by kernel_rfl) (by kernel_rfl) (by kernel_rfl) (fun _ _ _ h => h) (Or.inl ⟨by rfl, ?_⟩) hHeld ?_
            rotate_left
            · (intro w hSw; (try dsimp only at hSw); go_simp; try (with_reducible rfl))
            try simp only [Act.put, List.setIfInBounds_toArray, List.set_cons_zero, List.set_cons_succ]
            refine wpAnyH_take (i := 8) (oi := ⟨_, _, _, _, _, _⟩) (v := ?_) rfl (by kernel_rfl) (by kernel_rfl) (by kernel_rfl) (fun _ _ _ h => h) (Or.inl ⟨by rfl, ?_⟩) hHeld ?_
            rotate_left
            · (intro w hSw; (try dsimp only at hSw); go_simp; try (with_reducible rfl))
            try simp only [Act.put, List.setIfInBounds_toArray, List.set_cons_zero, List.set_cons_succ]
            refine wpAnyH_take (i := 9) (oi := ⟨_, _, _, _, _, _⟩) (v := ?_) rfl (by kernel_rfl) (by kernel_rfl) (by kernel_rfl) (fun _ _ _ h => h) (Or.inl ⟨by rfl, ?_⟩) hHeld ?_
            rotate_left
            · (intro w hSw; (try dsimp only at hSw); go_simp; try (with_reducible rfl))
            try simp only [Act.put, List.setIfInBounds_toArray, List.set_cons_zero, List.set_cons_succ]
            refine wpAnyH_ready (rs := [10, 11]) (by kernel_rfl) (by simp) ?_
            refine (AllReadyH.cons (o := ⟨_, _, _, _, _, _⟩) rfl (fun K hK => ?_) (AllReadyH.cons (o := ⟨_, _, _, _, _, _⟩) rfl (fun K hK => ?_) AllReadyH.nil))
            · skip
              go_simp
              have rr : Below V1.heap.size V1 (V1.alloc (.cells #[.int .i64 0, .int .i64 0, .int .i64 0, .bool false, .slice none 0 0] 32)) := (Below.refl _ _).alloc (Nat.le_refl _) _
              have A0 : (V1.alloc (.cells #[.int .i64 0, .int .i64 0, .int .i64 0, .bool false, .slice none 0 0] 32)).cell? ⟨V1.heap.size, 0, none⟩ = some (.int .i64 0) := by simp
              have A1 : (V1.alloc (.cells #[.int .i64 0, .int .i64 0, .int .i64 0, .bool false, .slice none 0 0] 32)).cell? ⟨V1.heap.size, 1, none⟩ = some (.int .i64 0) := by simp
              have A2 : (V1.alloc (.cells #[.int .i64 0, .int .i64 0, .int .i64 0, .bool false, .slice none 0 0] 32)).cell? ⟨V1.heap.size, 2, none⟩ = some (.int .i64 0) := by simp
              have A3 : (V1.alloc (.cells #[.int .i64 0, .int .i64 0, .int .i64 0, .bool false, .slice none 0 0] 32)).cell? ⟨V1.heap.size, 3, none⟩ = some (.bool false) := by simp
              have A4 : (V1.alloc (.cells #[.int .i64 0, .int .i64 0, .int .i64 0, .bool false, .slice none 0 0] 32)).cell? ⟨V1.heap.size, 4, none⟩ = some (.slice none 0 0) := by simp
              have AF : ∀ o, (V1.alloc (.cells #[.int .i64 0, .int .i64 0, .int .i64 0, .bool false, .slice none 0 0] 32)).frozen? ⟨V1.heap.size, o, none⟩ = false := fun o => by simp
              have AL : V1.heap.size < (V1.alloc (.cells #[.int .i64 0, .int .i64 0, .int .i64 0, .bool false, .slice none 0 0] 32)).heap.size := by simp
              have AG : wr.heap.size ≤ V1.heap.size := D.size
              have nAu : some V1.heap.size ≠ (Value.slice a5 al.length cu5).ownBlock := fun h => by have := (hu.lt _ h.symm).2; omega
              have nAx : some V1.heap.size ≠ (Value.slice a4 ns'.length c4x).ownBlock := fun h => by have := (hx2.lt _ h.symm).2; omega
              replace hu := own_below hu rr
              replace hx2 := own_below hx2 rr
              replace D := D.trans (rr.mono D.size)
              clear rr
              generalize (V1.alloc (.cells #[.int .i64 0, .int .i64 0, .int .i64 0, .bool false, .slice none 0 0] 32)) = V2 at *
              refine hK.out _ _ ?_ ?_
              · (try dsimp only); exact ⟨cellb D c2', cellb D c3', cellb D c4, cellb D c5, cellb D g0⟩
              clear hHeld hK K
              intro hHeld
              try simp only [Act.put, List.setIfInBounds_toArray, List.set_cons_zero, List.set_cons_succ]
              refine wpAnyH_ready (rs := [11]) (by kernel_rfl) (by simp) ?_
              refine (AllReadyH.cons (o := ⟨_, _, _, _, _, _⟩) rfl (fun K hK => ?_) AllReadyH.nil)
              go_simp
              have rr : Below V2.heap.size V2 (V2.alloc (.cells #[.int .i64 0, .int .i64 0, .bool false, .slice none 0 0] 27)) := (Below.refl _ _).alloc (Nat.le_refl _) _
              have B0 : (V2.alloc (.cells #[.int .i64 0, .int .i64 0, .bool false, .slice none 0 0] 27)).cell? ⟨V2.heap.size, 0, none⟩ = some (.int .i64 0) := by simp
              have B1 : (V2.alloc (.cells #[.int .i64 0, .int .i64 0, .bool false, .slice none 0 0] 27)).cell? ⟨V2.heap.size, 1, none⟩ = some (.int .i64 0) := by simp
              have B2 : (V2.alloc (.cells #[.int .i64 0, .int .i64 0, .bool false, .slice none 0 0] 27)).cell? ⟨V2.heap.size, 2, none⟩ = some (.bool false) := by simp
              have B3 : (V2.alloc (.cells #[.int .i64 0, .int .i64 0, .bool false, .slice none 0 0] 27)).cell? ⟨V2.heap.size, 3, none⟩ = some (.slice none 0 0) := by simp
              have BF : ∀ o, (V2.alloc (.cells #[.int .i64 0, .int .i64 0, .bool false, .slice none 0 0] 27)).frozen? ⟨V2.heap.size, o, none⟩ = false := fun o => by simp
              have BL : V2.heap.size < (V2.alloc (.cells #[.int .i64 0, .int .i64 0, .bool false, .slice none 0 0] 27)).heap.size := by simp
              have BG : wr.heap.size ≤ V2.heap.size := D.size
              have hAB : ¬ (V1.heap.size = V2.heap.size) := by omega
              have nBu : some V2.heap.size ≠ (Value.slice a5 al.length cu5).ownBlock := fun h => by have := (hu.lt _ h.symm).2; omega
              have nBx : some V2.heap.size ≠ (Value.slice a4 ns'.length c4x).ownBlock := fun h => by have := (hx2.lt _ h.symm).2; omega
              replace A0 := cellb rr A0
              replace A1 := cellb rr A1
              replace A2 := cellb rr A2
              replace A3 := cellb rr A3
              replace A4 := cellb rr A4
              replace AF : ∀ o, _ = _ := fun o => (rr.frozen (p := ⟨V1.heap.size, o, none⟩) AL).trans (AF o)
              replace AL := Nat.lt_of_lt_of_le AL rr.size
              replace hu := own_below hu rr
              replace hx2 := own_below hx2 rr
              replace D := D.trans (rr.mono D.size)
              clear rr
              generalize (V2.alloc (.cells #[.int .i64 0, .int .i64 0, .bool false, .slice none 0 0] 27)) = V3 at *
              refine hK.out _ _ ?_ ?_
              · (try dsimp only); exact ⟨cellb D c2', cellb D c3', cellb D c4, cellb D c5, cellb D g0⟩
              clear hHeld hK K
              intro hHeld
              try simp only [Act.put, List.setIfInBounds_toArray, List.set_cons_zero, List.set_cons_succ]
              have ne1 : ¬ (V1.heap.size = V2.heap.size) := by omega
              have ne2 : ¬ (V2.heap.size = V1.heap.size) := by omega
              refine wpAnyH_ready (rs := [12]) (by kernel_rfl) (by simp) ?_
              refine (AllReadyH.cons (o := ⟨_, _, _, _, _, _⟩) rfl (fun K hK => ?_) AllReadyH.nil)
              go_simp
              have D2 : Below wr.heap.size wr (((((V3.setCell ⟨V1.heap.size, 0, none⟩ (.int .i64 kd)).setCell ⟨V1.heap.size, 1, none⟩ (.int .i64 ch)).setCell ⟨V1.heap.size, 2, none⟩ (.int .i64 st2)).setCell ⟨V1.heap.size, 3, none⟩ (.bool pv2)).setCell ⟨V1.heap.size, 4, none⟩ (.slice a5 al.length cu5)) := (by repeat' (first | with_reducible exact Below.refl _ _ | with_reducible assumption | with_reducible refine Below.drew ?_ | with_reducible refine Below.alloc ?_ ?_ _ | with_reducible refine Below.setCell ?_ ?_ _ | (simp; done) | (simp; omega) | omega))
              have E0 : (((((V3.setCell ⟨V1.heap.size, 0, none⟩ (.int .i64 kd)).setCell ⟨V1.heap.size, 1, none⟩ (.int .i64 ch)).setCell ⟨V1.heap.size, 2, none⟩ (.int .i64 st2)).setCell ⟨V1.heap.size, 3, none⟩ (.bool pv2)).setCell ⟨V1.heap.size, 4, none⟩ (.slice a5 al.length cu5)).cell? ⟨V1.heap.size, 0, none⟩ = some (.int .i64 kd) := by simp [go_sem, A0, A1, A2, A3, A4]
              have E1 : (((((V3.setCell ⟨V1.heap.size, 0, none⟩ (.int .i64 kd)).setCell ⟨V1.heap.size, 1, none⟩ (.int .i64 ch)).setCell ⟨V1.heap.size, 2, none⟩ (.int .i64 st2)).setCell ⟨V1.heap.size, 3, none⟩ (.bool pv2)).setCell ⟨V1.heap.size, 4, none⟩ (.slice a5 al.length cu5)).cell? ⟨V1.heap.size, 1, none⟩ = some (.int .i64 ch) := by simp [go_sem, A0, A1, A2, A3, A4]
              have E2 : (((((V3.setCell ⟨V1.heap.size, 0, none⟩ (.int .i64 kd)).setCell ⟨V1.heap.size, 1, none⟩ (.int .i64 ch)).setCell ⟨V1.heap.size, 2, none⟩ (.int .i64 st2)).setCell ⟨V1.heap.size, 3, none⟩ (.bool pv2)).setCell ⟨V1.heap.size, 4, none⟩ (.slice a5 al.length cu5)).cell? ⟨V1.heap.size, 2, none⟩ = some (.int .i64 st2) := by simp [go_sem, A0, A1, A2, A3, A4]
              have E3 : (((((V3.setCell ⟨V1.heap.size, 0, none⟩ (.int .i64 kd)).setCell ⟨V1.heap.size, 1, none⟩ (.int .i64 ch)).setCell ⟨V1.heap.size, 2, none⟩ (.int .i64 st2)).setCell ⟨V1.heap.size, 3, none⟩ (.bool pv2)).setCell ⟨V1.heap.size, 4, none⟩ (.slice a5 al.length cu5)).cell? ⟨V1.heap.size, 3, none⟩ = some (.bool pv2) := by simp [go_sem, A0, A1, A2, A3, A4]
              have E4 : (((((V3.setCell ⟨V1.heap.size, 0, none⟩ (.int .i64 kd)).setCell ⟨V1.heap.size, 1, none⟩ (.int .i64 ch)).setCell ⟨V1.heap.size, 2, none⟩ (.int .i64 st2)).setCell ⟨V1.heap.size, 3, none⟩ (.bool pv2)).setCell ⟨V1.heap.size, 4, none⟩ (.slice a5 al.length cu5)).cell? ⟨V1.heap.size, 4, none⟩ = some (.slice a5 al.length cu5) := by simp [go_sem, A0, A1, A2, A3, A4]
              have G0 : (((((V3.setCell ⟨V1.heap.size, 0, none⟩ (.int .i64 kd)).setCell ⟨V1.heap.size, 1, none⟩ (.int .i64 ch)).setCell ⟨V1.heap.size, 2, none⟩ (.int .i64 st2)).setCell ⟨V1.heap.size, 3, none⟩ (.bool pv2)).setCell ⟨V1.heap.size, 4, none⟩ (.slice a5 al.length cu5)).cell? ⟨V2.heap.size, 0, none⟩ = some (.int .i64 0) := by simp [go_sem, ne1, ne2, B0]
              have G1 : (((((V3.setCell ⟨V1.heap.size, 0, none⟩ (.int .i64 kd)).setCell ⟨V1.heap.size, 1, none⟩ (.int .i64 ch)).setCell ⟨V1.heap.size, 2, none⟩ (.int .i64 st2)).setCell ⟨V1.heap.size, 3, none⟩ (.bool pv2)).setCell ⟨V1.heap.size, 4, none⟩ (.slice a5 al.length cu5)).cell? ⟨V2.heap.size, 1, none⟩ = some (.int .i64 0) := by simp [go_sem, ne1, ne2, B1]
              have G2 : (((((V3.setCell ⟨V1.heap.size, 0, none⟩ (.int .i64 kd)).setCell ⟨V1.heap.size, 1, none⟩ (.int .i64 ch)).setCell ⟨V1.heap.size, 2, none⟩ (.int .i64 st2)).setCell ⟨V1.heap.size, 3, none⟩ (.bool pv2)).setCell ⟨V1.heap.size, 4, none⟩ (.slice a5 al.length cu5)).cell? ⟨V2.heap.size, 2, none⟩ = some (.bool false) := by simp [go_sem, ne1, ne2, B2]
              have G3 : (((((V3.setCell ⟨V1.heap.size, 0, none⟩ (.int .i64 kd)).setCell ⟨V1.heap.size, 1, none⟩ (.int .i64 ch)).setCell ⟨V1.heap.size, 2, none⟩ (.int .i64 st2)).setCell ⟨V1.heap.size, 3, none⟩ (.bool pv2)).setCell ⟨V1.heap.size, 4, none⟩ (.slice a5 al.length cu5)).cell? ⟨V2.heap.size, 3, none⟩ = some (.slice none 0 0) := by simp [go_sem, ne1, ne2, B3]
              have GF : ∀ o, (((((V3.setCell ⟨V1.heap.size, 0, none⟩ (.int .i64 kd)).setCell ⟨V1.heap.size, 1, none⟩ (.int .i64 ch)).setCell ⟨V1.heap.size, 2, none⟩ (.int .i64 st2)).setCell ⟨V1.heap.size, 3, none⟩ (.bool pv2)).setCell ⟨V1.heap.size, 4, none⟩ (.slice a5 al.length cu5)).frozen? ⟨V2.heap.size, o, none⟩ = false := fun o => by simpa using BF o
              have ML : V1.heap.size < (((((V3.setCell ⟨V1.heap.size, 0, none⟩ (.int .i64 kd)).setCell ⟨V1.heap.size, 1, none⟩ (.int .i64 ch)).setCell ⟨V1.heap.size, 2, none⟩ (.int .i64 st2)).setCell ⟨V1.heap.size, 3, none⟩ (.bool pv2)).setCell ⟨V1.heap.size, 4, none⟩ (.slice a5 al.length cu5)).heap.size := by simpa [World.setCell] using AL
              have NL : V2.heap.size < (((((V3.setCell ⟨V1.heap.size, 0, none⟩ (.int .i64 kd)).setCell ⟨V1.heap.size, 1, none⟩ (.int .i64 ch)).setCell ⟨V1.heap.size, 2, none⟩ (.int .i64 st2)).setCell ⟨V1.heap.size, 3, none⟩ (.bool pv2)).setCell ⟨V1.heap.size, 4, none⟩ (.slice a5 al.length cu5)).heap.size := by simpa [World.setCell] using BL
              have hu2 : (((((V3.setCell ⟨V1.heap.size, 0, none⟩ (.int .i64 kd)).setCell ⟨V1.heap.size, 1, none⟩ (.int .i64 ch)).setCell ⟨V1.heap.size, 2, none⟩ (.int .i64 st2)).setCell ⟨V1.heap.size, 3, none⟩ (.bool pv2)).setCell ⟨V1.heap.size, 4, none⟩ (.slice a5 al.length cu5)).ownsRow wr.heap.size 2 1 (.slice a5 al.length cu5) al.length (intsV al) := by repeat' (first | with_reducible exact hu | with_reducible refine own_setCell ?_ ?_ | with_reducible exact nAu)
              have hx3 : (((((V3.setCell ⟨V1.heap.size, 0, none⟩ (.int .i64 kd)).setCell ⟨V1.heap.size, 1, none⟩ (.int .i64 ch)).setCell ⟨V1.heap.size, 2, none⟩ (.int .i64 st2)).setCell ⟨V1.heap.size, 3, none⟩ (.bool pv2)).setCell ⟨V1.heap.size, 4, none⟩ (.slice a5 al.length cu5)).ownsRow wr.heap.size 2 1 (.slice a4 ns'.length c4x) ns'.length (intsV ns') := by repeat' (first | with_reducible exact hx2 | with_reducible refine own_setCell ?_ ?_ | with_reducible exact nAx)
              replace D := D2
              clear D2 hu hx2 A0 A1 A2 A3 A4 AF B0 B1 B2 B3 BF AL BL
              generalize (((((V3.setCell ⟨V1.heap.size, 0, none⟩ (.int .i64 kd)).setCell ⟨V1.heap.size, 1, none⟩ (.int .i64 ch)).setCell ⟨V1.heap.size, 2, none⟩ (.int .i64 st2)).setCell ⟨V1.heap.size, 3, none⟩ (.bool pv2)).setCell ⟨V1.heap.size, 4, none⟩ (.slice a5 al.length cu5)) = V9 at *
              refine hK.out _ _ ?_ ?_
              · (try dsimp only); exact ⟨cellb D c2', cellb D c3', cellb D c4, cellb D c5, cellb D g0⟩
              clear hHeld hK K
              intro hHeld
              try simp only [Act.put, List.setIfInBounds_toArray, List.set_cons_zero, List.set_cons_succ]
              refine wpAnyH_ready (rs := [13]) (by kernel_rfl) (by simp) ?_
              refine (AllReadyH.cons (o := ⟨_, _, _, _, _, _⟩) rfl (fun K hK => ?_) AllReadyH.nil)
              go_simp
              have D2 : Below wr.heap.size wr ((((V9.setCell ⟨V2.heap.size, 0, none⟩ (.int .i64 md')).setCell ⟨V2.heap.size, 1, none⟩ (.int .i64 st')).setCell ⟨V2.heap.size, 2, none⟩ (.bool pv')).setCell ⟨V2.heap.size, 3, none⟩ (.slice a4 ns'.length c4x)) := (by repeat' (first | with_reducible exact Below.refl _ _ | with_reducible assumption | with_reducible refine Below.drew ?_ | with_reducible refine Below.alloc ?_ ?_ _ | with_reducible refine Below.setCell ?_ ?_ _ | (simp; done) | (simp; omega) | omega))
              replace D := D2
              refine hK.out _ _ ?_ ?_
              · (try dsimp only); exact ⟨cellb D c2', cellb D c3', cellb D c4, cellb D c5, cellb D g0⟩
              clear hHeld hK K
              intro hHeld
              try simp only [Act.put, List.setIfInBounds_toArray, List.set_cons_zero, List.set_cons_succ]
              refine wpAnyH_done (by kernel_rfl) ?_ _
              go_wp2
              go_meet
              refine ⟨V1.heap.size, V2.heap.size, a5, cu5, a4, c4x, rfl, rfl, ?_, AG, BG, by simpa [World.setCell] using ML, by simpa [World.setCell] using NL, ?_, ?_, ?_, ?_, ?_, ?_, ?_, ?_, ?_, ?_, ?_, HUX⟩
              · first | exact D | exact D2
              · simp [go_sem, ne1, ne2, E0, E1, E2, E3, E4]
              · simp [go_sem, ne1, ne2, E0, E1, E2, E3, E4]
              · simp [go_sem, ne1, ne2, E0, E1, E2, E3, E4]
              · simp [go_sem, ne1, ne2, E0, E1, E2, E3, E4]
              · simp [go_sem, ne1, ne2, E0, E1, E2, E3, E4]
              · simp [go_sem, ne1, ne2, G0, G1, G2, G3]
              · simp [go_sem, ne1, ne2, G0, G1, G2, G3]
              · simp [go_sem, ne1, ne2, G0, G1, G2, G3]
              · simp [go_sem, ne1, ne2, G0, G1, G2, G3]
              · repeat' (first | with_reducible exact hu2 | with_reducible refine own_setCell ?_ ?_ | with_reducible exact nBu)
              · repeat' (first | with_reducible exact hx3 | with_reducible refine own_setCell ?_ ?_ | with_reducible exact nBx)
            · skip
              go_simp
              have rr : Below V1.heap.size V1 (V1.alloc (.cells #[.int .i64 0, .int .i64 0, .bool false, .slice none 0 0] 27)) := (Below.refl _ _).alloc (Nat.le_refl _) _
              have B0 : (V1.alloc (.cells #[.int .i64 0, .int .i64 0, .bool false, .slice none 0 0] 27)).cell? ⟨V1.heap.size, 0, none⟩ = some (.int .i64 0) := by simp
              have B1 : (V1.alloc (.cells #[.int .i64 0, .int .i64 0, .bool false, .slice none 0 0] 27)).cell? ⟨V1.heap.size, 1, none⟩ = some (.int .i64 0) := by simp
              have B2 : (V1.alloc (.cells #[.int .i64 0, .int .i64 0, .bool false, .slice none 0 0] 27)).cell? ⟨V1.heap.size, 2, none⟩ = some (.bool false) := by simp
              have B3 : (V1.alloc (.cells #[.int .i64 0, .int .i64 0, .bool false, .slice none 0 0] 27)).cell? ⟨V1.heap.size, 3, none⟩ = some (.slice none 0 0) := by simp
              have BF : ∀ o, (V1.alloc (.cells #[.int .i64 0, .int .i64 0, .bool false, .slice none 0 0] 27)).frozen? ⟨V1.heap.size, o, none⟩ = false := fun o => by simp
              have BL : V1.heap.size < (V1.alloc (.cells #[.int .i64 0, .int .i64 0, .bool false, .slice none 0 0] 27)).heap.size := by simp
              have BG : wr.heap.size ≤ V1.heap.size := D.size
              have nBu : some V1.heap.size ≠ (Value.slice a5 al.length cu5).ownBlock := fun h => by have := (hu.lt _ h.symm).2; omega
              have nBx : some V1.heap.size ≠ (Value.slice a4 ns'.length c4x).ownBlock := fun h => by have := (hx2.lt _ h.symm).2; omega
              replace hu := own_below hu rr
              replace hx2 := own_below hx2 rr
              replace D := D.trans (rr.mono D.size)
              clear rr
              generalize (V1.alloc (.cells #[.int .i64 0, .int .i64 0, .bool false, .slice none 0 0] 27)) = V2 at *
              refine hK.out _ _ ?_ ?_
              · (try dsimp only); exact ⟨cellb D c2', cellb D c3', cellb D c4, cellb D c5, cellb D g0⟩
              clear hHeld hK K
              intro hHeld
              try simp only [Act.put, List.setIfInBounds_toArray, List.set_cons_zero, List.set_cons_succ]
              refine wpAnyH_ready (rs := [10]) (by kernel_rfl) (by simp) ?_
              refine (AllReadyH.cons (o := ⟨_, _, _, _, _, _⟩) rfl (fun K hK => ?_) AllReadyH.nil)
              go_simp
              have rr : Below V2.heap.size V2 (V2.alloc (.cells #[.int .i64 0, .int .i64 0, .int .i64 0, .bool false, .slice none 0 0] 32)) := (Below.refl _ _).alloc (Nat.le_refl _) _
              have A0 : (V2.alloc (.cells #[.int .i64 0, .int .i64 0, .int .i64 0, .bool false, .slice none 0 0] 32)).cell? ⟨V2.heap.size, 0, none⟩ = some (.int .i64 0) := by simp
              have A1 : (V2.alloc (.cells #[.int .i64 0, .int .i64 0, .int .i64 0, .bool false, .slice none 0 0] 32)).cell? ⟨V2.heap.size, 1, none⟩ = some (.int .i64 0) := by simp
              have A2 : (V2.alloc (.cells #[.int .i64 0, .int .i64 0, .int .i64 0, .bool false, .slice none 0 0] 32)).cell? ⟨V2.heap.size, 2, none⟩ = some (.int .i64 0) := by simp
              have A3 : (V2.alloc (.cells #[.int .i64 0, .int .i64 0, .int .i64 0, .bool false, .slice none 0 0] 32)).cell? ⟨V2.heap.size, 3, none⟩ = some (.bool false) := by simp
              have A4 : (V2.alloc (.cells #[.int .i64 0, .int .i64 0, .int .i64 0, .bool false, .slice none 0 0] 32)).cell? ⟨V2.heap.size, 4, none⟩ = some (.slice none 0 0) := by simp
              have AF : ∀ o, (V2.alloc (.cells #[.int .i64 0, .int .i64 0, .int .i64 0, .bool false, .slice none 0 0] 32)).frozen? ⟨V2.heap.size, o, none⟩ = false := fun o => by simp
              have AL : V2.heap.size < (V2.alloc (.cells #[.int .i64 0, .int .i64 0, .int .i64 0, .bool false, .slice none 0 0] 32)).heap.size := by simp
              have AG : wr.heap.size ≤ V2.heap.size := D.size
              have hAB : ¬ (V1.heap.size = V2.heap.size) := by omega
              have nAu : some V2.heap.size ≠ (Value.slice a5 al.length cu5).ownBlock := fun h => by have := (hu.lt _ h.symm).2; omega
              have nAx : some V2.heap.size ≠ (Value.slice a4 ns'.length c4x).ownBlock := fun h => by have := (hx2.lt _ h.symm).2; omega
              replace B0 := cellb rr B0
              replace B1 := cellb rr B1
              replace B2 := cellb rr B2
              replace B3 := cellb rr B3
              replace BF : ∀ o, _ = _ := fun o => (rr.frozen (p := ⟨V1.heap.size, o, none⟩) BL).trans (BF o)
              replace BL := Nat.lt_of_lt_of_le BL rr.size
              replace hu := own_below hu rr
              replace hx2 := own_below hx2 rr
              replace D := D.trans (rr.mono D.size)
              clear rr
              generalize (V2.alloc (.cells #[.int .i64 0, .int .i64 0, .int .i64 0, .bool false, .slice none 0 0] 32)) = V3 at *
              refine hK.out _ _ ?_ ?_
              · (try dsimp only); exact ⟨cellb D c2', cellb D c3', cellb D c4, cellb D c5, cellb D g0⟩
              clear hHeld hK K
              intro hHeld
              try simp only [Act.put, List.setIfInBounds_toArray, List.set_cons_zero, List.set_cons_succ]
              have ne1 : ¬ (V2.heap.size = V1.heap.size) := by omega
              have ne2 : ¬ (V1.heap.size = V2.heap.size) := by omega
              refine wpAnyH_ready (rs := [12]) (by kernel_rfl) (by simp) ?_
              refine (AllReadyH.cons (o := ⟨_, _, _, _, _, _⟩) rfl (fun K hK => ?_) AllReadyH.nil)
              go_simp
              have D2 : Below wr.heap.size wr (((((V3.setCell ⟨V2.heap.size, 0, none⟩ (.int .i64 kd)).setCell ⟨V2.heap.size, 1, none⟩ (.int .i64 ch)).setCell ⟨V2.heap.size, 2, none⟩ (.int .i64 st2)).setCell ⟨V2.heap.size, 3, none⟩ (.bool pv2)).setCell ⟨V2.heap.size, 4, none⟩ (.slice a5 al.length cu5)) := (by repeat' (first | with_reducible exact Below.refl _ _ | with_reducible assumption | with_reducible refine Below.drew ?_ | with_reducible refine Below.alloc ?_ ?_ _ | with_reducible refine Below.setCell ?_ ?_ _ | (simp; done) | (simp; omega) | omega))
              have E0 : (((((V3.setCell ⟨V2.heap.size, 0, none⟩ (.int .i64 kd)).setCell ⟨V2.heap.size, 1, none⟩ (.int .i64 ch)).setCell ⟨V2.heap.size, 2, none⟩ (.int .i64 st2)).setCell ⟨V2.heap.size, 3, none⟩ (.bool pv2)).setCell ⟨V2.heap.size, 4, none⟩ (.slice a5 al.length cu5)).cell? ⟨V2.heap.size, 0, none⟩ = some (.int .i64 kd) := by simp [go_sem, A0, A1, A2, A3, A4]
              have E1 : (((((V3.setCell ⟨V2.heap.size, 0, none⟩ (.int .i64 kd)).setCell ⟨V2.heap.size, 1, none⟩ (.int .i64 ch)).setCell ⟨V2.heap.size, 2, none⟩ (.int .i64 st2)).setCell ⟨V2.heap.size, 3, none⟩ (.bool pv2)).setCell ⟨V2.heap.size, 4, none⟩ (.slice a5 al.length cu5)).cell? ⟨V2.heap.size, 1, none⟩ = some (.int .i64 ch) := by simp [go_sem, A0, A1, A2, A3, A4]
              have E2 : (((((V3.setCell ⟨V2.heap.size, 0, none⟩ (.int .i64 kd)).setCell ⟨V2.heap.size, 1, none⟩ (.int .i64 ch)).setCell ⟨V2.heap.size, 2, none⟩ (.int .i64 st2)).setCell ⟨V2.heap.size, 3, none⟩ (.bool pv2)).setCell ⟨V2.heap.size, 4, none⟩ (.slice a5 al.length cu5)).cell? ⟨V2.heap.size, 2, none⟩ = some (.int .i64 st2) := by simp [go_sem, A0, A1, A2, A3, A4]
              have E3 : (((((V3.setCell ⟨V2.heap.size, 0, none⟩ (.int .i64 kd)).setCell ⟨V2.heap.size, 1, none⟩ (.int .i64 ch)).setCell ⟨V2.heap.size, 2, none⟩ (.int .i64 st2)).setCell ⟨V2.heap.size, 3, none⟩ (.bool pv2)).setCell ⟨V2.heap.size, 4, none⟩ (.slice a5 al.length cu5)).cell? ⟨V2.heap.size, 3, none⟩ = some (.bool pv2) := by simp [go_sem, A0, A1, A2, A3, A4]
              have E4 : (((((V3.setCell ⟨V2.heap.size, 0, none⟩ (.int .i64 kd)).setCell ⟨V2.heap.size, 1, none⟩ (.int .i64 ch)).setCell ⟨V2.heap.size, 2, none⟩ (.int .i64 st2)).setCell ⟨V2.heap.size, 3, none⟩ (.bool pv2)).setCell ⟨V2.heap.size, 4, none⟩ (.slice a5 al.length cu5)).cell? ⟨V2.heap.size, 4, none⟩ = some (.slice a5 al.length cu5) := by simp [go_sem, A0, A1, A2, A3, A4]
              have G0 : (((((V3.setCell ⟨V2.heap.size, 0, none⟩ (.int .i64 kd)).setCell ⟨V2.heap.size, 1, none⟩ (.int .i64 ch)).setCell ⟨V2.heap.size, 2, none⟩ (.int .i64 st2)).setCell ⟨V2.heap.size, 3, none⟩ (.bool pv2)).setCell ⟨V2.heap.size, 4, none⟩ (.slice a5 al.length cu5)).cell? ⟨V1.heap.size, 0, none⟩ = some (.int .i64 0) := by simp [go_sem, ne1, ne2, B0]
              have G1 : (((((V3.setCell ⟨V2.heap.size, 0, none⟩ (.int .i64 kd)).setCell ⟨V2.heap.size, 1, none⟩ (.int .i64 ch)).setCell ⟨V2.heap.size, 2, none⟩ (.int .i64 st2)).setCell ⟨V2.heap.size, 3, none⟩ (.bool pv2)).setCell ⟨V2.heap.size, 4, none⟩ (.slice a5 al.length cu5)).cell? ⟨V1.heap.size, 1, none⟩ = some (.int .i64 0) := by simp [go_sem, ne1, ne2, B1]
              have G2 : (((((V3.setCell ⟨V2.heap.size, 0, none⟩ (.int .i64 kd)).setCell ⟨V2.heap.size, 1, none⟩ (.int .i64 ch)).setCell ⟨V2.heap.size, 2, none⟩ (.int .i64 st2)).setCell ⟨V2.heap.size, 3, none⟩ (.bool pv2)).setCell ⟨V2.heap.size, 4, none⟩ (.slice a5 al.length cu5)).cell? ⟨V1.heap.size, 2, none⟩ = some (.bool false) := by simp [go_sem, ne1, ne2, B2]
              have G3 : (((((V3.setCell ⟨V2.heap.size, 0, none⟩ (.int .i64 kd)).setCell ⟨V2.heap.size, 1, none⟩ (.int .i64 ch)).setCell ⟨V2.heap.size, 2, none⟩ (.int .i64 st2)).setCell ⟨V2.heap.size, 3, none⟩ (.bool pv2)).setCell ⟨V2.heap.size, 4, none⟩ (.slice a5 al.length cu5)).cell? ⟨V1.heap.size, 3, none⟩ = some (.slice none 0 0) := by simp [go_sem, ne1, ne2, B3]
              have GF : ∀ o, (((((V3.setCell ⟨V2.heap.size, 0, none⟩ (.int .i64 kd)).setCell ⟨V2.heap.size, 1, none⟩ (.int .i64 ch)).setCell ⟨V2.heap.size, 2, none⟩ (.int .i64 st2)).setCell ⟨V2.heap.size, 3, none⟩ (.bool pv2)).setCell ⟨V2.heap.size, 4, none⟩ (.slice a5 al.length cu5)).frozen? ⟨V1.heap.size, o, none⟩ = false := fun o => by simpa using BF o
              have ML : V2.heap.size < (((((V3.setCell ⟨V2.heap.size, 0, none⟩ (.int .i64 kd)).setCell ⟨V2.heap.size, 1, none⟩ (.int .i64 ch)).setCell ⟨V2.heap.size, 2, none⟩ (.int .i64 st2)).setCell ⟨V2.heap.size, 3, none⟩ (.bool pv2)).setCell ⟨V2.heap.size, 4, none⟩ (.slice a5 al.length cu5)).heap.size := by simpa [World.setCell] using AL
              have NL : V1.heap.size < (((((V3.setCell ⟨V2.heap.size, 0, none⟩ (.int .i64 kd)).setCell ⟨V2.heap.size, 1, none⟩ (.int .i64 ch)).setCell ⟨V2.heap.size, 2, none⟩ (.int .i64 st2)).setCell ⟨V2.heap.size, 3, none⟩ (.bool pv2)).setCell ⟨V2.heap.size, 4, none⟩ (.slice a5 al.length cu5)).heap.size := by simpa [World.setCell] using BL
              have hu2 : (((((V3.setCell ⟨V2.heap.size, 0, none⟩ (.int .i64 kd)).setCell ⟨V2.heap.size, 1, none⟩ (.int .i64 ch)).setCell ⟨V2.heap.size, 2, none⟩ (.int .i64 st2)).setCell ⟨V2.heap.size, 3, none⟩ (.bool pv2)).setCell ⟨V2.heap.size, 4, none⟩ (.slice a5 al.length cu5)).ownsRow wr.heap.size 2 1 (.slice a5 al.length cu5) al.length (intsV al) := by repeat' (first | with_reducible exact hu | with_reducible refine own_setCell ?_ ?_ | with_reducible exact nAu)
              have hx3 : (((((V3.setCell ⟨V2.heap.size, 0, none⟩ (.int .i64 kd)).setCell ⟨V2.heap.size, 1, none⟩ (.int .i64 ch)).setCell ⟨V2.heap.size, 2, none⟩ (.int .i64 st2)).setCell ⟨V2.heap.size, 3, none⟩ (.bool pv2)).setCell ⟨V2.heap.size, 4, none⟩ (.slice a5 al.length cu5)).ownsRow wr.heap.size 2 1 (.slice a4 ns'.length c4x) ns'.length (intsV ns') := by repeat' (first | with_reducible exact hx2 | with_reducible refine own_setCell ?_ ?_ | with_reducible exact nAx)
              replace D := D2
              clear D2 hu hx2 A0 A1 A2 A3 A4 AF B0 B1 B2 B3 BF AL BL
              generalize (((((V3.setCell ⟨V2.heap.size, 0, none⟩ (.int .i64 kd)).setCell ⟨V2.heap.size, 1, none⟩ (.int .i64 ch)).setCell ⟨V2.heap.size, 2, none⟩ (.int .i64 st2)).setCell ⟨V2.heap.size, 3, none⟩ (.bool pv2)).setCell ⟨V2.heap.size, 4, none⟩ (.slice a5 al.length cu5)) = V9 at *
              refine hK.out _ _ ?_ ?_
              · (try dsimp only); exact ⟨cellb D c2', cellb D c3', cellb D c4, cellb D c5, cellb D g0⟩
              clear hHeld hK K
              intro hHeld
              try simp only [Act.put, List.setIfInBounds_toArray, List.set_cons_zero, List.set_cons_succ]
              refine wpAnyH_ready (rs := [13]) (by kernel_rfl) (by simp) ?_
              refine (AllReadyH.cons (o := ⟨_, _, _, _, _, _⟩) rfl (fun K hK => ?_) AllReadyH.nil)
              go_simp
              have D2 : Below wr.heap.size wr ((((V9.setCell ⟨V1.heap.size, 0, none⟩ (.int .i64 md')).setCell ⟨V1.heap.size, 1, none⟩ (.int .i64 st')).setCell ⟨V1.heap.size, 2, none⟩ (.bool pv')).setCell ⟨V1.heap.size, 3, none⟩ (.slice a4 ns'.length c4x)) := (by repeat' (first | with_reducible exact Below.refl _ _ | with_reducible assumption | with_reducible refine Below.drew ?_ | with_reducible refine Below.alloc ?_ ?_ _ | with_reducible refine Below.setCell ?_ ?_ _ | (simp; done) | (simp; omega) | omega))
              replace D := D2
              refine hK.out _ _ ?_ ?_
              · (try dsimp only); exact ⟨cellb D c2', cellb D c3', cellb D c4, cellb D c5, cellb D g0⟩
              clear hHeld hK K
              intro hHeld
              try simp only [Act.put, List.setIfInBounds_toArray, List.set_cons_zero, List.set_cons_succ]
              refine wpAnyH_done (by kernel_rfl) ?_ _
              go_wp2
              go_meet
              refine ⟨V2.heap.size, V1.heap.size, a5, cu5, a4, c4x, rfl, rfl, ?_, AG, BG, by simpa [World.setCell] using ML, by simpa [World.setCell] using NL, ?_, ?_, ?_, ?_, ?_, ?_, ?_, ?_, ?_, ?_, ?_, HUX⟩
              · first | exact D | exact D2
              · simp [go_sem, ne1, ne2, E0, E1, E2, E3, E4]
              · simp [go_sem, ne1, ne2, E0, E1, E2, E3, E4]
              · simp [go_sem, ne1, ne2, E0, E1, E2, E3, E4]
              · simp [go_sem, ne1, ne2, E0, E1, E2, E3, E4]
              · simp [go_sem, ne1, ne2, E0, E1, E2, E3, E4]
              · simp [go_sem, ne1, ne2, G0, G1, G2, G3]
              · simp [go_sem, ne1, ne2, G0, G1, G2, G3]
              · simp [go_sem, ne1, ne2, G0, G1, G2, G3]
              · simp [go_sem, ne1, ne2, G0, G1, G2, G3]
              · repeat' (first | with_reducible exact hu2 | with_reducible refine own_setCell ?_ ?_ | with_reducible exact nBu)
              · repeat' (first | with_reducible exact hx3 | with_reducible refine own_setCell ?_ ?_ | with_reducible exact nBx)
          · skip
            go_simp
            have rr : Below V0.heap.size V0 (V0.alloc (.cells #[.int .i64 0, .int .i64 0, .int .i64 0, .bool false, .slice none 0 0] 32)) := (Below.refl _ _).alloc (Nat.le_refl _) _
            have A0 : (V0.alloc (.cells #[.int .i64 0, .int .i64 0, .int .i64 0, .bool false, .slice none 0 0] 32)).cell? ⟨V0.heap.size, 0, none⟩ = some (.int .i64 0) := by simp
            have A1 : (V0.alloc (.cells #[.int .i64 0, .int .i64 0, .int .i64 0, .bool false, .slice none 0 0] 32)).cell? ⟨V0.heap.size, 1, none⟩ = some (.int .i64 0) := by simp
            have A2 : (V0.alloc (.cells #[.int .i64 0, .int .i64 0, .int .i64 0, .bool false, .slice none 0 0] 32)).cell? ⟨V0.heap.size, 2, none⟩ = some (.int .i64 0) := by simp
            have A3 : (V0.alloc (.cells #[.int .i64 0, .int .i64 0, .int .i64 0, .bool false, .slice none 0 0] 32)).cell? ⟨V0.heap.size, 3, none⟩ = some (.bool false) := by simp
            have A4 : (V0.alloc (.cells #[.int .i64 0, .int .i64 0, .int .i64 0, .bool false, .slice none 0 0] 32)).cell? ⟨V0.heap.size, 4, none⟩ = some (.slice none 0 0) := by simp
            have AF : ∀ o, (V0.alloc (.cells #[.int .i64 0, .int .i64 0, .int .i64 0, .bool false, .slice none 0 0] 32)).frozen? ⟨V0.heap.size, o, none⟩ = false := fun o => by simp
            have AL : V0.heap.size < (V0.alloc (.cells #[.int .i64 0, .int .i64 0, .int .i64 0, .bool false, .slice none 0 0] 32)).heap.size := by simp
            have AG : wr.heap.size ≤ V0.heap.size := D.size
            replace D := D.trans (rr.mono D.size)
            clear rr
            generalize (V0.alloc (.cells #[.int .i64 0, .int .i64 0, .int .i64 0, .bool false, .slice none 0 0] 32)) = V1 at *
            refine hK.out _ _ ?_ ?_
            · (try dsimp only); exact ⟨cellb D c2', cellb D c3', cellb D c4, cellb D c5, cellb D g0⟩
            clear hHeld hK K
            intro hHeld
            try simp only [Act.put, List.setIfInBounds_toArray, List.set_cons_zero, List.set_cons_succ]
            refine wpAnyH_ready (rs := [6, 11]) (by kernel_rfl) (by simp) ?_
            refine (AllReadyH.cons (o := ⟨_, _, _, _, _, _⟩) rfl (fun K hK => ?_) (AllReadyH.cons (o := ⟨_, _, _, _, _, _⟩) rfl (fun K hK => ?_) AllReadyH.nil))
            · skip
              go_simp
              go_at_call 40
              refine (HC.out _ _ (HR.out.below D)).mono ?_
              rintro e V2 ⟨u, x', rfl, hu, hx2, hor, rr⟩
              have huL := hu.lt
              have hxL := hx2.lt
              replace hu := own_base hu D.size
              replace hx2 := own_base hx2 D.size
              obtain ⟨a5, cu5, rfl⟩ := own_form hu
              obtain ⟨a4, c4x, rfl⟩ := own_form hx2
              have HUX : Apart (.slice a5 al.length cu5) (.slice a4 ns'.length c4x) := by rcases hor with h | h; rw [h]; exact Apart.nil _; rw [h]; exact (Apart.nil _).symm
              clear hor
              have nAu : some (V0.heap.size) ≠ (Value.slice a5 al.length cu5).ownBlock := fun h => by have := (huL _ h.symm).1; omega
              have nAx : some (V0.heap.size) ≠ (Value.slice a4 ns'.length c4x).ownBlock := fun h => by have := (hxL _ h.symm).1; omega
              replace A0 := cellb rr A0
              replace A1 := cellb rr A1
              replace A2 := cellb rr A2
              replace A3 := cellb rr A3
              replace A4 := cellb rr A4
              replace AF : ∀ o, _ = _ := fun o => (rr.frozen (p := ⟨V0.heap.size, o, none⟩) AL).trans (AF o)
              replace AL := Nat.lt_of_lt_of_le AL rr.size
              replace D := D.trans (rr.mono D.size)
              clear rr huL hxL
              try go_wp2_with fail
              refine hK.out _ _ ?_ ?_
              · (try dsimp only); exact ⟨cellb D c2', cellb D c3', cellb D c4, cellb D c5, cellb D g0⟩
              clear hHeld hK K
              intro hHeld
              try simp only [Act.put, List.setIfInBounds_toArray, List.set_cons_zero, List.set_cons_succ]
              refine wpAnyH_take (i := 7) (oi := ⟨_, _, _, _, _, _⟩) (v := ?_) rfl (by kernel_rfl) (by kernel_rfl) (by kernel_rfl) (fun _ _ _ h => h) (Or.inl ⟨by rfl, ?_⟩) hHeld ?_
              rotate_left
              · (intro w hSw; (try dsimp only at hSw); go_simp; try (with_reducible rfl))
              try simp only [Act.put, List.setIfInBounds_toArray, List.set_cons_zero, List.set_cons_succ]
              refine wpAnyH_take (i := 8) (oi := ⟨_, _, _, _, _, _⟩) (v := ?_) rfl (by kernel_rfl) (by kernel_rfl) (by kernel_rfl) (fun _ _ _ h => h) (Or.inl ⟨by rfl, ?_⟩) hHeld ?_
              rotate_left
              · (intro w hSw; (try dsimp only at hSw); go_simp; try (with_reducible rfl))
              try simp only [Act.put, List.setIfInBounds_toArray, List.set_cons_zero, List.set_cons_succ]
              refine wpAnyH_take (i := 9) (oi := ⟨_, _, _, _, _, _⟩) (v := ?_) rfl (by kernel_rfl) (by kernel_rfl) (by kernel_rfl) (fun _ _ _ h => h) (Or.inl ⟨by rfl, ?_⟩) hHeld ?_
              rotate_left
              · (intro w hSw; (try dsimp only at hSw); go_simp; try (with_reducible rfl))
              try simp only [Act.put, List.setIfInBounds_toArray, List.set_cons_zero, List.set_cons_succ]
              refine wpAnyH_ready (rs := [11]) (by kernel_rfl) (by simp) ?_
              refine (AllReadyH.cons (o := ⟨_, _, _, _, _, _⟩) rfl (fun K hK => ?_) AllReadyH.nil)
              go_simp
              have rr : Below V2.heap.size V2 (V2.alloc (.cells #[.int .i64 0, .int .i64 0, .bool false, .slice none 0 0] 27)) := (Below.refl _ _).alloc (Nat.le_refl _) _
              have B0 : (V2.alloc (.cells #[.int .i64 0, .int .i64 0, .bool false, .slice none 0 0] 27)).cell? ⟨V2.heap.size, 0, none⟩ = some (.int .i64 0) := by simp
              have B1 : (V2.alloc (.cells #[.int .i64 0, .int .i64 0, .bool false, .slice none 0 0] 27)).cell? ⟨V2.heap.size, 1, none⟩ = some (.int .i64 0) := by simp
              have B2 : (V2.alloc (.cells #[.int .i64 0, .int .i64 0, .bool false, .slice none 0 0] 27)).cell? ⟨V2.heap.size, 2, none⟩ = some (.bool false) := by simp
              have B3 : (V2.alloc (.cells #[.int .i64 0, .int .i64 0, .bool false, .slice none 0 0] 27)).cell? ⟨V2.heap.size, 3, none⟩ = some (.slice none 0 0) := by simp
              have BF : ∀ o, (V2.alloc (.cells #[.int .i64 0, .int .i64 0, .bool false, .slice none 0 0] 27)).frozen? ⟨V2.heap.size, o, none⟩ = false := fun o => by simp
              have BL : V2.heap.size < (V2.alloc (.cells #[.int .i64 0, .int .i64 0, .bool false, .slice none 0 0] 27)).heap.size := by simp
              have BG : wr.heap.size ≤ V2.heap.size := D.size
              have hAB : ¬ (V0.heap.size = V2.heap.size) := by omega
              have nBu : some V2.heap.size ≠ (Value.slice a5 al.length cu5).ownBlock := fun h => by have := (hu.lt _ h.symm).2; omega
              have nBx : some V2.heap.size ≠ (Value.slice a4 ns'.length c4x).ownBlock := fun h => by have := (hx2.lt _ h.symm).2; omega
              replace A0 := cellb rr A0
              replace A1 := cellb rr A1
              replace A2 := cellb rr A2
              replace A3 := cellb rr A3
              replace A4 := cellb rr A4
              replace AF : ∀ o, _ = _ := fun o => (rr.frozen (p := ⟨V0.heap.size, o, none⟩) AL).trans (AF o)
              replace AL := Nat.lt_of_lt_of_le AL rr.size
              replace hu := own_below hu rr
              replace hx2 := own_below hx2 rr
              replace D := D.trans (rr.mono D.size)
              clear rr
              generalize (V2.alloc (.cells #[.int .i64 0, .int .i64 0, .bool false, .slice none 0 0] 27)) = V3 at *
              refine hK.out _ _ ?_ ?_
              · (try dsimp only); exact ⟨cellb D c2', cellb D c3', cellb D c4, cellb D c5, cellb D g0⟩
              clear hHeld hK K
              intro hHeld
              try simp only [Act.put, List.setIfInBounds_toArray, List.set_cons_zero, List.set_cons_succ]
              have ne1 : ¬ (V0.heap.size = V2.heap.size) := by omega
              have ne2 : ¬ (V2.heap.size = V0.heap.size) := by omega
              refine wpAnyH_ready (rs := [12]) (by kernel_rfl) (by simp) ?_
              refine (AllReadyH.cons (o := ⟨_, _, _, _, _, _⟩) rfl (fun K hK => ?_) AllReadyH.nil)
              go_simp
              have D2 : Below wr.heap.size wr (((((V3.setCell ⟨V0.heap.size, 0, none⟩ (.int .i64 kd)).setCell ⟨V0.heap.size, 1, none⟩ (.int .i64 ch)).setCell ⟨V0.heap.size, 2, none⟩ (.int .i64 st2)).setCell ⟨V0.heap.size, 3, none⟩ (.bool pv2)).setCell ⟨V0.heap.size, 4, none⟩ (.slice a5 al.length cu5)) := (by repeat' (first | with_reducible exact Below.refl _ _ | with_reducible assumption | with_reducible refine Below.drew ?_ | with_reducible refine Below.alloc ?_ ?_ _ | with_reducible refine Below.setCell ?_ ?_ _ | (simp; done) | (simp; omega) | omega))
              have E0 : (((((V3.setCell ⟨V0.heap.size, 0, none⟩ (.int .i64 kd)).setCell ⟨V0.heap.size, 1, none⟩ (.int .i64 ch)).setCell ⟨V0.heap.size, 2, none⟩ (.int .i64 st2)).setCell ⟨V0.heap.size, 3, none⟩ (.bool pv2)).setCell ⟨V0.heap.size, 4, none⟩ (.slice a5 al.length cu5)).cell? ⟨V0.heap.size, 0, none⟩ = some (.int .i64 kd) := by simp [go_sem, A0, A1, A2, A3, A4]
              have E1 : (((((V3.setCell ⟨V0.heap.size, 0, none⟩ (.int .i64 kd)).setCell ⟨V0.heap.size, 1, none⟩ (.int .i64 ch)).setCell ⟨V0.heap.size, 2, none⟩ (.int .i64 st2)).setCell ⟨V0.heap.size, 3, none⟩ (.bool pv2)).setCell ⟨V0.heap.size, 4, none⟩ (.slice a5 al.length cu5)).cell? ⟨V0.heap.size, 1, none⟩ = some (.int .i64 ch) := by simp [go_sem, A0, A1, A2, A3, A4]
              have E2 : (((((V3.setCell ⟨V0.heap.size, 0, none⟩ (.int .i64 kd)).setCell ⟨V0.heap.size, 1, none⟩ (.int .i64 ch)).setCell ⟨V0.heap.size, 2, none⟩ (.int .i64 st2)).setCell ⟨V0.heap.size, 3, none⟩ (.bool pv2)).setCell ⟨V0.heap.size, 4, none⟩ (.slice a5 al.length cu5)).cell? ⟨V0.heap.size, 2, none⟩ = some (.int .i64 st2) := by simp [go_sem, A0, A1, A2, A3, A4]
              have E3 : (((((V3.setCell ⟨V0.heap.size, 0, none⟩ (.int .i64 kd)).setCell ⟨V0.heap.size, 1, none⟩ (.int .i64 ch)).setCell ⟨V0.heap.size, 2, none⟩ (.int .i64 st2)).setCell ⟨V0.heap.size, 3, none⟩ (.bool pv2)).setCell ⟨V0.heap.size, 4, none⟩ (.slice a5 al.length cu5)).cell? ⟨V0.heap.size, 3, none⟩ = some (.bool pv2) := by simp [go_sem, A0, A1, A2, A3, A4]
              have E4 : (((((V3.setCell ⟨V0.heap.size, 0, none⟩ (.int .i64 kd)).setCell ⟨V0.heap.size, 1, none⟩ (.int .i64 ch)).setCell ⟨V0.heap.size, 2, none⟩ (.int .i64 st2)).setCell ⟨V0.heap.size, 3, none⟩ (.bool pv2)).setCell ⟨V0.heap.size, 4, none⟩ (.slice a5 al.length cu5)).cell? ⟨V0.heap.size, 4, none⟩ = some (.slice a5 al.length cu5) := by simp [go_sem, A0, A1, A2, A3, A4]
              have G0 : (((((V3.setCell ⟨V0.heap.size, 0, none⟩ (.int .i64 kd)).setCell ⟨V0.heap.size, 1, none⟩ (.int .i64 ch)).setCell ⟨V0.heap.size, 2, none⟩ (.int .i64 st2)).setCell ⟨V0.heap.size, 3, none⟩ (.bool pv2)).setCell ⟨V0.heap.size, 4, none⟩ (.slice a5 al.length cu5)).cell? ⟨V2.heap.size, 0, none⟩ = some (.int .i64 0) := by simp [go_sem, ne1, ne2, B0]
              have G1 : (((((V3.setCell ⟨V0.heap.size, 0, none⟩ (.int .i64 kd)).setCell ⟨V0.heap.size, 1, none⟩ (.int .i64 ch)).setCell ⟨V0.heap.size, 2, none⟩ (.int .i64 st2)).setCell ⟨V0.heap.size, 3, none⟩ (.bool pv2)).setCell ⟨V0.heap.size, 4, none⟩ (.slice a5 al.length cu5)).cell? ⟨V2.heap.size, 1, none⟩ = some (.int .i64 0) := by simp [go_sem, ne1, ne2, B1]
              have G2 : (((((V3.setCell ⟨V0.heap.size, 0, none⟩ (.int .i64 kd)).setCell ⟨V0.heap.size, 1, none⟩ (.int .i64 ch)).setCell ⟨V0.heap.size, 2, none⟩ (.int .i64 st2)).setCell ⟨V0.heap.size, 3, none⟩ (.bool pv2)).setCell ⟨V0.heap.size, 4, none⟩ (.slice a5 al.length cu5)).cell? ⟨V2.heap.size, 2, none⟩ = some (.bool false) := by simp [go_sem, ne1, ne2, B2]
              have G3 : (((((V3.setCell ⟨V0.heap.size, 0, none⟩ (.int .i64 kd)).setCell ⟨V0.heap.size, 1, none⟩ (.int .i64 ch)).setCell ⟨V0.heap.size, 2, none⟩ (.int .i64 st2)).setCell ⟨V0.heap.size, 3, none⟩ (.bool pv2)).setCell ⟨V0.heap.size, 4, none⟩ (.slice a5 al.length cu5)).cell? ⟨V2.heap.size, 3, none⟩ = some (.slice none 0 0) := by simp [go_sem, ne1, ne2, B3]
              have GF : ∀ o, (((((V3.setCell ⟨V0.heap.size, 0, none⟩ (.int .i64 kd)).setCell ⟨V0.heap.size, 1, none⟩ (.int .i64 ch)).setCell ⟨V0.heap.size, 2, none⟩ (.int .i64 st2)).setCell ⟨V0.heap.size, 3, none⟩ (.bool pv2)).setCell ⟨V0.heap.size, 4, none⟩ (.slice a5 al.length cu5)).frozen? ⟨V2.heap.size, o, none⟩ = false := fun o => by simpa using BF o
              have ML : V0.heap.size < (((((V3.setCell ⟨V0.heap.size, 0, none⟩ (.int .i64 kd)).setCell ⟨V0.heap.size, 1, none⟩ (.int .i64 ch)).setCell ⟨V0.heap.size, 2, none⟩ (.int .i64 st2)).setCell ⟨V0.heap.size, 3, none⟩ (.bool pv2)).setCell ⟨V0.heap.size, 4, none⟩ (.slice a5 al.length cu5)).heap.size := by simpa [World.setCell] using AL
              have NL : V2.heap.size < (((((V3.setCell ⟨V0.heap.size, 0, none⟩ (.int .i64 kd)).setCell ⟨V0.heap.size, 1, none⟩ (.int .i64 ch)).setCell ⟨V0.heap.size, 2, none⟩ (.int .i64 st2)).setCell ⟨V0.heap.size, 3, none⟩ (.bool pv2)).setCell ⟨V0.heap.size, 4, none⟩ (.slice a5 al.length cu5)).heap.size := by simpa [World.setCell] using BL
              have hu2 : (((((V3.setCell ⟨V0.heap.size, 0, none⟩ (.int .i64 kd)).setCell ⟨V0.heap.size, 1, none⟩ (.int .i64 ch)).setCell ⟨V0.heap.size, 2, none⟩ (.int .i64 st2)).setCell ⟨V0.heap.size, 3, none⟩ (.bool pv2)).setCell ⟨V0.heap.size, 4, none⟩ (.slice a5 al.length cu5)).ownsRow wr.heap.size 2 1 (.slice a5 al.length cu5) al.length (intsV al) := by repeat' (first | with_reducible exact hu | with_reducible refine own_setCell ?_ ?_ | with_reducible exact nAu)
              have hx3 : (((((V3.setCell ⟨V0.heap.size, 0, none⟩ (.int .i64 kd)).setCell ⟨V0.heap.size, 1, none⟩ (.int .i64 ch)).setCell ⟨V0.heap.size, 2, none⟩ (.int .i64 st2)).setCell ⟨V0.heap.size, 3, none⟩ (.bool pv2)).setCell ⟨V0.heap.size, 4, none⟩ (.slice a5 al.length cu5)).ownsRow wr.heap.size 2 1 (.slice a4 ns'.length c4x) ns'.length (intsV ns') := by repeat' (first | with_reducible exact hx2 | with_reducible refine own_setCell ?_ ?_ | with_reducible exact nAx)
              replace D := D2
              clear D2 hu hx2 A0 A1 A2 A3 A4 AF B0 B1 B2 B3 BF AL BL
              generalize (((((V3.setCell ⟨V0.heap.size, 0, none⟩ (.int .i64 kd)).setCell ⟨V0.heap.size, 1, none⟩ (.int .i64 ch)).setCell ⟨V0.heap.size, 2, none⟩ (.int .i64 st2)).setCell ⟨V0.heap.size, 3, none⟩ (.bool pv2)).setCell ⟨V0.heap.size, 4, none⟩ (.slice a5 al.length cu5)) = V9 at *
              refine hK.out _ _ ?_ ?_
              · (try dsimp only); exact ⟨cellb D c2', cellb D c3', cellb D c4, cellb D c5, cellb D g0⟩
              clear hHeld hK K
              intro hHeld
              try simp only [Act.put, List.setIfInBounds_toArray, List.set_cons_zero, List.set_cons_succ]
              refine wpAnyH_ready (rs := [13]) (by kernel_rfl) (by simp) ?_
              refine (AllReadyH.cons (o := ⟨_, _, _, _, _, _⟩) rfl (fun K hK => ?_) AllReadyH.nil)
              go_simp
              have D2 : Below wr.heap.size wr ((((V9.setCell ⟨V2.heap.size, 0, none⟩ (.int .i64 md')).setCell ⟨V2.heap.size, 1, none⟩ (.int .i64 st')).setCell ⟨V2.heap.size, 2, none⟩ (.bool pv')).setCell ⟨V2.heap.size, 3, none⟩ (.slice a4 ns'.length c4x)) := (by repeat' (first | with_reducible exact Below.refl _ _ | with_reducible assumption | with_reducible refine Below.drew ?_ | with_reducible refine Below.alloc ?_ ?_ _ | with_reducible refine Below.setCell ?_ ?_ _ | (simp; done) | (simp; omega) | omega))
              replace D := D2
              refine hK.out _ _ ?_ ?_
              · (try dsimp only); exact ⟨cellb D c2', cellb D c3', cellb D c4, cellb D c5, cellb D g0⟩
              clear hHeld hK K
              intro hHeld
              try simp only [Act.put, List.setIfInBounds_toArray, List.set_cons_zero, List.set_cons_succ]
              refine wpAnyH_done (by kernel_rfl) ?_ _
              go_wp2
              go_meet
              refine ⟨V0.heap.size, V2.heap.size, a5, cu5, a4, c4x, rfl, rfl, ?_, AG, BG, by simpa [World.setCell] using ML, by simpa [World.setCell] using NL, ?_, ?_, ?_, ?_, ?_, ?_, ?_, ?_, ?_, ?_, ?_, HUX⟩
              · first | exact D | exact D2
              · simp [go_sem, ne1, ne2, E0, E1, E2, E3, E4]
              · simp [go_sem, ne1, ne2, E0, E1, E2, E3, E4]
              · simp [go_sem, ne1, ne2, E0, E1, E2, E3, E4]
              · simp [go_sem, ne1, ne2, E0, E1, E2, E3, E4]
              · simp [go_sem, ne1, ne2, E0, E1, E2, E3, E4]
              · simp [go_sem, ne1, ne2, G0, G1, G2, G3]
              · simp [go_sem, ne1, ne2, G0, G1, G2, G3]
              · simp [go_sem, ne1, ne2, G0, G1, G2, G3]
              · simp [go_sem, ne1, ne2, G0, G1, G2, G3]
              · repeat' (first | with_reducible exact hu2 | with_reducible refine own_setCell ?_ ?_ | with_reducible exact nBu)
              · repeat' (first | with_reducible exact hx3 | with_reducible refine own_setCell ?_ ?_ | with_reducible exact nBx)
            · skip
              go_simp
              have rr : Below V1.heap.size V1 (V1.alloc (.cells #[.int .i64 0, .int .i64 0, .bool false, .slice none 0 0] 27)) := (Below.refl _ _).alloc (Nat.le_refl _) _
              have B0 : (V1.alloc (.cells #[.int .i64 0, .int .i64 0, .bool false, .slice none 0 0] 27)).cell? ⟨V1.heap.size, 0, none⟩ = some (.int .i64 0) := by simp
              have B1 : (V1.alloc (.cells #[.int .i64 0, .int .i64 0, .bool false, .slice none 0 0] 27)).cell? ⟨V1.heap.size, 1, none⟩ = some (.int .i64 0) := by simp
              have B2 : (V1.alloc (.cells #[.int .i64 0, .int .i64 0, .bool false, .slice none 0 0] 27)).cell? ⟨V1.heap.size, 2, none⟩ = some (.bool false) := by simp
              have B3 : (V1.alloc (.cells #[.int .i64 0, .int .i64 0, .bool false, .slice none 0 0] 27)).cell? ⟨V1.heap.size, 3, none⟩ = some (.slice none 0 0) := by simp
              have BF : ∀ o, (V1.alloc (.cells #[.int .i64 0, .int .i64 0, .bool false, .slice none 0 0] 27)).frozen? ⟨V1.heap.size, o, none⟩ = false := fun o => by simp
              have BL : V1.heap.size < (V1.alloc (.cells #[.int .i64 0, .int .i64 0, .bool false, .slice none 0 0] 27)).heap.size := by simp
              have BG : wr.heap.size ≤ V1.heap.size := D.size
              have hAB : ¬ (V0.heap.size = V1.heap.size) := by omega
              replace A0 := cellb rr A0
              replace A1 := cellb rr A1
              replace A2 := cellb rr A2
              replace A3 := cellb rr A3
              replace A4 := cellb rr A4
              replace AF : ∀ o, _ = _ := fun o => (rr.frozen (p := ⟨V0.heap.size, o, none⟩) AL).trans (AF o)
              replace AL := Nat.lt_of_lt_of_le AL rr.size
              replace D := D.trans (rr.mono D.size)
              clear rr
              generalize (V1.alloc (.cells #[.int .i64 0, .int .i64 0, .bool false, .slice none 0 0] 27)) = V2 at *
              refine hK.out _ _ ?_ ?_
              · (try dsimp only); exact ⟨cellb D c2', cellb D c3', cellb D c4, cellb D c5, cellb D g0⟩
              clear hHeld hK K
              intro hHeld
              try simp only [Act.put, List.setIfInBounds_toArray, List.set_cons_zero, List.set_cons_succ]
              refine wpAnyH_ready (rs := [6]) (by kernel_rfl) (by simp) ?_
              refine (AllReadyH.cons (o := ⟨_, _, _, _, _, _⟩) rfl (fun K hK => ?_) AllReadyH.nil)
              go_simp
              go_at_call 40
              refine (HC.out _ _ (HR.out.below D)).mono ?_
              rintro e V3 ⟨u, x', rfl, hu, hx2, hor, rr⟩
              have huL := hu.lt
              have hxL := hx2.lt
              replace hu := own_base hu D.size
              replace hx2 := own_base hx2 D.size
              obtain ⟨a5, cu5, rfl⟩ := own_form hu
              obtain ⟨a4, c4x, rfl⟩ := own_form hx2
              have HUX : Apart (.slice a5 al.length cu5) (.slice a4 ns'.length c4x) := by rcases hor with h | h; rw [h]; exact Apart.nil _; rw [h]; exact (Apart.nil _).symm
              clear hor
              have nAu : some (V0.heap.size) ≠ (Value.slice a5 al.length cu5).ownBlock := fun h => by have := (huL _ h.symm).1; omega
              have nAx : some (V0.heap.size) ≠ (Value.slice a4 ns'.length c4x).ownBlock := fun h => by have := (hxL _ h.symm).1; omega
              have nBu : some (V1.heap.size) ≠ (Value.slice a5 al.length cu5).ownBlock := fun h => by have := (huL _ h.symm).1; omega
              have nBx : some (V1.heap.size) ≠ (Value.slice a4 ns'.length c4x).ownBlock := fun h => by have := (hxL _ h.symm).1; omega
              replace A0 := cellb rr A0
              replace A1 := cellb rr A1
              replace A2 := cellb rr A2
              replace A3 := cellb rr A3
              replace A4 := cellb rr A4
              replace AF : ∀ o, _ = _ := fun o => (rr.frozen (p := ⟨V0.heap.size, o, none⟩) AL).trans (AF o)
              replace AL := Nat.lt_of_lt_of_le AL rr.size
              replace B0 := cellb rr B0
              replace B1 := cellb rr B1
              replace B2 := cellb rr B2
              replace B3 := cellb rr B3
              replace BF : ∀ o, _ = _ := fun o => (rr.frozen (p := ⟨V1.heap.size, o, none⟩) BL).trans (BF o)
              replace BL := Nat.lt_of_lt_of_le BL rr.size
              replace D := D.trans (rr.mono D.size)
              clear rr huL hxL
              try go_wp2_with fail
              refine hK.out _ _ ?_ ?_
              · (try dsimp only); exact ⟨cellb D c2', cellb D c3', cellb D c4, cellb D c5, cellb D g0⟩
              clear hHeld hK K
              intro hHeld
              try simp only [Act.put, List.setIfInBounds_toArray, List.set_cons_zero, List.set_cons_succ]
              refine wpAnyH_take (i := 7) (oi := ⟨_, _, _, _, _, _⟩) (v := ?_) rfl (by kernel_rfl) (by kernel_rfl) (by kernel_rfl) (fun _ _ _ h => h) (Or.inl ⟨by rfl, ?_⟩) hHeld ?_
              rotate_left
              · (intro w hSw; (try dsimp only at hSw); go_simp; try (with_reducible rfl))
              try simp only [Act.put, List.setIfInBounds_toArray, List.set_cons_zero, List.set_cons_succ]
              refine wpAnyH_take (i := 8) (oi := ⟨_, _, _, _, _, _⟩) (v := ?_) rfl (by kernel_rfl) (by kernel_rfl) (by kernel_rfl) (fun _ _ _ h => h) (Or.inl ⟨by rfl, ?_⟩) hHeld ?_
              rotate_left
              · (intro w hSw; (try dsimp only at hSw); go_simp; try (with_reducible rfl))
              try simp only [Act.put, List.setIfInBounds_toArray, List.set_cons_zero, List.set_cons_succ]
              refine wpAnyH_take (i := 9) (oi := ⟨_, _, _, _, _, _⟩) (v := ?_) rfl (by kernel_rfl) (by kernel_rfl) (by kernel_rfl) (fun _ _ _ h => h) (Or.inl ⟨by rfl, ?_⟩) hHeld ?_
              rotate_left
              · (intro w hSw; (try dsimp only at hSw); go_simp; try (with_reducible rfl))
              try simp only [Act.put, List.setIfInBounds_toArray, List.set_cons_zero, List.set_cons_succ]
              have ne1 : ¬ (V0.heap.size = V1.heap.size) := by omega
              have ne2 : ¬ (V1.heap.size = V0.heap.size) := by omega
              refine wpAnyH_ready (rs := [12]) (by kernel_rfl) (by simp) ?_
              refine (AllReadyH.cons (o := ⟨_, _, _, _, _, _⟩) rfl (fun K hK => ?_) AllReadyH.nil)
              go_simp
              have D2 : Below wr.heap.size wr (((((V3.setCell ⟨V0.heap.size, 0, none⟩ (.int .i64 kd)).setCell ⟨V0.heap.size, 1, none⟩ (.int .i64 ch)).setCell ⟨V0.heap.size, 2, none⟩ (.int .i64 st2)).setCell ⟨V0.heap.size, 3, none⟩ (.bool pv2)).setCell ⟨V0.heap.size, 4, none⟩ (.slice a5 al.length cu5)) := (by repeat' (first | with_reducible exact Below.refl _ _ | with_reducible assumption | with_reducible refine Below.drew ?_ | with_reducible refine Below.alloc ?_ ?_ _ | with_reducible refine Below.setCell ?_ ?_ _ | (simp; done) | (simp; omega) | omega))
              have E0 : (((((V3.setCell ⟨V0.heap.size, 0, none⟩ (.int .i64 kd)).setCell ⟨V0.heap.size, 1, none⟩ (.int .i64 ch)).setCell ⟨V0.heap.size, 2, none⟩ (.int .i64 st2)).setCell ⟨V0.heap.size, 3, none⟩ (.bool pv2)).setCell ⟨V0.heap.size, 4, none⟩ (.slice a5 al.length cu5)).cell? ⟨V0.heap.size, 0, none⟩ = some (.int .i64 kd) := by simp [go_sem, A0, A1, A2, A3, A4]
              have E1 : (((((V3.setCell ⟨V0.heap.size, 0, none⟩ (.int .i64 kd)).setCell ⟨V0.heap.size, 1, none⟩ (.int .i64 ch)).setCell ⟨V0.heap.size, 2, none⟩ (.int .i64 st2)).setCell ⟨V0.heap.size, 3, none⟩ (.bool pv2)).setCell ⟨V0.heap.size, 4, none⟩ (.slice a5 al.length cu5)).cell? ⟨V0.heap.size, 1, none⟩ = some (.int .i64 ch) := by simp [go_sem, A0, A1, A2, A3, A4]
              have E2 : (((((V3.setCell ⟨V0.heap.size, 0, none⟩ (.int .i64 kd)).setCell ⟨V0.heap.size, 1, none⟩ (.int .i64 ch)).setCell ⟨V0.heap.size, 2, none⟩ (.int .i64 st2)).setCell ⟨V0.heap.size, 3, none⟩ (.bool pv2)).setCell ⟨V0.heap.size, 4, none⟩ (.slice a5 al.length cu5)).cell? ⟨V0.heap.size, 2, none⟩ = some (.int .i64 st2) := by simp [go_sem, A0, A1, A2, A3, A4]
              have E3 : (((((V3.setCell ⟨V0.heap.size, 0, none⟩ (.int .i64 kd)).setCell ⟨V0.heap.size, 1, none⟩ (.int .i64 ch)).setCell ⟨V0.heap.size, 2, none⟩ (.int .i64 st2)).setCell ⟨V0.heap.size, 3, none⟩ (.bool pv2)).setCell ⟨V0.heap.size, 4, none⟩ (.slice a5 al.length cu5)).cell? ⟨V0.heap.size, 3, none⟩ = some (.bool pv2) := by simp [go_sem, A0, A1, A2, A3, A4]
              have E4 : (((((V3.setCell ⟨V0.heap.size, 0, none⟩ (.int .i64 kd)).setCell ⟨V0.heap.size, 1, none⟩ (.int .i64 ch)).setCell ⟨V0.heap.size, 2, none⟩ (.int .i64 st2)).setCell ⟨V0.heap.size, 3, none⟩ (.bool pv2)).setCell ⟨V0.heap.size, 4, none⟩ (.slice a5 al.length cu5)).cell? ⟨V0.heap.size, 4, none⟩ = some (.slice a5 al.length cu5) := by simp [go_sem, A0, A1, A2, A3, A4]
              have G0 : (((((V3.setCell ⟨V0.heap.size, 0, none⟩ (.int .i64 kd)).setCell ⟨V0.heap.size, 1, none⟩ (.int .i64 ch)).setCell ⟨V0.heap.size, 2, none⟩ (.int .i64 st2)).setCell ⟨V0.heap.size, 3, none⟩ (.bool pv2)).setCell ⟨V0.heap.size, 4, none⟩ (.slice a5 al.length cu5)).cell? ⟨V1.heap.size, 0, none⟩ = some (.int .i64 0) := by simp [go_sem, ne1, ne2, B0]
              have G1 : (((((V3.setCell ⟨V0.heap.size, 0, none⟩ (.int .i64 kd)).setCell ⟨V0.heap.size, 1, none⟩ (.int .i64 ch)).setCell ⟨V0.heap.size, 2, none⟩ (.int .i64 st2)).setCell ⟨V0.heap.size, 3, none⟩ (.bool pv2)).setCell ⟨V0.heap.size, 4, none⟩ (.slice a5 al.length cu5)).cell? ⟨V1.heap.size, 1, none⟩ = some (.int .i64 0) := by simp [go_sem, ne1, ne2, B1]
              have G2 : (((((V3.setCell ⟨V0.heap.size, 0, none⟩ (.int .i64 kd)).setCell ⟨V0.heap.size, 1, none⟩ (.int .i64 ch)).setCell ⟨V0.heap.size, 2, none⟩ (.int .i64 st2)).setCell ⟨V0.heap.size, 3, none⟩ (.bool pv2)).setCell ⟨V0.heap.size, 4, none⟩ (.slice a5 al.length cu5)).cell? ⟨V1.heap.size, 2, none⟩ = some (.bool false) := by simp [go_sem, ne1, ne2, B2]
              have G3 : (((((V3.setCell ⟨V0.heap.size, 0, none⟩ (.int .i64 kd)).setCell ⟨V0.heap.size, 1, none⟩ (.int .i64 ch)).setCell ⟨V0.heap.size, 2, none⟩ (.int .i64 st2)).setCell ⟨V0.heap.size, 3, none⟩ (.bool pv2)).setCell ⟨V0.heap.size, 4, none⟩ (.slice a5 al.length cu5)).cell? ⟨V1.heap.size, 3, none⟩ = some (.slice none 0 0) := by simp [go_sem, ne1, ne2, B3]
              have GF : ∀ o, (((((V3.setCell ⟨V0.heap.size, 0, none⟩ (.int .i64 kd)).setCell ⟨V0.heap.size, 1, none⟩ (.int .i64 ch)).setCell ⟨V0.heap.size, 2, none⟩ (.int .i64 st2)).setCell ⟨V0.heap.size, 3, none⟩ (.bool pv2)).setCell ⟨V0.heap.size, 4, none⟩ (.slice a5 al.length cu5)).frozen? ⟨V1.heap.size, o, none⟩ = false := fun o => by simpa using BF o
              have ML : V0.heap.size < (((((V3.setCell ⟨V0.heap.size, 0, none⟩ (.int .i64 kd)).setCell ⟨V0.heap.size, 1, none⟩ (.int .i64 ch)).setCell ⟨V0.heap.size, 2, none⟩ (.int .i64 st2)).setCell ⟨V0.heap.size, 3, none⟩ (.bool pv2)).setCell ⟨V0.heap.size, 4, none⟩ (.slice a5 al.length cu5)).heap.size := by simpa [World.setCell] using AL
              have NL : V1.heap.size < (((((V3.setCell ⟨V0.heap.size, 0, none⟩ (.int .i64 kd)).setCell ⟨V0.heap.size, 1, none⟩ (.int .i64 ch)).setCell ⟨V0.heap.size, 2, none⟩ (.int .i64 st2)).setCell ⟨V0.heap.size, 3, none⟩ (.bool pv2)).setCell ⟨V0.heap.size, 4, none⟩ (.slice a5 al.length cu5)).heap.size := by simpa [World.setCell] using BL
              have hu2 : (((((V3.setCell ⟨V0.heap.size, 0, none⟩ (.int .i64 kd)).setCell ⟨V0.heap.size, 1, none⟩ (.int .i64 ch)).setCell ⟨V0.heap.size, 2, none⟩ (.int .i64 st2)).setCell ⟨V0.heap.size, 3, none⟩ (.bool pv2)).setCell ⟨V0.heap.size, 4, none⟩ (.slice a5 al.length cu5)).ownsRow wr.heap.size 2 1 (.slice a5 al.length cu5) al.length (intsV al) := by repeat' (first | with_reducible exact hu | with_reducible refine own_setCell ?_ ?_ | with_reducible exact nAu)
              have hx3 : (((((V3.setCell ⟨V0.heap.size, 0, none⟩ (.int .i64 kd)).setCell ⟨V0.heap.size, 1, none⟩ (.int .i64 ch)).setCell ⟨V0.heap.size, 2, none⟩ (.int .i64 st2)).setCell ⟨V0.heap.size, 3, none⟩ (.bool pv2)).setCell ⟨V0.heap.size, 4, none⟩ (.slice a5 al.length cu5)).ownsRow wr.heap.size 2 1 (.slice a4 ns'.length c4x) ns'.length (intsV ns') := by repeat' (first | with_reducible exact hx2 | with_reducible refine own_setCell ?_ ?_ | with_reducible exact nAx)
              replace D := D2
              clear D2 hu hx2 A0 A1 A2 A3 A4 AF B0 B1 B2 B3 BF AL BL
              generalize (((((V3.setCell ⟨V0.heap.size, 0, none⟩ (.int .i64 kd)).setCell ⟨V0.heap.size, 1, none⟩ (.int .i64 ch)).setCell ⟨V0.heap.size, 2, none⟩ (.int .i64 st2)).setCell ⟨V0.heap.size, 3, none⟩ (.bool pv2)).setCell ⟨V0.heap.size, 4, none⟩ (.slice a5 al.length cu5)) = V9 at *
              refine hK.out _ _ ?_ ?_
              · (try dsimp only); exact ⟨cellb D c2', cellb D c3', cellb D c4, cellb D c5, cellb D g0⟩
              clear hHeld hK K
              intro hHeld
              try simp only [Act.put, List.setIfInBounds_toArray, List.set_cons_zero, List.set_cons_succ]
              refine wpAnyH_ready (rs := [13]) (by kernel_rfl) (by simp) ?_
              refine (AllReadyH.cons (o := ⟨_, _, _, _, _, _⟩) rfl (fun K hK => ?_) AllReadyH.nil)
              go_simp
              have D2 : Below wr.heap.size wr ((((V9.setCell ⟨V1.heap.size, 0, none⟩ (.int .i64 md')).setCell ⟨V1.heap.size, 1, none⟩ (.int .i64 st')).setCell ⟨V1.heap.size, 2, none⟩ (.bool pv')).setCell ⟨V1.heap.size, 3, none⟩ (.slice a4 ns'.length c4x)) := (by repeat' (first | with_reducible exact Below.refl _ _ | with_reducible assumption | with_reducible refine Below.drew ?_ | with_reducible refine Below.alloc ?_ ?_ _ | with_reducible refine Below.setCell ?_ ?_ _ | (simp; done) | (simp; omega) | omega))
              replace D := D2
              refine hK.out _ _ ?_ ?_
              · (try dsimp only); exact ⟨cellb D c2', cellb D c3', cellb D c4, cellb D c5, cellb D g0⟩
              clear hHeld hK K
              intro hHeld
              try simp only [Act.put, List.setIfInBounds_toArray, List.set_cons_zero, List.set_cons_succ]
              refine wpAnyH_done (by kernel_rfl) ?_ _
              go_wp2
              go_meet
              refine ⟨V0.heap.size, V1.heap.size, a5, cu5, a4, c4x, rfl, rfl, ?_, AG, BG, by simpa [World.setCell] using ML, by simpa [World.setCell] using NL, ?_, ?_, ?_, ?_, ?_, ?_, ?_, ?_, ?_, ?_, ?_, HUX⟩
              · first | exact D | exact D2
              · simp [go_sem, ne1, ne2, E0, E1, E2, E3, E4]
              · simp [go_sem, ne1, ne2, E0, E1, E2, E3, E4]
              · simp [go_sem, ne1, ne2, E0, E1, E2, E3, E4]
              · simp [go_sem, ne1, ne2, E0, E1, E2, E3, E4]
              · simp [go_sem, ne1, ne2, E0, E1, E2, E3, E4]
              · simp [go_sem, ne1, ne2, G0, G1, G2, G3]
              · simp [go_sem, ne1, ne2, G0, G1, G2, G3]
              · simp [go_sem, ne1, ne2, G0, G1, G2, G3]
              · simp [go_sem, ne1, ne2, G0, G1, G2, G3]
              · repeat' (first | with_reducible exact hu2 | with_reducible refine own_setCell ?_ ?_ | with_reducible exact nBu)
              · repeat' (first | with_reducible exact hx3 | with_reducible refine own_setCell ?_ ?_ | with_reducible exact nBx)
          · skip
            go_simp
            have rr : Below V0.heap.size V0 (V0.alloc (.cells #[.int .i64 0, .int .i64 0, .bool false, .slice none 0 0] 27)) := (Below.refl _ _).alloc (Nat.le_refl _) _
            have B0 : (V0.alloc (.cells #[.int .i64 0, .int .i64 0, .bool false, .slice none 0 0] 27)).cell? ⟨V0.heap.size, 0, none⟩ = some (.int .i64 0) := by simp
            have B1 : (V0.alloc (.cells #[.int .i64 0, .int .i64 0, .bool false, .slice none 0 0] 27)).cell? ⟨V0.heap.size, 1, none⟩ = some (.int .i64 0) := by simp
            have B2 : (V0.alloc (.cells #[.int .i64 0, .int .i64 0, .bool false, .slice none 0 0] 27)).cell? ⟨V0.heap.size, 2, none⟩ = some (.bool false) := by simp
            have B3 : (V0.alloc (.cells #[.int .i64 0, .int .i64 0, .bool false, .slice none 0 0] 27)).cell? ⟨V0.heap.size, 3, none⟩ = some (.slice none 0 0) := by simp
            have BF : ∀ o, (V0.alloc (.cells #[.int .i64 0, .int .i64 0, .bool false, .slice none 0 0] 27)).frozen? ⟨V0.heap.size, o, none⟩ = false := fun o => by simp
            have BL : V0.heap.size < (V0.alloc (.cells #[.int .i64 0, .int .i64 0, .bool false, .slice none 0 0] 27)).heap.size := by simp
            have BG : wr.heap.size ≤ V0.heap.size := D.size
            replace D := D.trans (rr.mono D.size)
            clear rr
            generalize (V0.alloc (.cells #[.int .i64 0, .int .i64 0, .bool false, .slice none 0 0] 27)) = V1 at *
            refine hK.out _ _ ?_ ?_
            · (try dsimp only); exact ⟨cellb D c2', cellb D c3', cellb D c4, cellb D c5, cellb D g0⟩
            clear hHeld hK K
            intro hHeld
            try simp only [Act.put, List.setIfInBounds_toArray, List.set_cons_zero, List.set_cons_succ]
            refine wpAnyH_ready (rs := [6, 10]) (by kernel_rfl) (by simp) ?_
            refine (AllReadyH.cons (o := ⟨_, _, _, _, _, _⟩) rfl (fun K hK => ?_) (AllReadyH.cons (o := ⟨_, _, _, _, _, _⟩) rfl (fun K hK => ?_) AllReadyH.nil))
            · skip
              go_simp
              go_at_call 40
              refine (HC.out _ _ (HR.out.below D)).mono ?_
              rintro e V2 ⟨u, x', rfl, hu, hx2, hor, rr⟩
              have huL := hu.lt
              have hxL := hx2.lt
              replace hu := own_base hu D.size
              replace hx2 := own_base hx2 D.size
              obtain ⟨a5, cu5, rfl⟩ := own_form hu
              obtain ⟨a4, c4x, rfl⟩ := own_form hx2
              have HUX : Apart (.slice a5 al.length cu5) (.slice a4 ns'.length c4x) := by rcases hor with h | h; rw [h]; exact Apart.nil _; rw [h]; exact (Apart.nil _).symm
              clear hor
              have nBu : some (V0.heap.size) ≠ (Value.slice a5 al.length cu5).ownBlock := fun h => by have := (huL _ h.symm).1; omega
              have nBx : some (V0.heap.size) ≠ (Value.slice a4 ns'.length c4x).ownBlock := fun h => by have := (hxL _ h.symm).1; omega
              replace B0 := cellb rr B0
              replace B1 := cellb rr B1
              replace B2 := cellb rr B2
              replace B3 := cellb rr B3
              replace BF : ∀ o, _ = _ := fun o => (rr.frozen (p := ⟨V0.heap.size, o, none⟩) BL).trans (BF o)
              replace BL := Nat.lt_of_lt_of_le BL rr.size
              replace D := D.trans (rr.mono D.size)
              clear rr huL hxL
              try go_wp2_with fail
              refine hK.out _ _ ?_ ?_
              · (try dsimp only); exact ⟨cellb D c2', cellb D c3', cellb D c4, cellb D c5, cellb D g0⟩
              clear hHeld hK K
              intro hHeld
              try simp only [Act.put, List.setIfInBounds_toArray, List.set_cons_zero, List.set_cons_succ]
              refine wpAnyH_take (i := 7) (oi := ⟨_, _, _, _, _, _⟩) (v := ?_) rfl (by kernel_rfl) (by kernel_rfl) (by kernel_rfl) (fun _ _ _ h => h) (Or.inl ⟨by rfl, ?_⟩) hHeld ?_
              rotate_left
              · (intro w hSw; (try dsimp only at hSw); go_simp; try (with_reducible rfl))
              try simp only [Act.put, List.setIfInBounds_toArray, List.set_cons_zero, List.set_cons_succ]
              refine wpAnyH_take (i := 8) (oi := ⟨_, _, _, _, _, _⟩) (v := ?_) rfl (by kernel_rfl) (by kernel_rfl) (by kernel_rfl) (fun _ _ _ h => h) (Or.inl ⟨by rfl, ?_⟩) hHeld ?_
              rotate_left
              · (intro w hSw; (try dsimp only at hSw); go_simp; try (with_reducible rfl))
              try simp only [Act.put, List.setIfInBounds_toArray, List.set_cons_zero, List.set_cons_succ]
              refine wpAnyH_take (i := 9) (oi := ⟨_, _, _, _, _, _⟩) (v := ?_) rfl (by kernel_rfl) (by kernel_rfl) (by kernel_rfl) (fun _ _ _ h => h) (Or.inl ⟨by rfl, ?_⟩) hHeld ?_
              rotate_left
              · (intro w hSw; (try dsimp only at hSw); go_simp; try (with_reducible rfl))
              try simp only [Act.put, List.setIfInBounds_toArray, List.set_cons_zero, List.set_cons_succ]
              refine wpAnyH_ready (rs := [10]) (by kernel_rfl) (by simp) ?_
              refine (AllReadyH.cons (o := ⟨_, _, _, _, _, _⟩) rfl (fun K hK => ?_) AllReadyH.nil)
              go_simp
              have rr : Below V2.heap.size V2 (V2.alloc (.cells #[.int .i64 0, .int .i64 0, .int .i64 0, .bool false, .slice none 0 0] 32)) := (Below.refl _ _).alloc (Nat.le_refl _) _
              have A0 : (V2.alloc (.cells #[.int .i64 0, .int .i64 0, .int .i64 0, .bool false, .slice none 0 0] 32)).cell? ⟨V2.heap.size, 0, none⟩ = some (.int .i64 0) := by simp
              have A1 : (V2.alloc (.cells #[.int .i64 0, .int .i64 0, .int .i64 0, .bool false, .slice none 0 0] 32)).cell? ⟨V2.heap.size, 1, none⟩ = some (.int .i64 0) := by simp
              have A2 : (V2.alloc (.cells #[.int .i64 0, .int .i64 0, .int .i64 0, .bool false, .slice none 0 0] 32)).cell? ⟨V2.heap.size, 2, none⟩ = some (.int .i64 0) := by simp
              have A3 : (V2.alloc (.cells #[.int .i64 0, .int .i64 0, .int .i64 0, .bool false, .slice none 0 0] 32)).cell? ⟨V2.heap.size, 3, none⟩ = some (.bool false) := by simp
              have A4 : (V2.alloc (.cells #[.int .i64 0, .int .i64 0, .int .i64 0, .bool false, .slice none 0 0] 32)).cell? ⟨V2.heap.size, 4, none⟩ = some (.slice none 0 0) := by simp
              have AF : ∀ o, (V2.alloc (.cells #[.int .i64 0, .int .i64 0, .int .i64 0, .bool false, .slice none 0 0] 32)).frozen? ⟨V2.heap.size, o, none⟩ = false := fun o => by simp
              have AL : V2.heap.size < (V2.alloc (.cells #[.int .i64 0, .int .i64 0, .int .i64 0, .bool false, .slice none 0 0] 32)).heap.size := by simp
              have AG : wr.heap.size ≤ V2.heap.size := D.size
              have hAB : ¬ (V0.heap.size = V2.heap.size) := by omega
              have nAu : some V2.heap.size ≠ (Value.slice a5 al.length cu5).ownBlock := fun h => by have := (hu.lt _ h.symm).2; omega
              have nAx : some V2.heap.size ≠ (Value.slice a4 ns'.length c4x).ownBlock := fun h => by have := (hx2.lt _ h.symm).2; omega
              replace B0 := cellb rr B0
              replace B1 := cellb rr B1
              replace B2 := cellb rr B2
              replace B3 := cellb rr B3
              replace BF : ∀ o, _ = _ := fun o => (rr.frozen (p := ⟨V0.heap.size, o, none⟩) BL).trans (BF o)
              replace BL := Nat.lt_of_lt_of_le BL rr.size
              replace hu := own_below hu rr
              replace hx2 := own_below hx2 rr
              replace D := D.trans (rr.mono D.size)
              clear rr
              generalize (V2.alloc (.cells #[.int .i64 0, .int .i64 0, .int .i64 0, .bool false, .slice none 0 0] 32)) = V3 at *
              refine hK.out _ _ ?_ ?_
              · (try dsimp only); exact ⟨cellb D c2', cellb D c3', cellb D c4, cellb D c5, cellb D g0⟩
              clear hHeld hK K
              intro hHeld
              try simp only [Act.put, List.setIfInBounds_toArray, List.set_cons_zero, List.set_cons_succ]
              have ne1 : ¬ (V2.heap.size = V0.heap.size) := by omega
              have ne2 : ¬ (V0.heap.size = V2.heap.size) := by omega
              refine wpAnyH_ready (rs := [12]) (by kernel_rfl) (by simp) ?_
              refine (AllReadyH.cons (o := ⟨_, _, _, _, _, _⟩) rfl (fun K hK => ?_) AllReadyH.nil)
              go_simp
              have D2 : Below wr.heap.size wr (((((V3.setCell ⟨V2.heap.size, 0, none⟩ (.int .i64 kd)).setCell ⟨V2.heap.size, 1, none⟩ (.int .i64 ch)).setCell ⟨V2.heap.size, 2, none⟩ (.int .i64 st2)).setCell ⟨V2.heap.size, 3, none⟩ (.bool pv2)).setCell ⟨V2.heap.size, 4, none⟩ (.slice a5 al.length cu5)) := (by repeat' (first | with_reducible exact Below.refl _ _ | with_reducible assumption | with_reducible refine Below.drew ?_ | with_reducible refine Below.alloc ?_ ?_ _ | with_reducible refine Below.setCell ?_ ?_ _ | (simp; done) | (simp; omega) | omega))
              have E0 : (((((V3.setCell ⟨V2.heap.size, 0, none⟩ (.int .i64 kd)).setCell ⟨V2.heap.size, 1, none⟩ (.int .i64 ch)).setCell ⟨V2.heap.size, 2, none⟩ (.int .i64 st2)).setCell ⟨V2.heap.size, 3, none⟩ (.bool pv2)).setCell ⟨V2.heap.size, 4, none⟩ (.slice a5 al.length cu5)).cell? ⟨V2.heap.size, 0, none⟩ = some (.int .i64 kd) := by simp [go_sem, A0, A1, A2, A3, A4]
              have E1 : (((((V3.setCell ⟨V2.heap.size, 0, none⟩ (.int .i64 kd)).setCell ⟨V2.heap.size, 1, none⟩ (.int .i64 ch)).setCell ⟨V2.heap.size, 2, none⟩ (.int .i64 st2)).setCell ⟨V2.heap.size, 3, none⟩ (.bool pv2)).setCell ⟨V2.heap.size, 4, none⟩ (.slice a5 al.length cu5)).cell? ⟨V2.heap.size, 1, none⟩ = some (.int .i64 ch) := by simp [go_sem, A0, A1, A2, A3, A4]
              have E2 : (((((V3.setCell ⟨V2.heap.size, 0, none⟩ (.int .i64 kd)).setCell ⟨V2.heap.size, 1, none⟩ (.int .i64 ch)).setCell ⟨V2.heap.size, 2, none⟩ (.int .i64 st2)).setCell ⟨V2.heap.size, 3, none⟩ (.bool pv2)).setCell ⟨V2.heap.size, 4, none⟩ (.slice a5 al.length cu5)).cell? ⟨V2.heap.size, 2, none⟩ = some (.int .i64 st2) := by simp [go_sem, A0, A1, A2, A3, A4]
              have E3 : (((((V3.setCell ⟨V2.heap.size, 0, none⟩ (.int .i64 kd)).setCell ⟨V2.heap.size, 1, none⟩ (.int .i64 ch)).setCell ⟨V2.heap.size, 2, none⟩ (.int .i64 st2)).setCell ⟨V2.heap.size, 3, none⟩ (.bool pv2)).setCell ⟨V2.heap.size, 4, none⟩ (.slice a5 al.length cu5)).cell? ⟨V2.heap.size, 3, none⟩ = some (.bool pv2) := by simp [go_sem, A0, A1, A2, A3, A4]
              have E4 : (((((V3.setCell ⟨V2.heap.size, 0, none⟩ (.int .i64 kd)).setCell ⟨V2.heap.size, 1, none⟩ (.int .i64 ch)).setCell ⟨V2.heap.size, 2, none⟩ (.int .i64 st2)).setCell ⟨V2.heap.size, 3, none⟩ (.bool pv2)).setCell ⟨V2.heap.size, 4, none⟩ (.slice a5 al.length cu5)).cell? ⟨V2.heap.size, 4, none⟩ = some (.slice a5 al.length cu5) := by simp [go_sem, A0, A1, A2, A3, A4]
              have G0 : (((((V3.setCell ⟨V2.heap.size, 0, none⟩ (.int .i64 kd)).setCell ⟨V2.heap.size, 1, none⟩ (.int .i64 ch)).setCell ⟨V2.heap.size, 2, none⟩ (.int .i64 st2)).setCell ⟨V2.heap.size, 3, none⟩ (.bool pv2)).setCell ⟨V2.heap.size, 4, none⟩ (.slice a5 al.length cu5)).cell? ⟨V0.heap.size, 0, none⟩ = some (.int .i64 0) := by simp [go_sem, ne1, ne2, B0]
              have G1 : (((((V3.setCell ⟨V2.heap.size, 0, none⟩ (.int .i64 kd)).setCell ⟨V2.heap.size, 1, none⟩ (.int .i64 ch)).setCell ⟨V2.heap.size, 2, none⟩ (.int .i64 st2)).setCell ⟨V2.heap.size, 3, none⟩ (.bool pv2)).setCell ⟨V2.heap.size, 4, none⟩ (.slice a5 al.length cu5)).cell? ⟨V0.heap.size, 1, none⟩ = some (.int .i64 0) := by simp [go_sem, ne1, ne2, B1]
              have G2 : (((((V3.setCell ⟨V2.heap.size, 0, none⟩ (.int .i64 kd)).setCell ⟨V2.heap.size, 1, none⟩ (.int .i64 ch)).setCell ⟨V2.heap.size, 2, none⟩ (.int .i64 st2)).setCell ⟨V2.heap.size, 3, none⟩ (.bool pv2)).setCell ⟨V2.heap.size, 4, none⟩ (.slice a5 al.length cu5)).cell? ⟨V0.heap.size, 2, none⟩ = some (.bool false) := by simp [go_sem, ne1, ne2, B2]
              have G3 : (((((V3.setCell ⟨V2.heap.size, 0, none⟩ (.int .i64 kd)).setCell ⟨V2.heap.size, 1, none⟩ (.int .i64 ch)).setCell ⟨V2.heap.size, 2, none⟩ (.int .i64 st2)).setCell ⟨V2.heap.size, 3, none⟩ (.bool pv2)).setCell ⟨V2.heap.size, 4, none⟩ (.slice a5 al.length cu5)).cell? ⟨V0.heap.size, 3, none⟩ = some (.slice none 0 0) := by simp [go_sem, ne1, ne2, B3]
              have GF : ∀ o, (((((V3.setCell ⟨V2.heap.size, 0, none⟩ (.int .i64 kd)).setCell ⟨V2.heap.size, 1, none⟩ (.int .i64 ch)).setCell ⟨V2.heap.size, 2, none⟩ (.int .i64 st2)).setCell ⟨V2.heap.size, 3, none⟩ (.bool pv2)).setCell ⟨V2.heap.size, 4, none⟩ (.slice a5 al.length cu5)).frozen? ⟨V0.heap.size, o, none⟩ = false := fun o => by simpa using BF o
              have ML : V2.heap.size < (((((V3.setCell ⟨V2.heap.size, 0, none⟩ (.int .i64 kd)).setCell ⟨V2.heap.size, 1, none⟩ (.int .i64 ch)).setCell ⟨V2.heap.size, 2, none⟩ (.int .i64 st2)).setCell ⟨V2.heap.size, 3, none⟩ (.bool pv2)).setCell ⟨V2.heap.size, 4, none⟩ (.slice a5 al.length cu5)).heap.size := by simpa [World.setCell] using AL
              have NL : V0.heap.size < (((((V3.setCell ⟨V2.heap.size, 0, none⟩ (.int .i64 kd)).setCell ⟨V2.heap.size, 1, none⟩ (.int .i64 ch)).setCell ⟨V2.heap.size, 2, none⟩ (.int .i64 st2)).setCell ⟨V2.heap.size, 3, none⟩ (.bool pv2)).setCell ⟨V2.heap.size, 4, none⟩ (.slice a5 al.length cu5)).heap.size := by simpa [World.setCell] using BL
              have hu2 : (((((V3.setCell ⟨V2.heap.size, 0, none⟩ (.int .i64 kd)).setCell ⟨V2.heap.size, 1, none⟩ (.int .i64 ch)).setCell ⟨V2.heap.size, 2, none⟩ (.int .i64 st2)).setCell ⟨V2.heap.size, 3, none⟩ (.bool pv2)).setCell ⟨V2.heap.size, 4, none⟩ (.slice a5 al.length cu5)).ownsRow wr.heap.size 2 1 (.slice a5 al.length cu5) al.length (intsV al) := by repeat' (first | with_reducible exact hu | with_reducible refine own_setCell ?_ ?_ | with_reducible exact nAu)
              have hx3 : (((((V3.setCell ⟨V2.heap.size, 0, none⟩ (.int .i64 kd)).setCell ⟨V2.heap.size, 1, none⟩ (.int .i64 ch)).setCell ⟨V2.heap.size, 2, none⟩ (.int .i64 st2)).setCell ⟨V2.heap.size, 3, none⟩ (.bool pv2)).setCell ⟨V2.heap.size, 4, none⟩ (.slice a5 al.length cu5)).ownsRow wr.heap.size 2 1 (.slice a4 ns'.length c4x) ns'.length (intsV ns') := by repeat' (first | with_reducible exact hx2 | with_reducible refine own_setCell ?_ ?_ | with_reducible exact nAx)
              replace D := D2
              clear D2 hu hx2 A0 A1 A2 A3 A4 AF B0 B1 B2 B3 BF AL BL
              generalize (((((V3.setCell ⟨V2.heap.size, 0, none⟩ (.int .i64 kd)).setCell ⟨V2.heap.size, 1, none⟩ (.int .i64 ch)).setCell ⟨V2.heap.size, 2, none⟩ (.int .i64 st2)).setCell ⟨V2.heap.size, 3, none⟩ (.bool pv2)).setCell ⟨V2.heap.size, 4, none⟩ (.slice a5 al.length cu5)) = V9 at *
              refine hK.out _ _ ?_ ?_
              · (try dsimp only); exact ⟨cellb D c2', cellb D c3', cellb D c4, cellb D c5, cellb D g0⟩
              clear hHeld hK K
              intro hHeld
              try simp only [Act.put, List.setIfInBounds_toArray, List.set_cons_zero, List.set_cons_succ]
              refine wpAnyH_ready (rs := [13]) (by kernel_rfl) (by simp) ?_
              refine (AllReadyH.cons (o := ⟨_, _, _, _, _, _⟩) rfl (fun K hK => ?_) AllReadyH.nil)
              go_simp
              have D2 : Below wr.heap.size wr ((((V9.setCell ⟨V0.heap.size, 0, none⟩ (.int .i64 md')).setCell ⟨V0.heap.size, 1, none⟩ (.int .i64 st')).setCell ⟨V0.heap.size, 2, none⟩ (.bool pv')).setCell ⟨V0.heap.size, 3, none⟩ (.slice a4 ns'.length c4x)) := (by repeat' (first | with_reducible exact Below.refl _ _ | with_reducible assumption | with_reducible refine Below.drew ?_ | with_reducible refine Below.alloc ?_ ?_ _ | with_reducible refine Below.setCell ?_ ?_ _ | (simp; done) | (simp; omega) | omega))
              replace D := D2
              refine hK.out _ _ ?_ ?_
              · (try dsimp only); exact ⟨cellb D c2', cellb D c3', cellb D c4, cellb D c5, cellb D g0⟩
              clear hHeld hK K
              intro hHeld
              try simp only [Act.put, List.setIfInBounds_toArray, List.set_cons_zero, List.set_cons_succ]
              refine wpAnyH_done (by kernel_rfl) ?_ _
              go_wp2
              go_meet
              refine ⟨V2.heap.size, V0.heap.size, a5, cu5, a4, c4x, rfl, rfl, ?_, AG, BG, by simpa [World.setCell] using ML, by simpa [World.setCell] using NL, ?_, ?_, ?_, ?_, ?_, ?_, ?_, ?_, ?_, ?_, ?_, HUX⟩
              · first | exact D | exact D2
              · simp [go_sem, ne1, ne2, E0, E1, E2, E3, E4]
              · simp [go_sem, ne1, ne2, E0, E1, E2, E3, E4]
              · simp [go_sem, ne1, ne2, E0, E1, E2, E3, E4]
              · simp [go_sem, ne1, ne2, E0, E1, E2, E3, E4]
              · simp [go_sem, ne1, ne2, E0, E1, E2, E3, E4]
              · simp [go_sem, ne1, ne2, G0, G1, G2, G3]
              · simp [go_sem, ne1, ne2, G0, G1, G2, G3]
              · simp [go_sem, ne1, ne2, G0, G1, G2, G3]
              · simp [go_sem, ne1, ne2, G0, G1, G2, G3]
              · repeat' (first | with_reducible exact hu2 | with_reducible refine own_setCell ?_ ?_ | with_reducible exact nBu)
              · repeat' (first | with_reducible exact hx3 | with_reducible refine own_setCell ?_ ?_ | with_reducible exact nBx)
            · skip
              go_simp
              have rr : Below V1.heap.size V1 (V1.alloc (.cells #[.int .i64 0, .int .i64 0, .int .i64 0, .bool false, .slice none 0 0] 32)) := (Below.refl _ _).alloc (Nat.le_refl _) _
              have A0 : (V1.alloc (.cells #[.int .i64 0, .int .i64 0, .int .i64 0, .bool false, .slice none 0 0] 32)).cell? ⟨V1.heap.size, 0, none⟩ = some (.int .i64 0) := by simp
              have A1 : (V1.alloc (.cells #[.int .i64 0, .int .i64 0, .int .i64 0, .bool false, .slice none 0 0] 32)).cell? ⟨V1.heap.size, 1, none⟩ = some (.int .i64 0) := by simp
              have A2 : (V1.alloc (.cells #[.int .i64 0, .int .i64 0, .int .i64 0, .bool false, .slice none 0 0] 32)).cell? ⟨V1.heap.size, 2, none⟩ = some (.int .i64 0) := by simp
              have A3 : (V1.alloc (.cells #[.int .i64 0, .int .i64 0, .int .i64 0, .bool false, .slice none 0 0] 32)).cell? ⟨V1.heap.size, 3, none⟩ = some (.bool false) := by simp
              have A4 : (V1.alloc (.cells #[.int .i64 0, .int .i64 0, .int .i64 0, .bool false, .slice none 0 0] 32)).cell? ⟨V1.heap.size, 4, none⟩ = some (.slice none 0 0) := by simp
              have AF : ∀ o, (V1.alloc (.cells #[.int .i64 0, .int .i64 0, .int .i64 0, .bool false, .slice none 0 0] 32)).frozen? ⟨V1.heap.size, o, none⟩ = false := fun o => by simp
              have AL : V1.heap.size < (V1.alloc (.cells #[.int .i64 0, .int .i64 0, .int .i64 0, .bool false, .slice none 0 0] 32)).heap.size := by simp
              have AG : wr.heap.size ≤ V1.heap.size := D.size
              have hAB : ¬ (V0.heap.size = V1.heap.size) := by omega
              replace B0 := cellb rr B0
              replace B1 := cellb rr B1
              replace B2 := cellb rr B2
              replace B3 := cellb rr B3
              replace BF : ∀ o, _ = _ := fun o => (rr.frozen (p := ⟨V0.heap.size, o, none⟩) BL).trans (BF o)
              replace BL := Nat.lt_of_lt_of_le BL rr.size
              replace D := D.trans (rr.mono D.size)
              clear rr
              generalize (V1.alloc (.cells #[.int .i64 0, .int .i64 0, .int .i64 0, .bool false, .slice none 0 0] 32)) = V2 at *
              refine hK.out _ _ ?_ ?_
              · (try dsimp only); exact ⟨cellb D c2', cellb D c3', cellb D c4, cellb D c5, cellb D g0⟩
              clear hHeld hK K
              intro hHeld
              try simp only [Act.put, List.setIfInBounds_toArray, List.set_cons_zero, List.set_cons_succ]
              refine wpAnyH_ready (rs := [6]) (by kernel_rfl) (by simp) ?_
              refine (AllReadyH.cons (o := ⟨_, _, _, _, _, _⟩) rfl (fun K hK => ?_) AllReadyH.nil)
              go_simp
              go_at_call 40
              refine (HC.out _ _ (HR.out.below D)).mono ?_
              rintro e V3 ⟨u, x', rfl, hu, hx2, hor, rr⟩
              have huL := hu.lt
              have hxL := hx2.lt
              replace hu := own_base hu D.size
              replace hx2 := own_base hx2 D.size
              obtain ⟨a5, cu5, rfl⟩ := own_form hu
              obtain ⟨a4, c4x, rfl⟩ := own_form hx2
              have HUX : Apart (.slice a5 al.length cu5) (.slice a4 ns'.length c4x) := by rcases hor with h | h; rw [h]; exact Apart.nil _; rw [h]; exact (Apart.nil _).symm
              clear hor
              have nAu : some (V1.heap.size) ≠ (Value.slice a5 al.length cu5).ownBlock := fun h => by have := (huL _ h.symm).1; omega
              have nAx : some (V1.heap.size) ≠ (Value.slice a4 ns'.length c4x).ownBlock := fun h => by have := (hxL _ h.symm).1; omega
              have nBu : some (V0.heap.size) ≠ (Value.slice a5 al.length cu5).ownBlock := fun h => by have := (huL _ h.symm).1; omega
              have nBx : some (V0.heap.size) ≠ (Value.slice a4 ns'.length c4x).ownBlock := fun h => by have := (hxL _ h.symm).1; omega
              replace A0 := cellb rr A0
              replace A1 := cellb rr A1
              replace A2 := cellb rr A2
              replace A3 := cellb rr A3
              replace A4 := cellb rr A4
              replace AF : ∀ o, _ = _ := fun o => (rr.frozen (p := ⟨V1.heap.size, o, none⟩) AL).trans (AF o)
              replace AL := Nat.lt_of_lt_of_le AL rr.size
              replace B0 := cellb rr B0
              replace B1 := cellb rr B1
              replace B2 := cellb rr B2
              replace B3 := cellb rr B3
              replace BF : ∀ o, _ = _ := fun o => (rr.frozen (p := ⟨V0.heap.size, o, none⟩) BL).trans (BF o)
              replace BL := Nat.lt_of_lt_of_le BL rr.size
              replace D := D.trans (rr.mono D.size)
              clear rr huL hxL
              try go_wp2_with fail
              refine hK.out _ _ ?_ ?_
              · (try dsimp only); exact ⟨cellb D c2', cellb D c3', cellb D c4, cellb D c5, cellb D g0⟩
              clear hHeld hK K
              intro hHeld
              try simp only [Act.put, List.setIfInBounds_toArray, List.set_cons_zero, List.set_cons_succ]
              refine wpAnyH_take (i := 7) (oi := ⟨_, _, _, _, _, _⟩) (v := ?_) rfl (by kernel_rfl) (by kernel_rfl) (by kernel_rfl) (fun _ _ _ h => h) (Or.inl ⟨by rfl, ?_⟩) hHeld ?_
              rotate_left
              · (intro w hSw; (try dsimp only at hSw); go_simp; try (with_reducible rfl))
              try simp only [Act.put, List.setIfInBounds_toArray, List.set_cons_zero, List.set_cons_succ]
              refine wpAnyH_take (i := 8) (oi := ⟨_, _, _, _, _, _⟩) (v := ?_) rfl (by kernel_rfl) (by kernel_rfl) (by kernel_rfl) (fun _ _ _ h => h) (Or.inl ⟨by rfl, ?_⟩) hHeld ?_
              rotate_left
              · (intro w hSw; (try dsimp only at hSw); go_simp; try (with_reducible rfl))
              try simp only [Act.put, List.setIfInBounds_toArray, List.set_cons_zero, List.set_cons_succ]
              refine wpAnyH_take (i := 9) (oi := ⟨_, _, _, _, _, _⟩) (v := ?_) rfl (by kernel_rfl) (by kernel_rfl) (by kernel_rfl) (fun _ _ _ h => h) (Or.inl ⟨by rfl, ?_⟩) hHeld ?_
              rotate_left
              · (intro w hSw; (try dsimp only at hSw); go_simp; try (with_reducible rfl))
              try simp only [Act.put, List.setIfInBounds_toArray, List.set_cons_zero, List.set_cons_succ]
              have ne1 : ¬ (V1.heap.size = V0.heap.size) := by omega
              have ne2 : ¬ (V0.heap.size = V1.heap.size) := by omega
              refine wpAnyH_ready (rs := [12]) (by kernel_rfl) (by simp) ?_
              refine (AllReadyH.cons (o := ⟨_, _, _, _, _, _⟩) rfl (fun K hK => ?_) AllReadyH.nil)
              go_simp
              have D2 : Below wr.heap.size wr (((((V3.setCell ⟨V1.heap.size, 0, none⟩ (.int .i64 kd)).setCell ⟨V1.heap.size, 1, none⟩ (.int .i64 ch)).setCell ⟨V1.heap.size, 2, none⟩ (.int .i64 st2)).setCell ⟨V1.heap.size, 3, none⟩ (.bool pv2)).setCell ⟨V1.heap.size, 4, none⟩ (.slice a5 al.length cu5)) := (by repeat' (first | with_reducible exact Below.refl _ _ | with_reducible assumption | with_reducible refine Below.drew ?_ | with_reducible refine Below.alloc ?_ ?_ _ | with_reducible refine Below.setCell ?_ ?_ _ | (simp; done) | (simp; omega) | omega))
              have E0 : (((((V3.setCell ⟨V1.heap.size, 0, none⟩ (.int .i64 kd)).setCell ⟨V1.heap.size, 1, none⟩ (.int .i64 ch)).setCell ⟨V1.heap.size, 2, none⟩ (.int .i64 st2)).setCell ⟨V1.heap.size, 3, none⟩ (.bool pv2)).setCell ⟨V1.heap.size, 4, none⟩ (.slice a5 al.length cu5)).cell? ⟨V1.heap.size, 0, none⟩ = some (.int .i64 kd) := by simp [go_sem, A0, A1, A2, A3, A4]
              have E1 : (((((V3.setCell ⟨V1.heap.size, 0, none⟩ (.int .i64 kd)).setCell ⟨V1.heap.size, 1, none⟩ (.int .i64 ch)).setCell ⟨V1.heap.size, 2, none⟩ (.int .i64 st2)).setCell ⟨V1.heap.size, 3, none⟩ (.bool pv2)).setCell ⟨V1.heap.size, 4, none⟩ (.slice a5 al.length cu5)).cell? ⟨V1.heap.size, 1, none⟩ = some (.int .i64 ch) := by simp [go_sem, A0, A1, A2, A3, A4]
              have E2 : (((((V3.setCell ⟨V1.heap.size, 0, none⟩ (.int .i64 kd)).setCell ⟨V1.heap.size, 1, none⟩ (.int .i64 ch)).setCell ⟨V1.heap.size, 2, none⟩ (.int .i64 st2)).setCell ⟨V1.heap.size, 3, none⟩ (.bool pv2)).setCell ⟨V1.heap.size, 4, none⟩ (.slice a5 al.length cu5)).cell? ⟨V1.heap.size, 2, none⟩ = some (.int .i64 st2) := by simp [go_sem, A0, A1, A2, A3, A4]
              have E3 : (((((V3.setCell ⟨V1.heap.size, 0, none⟩ (.int .i64 kd)).setCell ⟨V1.heap.size, 1, none⟩ (.int .i64 ch)).setCell ⟨V1.heap.size, 2, none⟩ (.int .i64 st2)).setCell ⟨V1.heap.size, 3, none⟩ (.bool pv2)).setCell ⟨V1.heap.size, 4, none⟩ (.slice a5 al.length cu5)).cell? ⟨V1.heap.size, 3, none⟩ = some (.bool pv2) := by simp [go_sem, A0, A1, A2, A3, A4]
              have E4 : (((((V3.setCell ⟨V1.heap.size, 0, none⟩ (.int .i64 kd)).setCell ⟨V1.heap.size, 1, none⟩ (.int .i64 ch)).setCell ⟨V1.heap.size, 2, none⟩ (.int .i64 st2)).setCell ⟨V1.heap.size, 3, none⟩ (.bool pv2)).setCell ⟨V1.heap.size, 4, none⟩ (.slice a5 al.length cu5)).cell? ⟨V1.heap.size, 4, none⟩ = some (.slice a5 al.length cu5) := by simp [go_sem, A0, A1, A2, A3, A4]
              have G0 : (((((V3.setCell ⟨V1.heap.size, 0, none⟩ (.int .i64 kd)).setCell ⟨V1.heap.size, 1, none⟩ (.int .i64 ch)).setCell ⟨V1.heap.size, 2, none⟩ (.int .i64 st2)).setCell ⟨V1.heap.size, 3, none⟩ (.bool pv2)).setCell ⟨V1.heap.size, 4, none⟩ (.slice a5 al.length cu5)).cell? ⟨V0.heap.size, 0, none⟩ = some (.int .i64 0) := by simp [go_sem, ne1, ne2, B0]
              have G1 : (((((V3.setCell ⟨V1.heap.size, 0, none⟩ (.int .i64 kd)).setCell ⟨V1.heap.size, 1, none⟩ (.int .i64 ch)).setCell ⟨V1.heap.size, 2, none⟩ (.int .i64 st2)).setCell ⟨V1.heap.size, 3, none⟩ (.bool pv2)).setCell ⟨V1.heap.size, 4, none⟩ (.slice a5 al.length cu5)).cell? ⟨V0.heap.size, 1, none⟩ = some (.int .i64 0) := by simp [go_sem, ne1, ne2, B1]
              have G2 : (((((V3.setCell ⟨V1.heap.size, 0, none⟩ (.int .i64 kd)).setCell ⟨V1.heap.size, 1, none⟩ (.int .i64 ch)).setCell ⟨V1.heap.size, 2, none⟩ (.int .i64 st2)).setCell ⟨V1.heap.size, 3, none⟩ (.bool pv2)).setCell ⟨V1.heap.size, 4, none⟩ (.slice a5 al.length cu5)).cell? ⟨V0.heap.size, 2, none⟩ = some (.bool false) := by simp [go_sem, ne1, ne2, B2]
              have G3 : (((((V3.setCell ⟨V1.heap.size, 0, none⟩ (.int .i64 kd)).setCell ⟨V1.heap.size, 1, none⟩ (.int .i64 ch)).setCell ⟨V1.heap.size, 2, none⟩ (.int .i64 st2)).setCell ⟨V1.heap.size, 3, none⟩ (.bool pv2)).setCell ⟨V1.heap.size, 4, none⟩ (.slice a5 al.length cu5)).cell? ⟨V0.heap.size, 3, none⟩ = some (.slice none 0 0) := by simp [go_sem, ne1, ne2, B3]
              have GF : ∀ o, (((((V3.setCell ⟨V1.heap.size, 0, none⟩ (.int .i64 kd)).setCell ⟨V1.heap.size, 1, none⟩ (.int .i64 ch)).setCell ⟨V1.heap.size, 2, none⟩ (.int .i64 st2)).setCell ⟨V1.heap.size, 3, none⟩ (.bool pv2)).setCell ⟨V1.heap.size, 4, none⟩ (.slice a5 al.length cu5)).frozen? ⟨V0.heap.size, o, none⟩ = false := fun o => by simpa using BF o
              have ML : V1.heap.size < (((((V3.setCell ⟨V1.heap.size, 0, none⟩ (.int .i64 kd)).setCell ⟨V1.heap.size, 1, none⟩ (.int .i64 ch)).setCell ⟨V1.heap.size, 2, none⟩ (.int .i64 st2)).setCell ⟨V1.heap.size, 3, none⟩ (.bool pv2)).setCell ⟨V1.heap.size, 4, none⟩ (.slice a5 al.length cu5)).heap.size := by simpa [World.setCell] using AL
              have NL : V0.heap.size < (((((V3.setCell ⟨V1.heap.size, 0, none⟩ (.int .i64 kd)).setCell ⟨V1.heap.size, 1, none⟩ (.int .i64 ch)).setCell ⟨V1.heap.size, 2, none⟩ (.int .i64 st2)).setCell ⟨V1.heap.size, 3, none⟩ (.bool pv2)).setCell ⟨V1.heap.size, 4, none⟩ (.slice a5 al.length cu5)).heap.size := by simpa [World.setCell] using BL
              have hu2 : (((((V3.setCell ⟨V1.heap.size, 0, none⟩ (.int .i64 kd)).setCell ⟨V1.heap.size, 1, none⟩ (.int .i64 ch)).setCell ⟨V1.heap.size, 2, none⟩ (.int .i64 st2)).setCell ⟨V1.heap.size, 3, none⟩ (.bool pv2)).setCell ⟨V1.heap.size, 4, none⟩ (.slice a5 al.length cu5)).ownsRow wr.heap.size 2 1 (.slice a5 al.length cu5) al.length (intsV al) := by repeat' (first | with_reducible exact hu | with_reducible refine own_setCell ?_ ?_ | with_reducible exact nAu)
              have hx3 : (((((V3.setCell ⟨V1.heap.size, 0, none⟩ (.int .i64 kd)).setCell ⟨V1.heap.size, 1, none⟩ (.int .i64 ch)).setCell ⟨V1.heap.size, 2, none⟩ (.int .i64 st2)).setCell ⟨V1.heap.size, 3, none⟩ (.bool pv2)).setCell ⟨V1.heap.size, 4, none⟩ (.slice a5 al.length cu5)).ownsRow wr.heap.size 2 1 (.slice a4 ns'.length c4x) ns'.length (intsV ns') := by repeat' (first | with_reducible exact hx2 | with_reducible refine own_setCell ?_ ?_ | with_reducible exact nAx)
              replace D := D2
              clear D2 hu hx2 A0 A1 A2 A3 A4 AF B0 B1 B2 B3 BF AL BL
              generalize (((((V3.setCell ⟨V1.heap.size, 0, none⟩ (.int .i64 kd)).setCell ⟨V1.heap.size, 1, none⟩ (.int .i64 ch)).setCell ⟨V1.heap.size, 2, none⟩ (.int .i64 st2)).setCell ⟨V1.heap.size, 3, none⟩ (.bool pv2)).setCell ⟨V1.heap.size, 4, none⟩ (.slice a5 al.length cu5)) = V9 at *
              refine hK.out _ _ ?_ ?_
              · (try dsimp only); exact ⟨cellb D c2', cellb D c3', cellb D c4, cellb D c5, cellb D g0⟩
              clear hHeld hK K
              intro hHeld
              try simp only [Act.put, List.setIfInBounds_toArray, List.set_cons_zero, List.set_cons_succ]
              refine wpAnyH_ready (rs := [13]) (by kernel_rfl) (by simp) ?_
              refine (AllReadyH.cons (o := ⟨_, _, _, _, _, _⟩) rfl (fun K hK => ?_) AllReadyH.nil)
              go_simp
              have D2 : Below wr.heap.size wr ((((V9.setCell ⟨V0.heap.size, 0, none⟩ (.int .i64 md')).setCell ⟨V0.heap.size, 1, none⟩ (.int .i64 st')).setCell ⟨V0.heap.size, 2, none⟩ (.bool pv')).setCell ⟨V0.heap.size, 3, none⟩ (.slice a4 ns'.length c4x)) := (by repeat' (first | with_reducible exact Below.refl _ _ | with_reducible assumption | with_reducible refine Below.drew ?_ | with_reducible refine Below.alloc ?_ ?_ _ | with_reducible refine Below.setCell ?_ ?_ _ | (simp; done) | (simp; omega) | omega))
              replace D := D2
              refine hK.out _ _ ?_ ?_
              · (try dsimp only); exact ⟨cellb D c2', cellb D c3', cellb D c4, cellb D c5, cellb D g0⟩
              clear hHeld hK K
              intro hHeld
              try simp only [Act.put, List.setIfInBounds_toArray, List.set_cons_zero, List.set_cons_succ]
              refine wpAnyH_done (by kernel_rfl) ?_ _
              go_wp2
              go_meet
              refine ⟨V1.heap.size, V0.heap.size, a5, cu5, a4, c4x, rfl, rfl, ?_, AG, BG, by simpa [World.setCell] using ML, by simpa [World.setCell] using NL, ?_, ?_, ?_, ?_, ?_, ?_, ?_, ?_, ?_, ?_, ?_, HUX⟩
              · first | exact D | exact D2
              · simp [go_sem, ne1, ne2, E0, E1, E2, E3, E4]
              · simp [go_sem, ne1, ne2, E0, E1, E2, E3, E4]
              · simp [go_sem, ne1, ne2, E0, E1, E2, E3, E4]
              · simp [go_sem, ne1, ne2, E0, E1, E2, E3, E4]
              · simp [go_sem, ne1, ne2, E0, E1, E2, E3, E4]
              · simp [go_sem, ne1, ne2, G0, G1, G2, G3]
              · simp [go_sem, ne1, ne2, G0, G1, G2, G3]
              · simp [go_sem, ne1, ne2, G0, G1, G2, G3]
              · simp [go_sem, ne1, ne2, G0, G1, G2, G3]
              · repeat' (first | with_reducible exact hu2 | with_reducible refine own_setCell ?_ ?_ | with_reducible exact nBu)
              · repeat' (first | with_reducible exact hx3 | with_reducible refine own_setCell ?_ ?_ | with_reducible exact nBx)
        case rest =>
          obtain ⟨b8, b9, a5, cu5, a4, c4x, rfl, rfl, q5, l8, l9, m8, m9, e0, e1, e2, e3, e4, d0, d1, d2, d3, hu, hx2, HUX⟩ := hcut
          replace c0 := cellb q5 c0
          replace c1' := cellb q5 c1'
          replace c2' := cellb q5 c2'
          replace c3' := cellb q5 c3'
          replace c4 := cellb q5 c4
          replace c5 := cellb q5 c5
          replace c6 : ∀ o, wc.frozen? ⟨w2.heap.size, o, none⟩ = false := fun o => (q5.frozen (p := ⟨w2.heap.size, o, none⟩) hsz).trans (c6 o)
          have hb4 : Below w1.heap.size w2 wc := hb.trans (q5.mono (by have := hb.size; omega))
          have lt1 : w2.heap.size < wc.heap.size := Nat.lt_of_lt_of_le hsz q5.size
          have HA4 := hide (HAC.out.step (grown_of q5 _) (own_base hx2 (by have := hb.size; omega)) (from_new hx2))
          have HF4 := hide (Free.step (base := 0) (from_new hx2) hfree hsz)
          have HU := hide (own_base (base' := w1.heap.size) hu (by have := hb.size; omega))
          have HUV : Hid (Apart (.slice a5 al.length cu5) (.slice av alk.length cv)) := hide (from_apart (from_new hu) HAC.out.xv (fun k hk => (HAC.out.row.lt k hk).2))
          have HUU : Hid (∀ y ∈ us, Apart (.slice a5 al.length cu5) y) := hide (fun y hy => from_apart (from_new hu) (HAC.out.xu y hy) (fun k hk => (HAC.out.ltu hy hk).2))
          have HUT : Hid (some w2.heap.size ≠ (Value.slice a5 al.length cu5).ownBlock) := hide (fun h => by have := (hu.lt _ h.symm).1; omega)
          have ne8 : ¬ (w2.heap.size = b8) := by omega
          have ne8' : ¬ (b8 = w2.heap.size) := by omega
          have ne9 : ¬ (w2.heap.size = b9) := by omega
          have ne9' : ¬ (b9 = w2.heap.size) := by omega
          have HXU := hide HUX
          have hs4 : wr.heap.size ≤ wc.heap.size := q5.size
          clear q5 hu hx2 HUX HC HR hfree hb HAC g0 hcode
          by_cases hkd : kd = 0
          · have hne : (kd != 0) = false := by simpa using hkd
            have eQ := HQ.out
            rw [if_pos hkd] at eQ
            have EQ := hide eQ
            clear eQ HQ
            subst hkd
            go_wp2
            go_roundw
            case rel =>
              (refine ⟨k + 1, by omega, by go_num, by rw [hal'.out, hall, hch]; rfl, .slice av alk.length cv, .slice a4 ns'.length c4x, us, ?_, HF4.out, ?_, by simpa [World.setCell] using lt1, ?_, ?_, ?_, ?_, ?_, ?_, fun o => by simpa using c6 o⟩)
              · rw [EQ.out]
                repeat' (first | with_reducible exact HA4.out | with_reducible refine Acts.put ?_ ?_ | with_reducible exact HF4.out)
              · exact (by repeat' (first | with_reducible exact Below.refl _ _ | with_reducible assumption | with_reducible refine Below.drew ?_ | with_reducible refine Below.alloc ?_ ?_ _ | with_reducible refine Below.setCell ?_ ?_ _ | (simp; done) | (simp; omega) | omega))
              · simp [go_sem, ne8, ne8', ne9, ne9', c0, c1', c2', c3', c4, c5, lt1]
              · simp [go_sem, ne8, ne8', ne9, ne9', c0, c1', c2', c3', c4, c5, lt1]
              · rw [EQ.out]; simp [go_sem, ne8, ne8', ne9, ne9', c0, c1', c2', c3', c4, c5, lt1]
              · rw [EQ.out]; simp [go_sem, ne8, ne8', ne9, ne9', c0, c1', c2', c3', c4, c5, lt1]
              · rw [EQ.out]; simp [go_sem, ne8, ne8', ne9, ne9', c0, c1', c2', c3', c4, c5, lt1]
              · simp [go_sem, ne8, ne8', ne9, ne9', c0, c1', c2', c3', c4, c5, lt1]
            case measure => simp [intOf]; omega
          · have hne : (kd != 0) = true := by simpa using hkd
            have eQ := HQ.out
            rw [if_neg hkd] at eQ
            have EQ := hide eQ
            clear eQ HQ
            obtain ⟨i0, hi, hz0, hz1, hz2⟩ := info_parts info_acts
            have HA5 : Hid (Acts w1.heap.size (((((wc.setCell ⟨w2.heap.size, 2, none⟩ (.int .i64 md')).setCell ⟨w2.heap.size, 3, none⟩ (.int .i64 st')).setCell ⟨w2.heap.size, 4, none⟩ (.bool pv')).setCell ⟨w2.heap.size, 5, none⟩ (.slice a4 ns'.length c4x)).alloc (.cells #[.int .i64 kd, .int .i64 ch, .int .i64 st2, .bool pv2, .slice a5 al.length cu5] 32)) (.slice av alk.length cv) (.slice a4 ns'.length c4x) us alk ns') := hide (by repeat' (first | with_reducible exact HA4.out | with_reducible refine Acts.alloc ?_ _ | with_reducible refine Acts.put ?_ ?_ | with_reducible exact HF4.out))
            have HU5 : Hid ((((((wc.setCell ⟨w2.heap.size, 2, none⟩ (.int .i64 md')).setCell ⟨w2.heap.size, 3, none⟩ (.int .i64 st')).setCell ⟨w2.heap.size, 4, none⟩ (.bool pv')).setCell ⟨w2.heap.size, 5, none⟩ (.slice a4 ns'.length c4x)).alloc (.cells #[.int .i64 kd, .int .i64 ch, .int .i64 st2, .bool pv2, .slice a5 al.length cu5] 32)).ownsRow w1.heap.size 2 1 (.slice a5 al.length cu5) al.length (intsV al)) := hide (by repeat' (first | with_reducible exact HU.out | with_reducible refine own_alloc ?_ _ | with_reducible refine own_setCell ?_ ?_ | with_reducible exact HUT.out))
            have hb5 : Below w1.heap.size w2 (((((wc.setCell ⟨w2.heap.size, 2, none⟩ (.int .i64 md')).setCell ⟨w2.heap.size, 3, none⟩ (.int .i64 st')).setCell ⟨w2.heap.size, 4, none⟩ (.bool pv')).setCell ⟨w2.heap.size, 5, none⟩ (.slice a4 ns'.length c4x)).alloc (.cells #[.int .i64 kd, .int .i64 ch, .int .i64 st2, .bool pv2, .slice a5 al.length cu5] 32)) := (by repeat' (first | with_reducible exact Below.refl _ _ | with_reducible assumption | with_reducible refine Below.drew ?_ | with_reducible refine Below.alloc ?_ ?_ _ | with_reducible refine Below.setCell ?_ ?_ _ | (simp; done) | (simp; omega) | omega))
            go_wp2_with (at_builtin; refine wpList_append_grow _ rfl (.tmp 51) (.tmp 53) 40 rfl w1.heap.size 32 i0 (.agg #[.int .i64 0, .int .i64 0, .int .i64 0, .bool false, .slice none 0 0]) 5 56 Try.underlying40 hi hz0 hz1 hz2 rfl (by decide) (.slice av alk.length cv) alk.length (cellsOf alk us) rfl HA5.out.row ⟨wc.heap.size, 0, none⟩ 1 1 (cells5 ⟨kd, ch, st2, pv2, al⟩ (.slice a5 al.length cu5)) rfl rfl (new_row_at (by simp [World.setCell]) rfl) (by intro u hu; simp [cells5] at hu; rcases hu with rfl | rfl | rfl | rfl | rfl <;> rfl) (by unfold maxLen; omega) (by omega) (by simp [World.setCell]; omega) ?_)
            intro v6 w6 hown6 hgrow6
            have hlt5 : w2.heap.size < (((((wc.setCell ⟨w2.heap.size, 2, none⟩ (.int .i64 md')).setCell ⟨w2.heap.size, 3, none⟩ (.int .i64 st')).setCell ⟨w2.heap.size, 4, none⟩ (.bool pv')).setCell ⟨w2.heap.size, 5, none⟩ (.slice a4 ns'.length c4x)).alloc (.cells #[.int .i64 kd, .int .i64 ch, .int .i64 st2, .bool pv2, .slice a5 al.length cu5] 32)).heap.size := by simp [World.setCell]; omega
            have s0 : w6.cell? ⟨w2.heap.size, 0, none⟩ = some (.int .i64 0) := (hgrow6.cell hlt5 HF4.out.fv).trans (by simp [go_sem, c0, c1', c2', c3', c4, c5, lt1])
            have s1 : w6.cell? ⟨w2.heap.size, 1, none⟩ = some (.slice av alk.length cv) := (hgrow6.cell hlt5 HF4.out.fv).trans (by simp [go_sem, c0, c1', c2', c3', c4, c5, lt1])
            have s2 : w6.cell? ⟨w2.heap.size, 2, none⟩ = some (.int .i64 md') := (hgrow6.cell hlt5 HF4.out.fv).trans (by simp [go_sem, c0, c1', c2', c3', c4, c5, lt1])
            have s3 : w6.cell? ⟨w2.heap.size, 3, none⟩ = some (.int .i64 st') := (hgrow6.cell hlt5 HF4.out.fv).trans (by simp [go_sem, c0, c1', c2', c3', c4, c5, lt1])
            have s4 : w6.cell? ⟨w2.heap.size, 4, none⟩ = some (.bool pv') := (hgrow6.cell hlt5 HF4.out.fv).trans (by simp [go_sem, c0, c1', c2', c3', c4, c5, lt1])
            have s5 : w6.cell? ⟨w2.heap.size, 5, none⟩ = some (.slice a4 ns'.length c4x) := (hgrow6.cell hlt5 HF4.out.fv).trans (by simp [go_sem, c0, c1', c2', c3', c4, c5, lt1])
            have sf : ∀ o, w6.frozen? ⟨w2.heap.size, o, none⟩ = false := fun o => (hgrow6.frozen hlt5 HF4.out.fv).trans (by simp [go_sem, c6, lt1])
            have HA6 := hide (HA5.out.more (a := ⟨kd, ch, st2, pv2, al⟩) HU5.out hown6 hgrow6 HXU.out HUV.out HUU.out)
            have HF6 := hide (HF4.out.more hgrow6 hlt5 HUT.out)
            obtain ⟨a6, c6', hv6⟩ := row_form hown6
            subst hv6
            have hs6 : w2.heap.size < w6.heap.size := Nat.lt_of_lt_of_le hlt5 hgrow6.grown.size
            have hb6 : Below w1.heap.size w2 w6 := hb5.trans (hgrow6.below (by simp [World.setCell]; omega) HA5.out.row.lt)
            clear hown6 hgrow6 HA5 HU5 hb5 HA4 hb4 HU HXU HUV HUU HUT HF4 c0 c1' c2' c3' c4 c5 c6 e0 e1 e2 e3 e4 d0 d1 d2 d3
            go_wp2
            go_roundw
            case rel =>
              (refine ⟨k + 1, by omega, by go_num, by rw [hal'.out, hall, hch]; rfl, .slice a6 (alk.length + 1) c6', .slice a4 ns'.length c4x, us ++ [.slice a5 al.length cu5], ?_, HF6.out, ?_, by simpa [World.setCell] using hs6, ?_, ?_, ?_, ?_, ?_, ?_, fun o => by simpa using sf o⟩)
              · rw [EQ.out]
                repeat' (first | with_reducible exact HA6.out | with_reducible refine Acts.put ?_ ?_ | with_reducible exact HF6.out)
              · exact (by repeat' (first | with_reducible exact Below.refl _ _ | with_reducible assumption | with_reducible refine Below.drew ?_ | with_reducible refine Below.alloc ?_ ?_ _ | with_reducible refine Below.setCell ?_ ?_ _ | (simp; done) | (simp; omega) | omega))
              · simp [go_sem, s0, s1, s2, s3, s4, s5]
              · simp [go_sem, s0, s1, s2, s3, s4, s5]
              · rw [EQ.out]; simp [go_sem, s0, s1, s2, s3, s4, s5]
              · rw [EQ.out]; simp [go_sem, s0, s1, s2, s3, s4, s5]
              · rw [EQ.out]; simp [go_sem, s0, s1, s2, s3, s4, s5]
              · simp [go_sem, s0, s1, s2, s3, s4, s5]
            case measure => simp [intOf]; omega
    · have hk' : k = cs.length := by omega
      subst hk'
      have hres := hide (manyRes_ok HP.out hc hall)
      generalize hearTo ⟨md, st, pv, ns⟩ cs cs.length = s at *
      obtain ⟨⟨mdk, stk, pvk, nsk⟩, alk⟩ := s
      dsimp only at *
      obtain ⟨ax, cx, hxf⟩ := own_form hacts.par
      obtain ⟨av, cv, hvf⟩ := row_form hacts.row
      subst hxf hvf
      have hge : ¬ ((cs.length : Int) < (cs.length : Int)) := by omega
      have HAC := hide hacts
      have HFR : Hid (Free (w.heap.size + 1) (.slice av alk.length cv) (.slice ax nsk.length cx) us) := hide (hacts.free (.inl (by omega)))
      clear hacts hfree hcode hlk
      replace k1_0 := cellk hb (by omega) k1_0
      replace k1_1 := cellk hb (by omega) k1_1
      replace k1_2 := cellk hb (by omega) k1_2
      replace k1_3 := cellk hb (by omega) k1_3
      replace k1_4 := cellk hb (by omega) k1_4
      replace k1_5 := cellk hb (by omega) k1_5
      replace f1 : ∀ o, _ = _ := fun o => (hb.frozen (p := ⟨w.heap.size + 1, o, none⟩) (show w.heap.size + 1 < w1.heap.size by omega)).trans (f1 o)
      clear hb hb3
      go_wp2
      refine bodyPost_ret (v := .agg #[.int .i64 0, .slice av alk.length cv, .int .i64 mdk, .int .i64 stk, .bool pvk, .slice ax nsk.length cx]) (by simp only [results, Try.results19]; simp [go_sem, k1_0, k1_1, k1_2, k1_3, k1_4, k1_5, c0, c1', c2', c3', c4, c5]) rfl ⟨.slice av alk.length cv, .slice ax nsk.length cx, by rw [hres.out]; rfl, ⟨us, ?_⟩, (by repeat' (first | with_reducible exact Below.refl _ _ | with_reducible assumption | with_reducible refine Below.drew ?_ | with_reducible refine Below.alloc ?_ ?_ _ | with_reducible refine Below.setCell ?_ ?_ _ | (simp; done) | (simp; omega) | omega))⟩
      rw [hres.out]
      refine Acts.base (base := w1.heap.size) ?_ (by omega)
      repeat' (first | with_reducible exact HAC.out | with_reducible refine Acts.put ?_ ?_ | with_reducible exact HFR.out)

theorem specMany_calls (md st : Int) (pv : Bool) (ns cs : List Int) (v y : Value) (w : World) (hn : ns.length ≤ maxLen) (hn2 : cs.length ≤ maxLen) (h1 : ReadAt .i64 w v ns) (h2 : ReadAt .i64 w y cs) :
    Calls Try.prog 19 #[.agg #[.int .i64 md, .int .i64 st, .bool pv, v], y] w (ManyEnds ⟨md, st, pv, ns⟩ cs w) := by
  by_cases hp : (⟨md, st, pv, ns⟩ : Par).code = 0
  · by_cases hc : 2000 < cs.length
    · exact specMany_many md st pv ns cs v y w hn hn2 h1 h2 hp hc
    · exact specMany_list md st pv ns cs v y w hn hn2 h1 h2 hp hc
  · exact specMany_code md st pv ns cs v y w hn hn2 h1 h2 hp

end Go.Proofs.Ytaljegjflkebcaa
