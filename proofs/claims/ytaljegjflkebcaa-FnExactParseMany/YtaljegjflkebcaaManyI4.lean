/-
  impl.ParseMany walked.
-/
import Derived.Test.YtaljegjflkebcaaRows
import Derived.Test.YtaljegjflkebcaaStepCode
import Derived.Test.YtaljegjflkebcaaHearFns
namespace Go.Proofs.Ytaljegjflkebcaa
open Go.ChangeShapes Go.WideShapes Go.ChangeAt Go.RowKit
set_option linter.unusedVariables false
set_option linter.unusedSimpArgs false

def manyV (r : Int × (Par × List Axn)) (v x : Value) : Value := .agg #[.int .i64 r.1, v, .int .i64 r.2.1.md, .int .i64 r.2.1.st, .bool r.2.1.pv, x]
/-- A list of actions of the call's own, and a parser's numbers. -/
def ActsAt (base : Nat) (w : World) (v x : Value) (al : List Axn) (ns : List Int) : Prop := ∃ us, Acts base w v x us al ns
def ManyEnds (p : Par) (cs : List Int) (w : World) (e : Ending) (w' : World) : Prop :=
  ∃ v x, e = .returned (manyV (manyRes p cs) v x) ∧ ActsAt w.heap.size w' v x (manyRes p cs).2.2 (manyRes p cs).2.1.ns ∧ Below w.heap.size w w'
theorem acts_zero (base : Nat) (w : World) : ActsAt base w (.slice none 0 0) (.slice none 0 0) [] [] := ⟨[], Acts.start base w (World.ownsRow_nil _ _ _ _)⟩
theorem info_acts : (Try.prog.info? 32).map (fun i => (i.zero, i.size, i.bytes)) = some (some (.agg #[.int .i64 0, .int .i64 0, .int .i64 0, .bool false, .slice none 0 0]), 5, 56) := by kernel_rfl

set_option maxHeartbeats 2000000 in
theorem implMany_code (md st : Int) (pv : Bool) (ns cs : List Int) (v y : Value) (w : World) (hn : ns.length ≤ maxLen) (hn2 : cs.length ≤ maxLen) (h1 : ReadAt .i64 w v ns) (h2 : ReadAt .i64 w y cs) (hp : ¬ (⟨md, st, pv, ns⟩ : Par).code = 0) :
    Calls Try.prog 21 #[.agg #[.int .i64 md, .int .i64 st, .bool pv, v], y] w (ManyEnds ⟨md, st, pv, ns⟩ cs w) := by
  unfold ManyEnds
  have h1' := h1
  obtain ⟨a1, c1, rfl, _⟩ := h1'
  have h2' := h2
  obtain ⟨a2, c2, rfl, _⟩ := h2'
  have hb0 : Below w.heap.size w ((w.alloc (.cells #[.int .i64 md, .int .i64 st, .bool pv, .slice a1 ns.length c1] 27)).alloc (.cells #[.int .i64 0, .slice none 0 0, .int .i64 0, .int .i64 0, .bool false, .slice none 0 0] 42)) := (by repeat' (first | with_reducible exact Below.refl _ _ | with_reducible assumption | with_reducible refine Below.drew ?_ | with_reducible refine Below.alloc ?_ ?_ _ | with_reducible refine Below.setCell ?_ ?_ _ | (simp; done) | (simp; omega) | omega))
  rw [manyRes_code hp]
  unfold manyV
  dsimp only [Par.zero]
  generalize hcd : (⟨md, st, pv, ns⟩ : Par).code = code at *
  have HCD := hide hcd
  clear hcd
  have hne : (code != 0) = true := by simpa using hp
  go_enter Try.func21, Try.ntmps21
  go_wp2_with fail
  refine (implParserFault_calls md st pv ns _ ((w.alloc (.cells #[.int .i64 md, .int .i64 st, .bool pv, .slice a1 ns.length c1] 27)).alloc (.cells #[.int .i64 0, .slice none 0 0, .int .i64 0, .int .i64 0, .bool false, .slice none 0 0] 42)) hn (h1.below hb0)).mono ?_
  rintro e w1 ⟨rfl, hb1⟩
  have k0_0 : w1.cell? ⟨w.heap.size, 0, none⟩ = some (.int .i64 md) := cellb hb1 (by simp [go_sem])
  have k0_1 : w1.cell? ⟨w.heap.size, 1, none⟩ = some (.int .i64 st) := cellb hb1 (by simp [go_sem])
  have k0_2 : w1.cell? ⟨w.heap.size, 2, none⟩ = some (.bool pv) := cellb hb1 (by simp [go_sem])
  have k0_3 : w1.cell? ⟨w.heap.size, 3, none⟩ = some (.slice a1 ns.length c1) := cellb hb1 (by simp [go_sem])
  have k1_0 : w1.cell? ⟨w.heap.size + 1, 0, none⟩ = some (.int .i64 0) := cellb hb1 (by simp [go_sem])
  have k1_1 : w1.cell? ⟨w.heap.size + 1, 1, none⟩ = some (.slice none 0 0) := cellb hb1 (by simp [go_sem])
  have k1_2 : w1.cell? ⟨w.heap.size + 1, 2, none⟩ = some (.int .i64 0) := cellb hb1 (by simp [go_sem])
  have k1_3 : w1.cell? ⟨w.heap.size + 1, 3, none⟩ = some (.int .i64 0) := cellb hb1 (by simp [go_sem])
  have k1_4 : w1.cell? ⟨w.heap.size + 1, 4, none⟩ = some (.bool false) := cellb hb1 (by simp [go_sem])
  have k1_5 : w1.cell? ⟨w.heap.size + 1, 5, none⟩ = some (.slice none 0 0) := cellb hb1 (by simp [go_sem])
  have f1 : ∀ o, w1.frozen? ⟨w.heap.size + 1, o, none⟩ = false := fun o => by rw [hb1.frozen (p := ⟨w.heap.size + 1, o, none⟩) (by simp)]; simp [go_sem]
  have hs1 : w.heap.size + 2 ≤ w1.heap.size := by have := hb1.size; simp at this; omega
  replace hb1 := hb0.trans (hb1.mono (by simp; omega))
  clear hb0
  rw [show parCode md st pv ns = code from HCD.out]
  go_wp2
  refine bodyPost_ret (v := .agg #[.int .i64 code, .slice none 0 0, .int .i64 0, .int .i64 0, .bool false, .slice none 0 0]) (by simp only [results, Try.results21]; simp [go_sem, k0_0, k0_1, k0_2, k0_3, k1_0, k1_1, k1_2, k1_3, k1_4, k1_5]) rfl ⟨_, _, rfl, acts_zero _ _, (by repeat' (first | with_reducible exact Below.refl _ _ | with_reducible assumption | with_reducible refine Below.drew ?_ | with_reducible refine Below.alloc ?_ ?_ _ | with_reducible refine Below.setCell ?_ ?_ _ | (simp; done) | (simp; omega) | omega))⟩

set_option maxHeartbeats 2000000 in
theorem implMany_many (md st : Int) (pv : Bool) (ns cs : List Int) (v y : Value) (w : World) (hn : ns.length ≤ maxLen) (hn2 : cs.length ≤ maxLen) (h1 : ReadAt .i64 w v ns) (h2 : ReadAt .i64 w y cs) (hp : (⟨md, st, pv, ns⟩ : Par).code = 0) (hc : 2000 < cs.length) :
    Calls Try.prog 21 #[.agg #[.int .i64 md, .int .i64 st, .bool pv, v], y] w (ManyEnds ⟨md, st, pv, ns⟩ cs w) := by
  unfold ManyEnds
  have h1' := h1
  obtain ⟨a1, c1, rfl, _⟩ := h1'
  have h2' := h2
  obtain ⟨a2, c2, rfl, _⟩ := h2'
  have hb0 : Below w.heap.size w ((w.alloc (.cells #[.int .i64 md, .int .i64 st, .bool pv, .slice a1 ns.length c1] 27)).alloc (.cells #[.int .i64 0, .slice none 0 0, .int .i64 0, .int .i64 0, .bool false, .slice none 0 0] 42)) := (by repeat' (first | with_reducible exact Below.refl _ _ | with_reducible assumption | with_reducible refine Below.drew ?_ | with_reducible refine Below.alloc ?_ ?_ _ | with_reducible refine Below.setCell ?_ ?_ _ | (simp; done) | (simp; omega) | omega))
  rw [manyRes_many hp hc]
  unfold manyV
  dsimp only [Par.zero]
  have hcI : (2000 : Int) < (cs.length : Int) := by omega
  go_enter Try.func21, Try.ntmps21
  go_wp2_with fail
  refine (implParserFault_calls md st pv ns _ ((w.alloc (.cells #[.int .i64 md, .int .i64 st, .bool pv, .slice a1 ns.length c1] 27)).alloc (.cells #[.int .i64 0, .slice none 0 0, .int .i64 0, .int .i64 0, .bool false, .slice none 0 0] 42)) hn (h1.below hb0)).mono ?_
  rintro e w1 ⟨rfl, hb1⟩
  have k0_0 : w1.cell? ⟨w.heap.size, 0, none⟩ = some (.int .i64 md) := cellb hb1 (by simp [go_sem])
  have k0_1 : w1.cell? ⟨w.heap.size, 1, none⟩ = some (.int .i64 st) := cellb hb1 (by simp [go_sem])
  have k0_2 : w1.cell? ⟨w.heap.size, 2, none⟩ = some (.bool pv) := cellb hb1 (by simp [go_sem])
  have k0_3 : w1.cell? ⟨w.heap.size, 3, none⟩ = some (.slice a1 ns.length c1) := cellb hb1 (by simp [go_sem])
  have k1_0 : w1.cell? ⟨w.heap.size + 1, 0, none⟩ = some (.int .i64 0) := cellb hb1 (by simp [go_sem])
  have k1_1 : w1.cell? ⟨w.heap.size + 1, 1, none⟩ = some (.slice none 0 0) := cellb hb1 (by simp [go_sem])
  have k1_2 : w1.cell? ⟨w.heap.size + 1, 2, none⟩ = some (.int .i64 0) := cellb hb1 (by simp [go_sem])
  have k1_3 : w1.cell? ⟨w.heap.size + 1, 3, none⟩ = some (.int .i64 0) := cellb hb1 (by simp [go_sem])
  have k1_4 : w1.cell? ⟨w.heap.size + 1, 4, none⟩ = some (.bool false) := cellb hb1 (by simp [go_sem])
  have k1_5 : w1.cell? ⟨w.heap.size + 1, 5, none⟩ = some (.slice none 0 0) := cellb hb1 (by simp [go_sem])
  have f1 : ∀ o, w1.frozen? ⟨w.heap.size + 1, o, none⟩ = false := fun o => by rw [hb1.frozen (p := ⟨w.heap.size + 1, o, none⟩) (by simp)]; simp [go_sem]
  have hs1 : w.heap.size + 2 ≤ w1.heap.size := by have := hb1.size; simp at this; omega
  replace hb1 := hb0.trans (hb1.mono (by simp; omega))
  clear hb0
  rw [show parCode md st pv ns = (⟨md, st, pv, ns⟩ : Par).code from rfl, hp]
  go_wp2
  refine bodyPost_ret (v := .agg #[.int .i64 2, .slice none 0 0, .int .i64 0, .int .i64 0, .bool false, .slice none 0 0]) (by simp only [results, Try.results21]; simp [go_sem, k0_0, k0_1, k0_2, k0_3, k1_0, k1_1, k1_2, k1_3, k1_4, k1_5]) rfl ⟨_, _, rfl, acts_zero _ _, (by repeat' (first | with_reducible exact Below.refl _ _ | with_reducible assumption | with_reducible refine Below.drew ?_ | with_reducible refine Below.alloc ?_ ?_ _ | with_reducible refine Below.setCell ?_ ?_ _ | (simp; done) | (simp; omega) | omega))⟩

set_option maxHeartbeats 2000000 in
theorem implMany_list (md st : Int) (pv : Bool) (ns cs : List Int) (v y : Value) (w : World) (hn : ns.length ≤ maxLen) (hn2 : cs.length ≤ maxLen) (h1 : ReadAt .i64 w v ns) (h2 : ReadAt .i64 w y cs) (hp : (⟨md, st, pv, ns⟩ : Par).code = 0) (hc : ¬ 2000 < cs.length) :
    Calls Try.prog 21 #[.agg #[.int .i64 md, .int .i64 st, .bool pv, v], y] w (ManyEnds ⟨md, st, pv, ns⟩ cs w) := by
  unfold ManyEnds
  have h1' := h1
  obtain ⟨a1, c1, rfl, _⟩ := h1'
  have h2' := h2
  obtain ⟨a2, c2, rfl, _⟩ := h2'
  have hb0 : Below w.heap.size w ((w.alloc (.cells #[.int .i64 md, .int .i64 st, .bool pv, .slice a1 ns.length c1] 27)).alloc (.cells #[.int .i64 0, .slice none 0 0, .int .i64 0, .int .i64 0, .bool false, .slice none 0 0] 42)) := (by repeat' (first | with_reducible exact Below.refl _ _ | with_reducible assumption | with_reducible refine Below.drew ?_ | with_reducible refine Below.alloc ?_ ?_ _ | with_reducible refine Below.setCell ?_ ?_ _ | (simp; done) | (simp; omega) | omega))
  have hle : ¬ ((2000 : Int) < (cs.length : Int)) := by omega
  have hlen : ns.length ≤ 6 := par_len hp
  have HP := hide hp
  go_enter Try.func21, Try.ntmps21
  go_wp2_with fail
  refine (implParserFault_calls md st pv ns _ ((w.alloc (.cells #[.int .i64 md, .int .i64 st, .bool pv, .slice a1 ns.length c1] 27)).alloc (.cells #[.int .i64 0, .slice none 0 0, .int .i64 0, .int .i64 0, .bool false, .slice none 0 0] 42)) hn (h1.below hb0)).mono ?_
  rintro e w1 ⟨rfl, hb1⟩
  have k0_0 : w1.cell? ⟨w.heap.size, 0, none⟩ = some (.int .i64 md) := cellb hb1 (by simp [go_sem])
  have k0_1 : w1.cell? ⟨w.heap.size, 1, none⟩ = some (.int .i64 st) := cellb hb1 (by simp [go_sem])
  have k0_2 : w1.cell? ⟨w.heap.size, 2, none⟩ = some (.bool pv) := cellb hb1 (by simp [go_sem])
  have k0_3 : w1.cell? ⟨w.heap.size, 3, none⟩ = some (.slice a1 ns.length c1) := cellb hb1 (by simp [go_sem])
  have k1_0 : w1.cell? ⟨w.heap.size + 1, 0, none⟩ = some (.int .i64 0) := cellb hb1 (by simp [go_sem])
  have k1_1 : w1.cell? ⟨w.heap.size + 1, 1, none⟩ = some (.slice none 0 0) := cellb hb1 (by simp [go_sem])
  have k1_2 : w1.cell? ⟨w.heap.size + 1, 2, none⟩ = some (.int .i64 0) := cellb hb1 (by simp [go_sem])
  have k1_3 : w1.cell? ⟨w.heap.size + 1, 3, none⟩ = some (.int .i64 0) := cellb hb1 (by simp [go_sem])
  have k1_4 : w1.cell? ⟨w.heap.size + 1, 4, none⟩ = some (.bool false) := cellb hb1 (by simp [go_sem])
  have k1_5 : w1.cell? ⟨w.heap.size + 1, 5, none⟩ = some (.slice none 0 0) := cellb hb1 (by simp [go_sem])
  have f1 : ∀ o, w1.frozen? ⟨w.heap.size + 1, o, none⟩ = false := fun o => by rw [hb1.frozen (p := ⟨w.heap.size + 1, o, none⟩) (by simp)]; simp [go_sem]
  have hs1 : w.heap.size + 2 ≤ w1.heap.size := by have := hb1.size; simp at this; omega
  replace hb1 := hb0.trans (hb1.mono (by simp; omega))
  clear hb0
  rw [show parCode md st pv ns = (⟨md, st, pv, ns⟩ : Par).code from rfl, hp]
  clear hp
  go_wp2_with fail
  refine (ownParser_calls md st pv ns _ _ (by omega) (h1.below hb1)).mono ?_
  rintro e w2 ⟨v', rfl, hown, hb2⟩
  obtain ⟨a3, c3, rfl⟩ := own_form hown
  replace k1_0 := cellb hb2 k1_0
  replace k1_1 := cellb hb2 k1_1
  replace k1_2 := cellb hb2 k1_2
  replace k1_3 := cellb hb2 k1_3
  replace k1_4 := cellb hb2 k1_4
  replace k1_5 := cellb hb2 k1_5
  replace f1 : ∀ o, _ = _ := fun o => (hb2.frozen (p := ⟨w.heap.size + 1, o, none⟩) (show w.heap.size + 1 < w1.heap.size by omega)).trans (f1 o)
  have hs2 := hb2.size
  have hb3 := hb1.trans (hb2.mono (by omega))
  clear hb2 hb1 h1 k0_0 k0_1 k0_2 k0_3
  go_wp2_with fail
  go_loopw [7, 25] (fun t i wr => ∃ k : Nat, k ≤ cs.length ∧ i = .int .i64 k ∧ allB cs k = true ∧ ∃ x us, Acts w1.heap.size wr t x us (hearTo ⟨md, st, pv, ns⟩ cs k).2 (hearTo ⟨md, st, pv, ns⟩ cs k).1.ns ∧ Free w2.heap.size t x us ∧ Below w1.heap.size w2 wr ∧ w2.heap.size < wr.heap.size ∧ wr.cell? ⟨w2.heap.size, 0, none⟩ = some (.int .i64 (hearTo ⟨md, st, pv, ns⟩ cs k).1.md) ∧ wr.cell? ⟨w2.heap.size, 1, none⟩ = some (.int .i64 (hearTo ⟨md, st, pv, ns⟩ cs k).1.st) ∧ wr.cell? ⟨w2.heap.size, 2, none⟩ = some (.bool (hearTo ⟨md, st, pv, ns⟩ cs k).1.pv) ∧ wr.cell? ⟨w2.heap.size, 3, none⟩ = some x ∧ ∀ o, wr.frozen? ⟨w2.heap.size, o, none⟩ = false) (fun _ i _ => cs.length - (intOf i).toNat)
  case atStart => exact ⟨0, Nat.zero_le _, rfl, rfl, _, [], (Acts.start _ _ (own_alloc hown _)), ⟨by simp [Value.ownBlock], fun h => by have := hown.lt _ h.symm; omega, by simp⟩, (Below.refl _ _).alloc hs2 _, by simp, by simp [hearTo], by simp [hearTo], by simp [hearTo], by simp [hearTo], fun o => by simp⟩
  case round =>
    obtain ⟨k, hkk, rfl, hall, x, us, hacts, hfree, hb, hsz, c0, c1', c2', c3', c4⟩ := hrel
    have hbw : Below w.heap.size w wr := hb3.trans (hb.mono (by omega))
    have hcode := (hear_fine ⟨md, st, pv, ns⟩ cs HP.out k hkk).1
    have hlk := (hear_fine ⟨md, st, pv, ns⟩ cs HP.out k hkk).2.1
    by_cases hlt : k < cs.length
    · have hltI : (k : Int) < (cs.length : Int) := by omega
      obtain ⟨b1, o1, rfl, g00⟩ := h2.spot k hlt
      have g0 := cellb hbw g00
      have hres := hide (fun h => manyRes_char HP.out hc (allB_no hlt h))
      have hal' := hide (allB_succ cs k hlt)
      have hq := hearTo_succ ⟨md, st, pv, ns⟩ cs k hlt
      generalize hearTo ⟨md, st, pv, ns⟩ cs k = s at *
      obtain ⟨⟨mdk, stk, pvk, nsk⟩, alk⟩ := s
      have HQ := hide hq
      have HAC := hide hacts
      clear g00 h2 hq
      generalize cs.getD k 0 = c at *
      dsimp only at *
      cases hch : chB c with
      | false =>
        replace k1_0 := cellk hb (by omega) k1_0
        replace k1_1 := cellk hb (by omega) k1_1
        replace k1_2 := cellk hb (by omega) k1_2
        replace k1_3 := cellk hb (by omega) k1_3
        replace k1_4 := cellk hb (by omega) k1_4
        replace k1_5 := cellk hb (by omega) k1_5
        replace f1 : ∀ o, _ = _ := fun o => (hb.frozen (p := ⟨w.heap.size + 1, o, none⟩) (show w.heap.size + 1 < w1.heap.size by omega)).trans (f1 o)
        go_wp2_with fail
        refine (isChar_calls c _).mono ?_
        rintro e w9 ⟨rfl, hw9⟩
        rw [hw9, hch]
        clear hw9 w9
        clear hb3 hb
        go_wp2
        refine bodyPost_ret (v := .agg #[.int .i64 3, .slice none 0 0, .int .i64 0, .int .i64 0, .bool false, .slice none 0 0]) (by simp only [results, Try.results21]; simp [go_sem, k1_0, k1_1, k1_2, k1_3, k1_4, k1_5]) rfl ⟨_, _, by rw [hres.out hch]; rfl, by rw [hres.out hch]; exact acts_zero _ _, (by repeat' (first | with_reducible exact Below.refl _ _ | with_reducible assumption | with_reducible refine Below.drew ?_ | with_reducible refine Below.alloc ?_ ?_ _ | with_reducible refine Below.setCell ?_ ?_ _ | (simp; done) | (simp; omega) | omega))⟩
      | true =>
        have hC := fun W h1 h2 => hear_calls ⟨mdk, stk, pvk, nsk⟩ c w1.heap.size x W hcode h1 h2
        unfold HearPost at hC
        have hq := HQ.out
        unfold hear1 at hq
        dsimp only at hq
        clear HQ
        generalize stepPA ⟨mdk, stk, pvk, nsk⟩ c = q at *
        obtain ⟨⟨md', st', pv', ns'⟩, ⟨kd, ch, st2, pv2, al⟩⟩ := q
        unfold parV axnV at hC
        dsimp only at *
        have HC := hide hC
        have HQ := hide hq
        clear hC hq
        obtain ⟨ax, cx, hxf⟩ := own_form hacts.par
        obtain ⟨av, cv, hvf⟩ := row_form hacts.row
        subst hxf hvf
        clear hacts
        go_wp2_with fail
        refine (isChar_calls c _).mono ?_
        rintro e w9 ⟨rfl, hw9⟩
        rw [hw9, hch]
        clear hw9 w9
        go_wp2_with fail
        refine (HC.out _ (by simp; omega) (own_alloc HAC.out.par _)).mono ?_
        rintro e w4 ⟨x', u', rfl, hx2, hu, hgr, hfx, hfu, hor⟩
        obtain ⟨a4, c4x, rfl⟩ := own_form hx2
        obtain ⟨a5, c5, rfl⟩ := own_form hu
        have hal : Below wr.heap.size wr (wr.alloc (.cells #[.int .i64 0, .int .i64 0, .int .i64 0, .bool false, .slice none 0 0] 32)) := (by repeat' (first | with_reducible exact Below.refl _ _ | with_reducible assumption | with_reducible refine Below.drew ?_ | with_reducible refine Below.alloc ?_ ?_ _ | with_reducible refine Below.setCell ?_ ?_ _ | (simp; done) | (simp; omega) | omega))
        have hxv : some w2.heap.size ≠ (Value.slice ax nsk.length cx).ownBlock := hfree.fx
        have hxB : some wr.heap.size ≠ (Value.slice ax nsk.length cx).ownBlock := fun h => by have := HAC.out.par.lt _ h.symm; omega
        have t0 : w4.cell? ⟨w2.heap.size, 0, none⟩ = some (.int .i64 mdk) := (World.cell?_of_block (w := (wr.alloc (.cells #[.int .i64 0, .int .i64 0, .int .i64 0, .bool false, .slice none 0 0] 32))) (a := ⟨w2.heap.size, 0, none⟩) (hgr.block w2.heap.size (by simp; omega) hxv)).trans (cellb hal c0)
        have t1 : w4.cell? ⟨w2.heap.size, 1, none⟩ = some (.int .i64 stk) := (World.cell?_of_block (w := (wr.alloc (.cells #[.int .i64 0, .int .i64 0, .int .i64 0, .bool false, .slice none 0 0] 32))) (a := ⟨w2.heap.size, 1, none⟩) (hgr.block w2.heap.size (by simp; omega) hxv)).trans (cellb hal c1')
        have t2 : w4.cell? ⟨w2.heap.size, 2, none⟩ = some (.bool pvk) := (World.cell?_of_block (w := (wr.alloc (.cells #[.int .i64 0, .int .i64 0, .int .i64 0, .bool false, .slice none 0 0] 32))) (a := ⟨w2.heap.size, 2, none⟩) (hgr.block w2.heap.size (by simp; omega) hxv)).trans (cellb hal c2')
        have t3 : w4.cell? ⟨w2.heap.size, 3, none⟩ = some (.slice ax nsk.length cx) := (World.cell?_of_block (w := (wr.alloc (.cells #[.int .i64 0, .int .i64 0, .int .i64 0, .bool false, .slice none 0 0] 32))) (a := ⟨w2.heap.size, 3, none⟩) (hgr.block w2.heap.size (by simp; omega) hxv)).trans (cellb hal c3')
        have tf : ∀ o, w4.frozen? ⟨w2.heap.size, o, none⟩ = false := fun o => (World.frozen?_of_block (w := (wr.alloc (.cells #[.int .i64 0, .int .i64 0, .int .i64 0, .bool false, .slice none 0 0] 32))) (a := ⟨w2.heap.size, o, none⟩) (hgr.block w2.heap.size (by simp; omega) hxv)).trans ((hal.frozen (p := ⟨w2.heap.size, o, none⟩) hsz).trans (c4 o))
        have u0 : w4.cell? ⟨wr.heap.size, 0, none⟩ = some (.int .i64 0) := (World.cell?_of_block (w := (wr.alloc (.cells #[.int .i64 0, .int .i64 0, .int .i64 0, .bool false, .slice none 0 0] 32))) (a := ⟨wr.heap.size, 0, none⟩) (hgr.block wr.heap.size (by simp) hxB)).trans (by simp [go_sem])
        have u1 : w4.cell? ⟨wr.heap.size, 1, none⟩ = some (.int .i64 0) := (World.cell?_of_block (w := (wr.alloc (.cells #[.int .i64 0, .int .i64 0, .int .i64 0, .bool false, .slice none 0 0] 32))) (a := ⟨wr.heap.size, 1, none⟩) (hgr.block wr.heap.size (by simp) hxB)).trans (by simp [go_sem])
        have u2 : w4.cell? ⟨wr.heap.size, 2, none⟩ = some (.int .i64 0) := (World.cell?_of_block (w := (wr.alloc (.cells #[.int .i64 0, .int .i64 0, .int .i64 0, .bool false, .slice none 0 0] 32))) (a := ⟨wr.heap.size, 2, none⟩) (hgr.block wr.heap.size (by simp) hxB)).trans (by simp [go_sem])
        have u3 : w4.cell? ⟨wr.heap.size, 3, none⟩ = some (.bool false) := (World.cell?_of_block (w := (wr.alloc (.cells #[.int .i64 0, .int .i64 0, .int .i64 0, .bool false, .slice none 0 0] 32))) (a := ⟨wr.heap.size, 3, none⟩) (hgr.block wr.heap.size (by simp) hxB)).trans (by simp [go_sem])
        have u4 : w4.cell? ⟨wr.heap.size, 4, none⟩ = some (.slice none 0 0) := (World.cell?_of_block (w := (wr.alloc (.cells #[.int .i64 0, .int .i64 0, .int .i64 0, .bool false, .slice none 0 0] 32))) (a := ⟨wr.heap.size, 4, none⟩) (hgr.block wr.heap.size (by simp) hxB)).trans (by simp [go_sem])
        have uf : ∀ o, w4.frozen? ⟨wr.heap.size, o, none⟩ = false := fun o => (World.frozen?_of_block (w := (wr.alloc (.cells #[.int .i64 0, .int .i64 0, .int .i64 0, .bool false, .slice none 0 0] 32))) (a := ⟨wr.heap.size, o, none⟩) (hgr.block wr.heap.size (by simp) hxB)).trans (by simp [go_sem])
        have hs4 : wr.heap.size < w4.heap.size := by have := hgr.size; simp at this; omega
        have lt1 : w2.heap.size < w4.heap.size := by omega
        have neTB : ¬ (w2.heap.size = wr.heap.size) := by omega
        have neBT : ¬ (wr.heap.size = w2.heap.size) := by omega
        have hb4 : Below w1.heap.size w2 w4 := hb.trans ((hal.mono (by omega)).trans ((Below.refl _ _).grown hgr (by simp; omega) (fun b h => (HAC.out.par.lt b h).1)))
        have HA4 := hide ((HAC.out.alloc _).step hgr hx2 hfx)
        have HF4 := hide (Free.step (base := 0) hfx hfree (by simp; omega))
        have HFB : Hid (Free wr.heap.size (.slice av alk.length cv) (.slice a4 ns'.length c4x) us) := hide (Free.step (base := 0) hfx (HAC.out.free (.inr (Nat.le_refl _))) (by simp))
        have HU := hide hu
        have HUX : Hid (Apart (.slice a5 al.length c5) (.slice a4 ns'.length c4x)) := hide (by rcases hor with h | h; rw [h]; exact (Apart.nil _).symm; rw [h]; exact Apart.nil _)
        have HUV : Hid (Apart (.slice a5 al.length c5) (.slice av alk.length cv)) := hide (from_apart hfu HAC.out.xv (fun k hk => by have := (HAC.out.row.lt k hk).2; simp; omega))
        have HUU : Hid (∀ y ∈ us, Apart (.slice a5 al.length c5) y) := hide (fun y hy => from_apart hfu (HAC.out.xu y hy) (fun k hk => by have := (HAC.out.ltu hy hk).2; simp; omega))
        have HUT : Hid (some w2.heap.size ≠ (Value.slice a5 al.length c5).ownBlock) := hide (fun h => by rcases hfu _ h.symm with k | k; exact hfree.fx k.symm; simp at k; omega)
        have HUB : Hid (some wr.heap.size ≠ (Value.slice a5 al.length c5).ownBlock) := hide (fun h => by rcases hfu _ h.symm with k | k; exact hxB k.symm; simp at k; omega)
        clear hgr hfx hfu hx2 hu hal hxv hxB hor HC hfree c0 c1' c2' c3' c4 hb HAC g0 hcode
        by_cases hkd : kd = 0
        · have hne : (kd != 0) = false := by simpa using hkd
          have eQ := HQ.out
          rw [if_pos hkd] at eQ
          have EQ := hide eQ
          clear eQ HQ
          subst hkd
          go_wp2
          go_roundw
          case rel =>
            refine ⟨k + 1, by omega, by go_num, by rw [hal'.out, hall, hch]; rfl, .slice a4 ns'.length c4x, us, ?_, HF4.out, ?_, by simpa [World.setCell] using lt1, ?_, ?_, ?_, ?_, fun o => by simpa using tf o⟩
            · rw [EQ.out]
              repeat' (first | with_reducible exact HA4.out | with_reducible refine Acts.put ?_ ?_ | with_reducible exact HF4.out | with_reducible exact HFB.out)
            · exact (by repeat' (first | with_reducible exact Below.refl _ _ | with_reducible assumption | with_reducible refine Below.drew ?_ | with_reducible refine Below.alloc ?_ ?_ _ | with_reducible refine Below.setCell ?_ ?_ _ | (simp; done) | (simp; omega) | omega))
            · rw [EQ.out]; simp [go_sem, neTB, neBT, t0, t1, t2, t3, u0, u1, u2, u3, u4]
            · rw [EQ.out]; simp [go_sem, neTB, neBT, t0, t1, t2, t3, u0, u1, u2, u3, u4]
            · rw [EQ.out]; simp [go_sem, neTB, neBT, t0, t1, t2, t3, u0, u1, u2, u3, u4]
            · simp [go_sem, neTB, neBT, t0, t1, t2, t3, u0, u1, u2, u3, u4]
          case measure => simp [intOf]; omega
        · have hne : (kd != 0) = true := by simpa using hkd
          have eQ := HQ.out
          rw [if_neg hkd] at eQ
          have EQ := hide eQ
          clear eQ HQ
          obtain ⟨i0, hi, hz0, hz1, hz2⟩ := info_parts info_acts
          have HA5 : Hid (Acts w1.heap.size ((((((((((w4.setCell ⟨w2.heap.size, 0, none⟩ (.int .i64 md')).setCell ⟨w2.heap.size, 1, none⟩ (.int .i64 st')).setCell ⟨w2.heap.size, 2, none⟩ (.bool pv')).setCell ⟨w2.heap.size, 3, none⟩ (.slice a4 ns'.length c4x)).setCell ⟨wr.heap.size, 0, none⟩ (.int .i64 kd)).setCell ⟨wr.heap.size, 1, none⟩ (.int .i64 ch)).setCell ⟨wr.heap.size, 2, none⟩ (.int .i64 st2)).setCell ⟨wr.heap.size, 3, none⟩ (.bool pv2)).setCell ⟨wr.heap.size, 4, none⟩ (.slice a5 al.length c5)).alloc (.cells #[.int .i64 kd, .int .i64 ch, .int .i64 st2, .bool pv2, .slice a5 al.length c5] 32)) (.slice av alk.length cv) (.slice a4 ns'.length c4x) us alk ns') := hide (by repeat' (first | with_reducible exact HA4.out | with_reducible refine Acts.alloc ?_ _ | with_reducible refine Acts.put ?_ ?_ | with_reducible exact HF4.out | with_reducible exact HFB.out))
          have HU5 : Hid (((((((((((w4.setCell ⟨w2.heap.size, 0, none⟩ (.int .i64 md')).setCell ⟨w2.heap.size, 1, none⟩ (.int .i64 st')).setCell ⟨w2.heap.size, 2, none⟩ (.bool pv')).setCell ⟨w2.heap.size, 3, none⟩ (.slice a4 ns'.length c4x)).setCell ⟨wr.heap.size, 0, none⟩ (.int .i64 kd)).setCell ⟨wr.heap.size, 1, none⟩ (.int .i64 ch)).setCell ⟨wr.heap.size, 2, none⟩ (.int .i64 st2)).setCell ⟨wr.heap.size, 3, none⟩ (.bool pv2)).setCell ⟨wr.heap.size, 4, none⟩ (.slice a5 al.length c5)).alloc (.cells #[.int .i64 kd, .int .i64 ch, .int .i64 st2, .bool pv2, .slice a5 al.length c5] 32)).ownsRow w1.heap.size 2 1 (.slice a5 al.length c5) al.length (intsV al)) := hide (by repeat' (first | with_reducible exact HU.out | with_reducible refine own_alloc ?_ _ | with_reducible refine own_setCell ?_ ?_ | with_reducible exact HUT.out | with_reducible exact HUB.out))
          have hb5 : Below w1.heap.size w2 ((((((((((w4.setCell ⟨w2.heap.size, 0, none⟩ (.int .i64 md')).setCell ⟨w2.heap.size, 1, none⟩ (.int .i64 st')).setCell ⟨w2.heap.size, 2, none⟩ (.bool pv')).setCell ⟨w2.heap.size, 3, none⟩ (.slice a4 ns'.length c4x)).setCell ⟨wr.heap.size, 0, none⟩ (.int .i64 kd)).setCell ⟨wr.heap.size, 1, none⟩ (.int .i64 ch)).setCell ⟨wr.heap.size, 2, none⟩ (.int .i64 st2)).setCell ⟨wr.heap.size, 3, none⟩ (.bool pv2)).setCell ⟨wr.heap.size, 4, none⟩ (.slice a5 al.length c5)).alloc (.cells #[.int .i64 kd, .int .i64 ch, .int .i64 st2, .bool pv2, .slice a5 al.length c5] 32)) := (by repeat' (first | with_reducible exact Below.refl _ _ | with_reducible assumption | with_reducible refine Below.drew ?_ | with_reducible refine Below.alloc ?_ ?_ _ | with_reducible refine Below.setCell ?_ ?_ _ | (simp; done) | (simp; omega) | omega))
          go_wp2_with (at_builtin; refine wpList_append_grow _ rfl (.tmp 42) (.tmp 44) 40 rfl w1.heap.size 32 i0 (.agg #[.int .i64 0, .int .i64 0, .int .i64 0, .bool false, .slice none 0 0]) 5 56 Try.underlying40 hi hz0 hz1 hz2 rfl (by decide) (.slice av alk.length cv) alk.length (cellsOf alk us) rfl HA5.out.row ⟨w4.heap.size, 0, none⟩ 1 1 (cells5 ⟨kd, ch, st2, pv2, al⟩ (.slice a5 al.length c5)) rfl rfl (new_row_at (by simp [World.setCell]) rfl) (by intro u hu; simp [cells5] at hu; rcases hu with rfl | rfl | rfl | rfl | rfl <;> rfl) (by unfold maxLen; omega) (by omega) (by simp [World.setCell]; omega) ?_)
          intro v6 w6 hown6 hgrow6
          have hlt5 : w2.heap.size < ((((((((((w4.setCell ⟨w2.heap.size, 0, none⟩ (.int .i64 md')).setCell ⟨w2.heap.size, 1, none⟩ (.int .i64 st')).setCell ⟨w2.heap.size, 2, none⟩ (.bool pv')).setCell ⟨w2.heap.size, 3, none⟩ (.slice a4 ns'.length c4x)).setCell ⟨wr.heap.size, 0, none⟩ (.int .i64 kd)).setCell ⟨wr.heap.size, 1, none⟩ (.int .i64 ch)).setCell ⟨wr.heap.size, 2, none⟩ (.int .i64 st2)).setCell ⟨wr.heap.size, 3, none⟩ (.bool pv2)).setCell ⟨wr.heap.size, 4, none⟩ (.slice a5 al.length c5)).alloc (.cells #[.int .i64 kd, .int .i64 ch, .int .i64 st2, .bool pv2, .slice a5 al.length c5] 32)).heap.size := by simp [World.setCell]; omega
          have s0 : w6.cell? ⟨w2.heap.size, 0, none⟩ = some (.int .i64 md') := (hgrow6.cell hlt5 HF4.out.fv).trans (by simp [go_sem, neTB, neBT, t0, t1, t2, t3, u0, u1, u2, u3, u4, lt1, hs4])
          have s1 : w6.cell? ⟨w2.heap.size, 1, none⟩ = some (.int .i64 st') := (hgrow6.cell hlt5 HF4.out.fv).trans (by simp [go_sem, neTB, neBT, t0, t1, t2, t3, u0, u1, u2, u3, u4, lt1, hs4])
          have s2 : w6.cell? ⟨w2.heap.size, 2, none⟩ = some (.bool pv') := (hgrow6.cell hlt5 HF4.out.fv).trans (by simp [go_sem, neTB, neBT, t0, t1, t2, t3, u0, u1, u2, u3, u4, lt1, hs4])
          have s3 : w6.cell? ⟨w2.heap.size, 3, none⟩ = some (.slice a4 ns'.length c4x) := (hgrow6.cell hlt5 HF4.out.fv).trans (by simp [go_sem, neTB, neBT, t0, t1, t2, t3, u0, u1, u2, u3, u4, lt1, hs4])
          have sf : ∀ o, w6.frozen? ⟨w2.heap.size, o, none⟩ = false := fun o => (hgrow6.frozen hlt5 HF4.out.fv).trans (by simp [go_sem, tf, lt1])
          have HA6 := hide (HA5.out.more (a := ⟨kd, ch, st2, pv2, al⟩) HU5.out hown6 hgrow6 HUX.out HUV.out HUU.out)
          have HF6 := hide (HF4.out.more hgrow6 hlt5 HUT.out)
          have hs6 : w2.heap.size < w6.heap.size := Nat.lt_of_lt_of_le hlt5 hgrow6.grown.size
          have hb6 : Below w1.heap.size w2 w6 := hb5.trans (hgrow6.below (by simp [World.setCell]; omega) HA5.out.row.lt)
          clear hown6 hgrow6 HA5 HU5 hb5 HA4 hb4 HU HUX HUV HUU HUT HUB HFB HF4 t0 t1 t2 t3 tf u0 u1 u2 u3 u4 uf
          go_wp2
          go_roundw
          case rel =>
            refine ⟨k + 1, by omega, by go_num, by rw [hal'.out, hall, hch]; rfl, .slice a4 ns'.length c4x, us ++ [.slice a5 al.length c5], ?_, HF6.out, ?_, hs6, ?_, ?_, ?_, ?_, fun o => sf o⟩
            · rw [EQ.out]; exact HA6.out
            · exact hb6
            · rw [EQ.out]; exact s0
            · rw [EQ.out]; exact s1
            · rw [EQ.out]; exact s2
            · exact s3
          case measure => simp [intOf]; omega
    · have hk' : k = cs.length := by omega
      subst hk'
      have hres := hide (manyRes_ok HP.out hc hall)
      generalize hearTo ⟨md, st, pv, ns⟩ cs cs.length = s at *
      obtain ⟨⟨mdk, stk, pvk, nsk⟩, alk⟩ := s
      dsimp only at *
      obtain ⟨ax, cx, hxf⟩ := own_form hacts.par
      obtain ⟨av, cv, hvf⟩ := row_form hacts.row
      subst hxf hvf
      have hge : ¬ ((cs.length : Int) < (cs.length : Int)) := by omega
      have HAC := hide hacts
      have HFR : Hid (Free (w.heap.size + 1) (.slice av alk.length cv) (.slice ax nsk.length cx) us) := hide (hacts.free (.inl (by omega)))
      clear hacts hfree hcode hlk
      replace k1_0 := cellk hb (by omega) k1_0
      replace k1_1 := cellk hb (by omega) k1_1
      replace k1_2 := cellk hb (by omega) k1_2
      replace k1_3 := cellk hb (by omega) k1_3
      replace k1_4 := cellk hb (by omega) k1_4
      replace k1_5 := cellk hb (by omega) k1_5
      replace f1 : ∀ o, _ = _ := fun o => (hb.frozen (p := ⟨w.heap.size + 1, o, none⟩) (show w.heap.size + 1 < w1.heap.size by omega)).trans (f1 o)
      clear hb hb3
      go_wp2
      refine bodyPost_ret (v := .agg #[.int .i64 0, .slice av alk.length cv, .int .i64 mdk, .int .i64 stk, .bool pvk, .slice ax nsk.length cx]) (by simp only [results, Try.results21]; simp [go_sem, k1_0, k1_1, k1_2, k1_3, k1_4, k1_5, c0, c1', c2', c3']) rfl ⟨.slice av alk.length cv, .slice ax nsk.length cx, by rw [hres.out]; rfl, ⟨us, ?_⟩, (by repeat' (first | with_reducible exact Below.refl _ _ | with_reducible assumption | with_reducible refine Below.drew ?_ | with_reducible refine Below.alloc ?_ ?_ _ | with_reducible refine Below.setCell ?_ ?_ _ | (simp; done) | (simp; omega) | omega))⟩
      rw [hres.out]
      refine Acts.base (base := w1.heap.size) ?_ (by omega)
      repeat' (first | with_reducible exact HAC.out | with_reducible refine Acts.put ?_ ?_ | with_reducible exact HFR.out)

theorem implMany_calls (md st : Int) (pv : Bool) (ns cs : List Int) (v y : Value) (w : World) (hn : ns.length ≤ maxLen) (hn2 : cs.length ≤ maxLen) (h1 : ReadAt .i64 w v ns) (h2 : ReadAt .i64 w y cs) :
    Calls Try.prog 21 #[.agg #[.int .i64 md, .int .i64 st, .bool pv, v], y] w (ManyEnds ⟨md, st, pv, ns⟩ cs w) := by
  by_cases hp : (⟨md, st, pv, ns⟩ : Par).code = 0
  · by_cases hc : 2000 < cs.length
    · exact implMany_many md st pv ns cs v y w hn hn2 h1 h2 hp hc
    · exact implMany_list md st pv ns cs v y w hn hn2 h1 h2 hp hc
  · exact implMany_code md st pv ns cs v y w hn hn2 h1 h2 hp

end Go.Proofs.Ytaljegjflkebcaa
