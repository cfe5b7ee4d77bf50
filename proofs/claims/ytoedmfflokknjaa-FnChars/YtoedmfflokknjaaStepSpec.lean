/-
  What a byte does to a decoder: the plain functions; the model's l1Fresh and l1Step, walked.
-/
import Derived.Test.YtoedmfflokknjaaRows
import Derived.Test.YtoedmfflokknjaaFaults
import Derived.Test.YtoedmfflokknjaaChars
import Derived.Deep.RegionLaw
import Derived.RegionTactic
namespace Go.Proofs.Ytoedmfflokknjaa
open Go.ChangeShapes Go.WideShapes Go.ChangeAt Go.RowKit
set_option linter.unusedVariables false
set_option linter.unusedSimpArgs false

def freshT (b : Int) : List Int := if b < 128 then [b] else if 194 ≤ b ∧ b ≤ 239 then [] else [65533]
def freshL (b : Int) : Int := if 194 ≤ b ∧ b ≤ 223 then 1 else if 224 ≤ b ∧ b ≤ 239 then 2 else 0
def freshLo (b : Int) : Int := if 194 ≤ b ∧ b ≤ 223 then 128 else if 224 ≤ b ∧ b ≤ 239 then 2048 else 0
def freshV (b : Int) : Int := if 194 ≤ b ∧ b ≤ 223 then b - 192 else if 224 ≤ b ∧ b ≤ 239 then b - 224 else 0
def stepT (l lo v b : Int) : List Int := if l = 0 then freshT b else if b < 128 ∨ 191 < b then 65533 :: freshT b else if l = 2 then [] else if chB (64 * v + b - 128) = true ∧ lo ≤ 64 * v + b - 128 then [64 * v + b - 128] else [65533]
def stepL (l lo v b : Int) : Int := if l = 0 ∨ b < 128 ∨ 191 < b then freshL b else if l = 2 then 1 else 0
def stepLo (l lo v b : Int) : Int := if l = 0 ∨ b < 128 ∨ 191 < b then freshLo b else if l = 2 then lo else 0
def stepV (l lo v b : Int) : Int := if l = 0 ∨ b < 128 ∨ 191 < b then freshV b else if l = 2 then 64 * v + b - 128 else 0

theorem freshT_length (b : Int) : (freshT b).length ≤ 1 := by unfold freshT; split <;> (try split) <;> simp
theorem stepT_length (l lo v b : Int) : (stepT l lo v b).length ≤ 2 := by
  have := freshT_length b
  unfold stepT; split
  · omega
  · split
    · simp; omega
    · split
      · simp
      · split <;> simp

set_option maxHeartbeats 400000 in
theorem l1In_calls (x a b : Int) (w : World) :
    Calls Try.prog 43 #[.int .i64 x, .int .i64 a, .int .i64 b] w fun e w' => e = .returned (.bool (decide (a ≤ x) && decide (x ≤ b))) ∧ w' = w := by
  go_enter Try.func43, Try.ntmps43
  go_wp2
  all_goals go_ret
  all_goals refine ⟨ret_bool ?_, rfl⟩
  all_goals (rw [Bool.eq_iff_iff]; simp; try omega)

theorem own_some {w : World} {base n size : Nat} {e : TypeId} {v : Value} {xs : List Value} (h : w.ownsRow base e size v n xs) (hn : 0 < n) : ∃ ad m c, v = .slice (some ad) m c := by
  rcases h.2 with ⟨_, h0⟩ | ⟨g, cap, cur, hv, _⟩
  · omega
  · exact ⟨_, _, _, hv⟩
/-- An append to a row of the call's own, as one step of a region that draws its order. -/
theorem step_append_own {P : Program} {ops : Array Oper} {o : Oper} {a : Act} {w : World} {K : Act → World → Prop} {Q : Exit → Act → World → Prop} {E : Prop}
    (hg : o.guard = none) (s x : Operand) (t : TypeId) (hop : o.op = Op.call { callee := Callee.builtin Builtin.append, args := #[s, x], argTypes := #[t, t] })
    (base : Nat) (e : TypeId) (i : TypeInfo) (z : Value) (size bytes : Nat) (h1 : P.underlying t = some (.slice e)) (h2 : P.info? e = some i) (h3 : i.zero = some z) (h4 : i.size = size) (h5 : i.bytes = bytes) (h6 : z.cells.size = size) (h7 : 0 < size)
    (v : Value) (n : Nat) (xs : List Value) (hs : a.eval s = v) (hown : w.ownsRow base e size v n xs)
    (ad : Addr) (m c : Nat) (news : List Value) (hx : a.eval x = .slice (some ad) m c) (hn : news.length = m * size) (hc : ∀ j u, news[j]? = some u → w.cell? (ad.add j) = some u) (h1c : ∀ u ∈ news, u.oneCell' = true)
    (b1 : n + m ≤ maxLen) (b2 : (n + m) * bytes ≤ 140737488355328) (hbase : base ≤ w.heap.size)
    (hK : ∀ v' w', w'.ownsRow base e size v' (n + m) (xs ++ news) → w.grownBy w' v.ownBlock → K (a.put o.dst v') w') :
    if Region.wanted o (yielded ops a.tmps) = true then Oper.wp P o a w K Q else E := by
  have hw : Region.wanted o (yielded ops a.tmps) = true := by simp [Region.wanted, hg]
  rw [if_pos hw]
  obtain ⟨v', w', hrun, r1, r2, _⟩ := run_append_own (P := P) w base t o.type e i z size bytes h1 h2 h3 h4 h5 h6 h7 v n xs hown ad m c news hn hc h1c b1 b2 hbase
  unfold Oper.wp
  simp [execOp, hop, resolve, invoke, builtin, hs, hx, hrun, Result.andThen]
  exact hK v' w' r1 r2

/-- A row of int64 that lies new, from its first cell on. -/
theorem ints_new {w : World} {lo g hi n : Nat} (C : Array Value) {t : TypeId} (xs : List Int) (hC : C.toList = xs.map (Value.int .i64)) (hn : n = xs.length) (hg : g = w.heap.size) (h : lo ≤ g) (hh : g < hi) : IntsAt .i64 lo hi (w.alloc (.cells C t)) (.slice (some ⟨g, 0, none⟩) n n) xs := by
  subst hg hn
  refine ⟨_, _, rfl, .inr ⟨w.heap.size, 0, rfl, h, hh, fun i hi => ⟨?_, ?_⟩⟩⟩
  · rw [World.cell?_alloc_mark, ← Array.getElem?_toList, hC]
    simp [hi]
  · simp

set_option maxHeartbeats 1000000 in
theorem l1Fresh_calls (b : Int) (w : World) (h0 : 0 ≤ b) (h1 : b ≤ 255) :
    Calls Try.prog 44 #[.int .i64 b] w fun e w' => ∃ g, e = .returned (.tuple #[.slice (some ⟨g, 0, none⟩) (freshT b).length (freshT b).length, .agg #[.int .i64 (freshL b), .int .i64 (freshLo b), .int .i64 (freshV b)]]) ∧ IntsAt .i64 w.heap.size w'.heap.size w' (.slice (some ⟨g, 0, none⟩) (freshT b).length (freshT b).length) (freshT b) ∧ Below w.heap.size w w' := by
  by_cases c1 : b < 128
  · have eT : freshT b = [b] := by unfold freshT; repeat (first | rw [if_pos (by omega)] | rw [if_neg (by omega)])
    have eL : freshL b = 0 := by unfold freshL; repeat (first | rw [if_pos (by omega)] | rw [if_neg (by omega)])
    have eLo : freshLo b = 0 := by unfold freshLo; repeat (first | rw [if_pos (by omega)] | rw [if_neg (by omega)])
    have eV : freshV b = 0 := by unfold freshV; repeat (first | rw [if_pos (by omega)] | rw [if_neg (by omega)])
    rw [eT, eL, eLo, eV]
    clear eT eL eLo eV
    go_enter Try.func44, Try.ntmps44
    go_wp2
    refine bodyPost_ret (v := .tuple #[.slice (some ⟨w.heap.size + 1, 0, none⟩) 1 1, .agg #[.int .i64 (0), .int .i64 (0), .int .i64 (0)]]) (by simp [results, Try.results44, go_sem]) rfl ⟨_, rfl, ?_, (by repeat' (first | with_reducible exact Below.refl _ _ | with_reducible assumption | with_reducible refine Below.drew ?_ | with_reducible refine Below.alloc ?_ ?_ _ | with_reducible refine Below.setCell ?_ ?_ _ | (simp; done) | (simp; omega) | omega))⟩
    exact ints_new _ _ rfl rfl (by simp) (by omega) (by simp)
  by_cases c2 : b < 194
  · have eT : freshT b = [65533] := by unfold freshT; repeat (first | rw [if_pos (by omega)] | rw [if_neg (by omega)])
    have eL : freshL b = 0 := by unfold freshL; repeat (first | rw [if_pos (by omega)] | rw [if_neg (by omega)])
    have eLo : freshLo b = 0 := by unfold freshLo; repeat (first | rw [if_pos (by omega)] | rw [if_neg (by omega)])
    have eV : freshV b = 0 := by unfold freshV; repeat (first | rw [if_pos (by omega)] | rw [if_neg (by omega)])
    rw [eT, eL, eLo, eV]
    clear eT eL eLo eV
    go_enter Try.func44, Try.ntmps44
    go_wp2
    refine bodyPost_ret (v := .tuple #[.slice (some ⟨w.heap.size + 1, 0, none⟩) 1 1, .agg #[.int .i64 (0), .int .i64 (0), .int .i64 (0)]]) (by simp [results, Try.results44, go_sem]) rfl ⟨_, rfl, ?_, (by repeat' (first | with_reducible exact Below.refl _ _ | with_reducible assumption | with_reducible refine Below.drew ?_ | with_reducible refine Below.alloc ?_ ?_ _ | with_reducible refine Below.setCell ?_ ?_ _ | (simp; done) | (simp; omega) | omega))⟩
    exact ints_new _ _ rfl rfl (by simp) (by omega) (by simp)
  by_cases c3 : b < 224
  · have eT : freshT b = [] := by unfold freshT; repeat (first | rw [if_pos (by omega)] | rw [if_neg (by omega)])
    have eL : freshL b = 1 := by unfold freshL; repeat (first | rw [if_pos (by omega)] | rw [if_neg (by omega)])
    have eLo : freshLo b = 128 := by unfold freshLo; repeat (first | rw [if_pos (by omega)] | rw [if_neg (by omega)])
    have eV : freshV b = b - 192 := by unfold freshV; repeat (first | rw [if_pos (by omega)] | rw [if_neg (by omega)])
    rw [eT, eL, eLo, eV]
    clear eT eL eLo eV
    go_enter Try.func44, Try.ntmps44
    go_wp2
    refine bodyPost_ret (v := .tuple #[.slice (some ⟨w.heap.size + 1, 0, none⟩) 0 0, .agg #[.int .i64 (1), .int .i64 (128), .int .i64 (b - 192)]]) (by simp [results, Try.results44, go_sem]) rfl ⟨_, rfl, ?_, (by repeat' (first | with_reducible exact Below.refl _ _ | with_reducible assumption | with_reducible refine Below.drew ?_ | with_reducible refine Below.alloc ?_ ?_ _ | with_reducible refine Below.setCell ?_ ?_ _ | (simp; done) | (simp; omega) | omega))⟩
    exact ints_new _ _ rfl rfl (by simp) (by omega) (by simp)
  by_cases c4 : b < 240
  · have eT : freshT b = [] := by unfold freshT; repeat (first | rw [if_pos (by omega)] | rw [if_neg (by omega)])
    have eL : freshL b = 2 := by unfold freshL; repeat (first | rw [if_pos (by omega)] | rw [if_neg (by omega)])
    have eLo : freshLo b = 2048 := by unfold freshLo; repeat (first | rw [if_pos (by omega)] | rw [if_neg (by omega)])
    have eV : freshV b = b - 224 := by unfold freshV; repeat (first | rw [if_pos (by omega)] | rw [if_neg (by omega)])
    rw [eT, eL, eLo, eV]
    clear eT eL eLo eV
    go_enter Try.func44, Try.ntmps44
    go_wp2
    refine bodyPost_ret (v := .tuple #[.slice (some ⟨w.heap.size + 1, 0, none⟩) 0 0, .agg #[.int .i64 (2), .int .i64 (2048), .int .i64 (b - 224)]]) (by simp [results, Try.results44, go_sem]) rfl ⟨_, rfl, ?_, (by repeat' (first | with_reducible exact Below.refl _ _ | with_reducible assumption | with_reducible refine Below.drew ?_ | with_reducible refine Below.alloc ?_ ?_ _ | with_reducible refine Below.setCell ?_ ?_ _ | (simp; done) | (simp; omega) | omega))⟩
    exact ints_new _ _ rfl rfl (by simp) (by omega) (by simp)
  · have eT : freshT b = [65533] := by unfold freshT; repeat (first | rw [if_pos (by omega)] | rw [if_neg (by omega)])
    have eL : freshL b = 0 := by unfold freshL; repeat (first | rw [if_pos (by omega)] | rw [if_neg (by omega)])
    have eLo : freshLo b = 0 := by unfold freshLo; repeat (first | rw [if_pos (by omega)] | rw [if_neg (by omega)])
    have eV : freshV b = 0 := by unfold freshV; repeat (first | rw [if_pos (by omega)] | rw [if_neg (by omega)])
    rw [eT, eL, eLo, eV]
    clear eT eL eLo eV
    go_enter Try.func44, Try.ntmps44
    go_wp2
    refine bodyPost_ret (v := .tuple #[.slice (some ⟨w.heap.size + 1, 0, none⟩) 1 1, .agg #[.int .i64 (0), .int .i64 (0), .int .i64 (0)]]) (by simp [results, Try.results44, go_sem]) rfl ⟨_, rfl, ?_, (by repeat' (first | with_reducible exact Below.refl _ _ | with_reducible assumption | with_reducible refine Below.drew ?_ | with_reducible refine Below.alloc ?_ ?_ _ | with_reducible refine Below.setCell ?_ ?_ _ | (simp; done) | (simp; omega) | omega))⟩
    exact ints_new _ _ rfl rfl (by simp) (by omega) (by simp)

theorem info_i64 : (Try.prog.info? 2).map (fun i => (i.zero, i.size, i.bytes)) = some (some (.int .i64 0), 1, 8) := by kernel_rfl

set_option maxHeartbeats 1000000 in
theorem l1Step_none (l lo v b : Int) (w : World) (hd : dfault l lo v = 0) (h0 : 0 ≤ b) (h1 : b ≤ 255) (hl : l = 0) :
    Calls Try.prog 33 #[.agg #[.int .i64 l, .int .i64 lo, .int .i64 v], .int .i64 b] w fun e w' => ∃ x, e = .returned (.tuple #[x, .agg #[.int .i64 (stepL l lo v b), .int .i64 (stepLo l lo v b), .int .i64 (stepV l lo v b)]]) ∧ IntsAt .i64 w.heap.size w'.heap.size w' x (stepT l lo v b) ∧ Below w.heap.size w w' ∧ ∃ ad n c, x = .slice (some ad) n c := by
  have eT : stepT l lo v b = freshT b := by unfold stepT; repeat (first | rw [if_pos (by omega)] | rw [if_neg (by omega)])
  have eL : stepL l lo v b = freshL b := by unfold stepL; repeat (first | rw [if_pos (by omega)] | rw [if_neg (by omega)])
  have eLo : stepLo l lo v b = freshLo b := by unfold stepLo; repeat (first | rw [if_pos (by omega)] | rw [if_neg (by omega)])
  have eV : stepV l lo v b = freshV b := by unfold stepV; repeat (first | rw [if_pos (by omega)] | rw [if_neg (by omega)])
  rw [eT, eL, eLo, eV]
  clear eT eL eLo eV
  subst hl
  clear hd
  go_enter Try.func33, Try.ntmps33
  go_wp2_with fail
  refine (l1Fresh_calls b _ h0 h1).mono ?_
  rintro e w1 ⟨g, rfl, hx, hb⟩
  obtain ⟨hc, hfz⟩ := bcell hb
  have hs : w.heap.size + 1 < w1.heap.size := by have := hb.size; simp at this; omega
  have hbw : Below w.heap.size w w1 := ((by repeat' (first | with_reducible exact Below.refl _ _ | with_reducible assumption | with_reducible refine Below.drew ?_ | with_reducible refine Below.alloc ?_ ?_ _ | with_reducible refine Below.setCell ?_ ?_ _ | (simp; done) | (simp; omega) | omega)) : Below w.heap.size w _).trans (hb.mono (by simp; try omega))
  go_wp2
  refine bodyPost_ret (v := .tuple #[.slice (some ⟨g, 0, none⟩) (freshT b).length (freshT b).length, .agg #[.int .i64 (freshL b), .int .i64 (freshLo b), .int .i64 (freshV b)]]) (by simp [results, Try.results33, go_sem, hc, hs]) rfl ⟨_, rfl, ?_, (by repeat' (first | with_reducible exact Below.refl _ _ | with_reducible assumption | with_reducible refine Below.drew ?_ | with_reducible refine Below.alloc ?_ ?_ _ | with_reducible refine Below.setCell ?_ ?_ _ | (simp; done) | (simp; omega) | omega)), _, _, _, rfl⟩
  refine (hx.mono (lo' := w.heap.size + 2) (by simp) (Nat.le_refl _)).of_blocks ?_ |>.mono (by omega) (by simp)
  intro i hi _
  simp only [World.setCell, Array.getElem?_modify]
  repeat rw [if_neg (by omega)]

set_option maxHeartbeats 1000000 in
theorem l1Step_more (l lo v b : Int) (w : World) (hd : dfault l lo v = 0) (h0 : 0 ≤ b) (h1 : b ≤ 255) (hl : l = 2) (hb1 : 128 ≤ b) (hb2 : b ≤ 191) :
    Calls Try.prog 33 #[.agg #[.int .i64 l, .int .i64 lo, .int .i64 v], .int .i64 b] w fun e w' => ∃ x, e = .returned (.tuple #[x, .agg #[.int .i64 (stepL l lo v b), .int .i64 (stepLo l lo v b), .int .i64 (stepV l lo v b)]]) ∧ IntsAt .i64 w.heap.size w'.heap.size w' x (stepT l lo v b) ∧ Below w.heap.size w w' ∧ ∃ ad n c, x = .slice (some ad) n c := by
  have hp := dfault_pos l lo v hd
  have eT : stepT l lo v b = [] := by unfold stepT; repeat (first | rw [if_pos (by omega)] | rw [if_neg (by omega)])
  have eL : stepL l lo v b = 1 := by unfold stepL; repeat (first | rw [if_pos (by omega)] | rw [if_neg (by omega)])
  have eLo : stepLo l lo v b = lo := by unfold stepLo; repeat (first | rw [if_pos (by omega)] | rw [if_neg (by omega)])
  have eV : stepV l lo v b = 64 * v + b - 128 := by unfold stepV; repeat (first | rw [if_pos (by omega)] | rw [if_neg (by omega)])
  rw [eT, eL, eLo, eV]
  clear eT eL eLo eV
  subst hl
  obtain ⟨_, _, _, _, hv0, hv1⟩ := hp
  clear hd
  go_enter Try.func33, Try.ntmps33
  go_wp2
  go_region
  go_wp2
  exact bodyPost_ret (v := .tuple #[.slice (some ⟨w.heap.size + 2, 0, none⟩) 0 0, .agg #[.int .i64 1, .int .i64 lo, .int .i64 (64 * v + b - 128)]]) (by simp [results, Try.results33, go_sem]) rfl ⟨_, rfl, IntsAt.nil _ _ _ _ _ _, (by repeat' (first | with_reducible exact Below.refl _ _ | with_reducible assumption | with_reducible refine Below.drew ?_ | with_reducible refine Below.alloc ?_ ?_ _ | with_reducible refine Below.setCell ?_ ?_ _ | (simp; done) | (simp; omega) | omega)), _, _, _, rfl⟩

set_option maxHeartbeats 1000000 in
theorem l1Step_char (l lo v b : Int) (w : World) (hd : dfault l lo v = 0) (h0 : 0 ≤ b) (h1 : b ≤ 255) (hl : l = 1) (hb1 : 128 ≤ b) (hb2 : b ≤ 191) (hz : chB (64 * v + b - 128) = true) (hlow : lo ≤ 64 * v + b - 128) :
    Calls Try.prog 33 #[.agg #[.int .i64 l, .int .i64 lo, .int .i64 v], .int .i64 b] w fun e w' => ∃ x, e = .returned (.tuple #[x, .agg #[.int .i64 (stepL l lo v b), .int .i64 (stepLo l lo v b), .int .i64 (stepV l lo v b)]]) ∧ IntsAt .i64 w.heap.size w'.heap.size w' x (stepT l lo v b) ∧ Below w.heap.size w w' ∧ ∃ ad n c, x = .slice (some ad) n c := by
  have hp := dfault_pos l lo v hd
  have eT : stepT l lo v b = [64 * v + b - 128] := by unfold stepT; rw [if_neg (by omega), if_neg (by omega), if_neg (by omega)]; rw [if_pos ⟨hz, hlow⟩]
  have eL : stepL l lo v b = 0 := by unfold stepL; repeat (first | rw [if_pos (by omega)] | rw [if_neg (by omega)])
  have eLo : stepLo l lo v b = 0 := by unfold stepLo; repeat (first | rw [if_pos (by omega)] | rw [if_neg (by omega)])
  have eV : stepV l lo v b = 0 := by unfold stepV; repeat (first | rw [if_pos (by omega)] | rw [if_neg (by omega)])
  rw [eT, eL, eLo, eV]
  clear eT eL eLo eV
  subst hl
  obtain ⟨_, _, _, _, hv0, hv1⟩ := hp
  clear hd
  go_enter Try.func33, Try.ntmps33
  go_wp2_with (first | (go_at_call 38; refine (l1Char_calls (64 * v + b - 128) _).mono ?_; rintro e w' ⟨rfl, hw⟩; rw [hw, hz]; clear hw w') | go_in)
  refine bodyPost_ret (v := .tuple #[.slice (some ⟨w.heap.size + 2, 0, none⟩) 1 1, .agg #[.int .i64 0, .int .i64 0, .int .i64 0]]) (by simp [results, Try.results33, go_sem]) rfl ⟨_, rfl, ?_, (by repeat' (first | with_reducible exact Below.refl _ _ | with_reducible assumption | with_reducible refine Below.drew ?_ | with_reducible refine Below.alloc ?_ ?_ _ | with_reducible refine Below.setCell ?_ ?_ _ | (simp; done) | (simp; omega) | omega)), _, _, _, rfl⟩
  exact ints_new _ _ rfl rfl (by simp) (by omega) (by simp)

set_option maxHeartbeats 1000000 in
theorem l1Step_low (l lo v b : Int) (w : World) (hd : dfault l lo v = 0) (h0 : 0 ≤ b) (h1 : b ≤ 255) (hl : l = 1) (hb1 : 128 ≤ b) (hb2 : b ≤ 191) (hz : chB (64 * v + b - 128) = true) (hlow : ¬ lo ≤ 64 * v + b - 128) :
    Calls Try.prog 33 #[.agg #[.int .i64 l, .int .i64 lo, .int .i64 v], .int .i64 b] w fun e w' => ∃ x, e = .returned (.tuple #[x, .agg #[.int .i64 (stepL l lo v b), .int .i64 (stepLo l lo v b), .int .i64 (stepV l lo v b)]]) ∧ IntsAt .i64 w.heap.size w'.heap.size w' x (stepT l lo v b) ∧ Below w.heap.size w w' ∧ ∃ ad n c, x = .slice (some ad) n c := by
  have hp := dfault_pos l lo v hd
  have eT : stepT l lo v b = [65533] := by unfold stepT; rw [if_neg (by omega), if_neg (by omega), if_neg (by omega)]; rw [if_neg (fun h => hlow h.2)]
  have eL : stepL l lo v b = 0 := by unfold stepL; repeat (first | rw [if_pos (by omega)] | rw [if_neg (by omega)])
  have eLo : stepLo l lo v b = 0 := by unfold stepLo; repeat (first | rw [if_pos (by omega)] | rw [if_neg (by omega)])
  have eV : stepV l lo v b = 0 := by unfold stepV; repeat (first | rw [if_pos (by omega)] | rw [if_neg (by omega)])
  rw [eT, eL, eLo, eV]
  clear eT eL eLo eV
  subst hl
  obtain ⟨_, _, _, _, hv0, hv1⟩ := hp
  clear hd
  go_enter Try.func33, Try.ntmps33
  go_wp2_with (first | (go_at_call 38; refine (l1Char_calls (64 * v + b - 128) _).mono ?_; rintro e w' ⟨rfl, hw⟩; rw [hw, hz]; clear hw w') | go_in)
  refine bodyPost_ret (v := .tuple #[.slice (some ⟨w.heap.size + 2, 0, none⟩) 1 1, .agg #[.int .i64 0, .int .i64 0, .int .i64 0]]) (by simp [results, Try.results33, go_sem]) rfl ⟨_, rfl, ?_, (by repeat' (first | with_reducible exact Below.refl _ _ | with_reducible assumption | with_reducible refine Below.drew ?_ | with_reducible refine Below.alloc ?_ ?_ _ | with_reducible refine Below.setCell ?_ ?_ _ | (simp; done) | (simp; omega) | omega)), _, _, _, rfl⟩
  exact ints_new _ _ rfl rfl (by simp) (by omega) (by simp)

set_option maxHeartbeats 1000000 in
theorem l1Step_bad (l lo v b : Int) (w : World) (hd : dfault l lo v = 0) (h0 : 0 ≤ b) (h1 : b ≤ 255) (hl : l = 1) (hb1 : 128 ≤ b) (hb2 : b ≤ 191) (hz : chB (64 * v + b - 128) = false) :
    Calls Try.prog 33 #[.agg #[.int .i64 l, .int .i64 lo, .int .i64 v], .int .i64 b] w fun e w' => ∃ x, e = .returned (.tuple #[x, .agg #[.int .i64 (stepL l lo v b), .int .i64 (stepLo l lo v b), .int .i64 (stepV l lo v b)]]) ∧ IntsAt .i64 w.heap.size w'.heap.size w' x (stepT l lo v b) ∧ Below w.heap.size w w' ∧ ∃ ad n c, x = .slice (some ad) n c := by
  have hp := dfault_pos l lo v hd
  have eT : stepT l lo v b = [65533] := by unfold stepT; rw [if_neg (by omega), if_neg (by omega), if_neg (by omega)]; rw [if_neg (fun h => by rw [hz] at h; exact absurd h.1 (by simp))]
  have eL : stepL l lo v b = 0 := by unfold stepL; repeat (first | rw [if_pos (by omega)] | rw [if_neg (by omega)])
  have eLo : stepLo l lo v b = 0 := by unfold stepLo; repeat (first | rw [if_pos (by omega)] | rw [if_neg (by omega)])
  have eV : stepV l lo v b = 0 := by unfold stepV; repeat (first | rw [if_pos (by omega)] | rw [if_neg (by omega)])
  rw [eT, eL, eLo, eV]
  clear eT eL eLo eV
  subst hl
  obtain ⟨_, _, _, _, hv0, hv1⟩ := hp
  clear hd
  go_enter Try.func33, Try.ntmps33
  go_wp2_with (first | (go_at_call 38; refine (l1Char_calls (64 * v + b - 128) _).mono ?_; rintro e w' ⟨rfl, hw⟩; rw [hw, hz]; clear hw w') | go_in)
  refine bodyPost_ret (v := .tuple #[.slice (some ⟨w.heap.size + 2, 0, none⟩) 1 1, .agg #[.int .i64 0, .int .i64 0, .int .i64 0]]) (by simp [results, Try.results33, go_sem]) rfl ⟨_, rfl, ?_, (by repeat' (first | with_reducible exact Below.refl _ _ | with_reducible assumption | with_reducible refine Below.drew ?_ | with_reducible refine Below.alloc ?_ ?_ _ | with_reducible refine Below.setCell ?_ ?_ _ | (simp; done) | (simp; omega) | omega)), _, _, _, rfl⟩
  exact ints_new _ _ rfl rfl (by simp) (by omega) (by simp)

theorem brk_keep {W0 W2 w4 : World} {p q : Nat} {x0 x1 x2 y0 y1 y2 : Value} {lit : Obj} (hgrow : (W2.alloc lit).drew.grownBy w4 (Value.ownBlock (.slice (some ⟨p + 1, 0, none⟩) 1 1))) (z2 : W2.heap.size = p + 1) (hq : q < p)
    (c0 : W2.cell? ⟨p, 0, none⟩ = some x0) (c1 : W2.cell? ⟨p, 1, none⟩ = some x1) (c2 : W2.cell? ⟨p, 2, none⟩ = some x2) (e0 : W2.cell? ⟨q, 0, none⟩ = some y0) (e1 : W2.cell? ⟨q, 1, none⟩ = some y1) (e2 : W2.cell? ⟨q, 2, none⟩ = some y2) (e3 : ∀ o, W2.frozen? ⟨q, o, none⟩ = false) (bW : Below W0.heap.size W0 W2) :
    w4.cell? ⟨p, 0, none⟩ = some x0 ∧ w4.cell? ⟨p, 1, none⟩ = some x1 ∧ w4.cell? ⟨p, 2, none⟩ = some x2 ∧ w4.cell? ⟨q, 0, none⟩ = some y0 ∧ w4.cell? ⟨q, 1, none⟩ = some y1 ∧ w4.cell? ⟨q, 2, none⟩ = some y2 ∧ (∀ o, w4.frozen? ⟨q, o, none⟩ = false) ∧ Below W0.heap.size W0 w4 ∧ p + 1 < w4.heap.size := by
  have b1 : Below (p + 1) W2 w4 := by
    refine ((Below.refl _ W2).alloc (by omega) lit).drew.grown hgrow (by show p + 1 ≤ (W2.alloc lit).heap.size; simp; omega) (fun k hk => ?_)
    simp [Value.ownBlock] at hk
    omega
  have hs : p + 2 ≤ w4.heap.size := by
    have := hgrow.size
    have e : (W2.alloc lit).drew.heap.size = p + 2 := by show (W2.alloc lit).heap.size = _; simp; omega
    omega
  refine ⟨cellk b1 (by omega) c0, cellk b1 (by omega) c1, cellk b1 (by omega) c2, cellk b1 (by omega) e0, cellk b1 (by omega) e1, cellk b1 (by omega) e2, fun o => ?_, bW.trans (b1.mono ?_), by omega⟩
  · rw [b1.frozen (p := ⟨q, o, none⟩) (by simp; omega)]; exact e3 o
  · have := bW.size; omega

set_option maxHeartbeats 1000000 in
theorem l1Step_brk (l lo v b : Int) (w : World) (hd : dfault l lo v = 0) (h0 : 0 ≤ b) (h1 : b ≤ 255) (hl : l ≠ 0) (hb1 : b < 128 ∨ 191 < b) :
    Calls Try.prog 33 #[.agg #[.int .i64 l, .int .i64 lo, .int .i64 v], .int .i64 b] w fun e w' => ∃ x, e = .returned (.tuple #[x, .agg #[.int .i64 (stepL l lo v b), .int .i64 (stepLo l lo v b), .int .i64 (stepV l lo v b)]]) ∧ IntsAt .i64 w.heap.size w'.heap.size w' x (stepT l lo v b) ∧ Below w.heap.size w w' ∧ ∃ ad n c, x = .slice (some ad) n c := by
  have eT : stepT l lo v b = 65533 :: freshT b := by unfold stepT; repeat (first | rw [if_pos (by omega)] | rw [if_neg (by omega)])
  have eL : stepL l lo v b = freshL b := by unfold stepL; repeat (first | rw [if_pos (by omega)] | rw [if_neg (by omega)])
  have eLo : stepLo l lo v b = freshLo b := by unfold stepLo; repeat (first | rw [if_pos (by omega)] | rw [if_neg (by omega)])
  have eV : stepV l lo v b = freshV b := by unfold stepV; repeat (first | rw [if_pos (by omega)] | rw [if_neg (by omega)])
  rw [eT, eL, eLo, eV]
  clear eT eL eLo eV
  obtain ⟨i0, hi, hz0, hz1, hz2⟩ := info_parts info_i64
  have hl0 : (l == 0) = false := by simp [hl]
  have hfl := freshT_length b
  clear hd hl
  have hin : (decide (128 ≤ b) && decide (b ≤ 191)) = false := by simp; omega
  go_enter Try.func33, Try.ntmps33
  go_wp2_with (first | (go_at_call 43; refine (l1In_calls b 128 191 _).mono ?_; rintro e w' ⟨rfl, hw⟩; rw [hw, hin]; clear hw w'))
  refine (l1Fresh_calls b _ h0 h1).mono ?_
  rintro e w1 ⟨g, rfl, hx, hb⟩
  obtain ⟨hc, hfz⟩ := bcell hb
  have hs : w.heap.size + 1 < w1.heap.size := by have := hb.size; simp at this; omega
  have hbw : Below w.heap.size w w1 := ((by repeat' (first | with_reducible exact Below.refl _ _ | with_reducible assumption | with_reducible refine Below.drew ?_ | with_reducible refine Below.alloc ?_ ?_ _ | with_reducible refine Below.setCell ?_ ?_ _ | (simp; done) | (simp; omega) | omega)) : Below w.heap.size w _).trans (hb.mono (by simp; try omega))
  have hs0 : w.heap.size < w1.heap.size := by omega
  have hgrd := hide (ints_news (k := .i64) (w := w1) (b := g) (off := 0) (xs := freshT b) (read_cells hx.read))
  clear hx hfz
  have d0 : w1.cell? ⟨w.heap.size + 1, 0, none⟩ = some (.int .i64 0) := by rw [hc _ _ (by simp)]; simp
  have d1 : w1.cell? ⟨w.heap.size + 1, 1, none⟩ = some (.int .i64 0) := by rw [hc _ _ (by simp)]; simp
  have d2 : w1.cell? ⟨w.heap.size + 1, 2, none⟩ = some (.int .i64 0) := by rw [hc _ _ (by simp)]; simp
  have d3 : ∀ o, w1.frozen? ⟨w.heap.size + 1, o, none⟩ = false := fun o => by rw [hb.frozen (p := ⟨w.heap.size + 1, o, none⟩) (by simp)]; simp
  clear hc hb
  generalize hW2 : (w1.alloc (.cells #[.int .i64 (freshL b), .int .i64 (freshLo b), .int .i64 (freshV b)] 25)) = W2
  have q2 : Below w1.heap.size w1 W2 := by rw [← hW2]; exact (Below.refl _ _).alloc (Nat.le_refl _) _
  have z2 : W2.heap.size = w1.heap.size + 1 := by rw [← hW2]; simp
  have c0 : W2.cell? ⟨w1.heap.size, 0, none⟩ = some (.int .i64 (freshL b)) := by rw [← hW2]; simp
  have c1 : W2.cell? ⟨w1.heap.size, 1, none⟩ = some (.int .i64 (freshLo b)) := by rw [← hW2]; simp
  have c2 : W2.cell? ⟨w1.heap.size, 2, none⟩ = some (.int .i64 (freshV b)) := by rw [← hW2]; simp
  have e0 := cellb q2 d0
  have e1 := cellb q2 d1
  have e2 := cellb q2 d2
  have e3 : ∀ o, W2.frozen? ⟨w.heap.size + 1, o, none⟩ = false := fun o => by rw [q2.frozen (p := ⟨w.heap.size + 1, o, none⟩) (by simp; omega)]; exact d3 o
  have HN : Hid (∀ j u, ((freshT b).map (Value.int .i64))[j]? = some u → W2.cell? ((⟨g, 0, none⟩ : Addr).add j) = some u) := fun j u h => cell_add_below q2 (hgrd.out j u h)
  have bW : Below w.heap.size w W2 := hbw.trans (q2.mono (by omega))
  clear hgrd d0 d1 d2 d3 hbw
  go_wp2_with fail
  clear hW2 q2
  have zlt : w1.heap.size < W2.heap.size := by omega
  have HO : Hid ((W2.alloc (.cells #[.int .i64 65533] 2)).drew.ownsRow (w1.heap.size + 1) 2 1 (.slice (some ⟨w1.heap.size + 1, 0, none⟩) 1 1) 1 [.int .i64 65533]) := by
    have h := World.ownsRow_lit (base := w1.heap.size + 1) (e := 2) (size := 1) W2 #[.int .i64 65533] 1 (by omega) (by unfold maxLen; omega) rfl
    rw [z2] at h
    exact h.drew
  have HN2 : Hid (∀ j u, ((freshT b).map (Value.int .i64))[j]? = some u → (W2.alloc (.cells #[.int .i64 65533] 2)).drew.cell? ((⟨g, 0, none⟩ : Addr).add j) = some u) := fun j u h => cell_add_below (Below.drew ((Below.refl _ _).alloc (Nat.le_refl _) _)) (HN.out j u h)
  go_region_law (refine step_append_own rfl (.tmp 23) (.tmp 24) 28 rfl (w1.heap.size + 1) 2 i0 (.int .i64 0) 1 8 Try.underlying28 hi hz0 hz1 hz2 rfl (by decide) _ 1 [.int .i64 65533] rfl HO.out ⟨g, 0, none⟩ (freshT b).length (freshT b).length ((freshT b).map (Value.int .i64)) rfl (by simp) HN2.out (ints_one_cell _ _) (by unfold maxLen; omega) (by omega) (by simp; omega) ?_; intro v' w4 hown' hgrow; obtain ⟨f0, f1, f2, f3, f4, f5, f6, bW4, z4⟩ := brk_keep hgrow z2 (by omega) c0 c1 c2 e0 e1 e2 e3 bW; clear hgrow)
  all_goals (have hx' : IntsAt .i64 (w1.heap.size + 1) w4.heap.size w4 v' (65533 :: freshT b) := own_ints (by simpa [Nat.add_comm] using hown') (Nat.le_refl _))
  all_goals (have hsome := hide (own_some hown' (by omega)))
  all_goals clear hown'
  all_goals go_wp2
  all_goals (refine bodyPost_ret (v := .tuple #[v', .agg #[.int .i64 (freshL b), .int .i64 (freshLo b), .int .i64 (freshV b)]]) (by simp [results, Try.results33, go_sem, f3, f4, f5]) rfl ⟨_, rfl, ?_, (by repeat' (first | with_reducible exact Below.refl _ _ | with_reducible assumption | with_reducible refine Below.drew ?_ | with_reducible refine Below.alloc ?_ ?_ _ | with_reducible refine Below.setCell ?_ ?_ _ | (simp; done) | (simp; omega) | omega)), hsome.out⟩)
  all_goals (refine hx'.of_blocks ?_ |>.mono (by omega) (by simp))
  all_goals (intro i hi _; simp only [World.setCell, Array.getElem?_modify]; repeat rw [if_neg (by omega)])

theorem l1Step_calls (l lo v b : Int) (w : World) (hd : dfault l lo v = 0) (h0 : 0 ≤ b) (h1 : b ≤ 255) :
    Calls Try.prog 33 #[.agg #[.int .i64 l, .int .i64 lo, .int .i64 v], .int .i64 b] w fun e w' => ∃ x, e = .returned (.tuple #[x, .agg #[.int .i64 (stepL l lo v b), .int .i64 (stepLo l lo v b), .int .i64 (stepV l lo v b)]]) ∧ IntsAt .i64 w.heap.size w'.heap.size w' x (stepT l lo v b) ∧ Below w.heap.size w w' ∧ ∃ ad n c, x = .slice (some ad) n c := by
  have hp := dfault_pos l lo v hd
  by_cases hl : l = 0
  · exact l1Step_none l lo v b w hd h0 h1 hl
  by_cases hb : b < 128 ∨ 191 < b
  · exact l1Step_brk l lo v b w hd h0 h1 hl hb
  by_cases hl2 : l = 2
  · exact l1Step_more l lo v b w hd h0 h1 hl2 (by omega) (by omega)
  have hl1 : l = 1 := by omega
  cases hz : chB (64 * v + b - 128) with
  | false => exact l1Step_bad l lo v b w hd h0 h1 hl1 (by omega) (by omega) hz
  | true =>
    by_cases hlow : lo ≤ 64 * v + b - 128
    · exact l1Step_char l lo v b w hd h0 h1 hl1 (by omega) (by omega) hz hlow
    · exact l1Step_low l lo v b w hd h0 h1 hl1 (by omega) (by omega) hz hlow

end Go.Proofs.Ytoedmfflokknjaa
