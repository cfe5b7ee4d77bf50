/-
  The rows of a sheet, told by impl's iterator: what it hands to each round, for every body that leaves the iterator's own box alone.
-/
import Derived.RangeFuncNested
import Derived.RangeFuncBound
import Derived.RangeFuncCalls
import Derived.RangeFuncLeaves
import Derived.Shelf.Abstract
import Derived.Shelf.RegionOpen
import Derived.WalkKit
import Derived.OwnWalkIn
import Derived.TacticsInMore
import Derived.LoopNIn
import Derived.LoopIn
import Derived.Test.YtknkbihjboadjaaSlideFns
namespace Go.Proofs.Ytknkbihjboadjaa
set_option maxRecDepth 20000
open Go.ChangeShapes Go.WideShapes Go.ChangeAt Go.RowKit Go.Shelf
attribute [local go_sem] Oper.semAt_some
set_option linter.unusedVariables false
set_option linter.unusedSimpArgs false
set_option maxRecDepth 100000

/-- The y-th of H rows of m cells, as a round is handed it. -/
def rowEnc (b off m H cap : Nat) (y : Nat) : Array Value := #[.int .i64 ((y % H : Nat) : Int), .slice (some ⟨b, off + (y % H) * m * 2, none⟩) m (cap - (y % H) * m)]
/-- What a round that goes on leaves: the iterator's own box. -/
def KeepBox (Bs : Nat) (W W' : World) : Prop := W'.heap[Bs]? = W.heap[Bs]?

theorem abides_below {β : Type} {B : Nat} {J : β → World → Prop} (h : AbidesFrom B J) {s : β} {W W' : World} (hs : J s W) (hb : Below W.heap.size W W') : J s W' :=
  h s W W' none hs ⟨hb.os, hb.tape, hb.output, hb.size, fun k hk _ => hb.block k hk⟩ (fun r e => by cases e)

set_option maxHeartbeats 2000000 in
theorem rows1_in (n : Nat) (l Bs b off m H N cap : Nat) (wd : Int) (a : Option Addr) (hN : N = H * m) (hwd : wd = (m : Int)) (hm : 1 ≤ m) (hm2 : m ≤ 1000) (hH : H ≤ 1000) (hc : N ≤ cap) (ha : 0 < N → a = some ⟨b, off, none⟩) (hN1 : N ≤ 1048576) (J Jx : List Nat → World → Prop)
    (W : World) (hJ : AbidesFrom W.heap.size J)
    (hY : ∀ pre x W1, J pre W1 → pre.length < H → YieldAt Fence.wide (n - 1) Try.prog l (rowEnc b off m H cap x) W1 fun e W' =>
      (e = .returned (.bool true) ∧ J (pre ++ [x]) W' ∧ KeepBox Bs W1 W') ∨ (e = .returned (.bool false) ∧ Jx (pre ++ [x]) W'))
    (c0 : W.cell? ⟨Bs, 0, none⟩ = some (.int .i64 wd)) (c1 : W.cell? ⟨Bs, 1, none⟩ = some (.slice a N cap)) (h0 : J [] W) :
    CallsIn Fence.wide n Try.prog 127 #[.func (.yield l) #[] #[], .pointer (some ⟨Bs, 0, none⟩)] W fun e W' => (∃ v, e = .returned v) ∧
      ((∃ ys, ys = List.range H ∧ J ys W') ∨ (∃ pre, (∃ k, k ≤ H ∧ pre = List.range k) ∧ Jx pre W')) := by
  have hq : (N : Int) / wd = (H : Int) := by rw [hN, hwd, Int.natCast_mul]; exact Int.mul_ediv_cancel _ (by omega)
  have HQ := hide hq
  have HN := hide hN
  have HWD := hide hwd
  have w1' : 1 ≤ wd := by omega
  have w2' : wd ≤ 1000 := by omega
  have HA := hide ha
  clear hq hN hwd ha
  refine callsIn_of_wp Try.func127 rfl trivial ?_ rfl
  simp only [Try.ntmps127, List.size_toArray, List.length_cons, List.length_nil, Nat.reduceAdd, Nat.reduceSub, Array.replicate_succ, Array.replicate_zero, List.push_toArray, List.append_toArray, List.nil_append, List.cons_append]
  gi_wp2
  refine ⟨trivial, fun h => by simp [Fence.wide] at h, (callsIn_wide.2 (height_calls wd w1' w2' a N cap hN1 _)).mono ?_⟩
  rintro e W2 ⟨rfl, hb2⟩
  rw [HQ.out]
  replace c0 := cellb hb2 c0
  replace c1 := cellb hb2 c1
  have h2 : J [] W2 := abides_below hJ h0 hb2
  clear hb2
  gi_wp2
  gi_loopw [6] (fun i wr => ∃ k : Nat, k ≤ H ∧ i = .int .i64 k ∧ J (List.range k) wr ∧ wr.cell? ⟨Bs, 0, none⟩ = some (.int .i64 wd) ∧ wr.cell? ⟨Bs, 1, none⟩ = some (.slice a N cap)) (fun i _ => H - (intOf i).toNat)
  case atStart => exact ⟨0, Nat.zero_le _, rfl, h2, c0, c1⟩
  case round =>
    obtain ⟨k, hk, rfl, hJs, d0, d1⟩ := hrel
    clear c0 c1 h2 h0
    by_cases hlt : k < H
    · have hltI : (k : Int) < (H : Int) := by omega
      have hkm : k * m + m ≤ N := by
        have h := Nat.mul_le_mul_right m (show k + 1 ≤ H by omega)
        rw [Nat.add_mul, ← HN.out] at h
        omega
      have hNp : 0 < N := by omega
      have hkw : (k : Int) * wd = ((k * m : Nat) : Int) := by rw [HWD.out, Int.natCast_mul]
      have HKW := hide hkw
      clear hkw
      gi_wp2
      refine ⟨trivial, fun h => by simp [Fence.wide] at h, (callsIn_wide.2 (row_calls wd k b off N cap (k * m) m (.slice a N cap) ⟨hc, a, rfl, HA.out⟩ HKW.out HWD.out (by omega) (by omega) hkm hN1 wr)).mono ?_⟩
      rintro e W3 ⟨v, rfl, ⟨hcv, av, rfl, hav⟩, hb3⟩
      obtain rfl := hav (by omega)
      replace d0 := cellb hb3 d0
      replace d1 := cellb hb3 d1
      have hJ3 : J (List.range k) W3 := abides_below hJ hJs hb3
      clear hb3 hJs
      obtain ⟨fn, tmps, assign, body, hy, hR⟩ := hY _ k W3 hJ3 (by simpa using hlt)
      have hmod : k % H = k := Nat.mod_eq_of_lt hlt
      simp only [rowEnc, hmod] at hy
      gi_wp2
      refine ⟨fun h => by simp [Fence.wide] at h, hR.mono ?_⟩
      rintro e W4 (⟨rfl, hJ4, hk4⟩ | ⟨rfl, hx4⟩)
      · have d0' : W4.cell? ⟨Bs, 0, none⟩ = some (.int .i64 wd) := (World.cell?_of_block (w := W3) (a := ⟨Bs, 0, none⟩) hk4).trans d0
        have d1' : W4.cell? ⟨Bs, 1, none⟩ = some (.slice a N cap) := (World.cell?_of_block (w := W3) (a := ⟨Bs, 1, none⟩) hk4).trans d1
        gi_wp2
        go_roundw
        case rel => exact ⟨k + 1, by omega, by go_num, by rw [List.range_succ]; exact hJ4, d0', d1'⟩
        case measure => simp [intOf]; omega
      · gi_wp2
        refine bodyPost_ret (results_none rfl _ _ _) rfl ?_
        exact ⟨⟨_, rfl⟩, .inr ⟨_, ⟨k + 1, by omega, (List.range_succ).symm⟩, hx4⟩⟩
    · obtain rfl : k = H := by omega
      have hge : ¬ ((k : Int) < (k : Int)) := by omega
      gi_wp2
      go_end0
      first
        | exact ⟨⟨_, rfl⟩, .inl ⟨_, rfl, hJs⟩⟩
        | exact ⟨⟨_, rfl⟩, .inl hJs⟩

/-- The iterator's contract. -/
theorem rows_stops (n : Nat) (Bs b off m H N cap : Nat) (wd : Int) (a : Option Addr) (hN : N = H * m) (hwd : wd = (m : Int)) (hm : 1 ≤ m) (hm2 : m ≤ 1000) (hH : H ≤ 1000) (hc : N ≤ cap) (ha : 0 < N → a = some ⟨b, off, none⟩) (hN1 : N ≤ 1048576) (w : World) (hBs : Bs < w.heap.size)
    (c0 : w.cell? ⟨Bs, 0, none⟩ = some (.int .i64 wd)) (c1 : w.cell? ⟨Bs, 1, none⟩ = some (.slice a N cap)) :
    SeqStopsK Fence.wide n Try.prog 127 #[.pointer (some ⟨Bs, 0, none⟩)] (rowEnc b off m H cap) (KeepBox Bs) (fun ys => ys = List.range H) (fun pre => ∃ k, k ≤ H ∧ pre = List.range k) H w := fun l J Jx W hW hJ _ hY h0 =>
  rows1_in n l Bs b off m H N cap wd a hN hwd hm hm2 hH hc ha hN1 J Jx W hJ hY (cellb hW c0) (cellb hW c1) h0

theorem rows_calls (wd : Int) (a : Option Addr) (N cap : Nat) (w : World) :
    Calls Try.prog 115 #[.agg #[.int .i64 wd, .slice a N cap]] w fun e w' => e = .returned (.func (.func 127) #[] #[.pointer (some ⟨w.heap.size, 0, none⟩)]) ∧ w' = w.alloc (.cells #[.int .i64 wd, .slice a N cap] 93) := by
  go_enter Try.func115, Try.ntmps115
  go_wp2
  go_ret
  exact ⟨rfl, rfl⟩

end Go.Proofs.Ytknkbihjboadjaa
