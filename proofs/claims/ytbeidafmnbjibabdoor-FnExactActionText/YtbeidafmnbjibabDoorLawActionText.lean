/-
  For every action the law FnExactActionText returns true: impl.ActionText answers at each action what the model's ActionText answers, code and text, and turns no argument (the law itself passes actions of more than 1048576 numbers by). The program's table of words and the library's table of powers of ten read as their texts lay them: the card ties that.
-/
import Derived.Test.YtbeidafmnbjibabDoorRows
import Derived.Test.YtbeidafmnbjibabDoorCards
import Derived.Test.YtbeidafmnbjibabDoorTie
import Derived.Test.YtbeidafmnbjibabDoorActText3
import Derived.Test.YtbeidafmnbjibabDoorParFns
import Derived.Test.YtbeidafmnbjibabDoorParOpen
import Derived.Deep.RegionHeld
import Derived.ChangeVars
import Derived.Lib.LaidTab
import Derived.Lib.AppendIntMem
import Derived.ShutString
import Derived.ChangeOld
import Derived.Lib.SmallJoins
import Derived.LaidMore
import Derived.LaidLaws
import Derived.LaidSub
import Derived.Lib.LaidTab
import Derived.Stop.Joined
import Derived.SevenTiedAt
namespace Go.Proofs.YtbeidafmnbjibabDoor
open Go.ChangeShapes Go.WideShapes Go.ChangeAt Go.RowKit Go.Joins
set_option linter.unusedVariables false
set_option linter.unusedSimpArgs false

set_option maxRecDepth 20000
/-- Two boxes and their lists, as a region keeps them. -/
structure KeepAction (W : World) (b c : Nat) (kd ch st : Int) (pv : Bool) (u v : Value) (ns : List Int) (w1 : World) : Prop where
  bel : Below W.heap.size W w1
  a0 : w1.cell? ⟨b, 0, none⟩ = some (.int .i64 kd)
  a1 : w1.cell? ⟨b, 1, none⟩ = some (.int .i64 ch)
  a2 : w1.cell? ⟨b, 2, none⟩ = some (.int .i64 st)
  a3 : w1.cell? ⟨b, 3, none⟩ = some (.bool pv)
  a4 : w1.cell? ⟨b, 4, none⟩ = some (u)
  c0 : w1.cell? ⟨c, 0, none⟩ = some (.int .i64 kd)
  c1 : w1.cell? ⟨c, 1, none⟩ = some (.int .i64 ch)
  c2 : w1.cell? ⟨c, 2, none⟩ = some (.int .i64 st)
  c3 : w1.cell? ⟨c, 3, none⟩ = some (.bool pv)
  c4 : w1.cell? ⟨c, 4, none⟩ = some (v)
  r1 : ReadAt .i64 w1 u ns
  r2 : ReadAt .i64 w1 v ns
theorem KeepAction.next {W : World} {b c : Nat} {kd ch st : Int} {pv : Bool} {u v : Value} {ns : List Int} {w1 w2 : World} (h : KeepAction W b c kd ch st pv u v ns w1) (hb : Below w1.heap.size w1 w2) : KeepAction W b c kd ch st pv u v ns w2 :=
  ⟨h.bel.trans (hb.mono h.bel.size), cellb hb h.a0, cellb hb h.a1, cellb hb h.a2, cellb hb h.a3, cellb hb h.a4, cellb hb h.c0, cellb hb h.c1, cellb hb h.c2, cellb hb h.c3, cellb hb h.c4, h.r1.below hb, h.r2.below hb⟩

set_option maxHeartbeats 1000000 in
theorem eqTextResult_calls (c : Int) (x : ByteArray) (w : World) : Calls Tryd.prog 8 #[.agg #[.int .i64 c, .string x], .agg #[.int .i64 c, .string x]] w fun e w' => e = .returned (.bool true) ∧ Below w.heap.size w w' := by
  have hne : ∀ y : Int, (y != y) = false := fun y => by simp
  go_enter Tryd.func8, Tryd.ntmps8
  go_wp2
  go_ret
  exact ⟨rfl, (by repeat' (first | with_reducible exact Below.refl _ _ | with_reducible assumption | with_reducible refine Below.drew ?_ | with_reducible refine Below.alloc ?_ ?_ _ | with_reducible refine Below.setCell ?_ ?_ _ | (simp; done) | (simp; omega) | omega))⟩
set_option maxHeartbeats 4000000 in
theorem lawAT_walk (kd ch st : Int) (pv : Bool) (v : Value) (ns : List Int) (w : World) (htab : Lib.TabIs Tryd.prog w "internal/strconv.uint64pow10" .u64 Lib.pow10Tab) (hkw : ∀ i : Nat, i < 6 → w.cell? ⟨0, i, none⟩ = some (.string (strOfNums (wordN (i : Int))))) (hr : ReadAt .i64 w v ns) (hm : ns.length ≤ maxLen) :
    Calls Tryd.prog 3 #[.agg #[.int .i64 kd, .int .i64 ch, .int .i64 st, .bool pv, v]] w fun e w' => e = .returned (.bool true) ∧ Below w.heap.size w w' := by
  have HTB : Hid (∀ w', Below w.heap.size w w' → Lib.TabIs Tryd.prog w' "internal/strconv.uint64pow10" .u64 Lib.pow10Tab) := hide (Lib.tabBelow_of_tabIs htab)
  have HKW : Hid (∀ w', Below w.heap.size w w' → ∀ i : Nat, i < 6 → w'.cell? ⟨0, i, none⟩ = some (.string (strOfNums (wordN (i : Int))))) := hide (fun w' hb i hi => cellb hb (hkw i hi))
  obtain ⟨code, HC⟩ : ∃ c, Hid (actCode kd ch st pv ns = c) := ⟨_, hide rfl⟩
  obtain ⟨txt, HX⟩ : ∃ c, Hid (actText kd ch st pv ns = c) := ⟨_, hide rfl⟩
  have hne : (code != code) = false := by simp
  clear htab hkw
  have hr' := hr
  obtain ⟨av, cv, rfl, _⟩ := hr'
  by_cases hn0 : (ns.length : Int) ≤ 1048576
  · have hn : ns.length ≤ 1048576 := by omega
    go_enter Tryd.func3, Tryd.ntmps3
    go_wp2_with fail
    have q1 : Below w.heap.size w (w.alloc (.cells #[.int .i64 kd, .int .i64 ch, .int .i64 st, .bool pv, .slice av ns.length cv] 24)) := (by repeat' (first | with_reducible exact Below.refl _ _ | with_reducible assumption | with_reducible refine Below.drew ?_ | with_reducible refine Below.alloc ?_ ?_ _ | with_reducible refine Below.setCell ?_ ?_ _ | (simp; done) | (simp; omega) | omega))
    refine (szAction_calls kd ch st pv ns.length av cv 1048576 (by omega) (by omega) _ hm).mono ?_
    rintro e w1 ⟨rfl, hb1⟩
    have A0 : w1.cell? ⟨w.heap.size, 0, none⟩ = some (.int .i64 kd) := cellb hb1 (by simp)
    have A1 : w1.cell? ⟨w.heap.size, 1, none⟩ = some (.int .i64 ch) := cellb hb1 (by simp)
    have A2 : w1.cell? ⟨w.heap.size, 2, none⟩ = some (.int .i64 st) := cellb hb1 (by simp)
    have A3 : w1.cell? ⟨w.heap.size, 3, none⟩ = some (.bool pv) := cellb hb1 (by simp)
    have A4 : w1.cell? ⟨w.heap.size, 4, none⟩ = some (.slice av ns.length cv) := cellb hb1 (by simp)
    have z1 : w.heap.size + 1 ≤ w1.heap.size := by have := hb1.size; simp at this; omega
    have r1 : Below w.heap.size w w1 := q1.trans (hb1.mono (by simp; try omega))
    clear q1 hb1
    have b1 : Below w.heap.size w w1 := r1
    clear r1
    have lt1_0 : w.heap.size < w1.heap.size := by omega
    rw [if_pos hn0]
    have hge : ¬ ((1048576 - (ns.length : Int)) < 0) := by omega
    go_wp2_with fail
    refine (toAction_calls kd ch st pv ns _ _ hn ((hr.below b1))).mono ?_
    rintro e w2 ⟨xp, rfl, hp, hb2⟩
    have z2 : w1.heap.size ≤ w2.heap.size := hb2.size
    have r2 := hb2
    clear hb2
    replace A0 := cellb r2 A0
    replace A1 := cellb r2 A1
    replace A2 := cellb r2 A2
    replace A3 := cellb r2 A3
    replace A4 := cellb r2 A4
    have b2 : Below w.heap.size w w2 := b1.trans (r2.mono (by omega))
    clear r2 b1
    clear lt1_0
    have lt2_0 : w.heap.size < w2.heap.size := by omega
    obtain ⟨ap, cp, rfl, hp'⟩ := hp
    have hp : IntsAt .i64 w1.heap.size w2.heap.size w2 (.slice ap ns.length cp) ns := ⟨ap, cp, rfl, hp'⟩
    clear hp'
    go_wp2_with fail
    refine (specActionText_calls kd ch st pv ns _ _ (by unfold maxLen; omega) hp.read).mono ?_
    rintro e w3 ⟨rfl, hb3⟩
    have z3 : w2.heap.size ≤ w3.heap.size := hb3.size
    have r3 := hb3
    clear hb3
    replace A0 := cellb r3 A0
    replace A1 := cellb r3 A1
    replace A2 := cellb r3 A2
    replace A3 := cellb r3 A3
    replace A4 := cellb r3 A4
    replace hp := hp.below r3 (by omega)
    have b3 : Below w.heap.size w w3 := b2.trans (r3.mono (by omega))
    clear r3 b2
    clear lt2_0
    have lt3_0 : w.heap.size < w3.heap.size := by omega
    clear hp
    rw [HC.out, HX.out]
    go_wp2_with fail
    have q4 : Below w3.heap.size w3 (w3.alloc (.cells #[.int .i64 code, .string txt] 27)) := (by repeat' (first | with_reducible exact Below.refl _ _ | with_reducible assumption | with_reducible refine Below.drew ?_ | with_reducible refine Below.alloc ?_ ?_ _ | with_reducible refine Below.setCell ?_ ?_ _ | (simp; done) | (simp; omega) | omega))
    refine (toAction_calls kd ch st pv ns _ _ hn ((hr.below b3).below q4)).mono ?_
    rintro e w4 ⟨xq, rfl, hq, hb4⟩
    have S0 : w4.cell? ⟨w3.heap.size, 0, none⟩ = some (.int .i64 code) := cellb hb4 (by simp)
    have S1 : w4.cell? ⟨w3.heap.size, 1, none⟩ = some (.string txt) := cellb hb4 (by simp)
    have z4 : w3.heap.size + 1 ≤ w4.heap.size := by have := hb4.size; simp at this; omega
    have r4 : Below w3.heap.size w3 w4 := q4.trans (hb4.mono (by simp; try omega))
    clear q4 hb4
    replace A0 := cellb r4 A0
    replace A1 := cellb r4 A1
    replace A2 := cellb r4 A2
    replace A3 := cellb r4 A3
    replace A4 := cellb r4 A4
    have b4 : Below w.heap.size w w4 := b3.trans (r4.mono (by omega))
    clear r4 b3
    clear lt3_0
    have lt4_0 : w.heap.size < w4.heap.size := by omega
    have lt4_1 : w3.heap.size < w4.heap.size := by omega
    replace hq := hq.mono (lo' := (w3.heap.size + 1)) (by simp) (Nat.le_refl _)
    obtain ⟨aq, cq, rfl, hq'⟩ := hq
    have hq : IntsAt .i64 (w3.heap.size + 1) w4.heap.size w4 (.slice aq ns.length cq) ns := ⟨aq, cq, rfl, hq'⟩
    clear hq'
    go_wp2_with fail
    have q5 : Below w4.heap.size w4 (w4.alloc (.cells #[.int .i64 kd, .int .i64 ch, .int .i64 st, .bool pv, .slice aq ns.length cq] 29)) := (by repeat' (first | with_reducible exact Below.refl _ _ | with_reducible assumption | with_reducible refine Below.drew ?_ | with_reducible refine Below.alloc ?_ ?_ _ | with_reducible refine Below.setCell ?_ ?_ _ | (simp; done) | (simp; omega) | omega))
    refine (implActionText_calls kd ch st pv ns _ _ (by unfold maxLen; omega) (HTB.out _ (b4.trans (q5.mono (by omega)))) (HKW.out _ (b4.trans (q5.mono (by omega)))) (hq.read.below q5)).mono ?_
    rintro e w5 ⟨rfl, hb5⟩
    have B0 : w5.cell? ⟨w4.heap.size, 0, none⟩ = some (.int .i64 kd) := cellb hb5 (by simp)
    have B1 : w5.cell? ⟨w4.heap.size, 1, none⟩ = some (.int .i64 ch) := cellb hb5 (by simp)
    have B2 : w5.cell? ⟨w4.heap.size, 2, none⟩ = some (.int .i64 st) := cellb hb5 (by simp)
    have B3 : w5.cell? ⟨w4.heap.size, 3, none⟩ = some (.bool pv) := cellb hb5 (by simp)
    have B4 : w5.cell? ⟨w4.heap.size, 4, none⟩ = some (.slice aq ns.length cq) := cellb hb5 (by simp)
    have z5 : w4.heap.size + 1 ≤ w5.heap.size := by have := hb5.size; simp at this; omega
    have r5 : Below w4.heap.size w4 w5 := q5.trans (hb5.mono (by simp; try omega))
    clear q5 hb5
    replace A0 := cellb r5 A0
    replace A1 := cellb r5 A1
    replace A2 := cellb r5 A2
    replace A3 := cellb r5 A3
    replace A4 := cellb r5 A4
    replace S0 := cellb r5 S0
    replace S1 := cellb r5 S1
    replace hq := hq.below r5 (by omega)
    have b5 : Below w.heap.size w w5 := b4.trans (r5.mono (by omega))
    clear r5 b4
    clear lt4_0 lt4_1
    have lt5_0 : w.heap.size < w5.heap.size := by omega
    have lt5_1 : w3.heap.size < w5.heap.size := by omega
    have lt5_2 : w4.heap.size < w5.heap.size := by omega
    rw [HC.out, HX.out]
    go_wp2_with fail
    have q6 : Below w5.heap.size w5 (w5.alloc (.cells #[.int .i64 code, .string txt] 27)) := (by repeat' (first | with_reducible exact Below.refl _ _ | with_reducible assumption | with_reducible refine Below.drew ?_ | with_reducible refine Below.alloc ?_ ?_ _ | with_reducible refine Below.setCell ?_ ?_ _ | (simp; done) | (simp; omega) | omega))
    refine (eqTextResult_calls code txt _).mono ?_
    rintro e w6 ⟨rfl, hb6⟩
    have G0 : w6.cell? ⟨w5.heap.size, 0, none⟩ = some (.int .i64 code) := cellb hb6 (by simp)
    have G1 : w6.cell? ⟨w5.heap.size, 1, none⟩ = some (.string txt) := cellb hb6 (by simp)
    have z6 : w5.heap.size + 1 ≤ w6.heap.size := by have := hb6.size; simp at this; omega
    have r6 : Below w5.heap.size w5 w6 := q6.trans (hb6.mono (by simp; try omega))
    clear q6 hb6
    replace A0 := cellb r6 A0
    replace A1 := cellb r6 A1
    replace A2 := cellb r6 A2
    replace A3 := cellb r6 A3
    replace A4 := cellb r6 A4
    replace S0 := cellb r6 S0
    replace S1 := cellb r6 S1
    replace B0 := cellb r6 B0
    replace B1 := cellb r6 B1
    replace B2 := cellb r6 B2
    replace B3 := cellb r6 B3
    replace B4 := cellb r6 B4
    replace hq := hq.below r6 (by omega)
    have b6 : Below w.heap.size w w6 := b5.trans (r6.mono (by omega))
    clear r6 b5
    clear lt5_0 lt5_1 lt5_2
    have lt6_0 : w.heap.size < w6.heap.size := by omega
    have lt6_1 : w3.heap.size < w6.heap.size := by omega
    have lt6_2 : w4.heap.size < w6.heap.size := by omega
    have lt6_3 : w5.heap.size < w6.heap.size := by omega
    go_wp2_with fail
    have hq0 := hr.below b6
    have hKG : KeepAction w6 (w.heap.size) (w4.heap.size) kd ch st pv (.slice av ns.length cv) (.slice aq ns.length cq) ns w6.drew := ⟨Below.drew (Below.refl _ w6), A0, A1, A2, A3, A4, B0, B1, B2, B3, B4, hq0, hq.read⟩
    refine wp_region_held_drew (S := (fun w' => KeepAction w6 (w.heap.size) (w4.heap.size) kd ch st pv (.slice av ns.length cv) (.slice aq ns.length cq) ns w')) (by kernel_rfl) ?_ (fun hHeld => ?_)
    · (try dsimp only); exact hKG
    refine wpAnyH_take (i := 0) (oi := ⟨_, _, _, _, _, _⟩) (v := ?_) rfl (by kernel_rfl) (by kernel_rfl) (by kernel_rfl) (fun _ _ _ h => h) (Or.inl ⟨by rfl, ?_⟩) hHeld ?_
    rotate_left
    · (intro w hSw; (try dsimp only at hSw); have s0 := hSw.a0; have s1 := hSw.a1; have s2 := hSw.a2; have s3 := hSw.a3; have s4 := hSw.a4; have t0 := hSw.c0; have t1 := hSw.c1; have t2 := hSw.c2; have t3 := hSw.c3; have t4 := hSw.c4; clear hSw; go_simp; try (with_reducible rfl))
    try simp only [Act.put, List.setIfInBounds_toArray, List.set_cons_zero, List.set_cons_succ]
    refine wpAnyH_take (i := 1) (oi := ⟨_, _, _, _, _, _⟩) (v := ?_) rfl (by kernel_rfl) (by kernel_rfl) (by kernel_rfl) (fun _ _ _ h => h) (Or.inl ⟨by rfl, ?_⟩) hHeld ?_
    rotate_left
    · (intro w hSw; (try dsimp only at hSw); have s0 := hSw.a0; have s1 := hSw.a1; have s2 := hSw.a2; have s3 := hSw.a3; have s4 := hSw.a4; have t0 := hSw.c0; have t1 := hSw.c1; have t2 := hSw.c2; have t3 := hSw.c3; have t4 := hSw.c4; clear hSw; go_simp; try (with_reducible rfl))
    try simp only [Act.put, List.setIfInBounds_toArray, List.set_cons_zero, List.set_cons_succ]
    refine wpAnyH_ready (rs := [2]) (by kernel_rfl) (by simp) ?_
    refine AllReadyH.cons (o := ⟨_, _, _, _, _, _⟩) rfl (fun K hK => ?_) AllReadyH.nil
    go_simp
    go_at_call 6
    refine (toAction_calls kd ch st pv ns _ _ hn hHeld.r1).mono ?_
    rintro e v7 ⟨y7, rfl, hy7, hbv7⟩
    have hry7 := hy7.read
    obtain ⟨ay7, cy7, rfl, hyy7⟩ := hy7
    clear hyy7
    try go_wp2_with fail
    refine hK.out _ _ ?_ ?_
    · (try dsimp only); exact hHeld.next hbv7
    clear hHeld hK K
    intro hHeld
    try simp only [Act.put, List.setIfInBounds_toArray, List.set_cons_zero, List.set_cons_succ]
    refine wpAnyH_ready (rs := [3]) (by kernel_rfl) (by simp) ?_
    refine AllReadyH.cons (o := ⟨_, _, _, _, _, _⟩) rfl (fun K hK => ?_) AllReadyH.nil
    go_simp
    go_at_call 9
    refine (eqAction_calls kd ch st pv ns _ _ _ (by omega) hHeld.r2 hry7).mono ?_
    rintro e w7 ⟨rfl, hbu7⟩
    try go_wp2_with fail
    refine hK.out _ _ ?_ ?_
    · (try dsimp only); exact hHeld.next hbu7
    clear hHeld hK K
    intro hHeld
    try simp only [Act.put, List.setIfInBounds_toArray, List.set_cons_zero, List.set_cons_succ]
    refine wpAnyH_take (i := 4) (oi := ⟨_, _, _, _, _, _⟩) (v := ?_) rfl (by kernel_rfl) (by kernel_rfl) (by kernel_rfl) (fun _ _ _ h => h) (Or.inl ⟨by rfl, ?_⟩) hHeld ?_
    rotate_left
    · (intro w hSw; (try dsimp only at hSw); have s0 := hSw.a0; have s1 := hSw.a1; have s2 := hSw.a2; have s3 := hSw.a3; have s4 := hSw.a4; have t0 := hSw.c0; have t1 := hSw.c1; have t2 := hSw.c2; have t3 := hSw.c3; have t4 := hSw.c4; clear hSw; go_simp; try (with_reducible rfl))
    try simp only [Act.put, List.setIfInBounds_toArray, List.set_cons_zero, List.set_cons_succ]
    refine wpAnyH_done (by kernel_rfl) ?_ _
    have r7 := hHeld.bel
    clear hHeld hry7 hbv7 hbu7 hKG hq0
    have z7 : w6.heap.size ≤ w7.heap.size := r7.size
    replace A0 := cellb r7 A0
    replace A1 := cellb r7 A1
    replace A2 := cellb r7 A2
    replace A3 := cellb r7 A3
    replace A4 := cellb r7 A4
    replace S0 := cellb r7 S0
    replace S1 := cellb r7 S1
    replace B0 := cellb r7 B0
    replace B1 := cellb r7 B1
    replace B2 := cellb r7 B2
    replace B3 := cellb r7 B3
    replace B4 := cellb r7 B4
    replace G0 := cellb r7 G0
    replace G1 := cellb r7 G1
    replace hq := hq.below r7 (by omega)
    have b7 : Below w.heap.size w w7 := b6.trans (r7.mono (by omega))
    clear r7 b6
    clear lt6_0 lt6_1 lt6_2 lt6_3
    have lt7_0 : w.heap.size < w7.heap.size := by omega
    have lt7_1 : w3.heap.size < w7.heap.size := by omega
    have lt7_2 : w4.heap.size < w7.heap.size := by omega
    have lt7_3 : w5.heap.size < w7.heap.size := by omega
    go_wp2
    go_ret
    exact ⟨rfl, b7⟩
  · go_enter Tryd.func3, Tryd.ntmps3
    go_wp2_with fail
    refine (szAction_calls kd ch st pv ns.length av cv 1048576 (by omega) (by omega) _ hm).mono ?_
    rintro e w1 ⟨rfl, hb1⟩
    rw [if_neg (by omega)]
    go_wp2
    go_ret
    exact ⟨rfl, (show Below w.heap.size w _ from (by repeat' (first | with_reducible exact Below.refl _ _ | with_reducible assumption | with_reducible refine Below.drew ?_ | with_reducible refine Below.alloc ?_ ?_ _ | with_reducible refine Below.setCell ?_ ?_ _ | (simp; done) | (simp; omega) | omega))).trans (hb1.mono (by simp; try omega))⟩

theorem lawAT_laid : laidOutB Tryd.prog = true := by kernel_rfl
def strData {H : Type} (zs : List (List UInt8)) : DataW H := .agg (zs.map fun z => .lit (.string z))
def wordZ : List (List UInt8) := [[110, 111, 110, 101], [112, 114, 105, 110, 116], [99, 111, 110, 116, 114, 111, 108], [101, 115, 99, 97, 112, 101], [112, 97, 114, 97, 109, 115], [115, 101, 116]]
def wordCells : Array Value := (wordZ.map fun z => Value.string ⟨z.toArray⟩).toArray
theorem cells_of_strs {H : Type} {enc : TypeId × Value → H} {P : Program} {w : World} {base : Nat} {sp : Nat → Bool} {held : Bool} {fuel : Nat} {t e : TypeId} {n : Nat} {cs : List Value} {zs : List (List UInt8)} {p : List MemPlace}
    (ht : P.underlying t = some (.array n e)) (he : P.underlying e = some .string) (hce : P.cellsOf e = 1) (hct : P.cellsOf t = n)
    (h : DataW.trod enc P w base sp held fuel t cs = some (strData zs, p)) : cs = zs.map fun z => Value.string ⟨z.toArray⟩ := by
  cases fuel with
  | zero => simp [DataW.trod] at h
  | succ fuel =>
    simp only [DataW.trod, ht, hce, hct, Nat.mul_one] at h
    split at h
    · rename_i hl
      obtain ⟨xs, hm, hx⟩ := Option.map_eq_some_iff.1 h
      have hxs : xs.map (·.1) = zs.map fun z => (DataW.lit (.string z) : DataW H) := by
        have := congrArg Prod.fst hx
        simpa [strData] using this
      have hxl : xs.length = n := by simpa using Lib.mapM_length hm
      have hzl : zs.length = n := by
        have := congrArg List.length hxs
        simp at this
        omega
      apply List.ext_getElem?
      intro i
      by_cases hi : i < n
      · obtain ⟨b, hb, hf⟩ := Lib.mapM_at hm i i (by simp [hi])
        obtain ⟨z, hc, rfl, _⟩ := DataW.trod_string he hf
        have h1 : cs[i]? = some (.string z) := by
          have := congrArg (·[0]?) hc
          simpa [List.getElem?_take, List.getElem?_drop] using this
        have h2 : (xs.map (·.1))[i]? = some (DataW.lit (.string z.data.toList) : DataW H) := by simp [hb]
        rw [hxs] at h2
        simp only [List.getElem?_map, Option.map_eq_some_iff, DataW.lit.injEq, Lit.string.injEq] at h2
        obtain ⟨z', hz', rfl⟩ := h2
        simp [h1, hz']
      · rw [List.getElem?_eq_none (by omega), List.getElem?_eq_none (by simp; omega)]
    · cases h
theorem var_below {P : Program} {w w' : World} {n : String} {cs : Array Value} (hb : Below w.heap.size w w') (h : w.var? P n = some cs) : w'.var? P n = some cs := by
  unfold World.var? at h ⊢
  cases hg : P.globalNamed n with
  | none => rw [hg] at h; simp at h
  | some g =>
    rw [hg] at h
    simp only [Option.bind_some] at h ⊢
    have hlt : g < w.heap.size := by
      rcases hq : w.heap[g]? with _ | o
      · rw [hq] at h; simp at h
      · exact (Array.getElem?_eq_some_iff.1 hq).1
    rw [hb.block g hlt]
    exact h
theorem kw_named : Tryd.prog.globalNamed "loop.example/g00523/impl.kindWords" = some 0 := by kernel_rfl
theorem kw_type : (Tryd.prog.globals[0]?).map (·.type) = some 41 := by kernel_rfl
theorem reads_words {H : Type} (enc : TypeId × Value → H) (W : World) (sp : Nat → Bool) : DataW.trod enc Tryd.prog W 0 sp true 3 41 wordCells.toList = some (strData wordZ, []) := by kernel_rfl
theorem lawAT_cells {W : World} (h : W.var? Tryd.prog "loop.example/g00523/impl.kindWords" = some wordCells) (i : Nat) (hi : i < 6) : W.cell? ⟨0, i, none⟩ = some (.string (strOfNums (wordN (i : Int)))) := by
  rw [World.var?_cell kw_named h i]
  have hc : i = 0 ∨ i = 1 ∨ i = 2 ∨ i = 3 ∨ i = 4 ∨ i = 5 := by omega
  rcases hc with rfl | rfl | rfl | rfl | rfl | rfl <;> rfl
theorem lawAT_own : ownKnob Tryd.prog.godebug = none := by kernel_rfl
def lawAT_laidlist : List (String × DataW Unit) := [("math/bits.deBruijn32tab", Rows.laid_math_bits_deBruijn32tab), ("math/bits.deBruijn64tab", Rows.laid_math_bits_deBruijn64tab), ("internal/strconv.uint64pow10", Rows.laid_internal_strconv_uint64pow10), ("loop.example/g00523/impl.kindWords", Rows.laid_loop_example_g00523_impl_kindWords)]
theorem lawAT_door (os : Os) (args : Array Value) : laidMetH Tryd.prog lawAT_laidlist ((World.doorLaid Tryd.prog 24 os).forCall (fun _ _ => 0) ⟨#[], args, []⟩).memory :=
  laidMetH_of_parts3 (fuel := 8) (laidMet_of_run' 8 (by kernel_rfl) (by kernel_rfl)) (by kernel_rfl) (by kernel_rfl)
theorem lawAT_tab {W : World} (h : laidMetH Tryd.prog lawAT_laidlist W) : Lib.TabIs Tryd.prog W "internal/strconv.uint64pow10" .u64 Lib.pow10Tab := by
  rw [MakeChecks.laidMetH_plain _ _ _ (by kernel_rfl)] at h
  have h2 := laidMet.filter (fun x => x.1 == "internal/strconv.uint64pow10") h
  have e2 : lawAT_laidlist.filter (fun x => x.1 == "internal/strconv.uint64pow10") = [("internal/strconv.uint64pow10", Rows.laid_internal_strconv_uint64pow10)] := by kernel_rfl
  rw [e2] at h2
  have e : (Rows.laid_internal_strconv_uint64pow10 : DataW Unit) = Lib.tabData .u64 Lib.pow10Tab := by kernel_rfl
  rw [e] at h2
  exact Lib.tabIs_of_head (g := 1) (by kernel_rfl) (by kernel_rfl) Tryd.underlying74 Tryd.underlying64 (by kernel_rfl) (by kernel_rfl) h2
theorem lawAT_kw {W : World} (h : laidMetH Tryd.prog lawAT_laidlist W) : W.var? Tryd.prog "loop.example/g00523/impl.kindWords" = some wordCells := by
  rw [MakeChecks.laidMetH_plain _ _ _ (by kernel_rfl)] at h
  have h2 := laidMet.filter (fun x => x.1 == "loop.example/g00523/impl.kindWords") h
  have e2 : lawAT_laidlist.filter (fun x => x.1 == "loop.example/g00523/impl.kindWords") = [("loop.example/g00523/impl.kindWords", strData wordZ)] := by kernel_rfl
  rw [e2] at h2
  obtain ⟨ps, ⟨g', t', cs', fuel', p', q', hg', ht', hvar', hd', _, _⟩, _⟩ := h2
  obtain rfl := Option.some.inj (kw_named.symm.trans hg')
  obtain rfl := Option.some.inj (kw_type.symm.trans ht')
  have hc := cells_of_strs Tryd.underlying41 Tryd.underlying9 (by kernel_rfl) (by kernel_rfl) hd'
  rw [hvar']
  unfold wordCells
  rw [← hc]
set_option maxRecDepth 100000 in
theorem lawAT_lifted (os : Os) (started : os.Started) (H : Type) (enc : TypeId × Value → H) :
    ReturnsInHanded {} Tryd.checked os 3 .any (fun w args => (Rows.fnExactActionTextSpec.pre enc Tryd.prog Tryd.f3 [] false w args ∧ laidMetH Tryd.prog lawAT_laidlist w) ∧ sizedMet enc Tryd.prog Tryd.f3 (OpenSpec.ofChange Rows.fnExactActionTextSpec) false w args)
      (Rows.fnExactActionTextSpec.post enc Tryd.prog Tryd.f3 false true false false) := by
  refine returnsInHanded_of_change_and (C := Tryd.checked) (X := fun w _ => laidMetH Tryd.prog lawAT_laidlist w) (fun _ _ _ hh h => h.of_heap hh) lawAT_own started (by kernel_rfl) Tryd.func3
    (ChangeSpec.witness_shaped (enc := enc) (C := Tryd.checked) (os := os) (X := fun w _ => laidMetH Tryd.prog lawAT_laidlist w) false (World.doorLaid Tryd.prog 24 os) #[.agg #[.int .i64 0, .int .i64 0, .int .i64 0, .bool false, .slice none 0 0]] 8 rfl (World.shaped_of_RefB (by kernel_rfl) (by kernel_rfl)) (by kernel_rfl) (by kernel_rfl) (by kernel_rfl) (lawAT_door os _)) ?_
  intro W base args ds gs before hval0 hW _ _ hL _
  have hval : ∀ (j : Nat) t v, Tryd.f3.params[j]? = some t → args[j]? = some v → Value.okWide Tryd.prog W .any base t v := hval0
  have hW' := hW
  obtain ⟨p, q, hA0, hV, rfl, hfz, hnd⟩ := hW
  have hA : DataW.TrodAll enc Tryd.prog W 0 (fun _ => true) true Tryd.f3.params.toList args.toList ds p := hA0
  rw [Tryd.params3] at hA hval
  obtain ⟨v0, d0, rfl, rfl, h0⟩ := trodAll_one hA
  have hvw := lawAT_kw hL
  obtain ⟨g, tt, cs, fuel, dv, pv', rfl, hg, ht, hvar, hd, rfl⟩ := trodVars_one hV
  obtain rfl := Option.some.inj (kw_named.symm.trans hg)
  obtain rfl := Option.some.inj (kw_type.symm.trans ht)
  obtain rfl : cs = wordCells := Option.some.inj (hvar.symm.trans hvw)
  obtain ⟨rfl, rfl⟩ := DataW.Trod.unique (v := .agg wordCells) ⟨fuel, hd⟩ ⟨3, reads_words enc W _⟩
  have k0 := h0
  have lt0 : ∀ x ∈ p, x.block < W.heap.size := by obtain ⟨m, hm⟩ := k0; exact DataW.trod_lt m _ _ _ hm
  obtain ⟨kd, ch, st, pv, x, ns, rfl, hx, hm⟩ := open_action (hval 0 24 v0 rfl rfl) h0
  have htab := lawAT_tab hL
  clear hA0 hval0

  refine (lawAT_walk kd ch st pv x ns W htab (lawAT_cells hvw) hx hm).mono fun e W' ⟨he, bel⟩ => ?_
  subst he
  exact ⟨_, rfl, _, _, _, [], _, _, hW', trodAll_mk1 (shut_bool Tryd.underlying4 _), trodAll_mk1 (Below.trod lawAT_laid (by kernel_rfl) (of_decide_eq_true (by kernel_rfl)) k0 bel lt0), trodVars_mk1 kw_named kw_type (var_below bel hvw) (reads_words enc W' _), bel.frame _, fun h => by cases h⟩

theorem lawAT_over : Rows.FnExactActionTextSaid :=
  OpenClaim.holds_of_wide 3 Tryd.f3 rfl rfl rfl rfl rfl rfl rfl ⟨rfl, rfl, rfl, rfl, rfl⟩ rfl rfl rfl rfl rfl (by kernel_rfl) Tryd.func3 (by kernel_rfl)
    (of_decide_eq_true (by kernel_rfl)) (by unfold Func.isWrapper; first | (rw [if_pos (by decide +kernel)]; kernel_rfl) | (rw [if_neg (by decide +kernel)]; exact ⟨rfl, rfl⟩))
    (fun os started H enc _ => lawAT_lifted os started H enc)

theorem lawAT_proved : Rows.FnExactActionTextCardSaid :=
  Claim7.holds_tied_plain_at .later [] [.data, .data, .data, .data] true (true, "291d56a9008c8d4c0b57e9a3673639ea8872b1bad2340d822103e820cdba96ec") false
    lawAT_over (fun _ h => by cases h) (by kernel_rfl) (fun _ h => by cases h) fnExactActionText_row_tie rfl ⟨rfl, rfl⟩ (by kernel_rfl) rfl
    (fun f fn hf hfn => by
      obtain rfl : f = 3 := Option.some.inj ((show Tryd.prog.funcNamed Rows.fnExactActionTextRow.func = some 3 by kernel_rfl).symm.trans hf) |>.symm
      obtain rfl : fn = Tryd.f3 := (Option.some.inj (Tryd.func3.symm.trans hfn)).symm
      exact ⟨by kernel_rfl, fun j t ht => by
        rw [Tryd.params3] at ht
        have hm : t ∈ [24] := by simpa using Array.mem_of_getElem? ht
        have hall : ([24].all fun u => !Tryd.prog.wantsStandIn u) = true := by kernel_rfl
        exact (show Tryd.prog.wantsStandIn t = false by simpa using List.all_eq_true.1 hall t hm)⟩)
    (by kernel_rfl)
#print axioms lawAT_proved
end Go.Proofs.YtbeidafmnbjibabDoor
