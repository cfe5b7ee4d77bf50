/-
  What NewGrid answers, of the program and of the model: newSheet, NewGrid; l3Blanks, l3New, NewGrid.
-/
import Derived.Test.YtbndncfkkhjkoaaGridRes
import Derived.Test.YtbndncfkkhjkoaaAppendStep
import Derived.Test.YtbndncfkkhjkoaaPairAppend
import Derived.OwnWalk
import Derived.Test.YtbndncfkkhjkoaaResMem
namespace Go.Proofs.Ytbndncfkkhjkoaa
set_option maxRecDepth 20000
open Go.ChangeShapes Go.WideShapes Go.ChangeAt Go.RowKit
set_option linter.unusedVariables false
set_option linter.unusedSimpArgs false
set_option maxRecDepth 20000

theorem made_zeros (n : Nat) : (madeCells (Value.agg #[.int .i64 0, .int .i64 0]).cells (n * 2)).toList = pvs (List.replicate n (0, 0)) := by
  have h1 : pvs (List.replicate n (0, 0)) = List.replicate (n * 2) (.int .i64 0) := by
    rw [List.eq_replicate_iff]
    refine ⟨by rw [pvs_length]; simp, fun u hu => ?_⟩
    simp only [pvs, List.mem_flatMap] at hu
    obtain ⟨p, hp, hu⟩ := hu
    obtain rfl := List.eq_of_mem_replicate hp
    simpa using hu
  rw [h1, List.eq_replicate_iff]
  refine ⟨by simp [madeCells], fun u hu => ?_⟩
  simp [madeCells, Value.cells] at hu
  obtain ⟨a, ha, rfl⟩ := hu
  rcases Nat.mod_two_eq_zero_or_one a with h | h <;> simp [h]

def newRes (r wd : Int) : GRes := if sizeB r wd = true then ⟨0, r, wd, mkL (r * wd).toNat (fun _ => (32, 0)), []⟩ else gbad 3
theorem newRes_len (r wd : Int) : (newRes r wd).cs.length ≤ 72 ∧ (newRes r wd).bs.length ≤ 60 := by
  unfold newRes
  split
  · rename_i h
    obtain ⟨s1, s2, s3, s4, s5, s6⟩ := size_mul h
    exact ⟨by rw [mkL_length]; omega, by simp⟩
  · simp [gbad]

theorem one_read (w : World) (c g : Int) (t : TypeId) : PRead (w.alloc (.cells #[.int .i64 c, .int .i64 g] t)) (.slice (some ⟨w.heap.size, 0, none⟩) 1 1) [(c, g)] := by
  refine ⟨_, _, rfl, .inr ⟨w.heap.size, 0, rfl, fun i hi => ?_⟩⟩
  obtain rfl : i = 0 := by simpa using hi
  exact ⟨by simp [go_sem], by simp [go_sem]⟩
set_option maxHeartbeats 1000000 in
theorem l3Blanks_calls (n : Nat) (at' : Int) (hn : n ≤ 1048576) (w : World) :
    Calls Try.prog 114 #[.int .i64 n, .int .i64 at'] w fun e w' => ∃ v, e = .returned v ∧ w'.ownsRow w.heap.size 73 2 v n (pvs (List.replicate n (32, at'))) ∧ Below w.heap.size w w' := by
  obtain ⟨i0, hi, hz0, hz1, hz2⟩ := info_parts info_cell
  go_enter Try.func114, Try.ntmps114
  go_wp2
  go_loopw [0, 5] (fun i v wr => ∃ j k : Nat, j + k = n ∧ i = .int .i64 j ∧ Hid (wr.ownsRow w.heap.size 73 2 v k (pvs (List.replicate k (32, at')))) ∧ Below w.heap.size w wr) (fun i _ _ => (intOf i).toNat)
  case atStart => exact ⟨n, 0, by omega, rfl, hide (World.ownsRow_lit (base := w.heap.size) (e := 73) (size := 2) w #[] 0 (Nat.le_refl _) (by simp) rfl), (Below.refl _ _).alloc (Nat.le_refl _) _⟩
  case round =>
    obtain ⟨j, k, hjk, rfl, hown, hb⟩ := hrel
    by_cases hj : 0 < j
    · have hjI : (0 : Int) < (j : Int) := by omega
      have hs : w.heap.size ≤ wr.heap.size := hb.size
      obtain ⟨av, cv, rfl, hvc⟩ := own_room2 hown.out
      have hown1 := hown.out.alloc (.cells #[.int .i64 32, .int .i64 at'] 73)
      have hpr := one_read wr 32 at' 73
      go_wp2_with (at_builtin; refine wpList_append_pread _ rfl (.tmp 11) (.tmp 14) 69 rfl w.heap.size 73 i0 (.agg #[.int .i64 0, .int .i64 0]) 16 Try.underlying69 hi hz0 hz1 hz2 rfl _ k (List.replicate k (32, at')) rfl hown1 (some ⟨wr.heap.size, 0, none⟩) [(32, at')] 1 1 rfl rfl hpr (by unfold maxLen; omega) (by omega) (by simp; omega) ?_)
      intro v2 w2 hown2 hgr2
      have hb2 : Below w.heap.size w w2 := hb.trans ((((Below.refl _ _).alloc hs _) : Below w.heap.size wr (wr.alloc (.cells #[.int .i64 32, .int .i64 at'] 73))).grown hgr2 (by simp; omega) (fun q hq => (hown1.lt q hq).1))
      have H2 : Hid (w2.ownsRow w.heap.size 73 2 v2 (k + 1) (pvs (List.replicate (k + 1) (32, at')))) := by
        have h := hown2
        rw [← List.replicate_succ'] at h
        exact hide h
      have hjs : ((j : Int) - 1) = ((j - 1 : Nat) : Int) := by omega
      clear hown2 hgr2 hpr hown1
      go_wp2
      go_roundw
      case rel => exact ⟨j - 1, k + 1, by omega, by first | rfl | go_num | (rw [hjs]), H2, hb2⟩
      case measure => simp [intOf]; omega
    · obtain rfl : j = 0 := by omega
      obtain rfl : k = n := by omega
      go_wp2
      go_ret
      exact ⟨_, rfl, hown.out, hb⟩

set_option maxHeartbeats 1000000 in
theorem l3New_calls (r wd : Int) (n : Nat) (hn : r * wd = (n : Int)) (h0 : 0 < n) (hn1 : n ≤ 1048576) (w : World) :
    Calls Try.prog 124 #[.int .i64 r, .int .i64 wd] w fun e w' => ∃ b cap, e = .returned (.agg #[.int .i64 r, .int .i64 wd, .slice (some ⟨b, 0, none⟩) n cap, .slice none 0 0]) ∧ n ≤ cap ∧ w.heap.size ≤ b ∧ b < w'.heap.size ∧ Row w' b 0 n (fun _ => (32, 0)) ∧ Below w.heap.size w w' := by
  have hk : IntKind.i64.wrap (r * wd) = (n : Int) := by rw [hn]; exact wrap_small (by omega) (by omega)
  have HN := hide hn
  clear hn
  go_enter Try.func124, Try.ntmps124
  go_wp2_with fail
  refine (l3Blanks_calls n 0 hn1 _).mono ?_
  rintro e w1 ⟨v, rfl, hown, hb1⟩
  have hs1 : w.heap.size + 1 ≤ w1.heap.size := by have := hb1.size; simp at this; omega
  have b1 : Below w.heap.size w w1 := (show Below w.heap.size w (w.alloc (.cells #[.int .i64 0, .int .i64 0, .slice none 0 0, .slice none 0 0] 71)) from (by repeat' (first | with_reducible exact Below.refl _ _ | with_reducible assumption | with_reducible refine Below.drew ?_ | with_reducible refine Below.alloc ?_ ?_ _ | with_reducible refine Below.setCell ?_ ?_ _ | (simp; done) | (simp; omega) | omega))).trans (hb1.mono (by simp))
  obtain ⟨b, cap, rfl, hc, _, x1, x2, hrow⟩ := own_row hown h0
  have x3 : w.heap.size + 1 ≤ b := by simpa using x1
  have R0 : w1.cell? ⟨w.heap.size, 0, none⟩ = some (.int .i64 0) := cellb hb1 (by simp [go_sem])
  have R1 : w1.cell? ⟨w.heap.size, 1, none⟩ = some (.int .i64 0) := cellb hb1 (by simp [go_sem])
  have R2 : w1.cell? ⟨w.heap.size, 2, none⟩ = some (.slice none 0 0) := cellb hb1 (by simp [go_sem])
  have R3 : w1.cell? ⟨w.heap.size, 3, none⟩ = some (.slice none 0 0) := cellb hb1 (by simp [go_sem])
  have hz : ∀ o, w1.frozen? ⟨w.heap.size, o, none⟩ = false := fun o => by rw [hb1.frozen (p := ⟨w.heap.size, o, none⟩) (by simp)]; simp [go_sem]
  have Z0 := hz 0
  have Z1 := hz 1
  have Z2 := hz 2
  have Z3 := hz 3
  have HR := hide hrow
  clear hrow hown hz x1 hb1
  have hr := res4 (w := w1) (r := w.heap.size) (.int .i64 r) (.int .i64 wd) (.slice (some ⟨b, 0, none⟩) n cap) (.slice none 0 0) R0 R1 R2 R3
  have t5 : Touch w.heap.size 0 4 w1 ((((w1.setCell ⟨w.heap.size, 0, none⟩ (.int .i64 r)).setCell ⟨w.heap.size, 1, none⟩ (.int .i64 wd)).setCell ⟨w.heap.size, 2, none⟩ (.slice (some ⟨b, 0, none⟩) n cap)).setCell ⟨w.heap.size, 3, none⟩ (.slice none 0 0)) := ((((Touch.refl _ _ _ _).setCell (by omega) (by omega) _).setCell (by omega) (by omega) _).setCell (by omega) (by omega) _).setCell (by omega) (by omega) _
  have T5 := hide t5
  have HRr := hide hr
  clear t5 hr
  go_wp2
  have hr := HRr.out
  refine bodyPost_ret (v := .agg #[.int .i64 r, .int .i64 wd, .slice (some ⟨b, 0, none⟩) n cap, .slice none 0 0]) (by simp only [results, Try.results124]; simp [go_sem, hr.1, hr.2.1, hr.2.2.1, hr.2.2.2]) rfl ⟨_, _, rfl, hc, by omega, by have := T5.out.size; omega, (HR.out.touch T5.out (by omega)).congr (fun i hi => by simp [List.getD_eq_getElem?_getD, hi]), b1.trans (T5.out.below (Nat.le_refl _) (by omega))⟩


end Go.Proofs.Ytbndncfkkhjkoaa
