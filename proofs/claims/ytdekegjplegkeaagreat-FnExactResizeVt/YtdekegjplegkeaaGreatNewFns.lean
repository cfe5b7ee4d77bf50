/-
  What NewGrid answers, of the program and of the model: newSheet, NewGrid; l3Blanks, l3New, NewGrid.
-/
import Derived.Test.YtdekegjplegkeaaGreatGridRes
import Derived.Test.YtdekegjplegkeaaGreatAppendStep
import Derived.Test.YtdekegjplegkeaaGreatPairAppend
import Derived.OwnWalk
import Derived.Test.YtdekegjplegkeaaGreatResMem
namespace Go.Proofs.YtdekegjplegkeaaGreat
set_option maxRecDepth 20000
open Go.ChangeShapes Go.WideShapes Go.ChangeAt Go.RowKit
set_option linter.unusedVariables false
set_option linter.unusedSimpArgs false
set_option maxRecDepth 20000

theorem made_zeros (n : Nat) : (madeCells (Value.agg #[.int .i64 0, .int .i64 0]).cells (n * 2)).toList = pvs (List.replicate n (0, 0)) := by
  have h1 : pvs (List.replicate n (0, 0)) = List.replicate (n * 2) (.int .i64 0) := by
    rw [List.eq_replicate_iff]
    refine ⟨by rw [pvs_length]; simp, fun u hu => ?_⟩
    simp only [pvs, List.mem_flatMap] at hu
    obtain ⟨p, hp, hu⟩ := hu
    obtain rfl := List.eq_of_mem_replicate hp
    simpa using hu
  rw [h1, List.eq_replicate_iff]
  refine ⟨by simp [madeCells], fun u hu => ?_⟩
  simp [madeCells, Value.cells] at hu
  obtain ⟨a, ha, rfl⟩ := hu
  rcases Nat.mod_two_eq_zero_or_one a with h | h <;> simp [h]

set_option maxHeartbeats 1000000 in
theorem newSheet_calls (rows wd c g : Int) (n : Nat) (hn : rows * wd = (n : Int)) (h0 : 0 < n) (hn1 : n ≤ 1048576) (w : World) :
    Calls Tryz.prog 224 #[.int .i64 rows, .int .i64 wd, .agg #[.int .i64 c, .int .i64 g]] w fun e w' => ∃ b, e = .returned (.agg #[.int .i64 wd, .slice (some ⟨b, 0, none⟩) n n]) ∧ w.heap.size ≤ b ∧ b < w'.heap.size ∧ Row w' b 0 n (fun _ => (c, g)) ∧ Below w.heap.size w w' := by
  obtain ⟨i0, hi, hz0, hz1, hz2⟩ := info_parts info_cell
  have hk : IntKind.i64.wrap (rows * wd) = (n : Int) := by rw [hn]; exact wrap_small (by omega) (by omega)
  have HN := hide hn
  clear hn
  go_enter Tryz.func224, Tryz.ntmps224
  go_wp2_with (at_make; refine wpList_make_full _ rfl (.tmp 11) (.tmp 11) 33 rfl (w.heap.size + 2) 193 i0 (.agg #[.int .i64 0, .int .i64 0]) 2 Tryz.underlying33 hi hz0 hz1 .i64 .i64 _ _ n rfl rfl rfl rfl ?c1 ?c2 ?c3 ?_)
  case c1 => rw [hz2]; omega
  case c2 => unfold maxLen; omega
  case c3 => simp
  intro w1 hown hgrow
  have hz := made_zeros n
  simp only [Value.cells] at hz
  rw [hz] at hown
  obtain ⟨b, cap, e1, _, _, x1, x2, hrow⟩ := own_row hown h0
  injection e1 with e1 e2 e3
  injection e1 with e1
  injection e1 with e1
  subst e3
  subst e1
  have hb1 : Below (w.heap.size + 2) ((w.alloc (.cells #[.int .i64 c, .int .i64 g] 193)).alloc (.cells #[.int .i64 0, .slice none 0 0] 217)) w1 := (Below.refl _ _).grown hgrow (by simp) (fun k hk => by cases hk)
  have C0 : w1.cell? ⟨w.heap.size, 0, none⟩ = some (.int .i64 c) := cellk hb1 (by omega) (by simp [go_sem])
  have C1 : w1.cell? ⟨w.heap.size, 1, none⟩ = some (.int .i64 g) := cellk hb1 (by omega) (by simp [go_sem])
  have R0 : w1.cell? ⟨w.heap.size + 1, 0, none⟩ = some (.int .i64 0) := cellk hb1 (by omega) (by simp [go_sem])
  have R1 : w1.cell? ⟨w.heap.size + 1, 1, none⟩ = some (.slice none 0 0) := cellk hb1 (by omega) (by simp [go_sem])
  have Z0 : w1.frozen? ⟨w.heap.size + 1, 0, none⟩ = false := by rw [hb1.frozen (p := ⟨w.heap.size + 1, 0, none⟩) (by simp)]; simp [go_sem]
  have Z1 : w1.frozen? ⟨w.heap.size + 1, 1, none⟩ = false := by rw [hb1.frozen (p := ⟨w.heap.size + 1, 1, none⟩) (by simp)]; simp [go_sem]
  have b1 : Below w.heap.size w w1 := (show Below w.heap.size w ((w.alloc (.cells #[.int .i64 c, .int .i64 g] 193)).alloc (.cells #[.int .i64 0, .slice none 0 0] 217)) from (by repeat' (first | with_reducible exact Below.refl _ _ | with_reducible assumption | with_reducible refine Below.drew ?_ | with_reducible refine Below.alloc ?_ ?_ _ | with_reducible refine Below.setCell ?_ ?_ _ | (simp; done) | (simp; omega) | omega))).trans (hb1.mono (by omega))
  have HR := hide hrow
  clear hown hgrow hb1 hz hrow
  have l1 : w.heap.size < w1.heap.size := by omega
  have hb2 : Below w1.heap.size w1 (w1.alloc (.cells #[.int .i64 wd, .slice (some ⟨w.heap.size + 2, 0, none⟩) n n] 217)) := (by repeat' (first | with_reducible exact Below.refl _ _ | with_reducible assumption | with_reducible refine Below.drew ?_ | with_reducible refine Below.alloc ?_ ?_ _ | with_reducible refine Below.setCell ?_ ?_ _ | (simp; done) | (simp; omega) | omega))
  have D0 := cellb hb2 C0
  have D1 := cellb hb2 C1
  go_wp2_with fail
  refine (fill_calls (w.heap.size + 2) 0 n n _ _ c g _ ⟨Nat.le_refl _, _, rfl, fun _ => rfl⟩ (HR.out.below hb2 x2) (by simp; omega) hn1).mono ?_
  rintro e w2 ⟨⟨u, rfl⟩, hr2, ht2⟩
  have S0 : w2.cell? ⟨w1.heap.size, 0, none⟩ = some (.int .i64 wd) := ht2.cellAt (by simp) (by omega)
  have S1 : w2.cell? ⟨w1.heap.size, 1, none⟩ = some (.slice (some ⟨w.heap.size + 2, 0, none⟩) n n) := ht2.cellAt (by simp) (by omega)
  replace R0 := ht2.cellAt (cellb hb2 R0) (by omega)
  replace R1 := ht2.cellAt (cellb hb2 R1) (by omega)
  replace Z0 := ht2.frozenAt (by simp; omega) ((hb2.frozen (p := ⟨w.heap.size + 1, 0, none⟩) (by simp; omega)).trans Z0)
  replace Z1 := ht2.frozenAt (by simp; omega) ((hb2.frozen (p := ⟨w.heap.size + 1, 1, none⟩) (by simp; omega)).trans Z1)
  have b2 : Below w.heap.size w w2 := b1.trans ((hb2.mono b1.size).trans (ht2.below (by omega) (by simp; omega)))
  have hs2 : w1.heap.size + 1 ≤ w2.heap.size := by have := ht2.size; simp at this; omega
  have H2 := hide hr2
  clear hr2 ht2 C0 C1 D0 D1
  obtain ⟨s0, s1⟩ := res2 (w := w2) (r := w.heap.size + 1) (.int .i64 wd) (.slice (some ⟨w.heap.size + 2, 0, none⟩) n n) R0 R1
  have t3 : Touch (w.heap.size + 1) 0 2 w2 ((w2.setCell ⟨w.heap.size + 1, 0, none⟩ (.int .i64 wd)).setCell ⟨w.heap.size + 1, 1, none⟩ (.slice (some ⟨w.heap.size + 2, 0, none⟩) n n)) := ((Touch.refl _ _ _ _).setCell (by omega) (by omega) _).setCell (by omega) (by omega) _
  have T3 := hide t3
  clear t3
  go_wp2
  refine bodyPost_ret (v := .agg #[.int .i64 wd, .slice (some ⟨w.heap.size + 2, 0, none⟩) n n]) (by simp only [results, Tryz.results224]; simp [go_sem, s0, s1]) rfl ⟨_, rfl, by omega, by have := T3.out.size; omega, H2.out.touch T3.out (by omega), b2.trans (T3.out.below (by omega) (by omega))⟩
def newRes (r wd : Int) : GRes := if sizeB r wd = true then ⟨0, r, wd, mkL (r * wd).toNat (fun _ => (32, 0)), []⟩ else gbad 3
theorem newRes_len (r wd : Int) : (newRes r wd).cs.length ≤ 72 ∧ (newRes r wd).bs.length ≤ 60 := by
  unfold newRes
  split
  · rename_i h
    obtain ⟨s1, s2, s3, s4, s5, s6⟩ := size_mul h
    exact ⟨by rw [mkL_length]; omega, by simp⟩
  · simp [gbad]

set_option maxHeartbeats 1000000 in
theorem implNewGrid_calls (r wd : Int) (w : World) :
    Calls Tryz.prog 216 #[.int .i64 r, .int .i64 wd] w fun e w' => ∃ x y, e = .returned (.agg #[.int .i64 (newRes r wd).code, .int .i64 (newRes r wd).rows, .int .i64 (newRes r wd).wd, x, y]) ∧ GOwn w.heap.size w'.heap.size w' x y (newRes r wd).cs (newRes r wd).bs ∧ Below w.heap.size w w' := by
  cases hz : sizeB r wd with
  | false =>
    have e : newRes r wd = gbad 3 := by unfold newRes; rw [if_neg (by rw [hz]; simp)]
    rw [e]
    simp only [gbad]
    go_enter Tryz.func216, Tryz.ntmps216
    go_wp2_with (go_at_call 164; refine (isSize_calls r wd _).mono ?_; rintro e w' ⟨rfl, hw⟩; rw [hw, hz]; clear hw w')
    refine bodyPost_ret (v := .agg #[.int .i64 3, .int .i64 0, .int .i64 0, .slice none 0 0, .slice none 0 0]) (by simp [results, Tryz.results216, go_sem]) rfl ⟨_, _, rfl, GOwn.nil _ _ _ (by simp), (by repeat' (first | with_reducible exact Below.refl _ _ | with_reducible assumption | with_reducible refine Below.drew ?_ | with_reducible refine Below.alloc ?_ ?_ _ | with_reducible refine Below.setCell ?_ ?_ _ | (simp; done) | (simp; omega) | omega))⟩
  | true =>
    obtain ⟨s1, s2, s3, s4, s5, s6⟩ := size_mul hz
    have e : newRes r wd = ⟨0, r, wd, mkL (r * wd).toNat (fun _ => (32, 0)), []⟩ := by unfold newRes; rw [if_pos hz]
    rw [e]
    clear e
    obtain ⟨n, hn⟩ : ∃ n : Nat, r * wd = (n : Int) := ⟨(r * wd).toNat, by omega⟩
    have hq : Hid ((n : Int) / wd = r) := (by rw [← hn]; exact Int.mul_ediv_cancel _ (by omega) : _ = _)
    have hN : (r * wd).toNat = n := by omega
    rw [hN]
    clear hN
    have n0 : 0 < n := by omega
    have n1 : n ≤ 72 := by omega
    have HN := hide hn
    clear hn s5 s6
    go_enter Tryz.func216, Tryz.ntmps216
    go_wp2_with (go_at_call 164; refine (isSize_calls r wd _).mono ?_; rintro e w' ⟨rfl, hw⟩; rw [hw, hz]; clear hw w')
    refine (blankOf_calls 0 _).mono ?_
    rintro e w1 ⟨rfl, hb1⟩
    have hs1 : w.heap.size + 1 ≤ w1.heap.size := by have := hb1.size; simp at this; omega
    have b1 : Below w.heap.size w w1 := (show Below w.heap.size w (w.alloc (.cells #[.int .i64 0, .int .i64 0, .int .i64 0, .slice none 0 0, .slice none 0 0] 185)) from (by repeat' (first | with_reducible exact Below.refl _ _ | with_reducible assumption | with_reducible refine Below.drew ?_ | with_reducible refine Below.alloc ?_ ?_ _ | with_reducible refine Below.setCell ?_ ?_ _ | (simp; done) | (simp; omega) | omega))).trans (hb1.mono (by simp))
    have R0 : w1.cell? ⟨w.heap.size, 0, none⟩ = some (.int .i64 0) := cellb hb1 (by simp [go_sem])
    have R1 : w1.cell? ⟨w.heap.size, 1, none⟩ = some (.int .i64 0) := cellb hb1 (by simp [go_sem])
    have R2 : w1.cell? ⟨w.heap.size, 2, none⟩ = some (.int .i64 0) := cellb hb1 (by simp [go_sem])
    have R3 : w1.cell? ⟨w.heap.size, 3, none⟩ = some (.slice none 0 0) := cellb hb1 (by simp [go_sem])
    have R4 : w1.cell? ⟨w.heap.size, 4, none⟩ = some (.slice none 0 0) := cellb hb1 (by simp [go_sem])
    have HZ : Hid (∀ o, w1.frozen? ⟨w.heap.size, o, none⟩ = false) := fun o => by rw [hb1.frozen (p := ⟨w.heap.size, o, none⟩) (by simp)]; simp [go_sem]
    clear hb1
    go_wp2_with fail
    refine (newSheet_calls r wd 32 0 n HN.out n0 (by omega) w1).mono ?_
    rintro e w2 ⟨bx, rfl, x1, x2, hrow, hb2⟩
    have HR := hide hrow
    clear hrow
    go_wp2_with fail
    refine (gridOf_calls wd 0 (by omega) (by omega) (some ⟨bx, 0, none⟩) none n 0 n 0 (by omega) w2).mono ?_
    rintro e w3 ⟨rfl, hb3⟩
    rw [hq.out]
    have hb4 : Below w1.heap.size w1 w3 := hb2.trans (hb3.mono hb2.size)
    replace R0 := cellb hb4 R0
    replace R1 := cellb hb4 R1
    replace R2 := cellb hb4 R2
    replace R3 := cellb hb4 R3
    replace R4 := cellb hb4 R4
    have hz' : ∀ o, w3.frozen? ⟨w.heap.size, o, none⟩ = false := fun o => by rw [hb4.frozen (p := ⟨w.heap.size, o, none⟩) (by simp; omega)]; exact HZ.out o
    have Z0 := hz' 0
    have Z1 := hz' 1
    have Z2 := hz' 2
    have Z3 := hz' 3
    have Z4 := hz' 4
    have b3 := b1.trans (hb4.mono b1.size)
    have hs3 : w2.heap.size ≤ w3.heap.size := hb3.size
    have HR3 := hide (HR.out.below hb3 x2)
    clear hb2 hb3 hb4 b1 hz' HZ HR
    have hr := res5 (w := w3) (r := w.heap.size) (.int .i64 0) (.int .i64 r) (.int .i64 wd) (.slice (some ⟨bx, 0, none⟩) n n) (.slice none 0 0) R0 R1 R2 R3 R4
    go_wp2
    refine bodyPost_ret (v := .agg #[.int .i64 0, .int .i64 r, .int .i64 wd, .slice (some ⟨bx, 0, none⟩) n n, .slice none 0 0]) (by simp only [results, Tryz.results216]; simp [go_sem, hr.1, hr.2.1, hr.2.2.1, hr.2.2.2.1, hr.2.2.2.2]) rfl ⟨_, _, rfl, ?_, b3.trans (show Below w.heap.size w3 _ from (by repeat' (first | with_reducible exact Below.refl _ _ | with_reducible assumption | with_reducible refine Below.drew ?_ | with_reducible refine Below.alloc ?_ ?_ _ | with_reducible refine Below.setCell ?_ ?_ _ | (simp; done) | (simp; omega) | omega)))⟩
    refine (gown_of (w := w3) (base := w1.heap.size) (m := w3.heap.size) (e := 193) HR3.out (by omega) (by omega) (World.ownsRow_nil _ _ _ _) (Nat.le_refl _) (by omega) (by simp [World.setCell]) (fun k _ => ?_) (by omega)).mono (by omega) (Nat.le_refl _)
    by_cases hk : k < w1.heap.size
    · exact .inr hk
    · left
      simp only [World.setCell, Array.getElem?_modify]
      repeat rw [if_neg (by omega)]
theorem one_read (w : World) (c g : Int) (t : TypeId) : PRead (w.alloc (.cells #[.int .i64 c, .int .i64 g] t)) (.slice (some ⟨w.heap.size, 0, none⟩) 1 1) [(c, g)] := by
  refine ⟨_, _, rfl, .inr ⟨w.heap.size, 0, rfl, fun i hi => ?_⟩⟩
  obtain rfl : i = 0 := by simpa using hi
  exact ⟨by simp [go_sem], by simp [go_sem]⟩
set_option maxHeartbeats 1000000 in
theorem l3Blanks_calls (n : Nat) (at' : Int) (hn : n ≤ 1048576) (w : World) :
    Calls Tryz.prog 223 #[.int .i64 n, .int .i64 at'] w fun e w' => ∃ v, e = .returned v ∧ w'.ownsRow w.heap.size 193 2 v n (pvs (List.replicate n (32, at'))) ∧ Below w.heap.size w w' := by
  obtain ⟨i0, hi, hz0, hz1, hz2⟩ := info_parts info_cell
  go_enter Tryz.func223, Tryz.ntmps223
  go_wp2
  go_loopw [0, 5] (fun i v wr => ∃ j k : Nat, j + k = n ∧ i = .int .i64 j ∧ Hid (wr.ownsRow w.heap.size 193 2 v k (pvs (List.replicate k (32, at')))) ∧ Below w.heap.size w wr) (fun i _ _ => (intOf i).toNat)
  case atStart => exact ⟨n, 0, by omega, rfl, hide (World.ownsRow_lit (base := w.heap.size) (e := 193) (size := 2) w #[] 0 (Nat.le_refl _) (by simp) rfl), (Below.refl _ _).alloc (Nat.le_refl _) _⟩
  case round =>
    obtain ⟨j, k, hjk, rfl, hown, hb⟩ := hrel
    by_cases hj : 0 < j
    · have hjI : (0 : Int) < (j : Int) := by omega
      have hs : w.heap.size ≤ wr.heap.size := hb.size
      obtain ⟨av, cv, rfl, hvc⟩ := own_room2 hown.out
      have hown1 := hown.out.alloc (.cells #[.int .i64 32, .int .i64 at'] 193)
      have hpr := one_read wr 32 at' 193
      go_wp2_with (at_builtin; refine wpList_append_pread _ rfl (.tmp 11) (.tmp 14) 33 rfl w.heap.size 193 i0 (.agg #[.int .i64 0, .int .i64 0]) 16 Tryz.underlying33 hi hz0 hz1 hz2 rfl _ k (List.replicate k (32, at')) rfl hown1 (some ⟨wr.heap.size, 0, none⟩) [(32, at')] 1 1 rfl rfl hpr (by unfold maxLen; omega) (by omega) (by simp; omega) ?_)
      intro v2 w2 hown2 hgr2
      have hb2 : Below w.heap.size w w2 := hb.trans ((((Below.refl _ _).alloc hs _) : Below w.heap.size wr (wr.alloc (.cells #[.int .i64 32, .int .i64 at'] 193))).grown hgr2 (by simp; omega) (fun q hq => (hown1.lt q hq).1))
      have H2 : Hid (w2.ownsRow w.heap.size 193 2 v2 (k + 1) (pvs (List.replicate (k + 1) (32, at')))) := by
        have h := hown2
        rw [← List.replicate_succ'] at h
        exact hide h
      have hjs : ((j : Int) - 1) = ((j - 1 : Nat) : Int) := by omega
      clear hown2 hgr2 hpr hown1
      go_wp2
      go_roundw
      case rel => exact ⟨j - 1, k + 1, by omega, by first | rfl | go_num | (rw [hjs]), H2, hb2⟩
      case measure => simp [intOf]; omega
    · obtain rfl : j = 0 := by omega
      obtain rfl : k = n := by omega
      go_wp2
      go_ret
      exact ⟨_, rfl, hown.out, hb⟩

set_option maxHeartbeats 1000000 in
theorem l3New_calls (r wd : Int) (n : Nat) (hn : r * wd = (n : Int)) (h0 : 0 < n) (hn1 : n ≤ 1048576) (w : World) :
    Calls Tryz.prog 191 #[.int .i64 r, .int .i64 wd] w fun e w' => ∃ b cap, e = .returned (.agg #[.int .i64 r, .int .i64 wd, .slice (some ⟨b, 0, none⟩) n cap, .slice none 0 0]) ∧ n ≤ cap ∧ w.heap.size ≤ b ∧ b < w'.heap.size ∧ Row w' b 0 n (fun _ => (32, 0)) ∧ Below w.heap.size w w' := by
  have hk : IntKind.i64.wrap (r * wd) = (n : Int) := by rw [hn]; exact wrap_small (by omega) (by omega)
  have HN := hide hn
  clear hn
  go_enter Tryz.func191, Tryz.ntmps191
  go_wp2_with fail
  refine (l3Blanks_calls n 0 hn1 _).mono ?_
  rintro e w1 ⟨v, rfl, hown, hb1⟩
  have hs1 : w.heap.size + 1 ≤ w1.heap.size := by have := hb1.size; simp at this; omega
  have b1 : Below w.heap.size w w1 := (show Below w.heap.size w (w.alloc (.cells #[.int .i64 0, .int .i64 0, .slice none 0 0, .slice none 0 0] 35)) from (by repeat' (first | with_reducible exact Below.refl _ _ | with_reducible assumption | with_reducible refine Below.drew ?_ | with_reducible refine Below.alloc ?_ ?_ _ | with_reducible refine Below.setCell ?_ ?_ _ | (simp; done) | (simp; omega) | omega))).trans (hb1.mono (by simp))
  obtain ⟨b, cap, rfl, hc, _, x1, x2, hrow⟩ := own_row hown h0
  have x3 : w.heap.size + 1 ≤ b := by simpa using x1
  have R0 : w1.cell? ⟨w.heap.size, 0, none⟩ = some (.int .i64 0) := cellb hb1 (by simp [go_sem])
  have R1 : w1.cell? ⟨w.heap.size, 1, none⟩ = some (.int .i64 0) := cellb hb1 (by simp [go_sem])
  have R2 : w1.cell? ⟨w.heap.size, 2, none⟩ = some (.slice none 0 0) := cellb hb1 (by simp [go_sem])
  have R3 : w1.cell? ⟨w.heap.size, 3, none⟩ = some (.slice none 0 0) := cellb hb1 (by simp [go_sem])
  have hz : ∀ o, w1.frozen? ⟨w.heap.size, o, none⟩ = false := fun o => by rw [hb1.frozen (p := ⟨w.heap.size, o, none⟩) (by simp)]; simp [go_sem]
  have Z0 := hz 0
  have Z1 := hz 1
  have Z2 := hz 2
  have Z3 := hz 3
  have HR := hide hrow
  clear hrow hown hz x1 hb1
  have hr := res4 (w := w1) (r := w.heap.size) (.int .i64 r) (.int .i64 wd) (.slice (some ⟨b, 0, none⟩) n cap) (.slice none 0 0) R0 R1 R2 R3
  have t5 : Touch w.heap.size 0 4 w1 ((((w1.setCell ⟨w.heap.size, 0, none⟩ (.int .i64 r)).setCell ⟨w.heap.size, 1, none⟩ (.int .i64 wd)).setCell ⟨w.heap.size, 2, none⟩ (.slice (some ⟨b, 0, none⟩) n cap)).setCell ⟨w.heap.size, 3, none⟩ (.slice none 0 0)) := ((((Touch.refl _ _ _ _).setCell (by omega) (by omega) _).setCell (by omega) (by omega) _).setCell (by omega) (by omega) _).setCell (by omega) (by omega) _
  have T5 := hide t5
  have HRr := hide hr
  clear t5 hr
  go_wp2
  have hr := HRr.out
  refine bodyPost_ret (v := .agg #[.int .i64 r, .int .i64 wd, .slice (some ⟨b, 0, none⟩) n cap, .slice none 0 0]) (by simp only [results, Tryz.results191]; simp [go_sem, hr.1, hr.2.1, hr.2.2.1, hr.2.2.2]) rfl ⟨_, _, rfl, hc, by omega, by have := T5.out.size; omega, (HR.out.touch T5.out (by omega)).congr (fun i hi => by simp [List.getD_eq_getElem?_getD, hi]), b1.trans (T5.out.below (Nat.le_refl _) (by omega))⟩


end Go.Proofs.YtdekegjplegkeaaGreat
