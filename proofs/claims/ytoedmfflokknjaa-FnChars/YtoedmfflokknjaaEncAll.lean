/-
  What EncodeAll answers, of the program and of the model.
-/
import Derived.Test.YtoedmfflokknjaaRows
import Derived.Test.YtoedmfflokknjaaEncChar
namespace Go.Proofs.Ytoedmfflokknjaa
open Go.ChangeShapes Go.WideShapes Go.ChangeAt Go.RowKit
set_option linter.unusedVariables false
set_option linter.unusedSimpArgs false

def encAllCode (zs : List Int) : Int := if 400 < zs.length then 2 else if zs.all chB = true then 0 else 3
def encAllBytes (zs : List Int) : List Int := if 400 < zs.length then [] else if zs.all chB = true then zs.flatMap encL else []
/-- The bytes of the first k. -/
def encTo (zs : List Int) (k : Nat) : List Int := (zs.take k).flatMap encL

theorem flat_length (zs : List Int) : (zs.flatMap encL).length ≤ 3 * zs.length := by
  induction zs with
  | nil => simp
  | cons z zs ih => have := encL_length z; rw [List.flatMap_cons, List.length_append, List.length_cons]; omega
theorem encTo_length (zs : List Int) (k : Nat) : (encTo zs k).length ≤ 3 * k := by
  have h := flat_length (zs.take k)
  have h2 : (zs.take k).length ≤ k := List.length_take_le _ _
  unfold encTo; omega
theorem take_snoc_int (zs : List Int) (k : Nat) (h : k < zs.length) : zs.take (k + 1) = zs.take k ++ [zs.getD k 0] := by
  rw [List.take_succ_eq_append_getElem h]
  simp [h]
theorem encTo_succ (zs : List Int) (k : Nat) (h : k < zs.length) : encTo zs (k + 1) = encTo zs k ++ encL (zs.getD k 0) := by
  unfold encTo; rw [take_snoc_int zs k h]; simp [List.flatMap_append]
theorem all_succ (zs : List Int) (k : Nat) (h : k < zs.length) (h1 : (zs.take k).all chB = true) (h2 : chB (zs.getD k 0) = true) : (zs.take (k + 1)).all chB = true := by
  rw [take_snoc_int zs k h, List.all_append, h1]
  simp only [List.all_cons, List.all_nil, h2, Bool.and_self]
theorem all_not (zs : List Int) (k : Nat) (h : k < zs.length) (h2 : chB (zs.getD k 0) = false) : zs.all chB = false := by
  rw [List.all_eq_false]
  refine ⟨zs.getD k 0, ?_, by rw [h2]; simp⟩
  simp [h]
theorem encAllBytes_length (zs : List Int) : (encAllBytes zs).length ≤ 1200 := by
  unfold encAllBytes
  split
  · simp
  · split
    · have := flat_length zs; omega
    · simp

theorem encL_ne (z : Int) : encL z ≠ [] := by unfold encL; split <;> (try split) <;> simp
theorem byteVs_append (a b : List Int) : byteVs (a ++ b) = byteVs a ++ byteVs b := by simp [byteVs]

theorem own_keep {w : World} {o : Obj} {w1 : World} (hb : Below (w.heap.size + 1) (w.alloc o) w1) : Below w.heap.size w w1 := ((Below.refl _ _).alloc (Nat.le_refl _) o).trans (hb.mono (by omega))

set_option maxHeartbeats 1000000 in
theorem implEncodeAll_calls (zs : List Int) (v : Value) (w : World) (hn : zs.length ≤ 1048576) (h1 : ReadAt .i64 w v zs) :
    Calls Try.prog 11 #[v] w fun e w' => ∃ x, e = .returned (.agg #[.int .i64 (encAllCode zs), x]) ∧ IntsAt .u8 w.heap.size w'.heap.size w' x (encAllBytes zs) ∧ Below w.heap.size w w' := by
  obtain ⟨a1, c1, rfl, h1⟩ := h1
  by_cases hm : 400 < zs.length
  · have e1 : encAllCode zs = 2 := by unfold encAllCode; rw [if_pos hm]
    have e2 : encAllBytes zs = [] := by unfold encAllBytes; rw [if_pos hm]
    rw [e1, e2]
    clear e1 e2
    go_enter Try.func11, Try.ntmps11
    go_wp2
    exact bodyPost_ret (v := .agg #[.int .i64 2, .slice none 0 0]) (by simp [results, Try.results11, go_sem]) rfl ⟨_, rfl, IntsAt.nil _ _ _ _ _ _, (by repeat' (first | with_reducible exact Below.refl _ _ | with_reducible assumption | with_reducible refine Below.drew ?_ | with_reducible refine Below.alloc ?_ ?_ _ | with_reducible refine Below.setCell ?_ ?_ _ | (simp; done) | (simp; omega) | omega))⟩
  · have e1 : encAllCode zs = if zs.all chB = true then 0 else 3 := by unfold encAllCode; rw [if_neg hm]
    have e2 : encAllBytes zs = if zs.all chB = true then zs.flatMap encL else [] := by unfold encAllBytes; rw [if_neg hm]
    rw [e1, e2]
    clear e1 e2
    generalize hcode : (if zs.all chB = true then (0 : Int) else 3) = code
    generalize hbytes : (if zs.all chB = true then zs.flatMap encL else []) = bytes
    have HC := hide hcode
    have HB := hide hbytes
    clear hcode hbytes
    have H1 := hide h1
    clear h1
    go_enter Try.func11, Try.ntmps11
    go_wp2_with fail
    go_loopw [3, 12] (fun o i wr => ∃ k : Nat, k ≤ zs.length ∧ i = .int .i64 k ∧ Hid ((zs.take k).all chB = true) ∧ wr.ownsRow (w.heap.size + 1) 5 1 o (encTo zs k).length (byteVs (encTo zs k)) ∧ Below (w.heap.size + 1) (w.alloc (.cells #[.int .i64 0, .slice none 0 0] 35)) wr) (fun _ i _ => zs.length - (intOf i).toNat)
    case atStart => exact ⟨0, Nat.zero_le _, rfl, rfl, World.ownsRow_nil _ _ _ _, Below.refl _ _⟩
    case round =>
      obtain ⟨k, hkk, rfl, hall, hown, hb⟩ := hrel
      have hbw := own_keep hb
      obtain ⟨hcl, hfz⟩ := bcell (hb.mono (by simp))
      have hs : w.heap.size < wr.heap.size := by have := hb.size; simp at this; omega
      by_cases hlt : k < zs.length
      · have hpos : zs ≠ [] := by intro h; rw [h] at hlt; simp at hlt
        rcases H1.out with h1 | ⟨b1, o1, rfl, h1⟩
        · exact absurd h1 hpos
        have g0 := cellb hbw (h1 k hlt)
        have hltI : (k : Int) < (zs.length : Int) := by omega
        clear h1 hpos H1
        have hsu := hide (encTo_succ zs k hlt)
        have hal : chB (zs.getD k 0) = true → Hid ((zs.take (k + 1)).all chB = true) := fun h => all_succ zs k hlt hall.out h
        have han : chB (zs.getD k 0) = false → Hid (zs.all chB = false) := fun h => all_not zs k hlt h
        generalize zs.getD k 0 = z at *
        cases hz : chB z with
        | false =>
          have hna := han hz
          clear hal han
          go_wp2_with (go_at_call 36; refine (isChar_calls z _).mono ?_; rintro e w' ⟨rfl, hw⟩; rw [hw, hz]; clear hw w')
          have e1 : code = 3 := by rw [← HC.out, hna.out]; rfl
          have e2 : bytes = [] := by rw [← HB.out, hna.out]; rfl
          subst e1 e2
          exact bodyPost_ret (v := .agg #[.int .i64 3, .slice none 0 0]) (by simp [results, Try.results11, go_sem, hcl, hs]) rfl ⟨_, rfl, IntsAt.nil _ _ _ _ _ _, (by repeat' (first | with_reducible exact Below.refl _ _ | with_reducible assumption | with_reducible refine Below.drew ?_ | with_reducible refine Below.alloc ?_ ?_ _ | with_reducible refine Below.setCell ?_ ?_ _ | (simp; done) | (simp; omega) | omega))⟩
        | true =>
          have hal' := hal hz
          clear hal han
          obtain ⟨hz0, hz1⟩ := chB_bounds hz
          have hlen := encTo_length zs k
          go_wp2_with (first
            | (go_at_call 36; refine (isChar_calls z _).mono ?_; rintro e w' ⟨rfl, hw⟩; rw [hw, hz]; clear hw w')
            | (go_at_call 37; refine (appendChar_calls z (w.heap.size + 1) _ _ _ _ hz0 hz1 (by omega) hs hown).mono ?_; rintro e w2 ⟨o', rfl, hown', hb'⟩))
          go_roundw
          case rel =>
            refine ⟨k + 1, by omega, by go_num, hal', ?_, hb.trans hb'⟩
            rw [hsu.out, List.length_append, byteVs_append]
            exact hown'
          case measure => simp [intOf]; omega
      · have hk' : k = zs.length := by omega
        have hz : zs.all chB = true := by have := hall.out; rwa [hk', List.take_length] at this
        have e1 : code = 0 := by rw [← HC.out, hz]; rfl
        have e2 : bytes = encTo zs k := by rw [← HB.out, hz, hk']; unfold encTo; rw [List.take_length]; rfl
        have hx : IntsAt .u8 (w.heap.size + 1) wr.heap.size wr _ (encTo zs k) := own_ints hown (Nat.le_refl _)
        subst e1 e2
        clear hz hk'
        have hx' := hx
        obtain ⟨a, cap, rfl, _⟩ := hx'
        have hge : ¬ ((k : Int) < (zs.length : Int)) := by omega
        go_wp2
        refine bodyPost_ret (v := .agg #[.int .i64 0, .slice a (encTo zs k).length cap]) (by simp [results, Try.results11, go_sem, hcl, hs]) rfl ⟨_, rfl, ?_, (by repeat' (first | with_reducible exact Below.refl _ _ | with_reducible assumption | with_reducible refine Below.drew ?_ | with_reducible refine Below.alloc ?_ ?_ _ | with_reducible refine Below.setCell ?_ ?_ _ | (simp; done) | (simp; omega) | omega))⟩
        refine hx.of_blocks ?_ |>.mono (by omega) (by simp)
        intro i hi _
        simp only [World.setCell, Array.getElem?_modify]
        rw [if_neg (by omega), if_neg (by omega)]

set_option maxHeartbeats 1000000 in
theorem specEncodeAll_calls (zs : List Int) (v : Value) (w : World) (hn : zs.length ≤ 1048576) (h1 : ReadAt .i64 w v zs) :
    Calls Try.prog 12 #[v] w fun e w' => ∃ x, e = .returned (.agg #[.int .i64 (encAllCode zs), x]) ∧ IntsAt .u8 w.heap.size w'.heap.size w' x (encAllBytes zs) ∧ Below w.heap.size w w' := by
  obtain ⟨a1, c1, rfl, h1⟩ := h1
  by_cases hm : 400 < zs.length
  · have e1 : encAllCode zs = 2 := by unfold encAllCode; rw [if_pos hm]
    have e2 : encAllBytes zs = [] := by unfold encAllBytes; rw [if_pos hm]
    rw [e1, e2]
    clear e1 e2
    go_enter Try.func12, Try.ntmps12
    go_wp2
    exact bodyPost_ret (v := .agg #[.int .i64 2, .slice none 0 0]) (by simp [results, Try.results12, go_sem]) rfl ⟨_, rfl, IntsAt.nil _ _ _ _ _ _, (by repeat' (first | with_reducible exact Below.refl _ _ | with_reducible assumption | with_reducible refine Below.drew ?_ | with_reducible refine Below.alloc ?_ ?_ _ | with_reducible refine Below.setCell ?_ ?_ _ | (simp; done) | (simp; omega) | omega))⟩
  · have e1 : encAllCode zs = if zs.all chB = true then 0 else 3 := by unfold encAllCode; rw [if_neg hm]
    have e2 : encAllBytes zs = if zs.all chB = true then zs.flatMap encL else [] := by unfold encAllBytes; rw [if_neg hm]
    rw [e1, e2]
    clear e1 e2
    generalize hcode : (if zs.all chB = true then (0 : Int) else 3) = code
    generalize hbytes : (if zs.all chB = true then zs.flatMap encL else []) = bytes
    have HC := hide hcode
    have HB := hide hbytes
    clear hcode hbytes
    have H1 := hide h1
    clear h1
    go_enter Try.func12, Try.ntmps12
    go_wp2_with fail
    go_loopw [3, 4] (fun o i wr => ∃ k : Nat, k ≤ zs.length ∧ i = .int .i64 k ∧ Hid ((zs.take k).all chB = true) ∧ wr.ownsRow (w.heap.size + 1) 5 1 o (encTo zs k).length (byteVs (encTo zs k)) ∧ Below (w.heap.size + 1) (w.alloc (.cells #[.int .i64 0, .slice none 0 0] 35)) wr) (fun _ i _ => zs.length - (intOf i).toNat)
    case atStart => exact ⟨0, Nat.zero_le _, rfl, rfl, (by have h := World.ownsRow_lit (base := w.heap.size + 1) (e := 5) (size := 1) (w.alloc (.cells #[.int .i64 0, .slice none 0 0] 35)) #[] 0 (by simp) (by simp) rfl; simpa [encTo, byteVs] using h), (Below.refl _ _).alloc (by simp) _⟩
    case round =>
      obtain ⟨k, hkk, rfl, hall, hown, hb⟩ := hrel
      have hbw := own_keep hb
      obtain ⟨hcl, hfz⟩ := bcell (hb.mono (by simp))
      have hs : w.heap.size < wr.heap.size := by have := hb.size; simp at this; omega
      by_cases hlt : k < zs.length
      · have hpos : zs ≠ [] := by intro h; rw [h] at hlt; simp at hlt
        rcases H1.out with h1 | ⟨b1, o1, rfl, h1⟩
        · exact absurd h1 hpos
        have g0 := cellb hbw (h1 k hlt)
        have hltI : (k : Int) < (zs.length : Int) := by omega
        clear h1 hpos H1
        have hsu := hide (encTo_succ zs k hlt)
        have hal : chB (zs.getD k 0) = true → Hid ((zs.take (k + 1)).all chB = true) := fun h => all_succ zs k hlt hall.out h
        have han : chB (zs.getD k 0) = false → Hid (zs.all chB = false) := fun h => all_not zs k hlt h
        generalize zs.getD k 0 = z at *
        cases hz : chB z with
        | false =>
          have hna := han hz
          clear hal han
          go_wp2_with (go_at_call 38; refine (l1Char_calls z _).mono ?_; rintro e w' ⟨rfl, hw⟩; rw [hw, hz]; clear hw w')
          have e1 : code = 3 := by rw [← HC.out, hna.out]; rfl
          have e2 : bytes = [] := by rw [← HB.out, hna.out]; rfl
          subst e1 e2
          exact bodyPost_ret (v := .agg #[.int .i64 3, .slice none 0 0]) (by simp [results, Try.results12, go_sem, hcl, hs]) rfl ⟨_, rfl, IntsAt.nil _ _ _ _ _ _, (by repeat' (first | with_reducible exact Below.refl _ _ | with_reducible assumption | with_reducible refine Below.drew ?_ | with_reducible refine Below.alloc ?_ ?_ _ | with_reducible refine Below.setCell ?_ ?_ _ | (simp; done) | (simp; omega) | omega))⟩
        | true =>
          have hal' := hal hz
          clear hal han
          obtain ⟨hz0, hz1⟩ := chB_bounds hz
          have hlen := encTo_length zs k
          have hel := encL_length z
          obtain ⟨i0, hi, hzz0, hzz1, hzz2⟩ := info_parts info_u8
          go_wp2_with (go_at_call 38; refine (l1Char_calls z _).mono ?_; rintro e w' ⟨rfl, hw⟩; rw [hw, hz]; clear hw w')
          refine (l1Encode_calls z _ hz0 hz1).mono ?_
          rintro e w2 ⟨x, rfl, hx, hb2⟩
          have hown2 := own_below hown hb2
          obtain ⟨ax, cx, rfl, hx⟩ := hx
          rcases hx with hx | ⟨bx, ox, rfl, _, _, hx⟩
          · exact absurd hx (encL_ne z)
          have hs2 : w.heap.size < w2.heap.size := Nat.lt_of_lt_of_le hs hb2.size
          have hnw := hide (ints_news (fun i hi => (hx i hi).1))
          have hb3 := hb.trans (hb2.mono (by omega))
          clear hx hb2 hcl hfz hb hown
          go_wp2_with (at_builtin; refine wpList_append_own _ rfl (.tmp 23) (.tmp 28) 22 rfl (w.heap.size + 1) 5 i0 (.int .u8 0) 1 1 Try.underlying22 hi hzz0 hzz1 hzz2 rfl (by decide) _ _ _ rfl hown2 ⟨bx, ox, none⟩ (encL z).length cx (byteVs (encL z)) rfl (by simp [byteVs]) hnw.out (ints_one_cell _ _) (by unfold maxLen; omega) (by omega) (by omega) ?_)
          intro o' w4 hown' hgrow _
          have hb' : Below (w.heap.size + 1) (w.alloc (.cells #[.int .i64 0, .slice none 0 0] 35)) w4 := hb3.grown hgrow (by omega) (fun q hq => (hown2.lt q hq).1)
          clear hgrow hown2
          go_wp2
          go_roundw
          case rel =>
            refine ⟨k + 1, by omega, by go_num, hal', ?_, hb'⟩
            rw [hsu.out, List.length_append, byteVs_append]
            exact hown'
          case measure => simp [intOf]; omega
      · have hk' : k = zs.length := by omega
        have hz : zs.all chB = true := by have := hall.out; rwa [hk', List.take_length] at this
        have e1 : code = 0 := by rw [← HC.out, hz]; rfl
        have e2 : bytes = encTo zs k := by rw [← HB.out, hz, hk']; unfold encTo; rw [List.take_length]; rfl
        have hx : IntsAt .u8 (w.heap.size + 1) wr.heap.size wr _ (encTo zs k) := own_ints hown (Nat.le_refl _)
        subst e1 e2
        clear hz hk'
        have hx' := hx
        obtain ⟨a, cap, rfl, _⟩ := hx'
        have hge : ¬ ((k : Int) < (zs.length : Int)) := by omega
        go_wp2
        refine bodyPost_ret (v := .agg #[.int .i64 0, .slice a (encTo zs k).length cap]) (by simp [results, Try.results12, go_sem, hcl, hs]) rfl ⟨_, rfl, ?_, (by repeat' (first | with_reducible exact Below.refl _ _ | with_reducible assumption | with_reducible refine Below.drew ?_ | with_reducible refine Below.alloc ?_ ?_ _ | with_reducible refine Below.setCell ?_ ?_ _ | (simp; done) | (simp; omega) | omega))⟩
        refine hx.of_blocks ?_ |>.mono (by omega) (by simp)
        intro i hi _
        simp only [World.setCell, Array.getElem?_modify]
        rw [if_neg (by omega), if_neg (by omega)]

end Go.Proofs.Ytoedmfflokknjaa
