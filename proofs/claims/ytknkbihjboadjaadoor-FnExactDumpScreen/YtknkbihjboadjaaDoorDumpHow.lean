/-
  The program's tableChar and appendHow; DumpScreen of the program.
-/
import Derived.Test.YtknkbihjboadjaaDoorDumpImpl
import Derived.Test.YtknkbihjboadjaaDoorAppendStep
namespace Go.Proofs.YtknkbihjboadjaaDoor
set_option maxRecDepth 20000
open Go.ChangeShapes Go.WideShapes Go.ChangeAt Go.RowKit
set_option linter.unusedVariables false
set_option linter.unusedSimpArgs false
set_option maxRecDepth 20000

theorem tableChar_calls (n : Int) (hn : 1 ≤ n ∧ n ≤ 3) (w : World) : Calls Tryd.prog 70 #[.int .i64 n] w fun e w' => e = .returned (.int .u8 (tchar n)) ∧ w' = w := by
  have hc : n = 1 ∨ n = 2 ∨ n = 3 := by omega
  rcases hc with rfl | rfl | rfl <;> (go_enter Tryd.func70, Tryd.ntmps70; go_wp2; go_ret; exact ⟨rfl, rfl⟩)
theorem parens_at {P : Program} (w : World) (t : TypeId) (h : P.underlying t = some .string) (n : Nat) (hn : n < 2) : (Instr.index t (.string ⟨#[40, 41]⟩) (.int .i64 (n : Int))).run P w = .ok (.int .u8 (40 + (n : Int))) w := by
  have hc : n = 0 ∨ n = 1 := by omega
  rcases hc with rfl | rfl <;> (rw [run_index_string w t _ .i64 _ h]; rfl)
def setTo (s : Scr) : Nat → List Int
  | 0 => []
  | k + 1 => setTo s k ++ [27, 40 + (k : Int), tchar (s.sets.getD k 0)]
theorem setTo_len (s : Scr) : ∀ k, (setTo s k).length = 3 * k
  | 0 => rfl
  | k + 1 => by rw [setTo, List.length_append, setTo_len s k]; simp; omega
theorem setTo_two (s : Scr) : setTo s 2 = setsL s := rfl
set_option maxHeartbeats 4000000 in
theorem appendHow_calls (s : Scr) (v1 v2 v3 v4 : Value) (base n : Nat) (v : Value) (xs : List Value) (w : World) (hF : SFine s) (hn : n ≤ 50000) (hbase : base ≤ w.heap.size) (hown : w.ownsRow base 5 1 v n xs) (htab : TabAt base w) (HSR : ∀ w', Below base w w' → SRead w' s v1 v2 v3 v4) :
    Calls Tryd.prog 34 #[v, .agg (scrA s v1 v2 v3 v4)] w fun e w' => ∃ v', e = .returned v' ∧ w'.ownsRow base 5 1 v' (n + (howL s).length) (xs ++ (howL s).map (Value.int .u8)) ∧ Below base w w' := by
  obtain ⟨i0, hi, hz0, hz1, hz2⟩ := info_parts info_u8s
  obtain ⟨f_a0, f_a1, r0, r1⟩ : 0 ≤ s.attr ∧ s.attr ≤ 31 ∧ (1 ≤ s.sets.getD 0 0 ∧ s.sets.getD 0 0 ≤ 3) ∧ (1 ≤ s.sets.getD 1 0 ∧ s.sets.getD 1 0 ≤ 3) := ⟨hF.a0, hF.a1, hF.s0, hF.s1⟩
  have hsl := hF.sl
  have hal := attrL_len f_a0 f_a1
  have hrk : ∀ k : Nat, k < 2 → 1 ≤ s.sets.getD k 0 ∧ s.sets.getD k 0 ≤ 3 := fun k hk => by
    have hc : k = 0 ∨ k = 1 := by omega
    rcases hc with rfl | rfl
    · exact r0
    · exact r1
  obtain ⟨b4, o4, c4, rfl, hg4⟩ : ∃ b4 o4 c4, v4 = .slice (some ⟨b4, o4, none⟩) 2 c4 ∧ ∀ w', Below base w w' → ∀ k : Nat, k < 2 → w'.cell? ⟨b4, o4 + k, none⟩ = some (.int .i64 (s.sets.getD k 0)) := by
    obtain ⟨a4, c4, rfl, h⟩ := (HSR w (Below.refl _ w)).g4
    rcases h with h | ⟨b4, o4, rfl, h⟩
    · rw [h] at hsl; simp at hsl
    · refine ⟨b4, o4, c4, by rw [hsl], fun w' hb k hk => ?_⟩
      obtain ⟨b9, o9, e9, hc⟩ := (HSR w' hb).g4.spot k (by omega)
      injection e9 with e9
      injection e9 with e9 e10
      subst e9 e10
      exact hc
  have b0 : Below w.heap.size w (w.alloc (.cells (scrA s v1 v2 v3 (.slice (some ⟨b4, o4, none⟩) 2 c4)) 38)) := (Below.refl _ w).alloc (Nat.le_refl _) _
  have hbx : (w.alloc (.cells (scrA s v1 v2 v3 (.slice (some ⟨b4, o4, none⟩) 2 c4)) 38)).heap[w.heap.size]? = some (.cells (scrA s v1 v2 v3 (.slice (some ⟨b4, o4, none⟩) 2 c4)) 38 (0, 0)) := heap_alloc_new w _
  have hox := hown.alloc (.cells (scrA s v1 v2 v3 (.slice (some ⟨b4, o4, none⟩) 2 c4)) 38)
  have zW : (w.alloc (.cells (scrA s v1 v2 v3 (.slice (some ⟨b4, o4, none⟩) 2 c4)) 38)).heap.size = w.heap.size + 1 := by simp
  have b0b : Below base w (w.alloc (.cells (scrA s v1 v2 v3 (.slice (some ⟨b4, o4, none⟩) 2 c4)) 38)) := b0.mono hbase
  have x7 := scrA_7 s v1 v2 v3 (.slice (some ⟨b4, o4, none⟩) 2 c4)
  have c7 := (box_at hbx (Lib.OthersKept.refl _ _ _)).at 7 (scrA_7 s v1 v2 v3 (.slice (some ⟨b4, o4, none⟩) 2 c4))
  have HCA := appendAttr_calls s.attr base n v xs (w.alloc (.cells (scrA s v1 v2 v3 (.slice (some ⟨b4, o4, none⟩) 2 c4)) 38)) f_a0 f_a1 (by omega) (by omega) hox (htab.on b0b)
  obtain ⟨AL, hAL⟩ : ∃ l, attrL s.attr = l := ⟨_, rfl⟩
  rw [hAL] at HCA hal
  have HA := hide hAL
  clear hAL hsl hF r0 r1
  go_enter Tryd.func34, Tryd.ntmps34
  go_wp2_with fail
  go_at_call 47
  refine HCA.mono ?_
  rintro e w1 ⟨v1', rfl, own1, hb1, hk1⟩
  have b1 : Below base w w1 := b0b.trans hb1
  have kW1 : Kept (w.alloc (.cells (scrA s v1 v2 v3 (.slice (some ⟨b4, o4, none⟩) 2 c4)) 38)) w1 := hk1
  have z1 := b1.size
  have HO0 : Hid (w1.ownsRow base 5 1 v1' (n + AL.length + (setTo s 0).length) (xs ++ AL.map (Value.int .u8) ++ (setTo s 0).map (Value.int .u8))) := hide (by simpa [setTo] using own1)
  clear HCA hb1 hk1 c7 x7 own1
  go_wp2
  go_loopw [0, 10] (fun o i wr => ∃ k : Nat, k ≤ 2 ∧ i = .int .i64 k ∧ Hid (wr.ownsRow base 5 1 o (n + AL.length + (setTo s k).length) (xs ++ AL.map (Value.int .u8) ++ (setTo s k).map (Value.int .u8))) ∧ Below base w wr ∧ Kept (w.alloc (.cells (scrA s v1 v2 v3 (.slice (some ⟨b4, o4, none⟩) 2 c4)) 38)) wr) (fun _ i _ => 2 - (intOf i).toNat)
  case atStart => exact ⟨0, Nat.zero_le _, rfl, HO0, b1, kW1⟩
  case round =>
    obtain ⟨k, hk, rfl, hO, hb, hkp⟩ := hrel
    have hsz := hb.size
    have hlen := setTo_len s k
    by_cases hlt : k < 2
    · have hltI : (k : Int) < 2 := by omega
      have hs : setTo s (k + 1) = setTo s k ++ [27, 40 + (k : Int), tchar (s.sets.getD k 0)] := rfl
      obtain ⟨n0, hn0⟩ : ∃ z, s.sets.getD k 0 = z := ⟨_, rfl⟩
      have hr0 := hrk k hlt
      have hGC : ∀ w', Below base w w' → w'.cell? ⟨b4, o4 + k, none⟩ = some (.int .i64 n0) := fun w' hb' => by rw [← hn0]; exact hg4 w' hb' k hlt
      rw [hn0] at hs hr0
      obtain ⟨T0, hT0⟩ : ∃ z, tchar n0 = z := ⟨_, rfl⟩
      have HTC : ∀ w', Calls Tryd.prog 70 #[.int .i64 n0] w' fun e w2 => e = .returned (.int .u8 T0) ∧ w2 = w' := fun w' => by rw [← hT0]; exact tableChar_calls n0 hr0 w'
      rw [hT0] at hs
      have hO' := hO.out
      obtain ⟨P, hP⟩ : ∃ P, setTo s k = P := ⟨_, rfl⟩
      rw [hP] at hO' hlen hs
      have HS := hide hs
      have hpl := fun (w' : World) => parens_at w' 9 Tryd.underlying9 k hlt
      clear hO hP hs hn0 hT0 hr0
      have hmk : ∀ w', Below base wr w' → Kept (w.alloc (.cells (scrA s v1 v2 v3 (.slice (some ⟨b4, o4, none⟩) 2 c4)) 38)) w' → (Below base wr w' ∧ Kept (w.alloc (.cells (scrA s v1 v2 v3 (.slice (some ⟨b4, o4, none⟩) 2 c4)) 38)) w' ∧ w'.cell? ⟨w.heap.size, 17, none⟩ = some (.slice (some ⟨b4, o4, none⟩) 2 c4) ∧ w'.cell? ⟨b4, o4 + k, none⟩ = some (.int .i64 n0)) := fun w' hb' hk' => ⟨hb', hk', (box_at hbx hk').at 17 (scrA_17 s v1 v2 v3 _), hGC w' (hb.trans hb')⟩
      go_wp2_with fail
      refine wp_region_held_drew (S := (fun w' => Below base wr w' ∧ Kept (w.alloc (.cells (scrA s v1 v2 v3 (.slice (some ⟨b4, o4, none⟩) 2 c4)) 38)) w' ∧ w'.cell? ⟨w.heap.size, 17, none⟩ = some (.slice (some ⟨b4, o4, none⟩) 2 c4) ∧ w'.cell? ⟨b4, o4 + k, none⟩ = some (.int .i64 n0))) (by kernel_rfl) ?_ (fun hHeld => ?_)
      · (try dsimp only); exact hmk _ (Below.drew (Below.refl _ wr)) hkp.drew
      refine wpAnyH_take (i := 0) (oi := ⟨_, _, _, _, _, _⟩) (v := ?_) rfl (by kernel_rfl) (by kernel_rfl) (by kernel_rfl) (fun _ _ _ h => h) (Or.inl ⟨by rfl, ?_⟩) hHeld ?_
      rotate_left
      · (intro w hSw; (try dsimp only at hSw); go_simp; try (with_reducible rfl))
      try simp only [Act.put, List.setIfInBounds_toArray, List.set_cons_zero, List.set_cons_succ]
      refine wpAnyH_take (i := 1) (oi := ⟨_, _, _, _, _, _⟩) (v := ?_) rfl (by kernel_rfl) (by kernel_rfl) (by kernel_rfl) (fun _ _ _ h => h) (Or.inl ⟨by rfl, ?_⟩) hHeld ?_
      rotate_left
      · (intro w hSw; (try dsimp only at hSw); go_simp; try (with_reducible rfl))
      try simp only [Act.put, List.setIfInBounds_toArray, List.set_cons_zero, List.set_cons_succ]
      refine wpAnyH_take (i := 2) (oi := ⟨_, _, _, _, _, _⟩) (v := .int .u8 (40 + (k : Int))) rfl (by kernel_rfl) (by kernel_rfl) (by kernel_rfl) (fun _ _ _ h => h) (Or.inl ⟨by rfl, ?_⟩) hHeld ?_
      · intro w hSw
        (try dsimp only at hSw)
        exact run_exIdx _ _ _ rfl _ _ rfl rfl _ (hpl _)
      try simp only [Act.put, List.setIfInBounds_toArray, List.set_cons_zero, List.set_cons_succ]
      refine wpAnyH_take (i := 3) (oi := ⟨_, _, _, _, _, _⟩) (v := ?_) rfl (by kernel_rfl) (by kernel_rfl) (by kernel_rfl) (fun _ _ _ h => h) (Or.inl ⟨by rfl, ?_⟩) hHeld ?_
      rotate_left
      · (intro w hSw; (try dsimp only at hSw); go_simp; try (with_reducible rfl))
      try simp only [Act.put, List.setIfInBounds_toArray, List.set_cons_zero, List.set_cons_succ]
      refine wpAnyH_take (i := 4) (oi := ⟨_, _, _, _, _, _⟩) (v := ?_) rfl (by kernel_rfl) (by kernel_rfl) (by kernel_rfl) (fun _ _ _ h => h) (Or.inl ⟨by rfl, ?_⟩) hHeld ?_
      rotate_left
      · (intro w hSw; (try dsimp only at hSw); go_simp; try (with_reducible rfl))
      try simp only [Act.put, List.setIfInBounds_toArray, List.set_cons_zero, List.set_cons_succ]
      refine wpAnyH_take (i := 5) (oi := ⟨_, _, _, _, _, _⟩) (v := ?_) rfl (by kernel_rfl) (by kernel_rfl) (by kernel_rfl) (fun _ _ _ h => h) (Or.inl ⟨by rfl, ?_⟩) hHeld ?_
      rotate_left
      · (intro w hSw; (try dsimp only at hSw); go_simp; try (with_reducible rfl))
      try simp only [Act.put, List.setIfInBounds_toArray, List.set_cons_zero, List.set_cons_succ]
      refine wpAnyH_take (i := 6) (oi := ⟨_, _, _, _, _, _⟩) (v := ?_) rfl (by kernel_rfl) (by kernel_rfl) (by kernel_rfl) (fun _ _ _ h => h) (Or.inl ⟨by rfl, ?_⟩) hHeld ?_
      rotate_left
      · (intro w hSw; (try dsimp only at hSw); go_simp; try (with_reducible rfl))
      try simp only [Act.put, List.setIfInBounds_toArray, List.set_cons_zero, List.set_cons_succ]
      refine wpAnyH_take (i := 7) (oi := ⟨_, _, _, _, _, _⟩) (v := ?_) rfl (by kernel_rfl) (by kernel_rfl) (by kernel_rfl) (fun _ _ _ h => h) (Or.inl ⟨by rfl, ?_⟩) hHeld ?_
      rotate_left
      · (intro w hSw; (try dsimp only at hSw); go_simp; try (with_reducible rfl))
      try simp only [Act.put, List.setIfInBounds_toArray, List.set_cons_zero, List.set_cons_succ]
      refine wpAnyH_ready (rs := [8]) (by kernel_rfl) (by simp) ?_
      refine (AllReadyH.cons (o := ⟨_, _, _, _, _, _⟩) rfl (fun K hK => ?_) AllReadyH.nil)
      go_simp
      go_at_call 70
      refine (HTC _).mono ?_
      rintro e w' ⟨rfl, hw⟩
      rw [hw]
      clear hw w'
      refine hK.out _ _ ?_ ?_
      · (try dsimp only); exact hHeld
      clear hHeld hK K
      intro hHeld
      try simp only [Act.put, List.setIfInBounds_toArray, List.set_cons_zero, List.set_cons_succ]
      refine wpAnyH_ready (rs := [9]) (by kernel_rfl) (by simp) ?_
      refine (AllReadyH.cons (o := ⟨_, _, _, _, _, _⟩) rfl (fun K hK => ?_) AllReadyH.nil)
      go_simp
      refine hK.out _ _ ?_ ?_
      · (try dsimp only); exact hmk _ (hHeld.1.alloc (by have := hHeld.1.size; omega) _) (hHeld.2.1.alloc _)
      clear hHeld hK K
      intro hHeld
      try simp only [Act.put, List.setIfInBounds_toArray, List.set_cons_zero, List.set_cons_succ]
      refine wpAnyH_ready (rs := [10]) (by kernel_rfl) (by simp) ?_
      refine (AllReadyH.cons (o := ⟨_, _, _, _, _, _⟩) rfl (fun K hK => ?_) AllReadyH.nil)
      have hbs : base ≤ wr.heap.size := by omega
      have ox := own_below (hO'.alloc (.cells #[.int .u8 27, .int .u8 (40 + (k : Int)), .int .u8 T0] 5)) (Below.drew (Below.refl _ _))
      have bb : Below base wr ((wr.alloc (.cells #[.int .u8 27, .int .u8 (40 + (k : Int)), .int .u8 T0] 5)).drew) := Below.drew ((Below.refl base wr).alloc hbs _)
      have kk : Kept (w.alloc (.cells (scrA s v1 v2 v3 (.slice (some ⟨b4, o4, none⟩) 2 c4)) 38)) ((wr.alloc (.cells #[.int .u8 27, .int .u8 (40 + (k : Int)), .int .u8 T0] 5)).drew) := (hkp.alloc _).drew
      refine step_append2 rfl (.tmp 13) (.tmp 22) 30 rfl base 5 i0 (.int .u8 0) 1 1 Tryd.underlying30 hi hz0 hz1 hz2 rfl (by decide) _ _ _ rfl ox ⟨wr.heap.size, 0, none⟩ 3 3 ([27, 40 + (k : Int), T0].map (Value.int .u8)) rfl rfl (fun j u h => lit_cells_at (w := wr) (l := [27, 40 + (k : Int), T0]) rfl j u h) ones (by unfold maxLen; omega) (by omega) (by simp; omega) ?_
      intro v4' w4 own4 hgr
      have b4b : Below base wr w4 := bb.grown hgr (by simp; omega) (fun g hg => (ox.lt g hg).1)
      have b4' : Below base w w4 := hb.trans b4b
      have k4 : Kept (w.alloc (.cells (scrA s v1 v2 v3 (.slice (some ⟨b4, o4, none⟩) 2 c4)) 38)) w4 := kk.grown hgr (own_kind ox)
      clear hgr ox hO'
      refine hK.out _ _ ?_ ?_
      · (try dsimp only); exact hmk _ b4b k4
      clear hHeld hK K
      intro hHeld
      try simp only [Act.put, List.setIfInBounds_toArray, List.set_cons_zero, List.set_cons_succ]
      refine wpAnyH_take (i := 11) (oi := ⟨_, _, _, _, _, _⟩) (v := ?_) rfl (by kernel_rfl) (by kernel_rfl) (by kernel_rfl) (fun _ _ _ h => h) (Or.inl ⟨by rfl, ?_⟩) hHeld ?_
      rotate_left
      · (intro w hSw; (try dsimp only at hSw); go_simp; try (with_reducible rfl))
      try simp only [Act.put, List.setIfInBounds_toArray, List.set_cons_zero, List.set_cons_succ]
      refine wpAnyH_done (by kernel_rfl) ?_ _
      clear hHeld hmk
      have HO6 : Hid (w4.ownsRow base 5 1 v4' (n + AL.length + (setTo s (k + 1)).length) (xs ++ AL.map (Value.int .u8) ++ (setTo s (k + 1)).map (Value.int .u8))) := by
        refine hide ?_
        rw [HS.out]
        have e1 : n + AL.length + P.length + 3 = n + AL.length + (P ++ [27, 40 + (k : Int), T0]).length := by simp; omega
        rw [← e1]
        simpa using own4
      clear own4
      go_wp2
      go_roundw
      case rel => exact ⟨k + 1, by omega, by go_num, HO6, b4', k4⟩
      case measure => simp [intOf]; omega
    · obtain rfl : k = 2 := by omega
      have hO' := hO.out
      rw [setTo_two] at hO'
      have h6 : (setsL s).length = 6 := rfl
      obtain ⟨SL, hSL⟩ : ∃ l, setsL s = l := ⟨_, rfl⟩
      rw [hSL] at hO' h6
      have HSL := hide hSL
      clear hO hSL hg4 hrk
      have hlt' : ¬ ((2 : Int) < 2) := by omega
      by_cases hsh : s.sh = 1
      · rcases hin : s.ins with _ | _
        · rcases hau : s.auto with _ | _
          · have e9 : howL s = AL ++ SL ++ [14] ++ [27, 91, 63, 55, 108] := by unfold howL shL insL autoL; rw [HA.out, HSL.out, hin, hau, if_pos hsh]; simp
            have HIN := hide hin
            have HAU := hide hau
            have HSH := hide hsh
            have HE := hide e9
            clear hin hau e9 hsh
            have c18 := (box_at hbx hkp).at 18 (scrA_18 s v1 v2 v3 (.slice (some ⟨b4, o4, none⟩) 2 c4))
            rw [HSH.out] at c18
            have c12 := (box_at hbx hkp).at 12 (scrA_12 s v1 v2 v3 (.slice (some ⟨b4, o4, none⟩) 2 c4))
            rw [HIN.out] at c12
            have c11 := (box_at hbx hkp).at 11 (scrA_11 s v1 v2 v3 (.slice (some ⟨b4, o4, none⟩) 2 c4))
            rw [HAU.out] at c11
            go_wp2_with (first | fail | (at_builtin; refine wpList_append_own _ rfl (.tmp 28) (.tmp 29) 30 rfl base 5 i0 (.int .u8 0) 1 1 Tryd.underlying30 hi hz0 hz1 hz2 rfl (by decide) _ _ _ rfl (hO'.alloc _) ⟨wr.heap.size, 0, none⟩ 1 1 ([14].map (Value.int .u8)) rfl rfl (lit_cells_at (w := wr) (l := [14]) rfl) ones (by unfold maxLen; omega) (by omega) (by simp; omega) ?_; intro v5' w5 own' hgr hnil; have own5 : w5.ownsRow base 5 1 v5' (n + AL.length + SL.length + 1) (xs ++ AL.map (Value.int .u8) ++ SL.map (Value.int .u8) ++ [14].map (Value.int .u8)) := own'; have b5 : Below base w w5 := (hb.alloc (by omega) _).grown hgr (by simp; omega) (fun g hg => (hO'.lt g hg).1); have k5 : Kept (w.alloc (.cells (scrA s v1 v2 v3 (.slice (some ⟨b4, o4, none⟩) 2 c4)) 38)) w5 := (hkp.alloc _).grown hgr (own_kind (hO'.alloc _)); have z5 := b5.size; clear hgr own' hnil; have c18 := (box_at hbx k5).at 18 (scrA_18 s v1 v2 v3 (.slice (some ⟨b4, o4, none⟩) 2 c4)); rw [HSH.out] at c18; have c12 := (box_at hbx k5).at 12 (scrA_12 s v1 v2 v3 (.slice (some ⟨b4, o4, none⟩) 2 c4)); rw [HIN.out] at c12; have c11 := (box_at hbx k5).at 11 (scrA_11 s v1 v2 v3 (.slice (some ⟨b4, o4, none⟩) 2 c4)); rw [HAU.out] at c11) | (at_builtin; refine Lib.wpList_append_own_string _ rfl (.tmp 38) _ 30 9 rfl base 5 i0 Tryd.underlying30 Tryd.underlying9 hi hz0 hz1 hz2 _ _ _ rfl own5 ⟨#[27, 91, 63, 55, 108]⟩ rfl (by show n + AL.length + SL.length + 1 + 5 ≤ maxLen; unfold maxLen; omega) (by show n + AL.length + SL.length + 1 + 5 ≤ 140737488355328; omega) (by omega) ?_; intro v6' w6 own' hgr hnil; have own6 : w6.ownsRow base 5 1 v6' (n + AL.length + SL.length + 1 + 5) (xs ++ AL.map (Value.int .u8) ++ SL.map (Value.int .u8) ++ [14].map (Value.int .u8) ++ [27, 91, 63, 55, 108].map (Value.int .u8)) := own'; have b6 : Below base w w6 := b5.grown hgr (by omega) (fun g hg => (own5.lt g hg).1); have k6 : Kept (w.alloc (.cells (scrA s v1 v2 v3 (.slice (some ⟨b4, o4, none⟩) 2 c4)) 38)) w6 := k5.grown hgr (own_kind own5); have z6 := b6.size; clear hgr own' hnil; have c18 := (box_at hbx k6).at 18 (scrA_18 s v1 v2 v3 (.slice (some ⟨b4, o4, none⟩) 2 c4)); rw [HSH.out] at c18; have c12 := (box_at hbx k6).at 12 (scrA_12 s v1 v2 v3 (.slice (some ⟨b4, o4, none⟩) 2 c4)); rw [HIN.out] at c12; have c11 := (box_at hbx k6).at 11 (scrA_11 s v1 v2 v3 (.slice (some ⟨b4, o4, none⟩) 2 c4)); rw [HAU.out] at c11))
            go_ret
            rw [HE.out]
            refine ⟨_, rfl, ?_, b6⟩
            have e8 : n + (AL ++ SL ++ [14] ++ [27, 91, 63, 55, 108]).length = n + AL.length + SL.length + 1 + 5 := by simp; try omega
            rw [e8]
            simpa using own6
          · have e9 : howL s = AL ++ SL ++ [14] := by unfold howL shL insL autoL; rw [HA.out, HSL.out, hin, hau, if_pos hsh]; simp
            have HIN := hide hin
            have HAU := hide hau
            have HSH := hide hsh
            have HE := hide e9
            clear hin hau e9 hsh
            have c18 := (box_at hbx hkp).at 18 (scrA_18 s v1 v2 v3 (.slice (some ⟨b4, o4, none⟩) 2 c4))
            rw [HSH.out] at c18
            have c12 := (box_at hbx hkp).at 12 (scrA_12 s v1 v2 v3 (.slice (some ⟨b4, o4, none⟩) 2 c4))
            rw [HIN.out] at c12
            have c11 := (box_at hbx hkp).at 11 (scrA_11 s v1 v2 v3 (.slice (some ⟨b4, o4, none⟩) 2 c4))
            rw [HAU.out] at c11
            go_wp2_with (first | fail | (at_builtin; refine wpList_append_own _ rfl (.tmp 28) (.tmp 29) 30 rfl base 5 i0 (.int .u8 0) 1 1 Tryd.underlying30 hi hz0 hz1 hz2 rfl (by decide) _ _ _ rfl (hO'.alloc _) ⟨wr.heap.size, 0, none⟩ 1 1 ([14].map (Value.int .u8)) rfl rfl (lit_cells_at (w := wr) (l := [14]) rfl) ones (by unfold maxLen; omega) (by omega) (by simp; omega) ?_; intro v5' w5 own' hgr hnil; have own5 : w5.ownsRow base 5 1 v5' (n + AL.length + SL.length + 1) (xs ++ AL.map (Value.int .u8) ++ SL.map (Value.int .u8) ++ [14].map (Value.int .u8)) := own'; have b5 : Below base w w5 := (hb.alloc (by omega) _).grown hgr (by simp; omega) (fun g hg => (hO'.lt g hg).1); have k5 : Kept (w.alloc (.cells (scrA s v1 v2 v3 (.slice (some ⟨b4, o4, none⟩) 2 c4)) 38)) w5 := (hkp.alloc _).grown hgr (own_kind (hO'.alloc _)); have z5 := b5.size; clear hgr own' hnil; have c18 := (box_at hbx k5).at 18 (scrA_18 s v1 v2 v3 (.slice (some ⟨b4, o4, none⟩) 2 c4)); rw [HSH.out] at c18; have c12 := (box_at hbx k5).at 12 (scrA_12 s v1 v2 v3 (.slice (some ⟨b4, o4, none⟩) 2 c4)); rw [HIN.out] at c12; have c11 := (box_at hbx k5).at 11 (scrA_11 s v1 v2 v3 (.slice (some ⟨b4, o4, none⟩) 2 c4)); rw [HAU.out] at c11))
            go_ret
            rw [HE.out]
            refine ⟨_, rfl, ?_, b5⟩
            have e8 : n + (AL ++ SL ++ [14]).length = n + AL.length + SL.length + 1 := by simp; try omega
            rw [e8]
            simpa using own5
        · rcases hau : s.auto with _ | _
          · have e9 : howL s = AL ++ SL ++ [14] ++ [27, 91, 52, 104] ++ [27, 91, 63, 55, 108] := by unfold howL shL insL autoL; rw [HA.out, HSL.out, hin, hau, if_pos hsh]; simp
            have HIN := hide hin
            have HAU := hide hau
            have HSH := hide hsh
            have HE := hide e9
            clear hin hau e9 hsh
            have c18 := (box_at hbx hkp).at 18 (scrA_18 s v1 v2 v3 (.slice (some ⟨b4, o4, none⟩) 2 c4))
            rw [HSH.out] at c18
            have c12 := (box_at hbx hkp).at 12 (scrA_12 s v1 v2 v3 (.slice (some ⟨b4, o4, none⟩) 2 c4))
            rw [HIN.out] at c12
            have c11 := (box_at hbx hkp).at 11 (scrA_11 s v1 v2 v3 (.slice (some ⟨b4, o4, none⟩) 2 c4))
            rw [HAU.out] at c11
            go_wp2_with (first | fail | (at_builtin; refine wpList_append_own _ rfl (.tmp 28) (.tmp 29) 30 rfl base 5 i0 (.int .u8 0) 1 1 Tryd.underlying30 hi hz0 hz1 hz2 rfl (by decide) _ _ _ rfl (hO'.alloc _) ⟨wr.heap.size, 0, none⟩ 1 1 ([14].map (Value.int .u8)) rfl rfl (lit_cells_at (w := wr) (l := [14]) rfl) ones (by unfold maxLen; omega) (by omega) (by simp; omega) ?_; intro v5' w5 own' hgr hnil; have own5 : w5.ownsRow base 5 1 v5' (n + AL.length + SL.length + 1) (xs ++ AL.map (Value.int .u8) ++ SL.map (Value.int .u8) ++ [14].map (Value.int .u8)) := own'; have b5 : Below base w w5 := (hb.alloc (by omega) _).grown hgr (by simp; omega) (fun g hg => (hO'.lt g hg).1); have k5 : Kept (w.alloc (.cells (scrA s v1 v2 v3 (.slice (some ⟨b4, o4, none⟩) 2 c4)) 38)) w5 := (hkp.alloc _).grown hgr (own_kind (hO'.alloc _)); have z5 := b5.size; clear hgr own' hnil; have c18 := (box_at hbx k5).at 18 (scrA_18 s v1 v2 v3 (.slice (some ⟨b4, o4, none⟩) 2 c4)); rw [HSH.out] at c18; have c12 := (box_at hbx k5).at 12 (scrA_12 s v1 v2 v3 (.slice (some ⟨b4, o4, none⟩) 2 c4)); rw [HIN.out] at c12; have c11 := (box_at hbx k5).at 11 (scrA_11 s v1 v2 v3 (.slice (some ⟨b4, o4, none⟩) 2 c4)); rw [HAU.out] at c11) | (at_builtin; refine Lib.wpList_append_own_string _ rfl (.tmp 33) _ 30 9 rfl base 5 i0 Tryd.underlying30 Tryd.underlying9 hi hz0 hz1 hz2 _ _ _ rfl own5 ⟨#[27, 91, 52, 104]⟩ rfl (by show n + AL.length + SL.length + 1 + 4 ≤ maxLen; unfold maxLen; omega) (by show n + AL.length + SL.length + 1 + 4 ≤ 140737488355328; omega) (by omega) ?_; intro v6' w6 own' hgr hnil; have own6 : w6.ownsRow base 5 1 v6' (n + AL.length + SL.length + 1 + 4) (xs ++ AL.map (Value.int .u8) ++ SL.map (Value.int .u8) ++ [14].map (Value.int .u8) ++ [27, 91, 52, 104].map (Value.int .u8)) := own'; have b6 : Below base w w6 := b5.grown hgr (by omega) (fun g hg => (own5.lt g hg).1); have k6 : Kept (w.alloc (.cells (scrA s v1 v2 v3 (.slice (some ⟨b4, o4, none⟩) 2 c4)) 38)) w6 := k5.grown hgr (own_kind own5); have z6 := b6.size; clear hgr own' hnil; have c18 := (box_at hbx k6).at 18 (scrA_18 s v1 v2 v3 (.slice (some ⟨b4, o4, none⟩) 2 c4)); rw [HSH.out] at c18; have c12 := (box_at hbx k6).at 12 (scrA_12 s v1 v2 v3 (.slice (some ⟨b4, o4, none⟩) 2 c4)); rw [HIN.out] at c12; have c11 := (box_at hbx k6).at 11 (scrA_11 s v1 v2 v3 (.slice (some ⟨b4, o4, none⟩) 2 c4)); rw [HAU.out] at c11) | (at_builtin; refine Lib.wpList_append_own_string _ rfl (.tmp 38) _ 30 9 rfl base 5 i0 Tryd.underlying30 Tryd.underlying9 hi hz0 hz1 hz2 _ _ _ rfl own6 ⟨#[27, 91, 63, 55, 108]⟩ rfl (by show n + AL.length + SL.length + 1 + 4 + 5 ≤ maxLen; unfold maxLen; omega) (by show n + AL.length + SL.length + 1 + 4 + 5 ≤ 140737488355328; omega) (by omega) ?_; intro v7' w7 own' hgr hnil; have own7 : w7.ownsRow base 5 1 v7' (n + AL.length + SL.length + 1 + 4 + 5) (xs ++ AL.map (Value.int .u8) ++ SL.map (Value.int .u8) ++ [14].map (Value.int .u8) ++ [27, 91, 52, 104].map (Value.int .u8) ++ [27, 91, 63, 55, 108].map (Value.int .u8)) := own'; have b7 : Below base w w7 := b6.grown hgr (by omega) (fun g hg => (own6.lt g hg).1); have k7 : Kept (w.alloc (.cells (scrA s v1 v2 v3 (.slice (some ⟨b4, o4, none⟩) 2 c4)) 38)) w7 := k6.grown hgr (own_kind own6); have z7 := b7.size; clear hgr own' hnil; have c18 := (box_at hbx k7).at 18 (scrA_18 s v1 v2 v3 (.slice (some ⟨b4, o4, none⟩) 2 c4)); rw [HSH.out] at c18; have c12 := (box_at hbx k7).at 12 (scrA_12 s v1 v2 v3 (.slice (some ⟨b4, o4, none⟩) 2 c4)); rw [HIN.out] at c12; have c11 := (box_at hbx k7).at 11 (scrA_11 s v1 v2 v3 (.slice (some ⟨b4, o4, none⟩) 2 c4)); rw [HAU.out] at c11))
            go_ret
            rw [HE.out]
            refine ⟨_, rfl, ?_, b7⟩
            have e8 : n + (AL ++ SL ++ [14] ++ [27, 91, 52, 104] ++ [27, 91, 63, 55, 108]).length = n + AL.length + SL.length + 1 + 4 + 5 := by simp; try omega
            rw [e8]
            simpa using own7
          · have e9 : howL s = AL ++ SL ++ [14] ++ [27, 91, 52, 104] := by unfold howL shL insL autoL; rw [HA.out, HSL.out, hin, hau, if_pos hsh]; simp
            have HIN := hide hin
            have HAU := hide hau
            have HSH := hide hsh
            have HE := hide e9
            clear hin hau e9 hsh
            have c18 := (box_at hbx hkp).at 18 (scrA_18 s v1 v2 v3 (.slice (some ⟨b4, o4, none⟩) 2 c4))
            rw [HSH.out] at c18
            have c12 := (box_at hbx hkp).at 12 (scrA_12 s v1 v2 v3 (.slice (some ⟨b4, o4, none⟩) 2 c4))
            rw [HIN.out] at c12
            have c11 := (box_at hbx hkp).at 11 (scrA_11 s v1 v2 v3 (.slice (some ⟨b4, o4, none⟩) 2 c4))
            rw [HAU.out] at c11
            go_wp2_with (first | fail | (at_builtin; refine wpList_append_own _ rfl (.tmp 28) (.tmp 29) 30 rfl base 5 i0 (.int .u8 0) 1 1 Tryd.underlying30 hi hz0 hz1 hz2 rfl (by decide) _ _ _ rfl (hO'.alloc _) ⟨wr.heap.size, 0, none⟩ 1 1 ([14].map (Value.int .u8)) rfl rfl (lit_cells_at (w := wr) (l := [14]) rfl) ones (by unfold maxLen; omega) (by omega) (by simp; omega) ?_; intro v5' w5 own' hgr hnil; have own5 : w5.ownsRow base 5 1 v5' (n + AL.length + SL.length + 1) (xs ++ AL.map (Value.int .u8) ++ SL.map (Value.int .u8) ++ [14].map (Value.int .u8)) := own'; have b5 : Below base w w5 := (hb.alloc (by omega) _).grown hgr (by simp; omega) (fun g hg => (hO'.lt g hg).1); have k5 : Kept (w.alloc (.cells (scrA s v1 v2 v3 (.slice (some ⟨b4, o4, none⟩) 2 c4)) 38)) w5 := (hkp.alloc _).grown hgr (own_kind (hO'.alloc _)); have z5 := b5.size; clear hgr own' hnil; have c18 := (box_at hbx k5).at 18 (scrA_18 s v1 v2 v3 (.slice (some ⟨b4, o4, none⟩) 2 c4)); rw [HSH.out] at c18; have c12 := (box_at hbx k5).at 12 (scrA_12 s v1 v2 v3 (.slice (some ⟨b4, o4, none⟩) 2 c4)); rw [HIN.out] at c12; have c11 := (box_at hbx k5).at 11 (scrA_11 s v1 v2 v3 (.slice (some ⟨b4, o4, none⟩) 2 c4)); rw [HAU.out] at c11) | (at_builtin; refine Lib.wpList_append_own_string _ rfl (.tmp 33) _ 30 9 rfl base 5 i0 Tryd.underlying30 Tryd.underlying9 hi hz0 hz1 hz2 _ _ _ rfl own5 ⟨#[27, 91, 52, 104]⟩ rfl (by show n + AL.length + SL.length + 1 + 4 ≤ maxLen; unfold maxLen; omega) (by show n + AL.length + SL.length + 1 + 4 ≤ 140737488355328; omega) (by omega) ?_; intro v6' w6 own' hgr hnil; have own6 : w6.ownsRow base 5 1 v6' (n + AL.length + SL.length + 1 + 4) (xs ++ AL.map (Value.int .u8) ++ SL.map (Value.int .u8) ++ [14].map (Value.int .u8) ++ [27, 91, 52, 104].map (Value.int .u8)) := own'; have b6 : Below base w w6 := b5.grown hgr (by omega) (fun g hg => (own5.lt g hg).1); have k6 : Kept (w.alloc (.cells (scrA s v1 v2 v3 (.slice (some ⟨b4, o4, none⟩) 2 c4)) 38)) w6 := k5.grown hgr (own_kind own5); have z6 := b6.size; clear hgr own' hnil; have c18 := (box_at hbx k6).at 18 (scrA_18 s v1 v2 v3 (.slice (some ⟨b4, o4, none⟩) 2 c4)); rw [HSH.out] at c18; have c12 := (box_at hbx k6).at 12 (scrA_12 s v1 v2 v3 (.slice (some ⟨b4, o4, none⟩) 2 c4)); rw [HIN.out] at c12; have c11 := (box_at hbx k6).at 11 (scrA_11 s v1 v2 v3 (.slice (some ⟨b4, o4, none⟩) 2 c4)); rw [HAU.out] at c11))
            go_ret
            rw [HE.out]
            refine ⟨_, rfl, ?_, b6⟩
            have e8 : n + (AL ++ SL ++ [14] ++ [27, 91, 52, 104]).length = n + AL.length + SL.length + 1 + 4 := by simp; try omega
            rw [e8]
            simpa using own6
      · rcases hin : s.ins with _ | _
        · rcases hau : s.auto with _ | _
          · have e9 : howL s = AL ++ SL ++ [27, 91, 63, 55, 108] := by unfold howL shL insL autoL; rw [HA.out, HSL.out, hin, hau, if_neg hsh]; simp
            have HIN := hide hin
            have HAU := hide hau
            have HSH := hide hsh
            have HE := hide e9
            have hsf : (s.sh == 1) = false := by simpa using hsh
            clear hin hau e9
            have c18 := (box_at hbx hkp).at 18 (scrA_18 s v1 v2 v3 (.slice (some ⟨b4, o4, none⟩) 2 c4))
            have c12 := (box_at hbx hkp).at 12 (scrA_12 s v1 v2 v3 (.slice (some ⟨b4, o4, none⟩) 2 c4))
            rw [HIN.out] at c12
            have c11 := (box_at hbx hkp).at 11 (scrA_11 s v1 v2 v3 (.slice (some ⟨b4, o4, none⟩) 2 c4))
            rw [HAU.out] at c11
            go_wp2_with (first | fail | (at_builtin; refine Lib.wpList_append_own_string _ rfl (.tmp 38) _ 30 9 rfl base 5 i0 Tryd.underlying30 Tryd.underlying9 hi hz0 hz1 hz2 _ _ _ rfl hO' ⟨#[27, 91, 63, 55, 108]⟩ rfl (by show n + AL.length + SL.length + 5 ≤ maxLen; unfold maxLen; omega) (by show n + AL.length + SL.length + 5 ≤ 140737488355328; omega) (by omega) ?_; intro v5' w5 own' hgr hnil; have own5 : w5.ownsRow base 5 1 v5' (n + AL.length + SL.length + 5) (xs ++ AL.map (Value.int .u8) ++ SL.map (Value.int .u8) ++ [27, 91, 63, 55, 108].map (Value.int .u8)) := own'; have b5 : Below base w w5 := hb.grown hgr (by omega) (fun g hg => (hO'.lt g hg).1); have k5 : Kept (w.alloc (.cells (scrA s v1 v2 v3 (.slice (some ⟨b4, o4, none⟩) 2 c4)) 38)) w5 := hkp.grown hgr (own_kind hO'); have z5 := b5.size; clear hgr own' hnil; have c18 := (box_at hbx k5).at 18 (scrA_18 s v1 v2 v3 (.slice (some ⟨b4, o4, none⟩) 2 c4)); have c12 := (box_at hbx k5).at 12 (scrA_12 s v1 v2 v3 (.slice (some ⟨b4, o4, none⟩) 2 c4)); rw [HIN.out] at c12; have c11 := (box_at hbx k5).at 11 (scrA_11 s v1 v2 v3 (.slice (some ⟨b4, o4, none⟩) 2 c4)); rw [HAU.out] at c11))
            go_ret
            rw [HE.out]
            refine ⟨_, rfl, ?_, b5⟩
            have e8 : n + (AL ++ SL ++ [27, 91, 63, 55, 108]).length = n + AL.length + SL.length + 5 := by simp; try omega
            rw [e8]
            simpa using own5
          · have e9 : howL s = AL ++ SL := by unfold howL shL insL autoL; rw [HA.out, HSL.out, hin, hau, if_neg hsh]; simp
            have HIN := hide hin
            have HAU := hide hau
            have HSH := hide hsh
            have HE := hide e9
            have hsf : (s.sh == 1) = false := by simpa using hsh
            clear hin hau e9
            have c18 := (box_at hbx hkp).at 18 (scrA_18 s v1 v2 v3 (.slice (some ⟨b4, o4, none⟩) 2 c4))
            have c12 := (box_at hbx hkp).at 12 (scrA_12 s v1 v2 v3 (.slice (some ⟨b4, o4, none⟩) 2 c4))
            rw [HIN.out] at c12
            have c11 := (box_at hbx hkp).at 11 (scrA_11 s v1 v2 v3 (.slice (some ⟨b4, o4, none⟩) 2 c4))
            rw [HAU.out] at c11
            go_wp2_with (first | fail)
            go_ret
            rw [HE.out]
            refine ⟨_, rfl, ?_, hb⟩
            have e8 : n + (AL ++ SL).length = n + AL.length + SL.length := by simp; try omega
            rw [e8]
            simpa using hO'
        · rcases hau : s.auto with _ | _
          · have e9 : howL s = AL ++ SL ++ [27, 91, 52, 104] ++ [27, 91, 63, 55, 108] := by unfold howL shL insL autoL; rw [HA.out, HSL.out, hin, hau, if_neg hsh]; simp
            have HIN := hide hin
            have HAU := hide hau
            have HSH := hide hsh
            have HE := hide e9
            have hsf : (s.sh == 1) = false := by simpa using hsh
            clear hin hau e9
            have c18 := (box_at hbx hkp).at 18 (scrA_18 s v1 v2 v3 (.slice (some ⟨b4, o4, none⟩) 2 c4))
            have c12 := (box_at hbx hkp).at 12 (scrA_12 s v1 v2 v3 (.slice (some ⟨b4, o4, none⟩) 2 c4))
            rw [HIN.out] at c12
            have c11 := (box_at hbx hkp).at 11 (scrA_11 s v1 v2 v3 (.slice (some ⟨b4, o4, none⟩) 2 c4))
            rw [HAU.out] at c11
            go_wp2_with (first | fail | (at_builtin; refine Lib.wpList_append_own_string _ rfl (.tmp 33) _ 30 9 rfl base 5 i0 Tryd.underlying30 Tryd.underlying9 hi hz0 hz1 hz2 _ _ _ rfl hO' ⟨#[27, 91, 52, 104]⟩ rfl (by show n + AL.length + SL.length + 4 ≤ maxLen; unfold maxLen; omega) (by show n + AL.length + SL.length + 4 ≤ 140737488355328; omega) (by omega) ?_; intro v5' w5 own' hgr hnil; have own5 : w5.ownsRow base 5 1 v5' (n + AL.length + SL.length + 4) (xs ++ AL.map (Value.int .u8) ++ SL.map (Value.int .u8) ++ [27, 91, 52, 104].map (Value.int .u8)) := own'; have b5 : Below base w w5 := hb.grown hgr (by omega) (fun g hg => (hO'.lt g hg).1); have k5 : Kept (w.alloc (.cells (scrA s v1 v2 v3 (.slice (some ⟨b4, o4, none⟩) 2 c4)) 38)) w5 := hkp.grown hgr (own_kind hO'); have z5 := b5.size; clear hgr own' hnil; have c18 := (box_at hbx k5).at 18 (scrA_18 s v1 v2 v3 (.slice (some ⟨b4, o4, none⟩) 2 c4)); have c12 := (box_at hbx k5).at 12 (scrA_12 s v1 v2 v3 (.slice (some ⟨b4, o4, none⟩) 2 c4)); rw [HIN.out] at c12; have c11 := (box_at hbx k5).at 11 (scrA_11 s v1 v2 v3 (.slice (some ⟨b4, o4, none⟩) 2 c4)); rw [HAU.out] at c11) | (at_builtin; refine Lib.wpList_append_own_string _ rfl (.tmp 38) _ 30 9 rfl base 5 i0 Tryd.underlying30 Tryd.underlying9 hi hz0 hz1 hz2 _ _ _ rfl own5 ⟨#[27, 91, 63, 55, 108]⟩ rfl (by show n + AL.length + SL.length + 4 + 5 ≤ maxLen; unfold maxLen; omega) (by show n + AL.length + SL.length + 4 + 5 ≤ 140737488355328; omega) (by omega) ?_; intro v6' w6 own' hgr hnil; have own6 : w6.ownsRow base 5 1 v6' (n + AL.length + SL.length + 4 + 5) (xs ++ AL.map (Value.int .u8) ++ SL.map (Value.int .u8) ++ [27, 91, 52, 104].map (Value.int .u8) ++ [27, 91, 63, 55, 108].map (Value.int .u8)) := own'; have b6 : Below base w w6 := b5.grown hgr (by omega) (fun g hg => (own5.lt g hg).1); have k6 : Kept (w.alloc (.cells (scrA s v1 v2 v3 (.slice (some ⟨b4, o4, none⟩) 2 c4)) 38)) w6 := k5.grown hgr (own_kind own5); have z6 := b6.size; clear hgr own' hnil; have c18 := (box_at hbx k6).at 18 (scrA_18 s v1 v2 v3 (.slice (some ⟨b4, o4, none⟩) 2 c4)); have c12 := (box_at hbx k6).at 12 (scrA_12 s v1 v2 v3 (.slice (some ⟨b4, o4, none⟩) 2 c4)); rw [HIN.out] at c12; have c11 := (box_at hbx k6).at 11 (scrA_11 s v1 v2 v3 (.slice (some ⟨b4, o4, none⟩) 2 c4)); rw [HAU.out] at c11))
            go_ret
            rw [HE.out]
            refine ⟨_, rfl, ?_, b6⟩
            have e8 : n + (AL ++ SL ++ [27, 91, 52, 104] ++ [27, 91, 63, 55, 108]).length = n + AL.length + SL.length + 4 + 5 := by simp; try omega
            rw [e8]
            simpa using own6
          · have e9 : howL s = AL ++ SL ++ [27, 91, 52, 104] := by unfold howL shL insL autoL; rw [HA.out, HSL.out, hin, hau, if_neg hsh]; simp
            have HIN := hide hin
            have HAU := hide hau
            have HSH := hide hsh
            have HE := hide e9
            have hsf : (s.sh == 1) = false := by simpa using hsh
            clear hin hau e9
            have c18 := (box_at hbx hkp).at 18 (scrA_18 s v1 v2 v3 (.slice (some ⟨b4, o4, none⟩) 2 c4))
            have c12 := (box_at hbx hkp).at 12 (scrA_12 s v1 v2 v3 (.slice (some ⟨b4, o4, none⟩) 2 c4))
            rw [HIN.out] at c12
            have c11 := (box_at hbx hkp).at 11 (scrA_11 s v1 v2 v3 (.slice (some ⟨b4, o4, none⟩) 2 c4))
            rw [HAU.out] at c11
            go_wp2_with (first | fail | (at_builtin; refine Lib.wpList_append_own_string _ rfl (.tmp 33) _ 30 9 rfl base 5 i0 Tryd.underlying30 Tryd.underlying9 hi hz0 hz1 hz2 _ _ _ rfl hO' ⟨#[27, 91, 52, 104]⟩ rfl (by show n + AL.length + SL.length + 4 ≤ maxLen; unfold maxLen; omega) (by show n + AL.length + SL.length + 4 ≤ 140737488355328; omega) (by omega) ?_; intro v5' w5 own' hgr hnil; have own5 : w5.ownsRow base 5 1 v5' (n + AL.length + SL.length + 4) (xs ++ AL.map (Value.int .u8) ++ SL.map (Value.int .u8) ++ [27, 91, 52, 104].map (Value.int .u8)) := own'; have b5 : Below base w w5 := hb.grown hgr (by omega) (fun g hg => (hO'.lt g hg).1); have k5 : Kept (w.alloc (.cells (scrA s v1 v2 v3 (.slice (some ⟨b4, o4, none⟩) 2 c4)) 38)) w5 := hkp.grown hgr (own_kind hO'); have z5 := b5.size; clear hgr own' hnil; have c18 := (box_at hbx k5).at 18 (scrA_18 s v1 v2 v3 (.slice (some ⟨b4, o4, none⟩) 2 c4)); have c12 := (box_at hbx k5).at 12 (scrA_12 s v1 v2 v3 (.slice (some ⟨b4, o4, none⟩) 2 c4)); rw [HIN.out] at c12; have c11 := (box_at hbx k5).at 11 (scrA_11 s v1 v2 v3 (.slice (some ⟨b4, o4, none⟩) 2 c4)); rw [HAU.out] at c11))
            go_ret
            rw [HE.out]
            refine ⟨_, rfl, ?_, b5⟩
            have e8 : n + (AL ++ SL ++ [27, 91, 52, 104]).length = n + AL.length + SL.length + 4 := by simp; try omega
            rw [e8]
            simpa using own5
end Go.Proofs.YtknkbihjboadjaaDoor
