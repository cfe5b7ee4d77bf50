/-
  ActionText of the program.
-/
import Derived.Test.YtbeidafmnbjibabDoorActText2
import Derived.OwnWalk
import Derived.Lib.AppendIntMem
namespace Go.Proofs.YtbeidafmnbjibabDoor
open Go.ChangeShapes Go.WideShapes Go.ChangeAt Go.RowKit
set_option linter.unusedVariables false
set_option linter.unusedSimpArgs false
set_option maxRecDepth 20000

theorem info_strs : (Tryd.prog.info? 9).map (fun i => (i.zero, i.size, i.bytes)) = some (some (.string ⟨#[]⟩), 1, 16) := by kernel_rfl
def strs (ws : List (List Int)) : List Value := ws.map (fun l => .string (strOfNums l))
theorem str_new {w : World} {s : ByteArray} : ∀ (j : Nat) (u : Value), ([Value.string s])[j]? = some u → (w.alloc (.cells #[.string s] 9)).cell? ((⟨w.heap.size, 0, none⟩ : Addr).add j) = some u := by
  intro j u hj
  match j, hj with
  | 0, hj => simp at hj; subst hj; simp [Addr.add]
theorem one_str {s : ByteArray} : ∀ u ∈ [Value.string s], u.oneCell' = true := by
  intro u hu
  simp at hu
  subst hu
  rfl
theorem own_belowS {w w' : World} {B n : Nat} {v : Value} {xs : List Value} (h : w.ownsRow B 9 1 v n xs) (hb : Below w.heap.size w w') : w'.ownsRow B 9 1 v n xs := by
  refine ⟨h.1, ?_⟩
  rcases h.2 with h | ⟨g, cap, cur, hv, hB, hg, rest⟩
  · exact .inl h
  · exact .inr ⟨g, cap, cur, hv, hB, (hb.block g (Array.getElem?_eq_some_iff.1 hg).1).trans hg, rest⟩
theorem own_strs {w : World} {B : Nat} {v : Value} {ws : List (List Int)} (h : w.ownsRow B 9 1 v ws.length (strs ws)) (hne : ws ≠ []) :
    ∃ BS g cap, Hid (BS = ws.map strOfNums) ∧ v = .slice (some ⟨g, 0, none⟩) BS.length cap ∧ BS.length ≤ cap ∧ g < w.heap.size ∧ ∀ (j : Nat) x, BS[j]? = some x → w.cell? ⟨g, 0 + j, none⟩ = some (.string x) := by
  have hl : (ws.map strOfNums).length = ws.length := by simp
  rcases h.2 with ⟨_, h0⟩ | ⟨g, cap, cur, hv, hB, hg, h1, h2, h3, h4⟩
  · exact absurd (List.eq_nil_of_length_eq_zero h0) hne
  · refine ⟨ws.map strOfNums, g, cap, hide rfl, by rw [hl]; exact hv, by rw [hl]; exact h1, (Array.getElem?_eq_some_iff.1 hg).1, fun j x hx => ?_⟩
    have hj : j < ws.length := by have := (List.getElem?_eq_some_iff.1 hx).1; omega
    have hc : cur[j]? = some (.string x) := by
      have h5 := congrArg (fun (l : List Value) => l[j]?) h4
      simp only [Nat.mul_one, List.getElem?_take, hj, if_true, Array.getElem?_toList] at h5
      rw [h5]
      unfold strs
      rw [List.getElem?_map] at hx ⊢
      cases hw : ws[j]? with
      | none => rw [hw] at hx; simp at hx
      | some l => rw [hw] at hx; simp at hx ⊢; exact hx
    rw [Nat.zero_add]
    simp [World.cell?, hg, hc]
theorem join_of {ws : List (List Int)} {BS : List ByteArray} (h : BS = ws.map strOfNums) : strOfNums (joinN ws) = ⟨(Lib.join (BS.map (·.data.toList)) (⟨#[32]⟩ : ByteArray).data.toList).toArray⟩ := by
  subst h
  exact joinN_str ws
theorem join_len {ws : List (List Int)} {BS : List ByteArray} (h : BS = ws.map strOfNums) : (Lib.join (BS.map (·.data.toList)) (⟨#[32]⟩ : ByteArray).data.toList).length = (joinN ws).length := by
  have h2 := congrArg ByteArray.size (join_of h)
  rw [strOfNums_size] at h2
  rw [h2]
  rfl
theorem wordsTo_len (kd ch st : Int) (pv : Bool) (ns : List Int) : ∀ j, (wordsTo kd ch st pv ns j).length = (words0 kd ch st pv).length + j
  | 0 => rfl
  | j + 1 => by rw [wordsTo, List.length_append, wordsTo_len kd ch st pv ns j]; simp; omega
set_option maxHeartbeats 16000000 in
theorem implActionText_calls (kd ch st : Int) (pv : Bool) (ns : List Int) (v : Value) (w : World) (hn : ns.length ≤ maxLen) (htab : Lib.TabIs Tryd.prog w "internal/strconv.uint64pow10" .u64 Lib.pow10Tab) (hkw : ∀ i : Nat, i < 6 → w.cell? ⟨0, i, none⟩ = some (.string (strOfNums (wordN (i : Int))))) (h1 : ReadAt .i64 w v ns) :
    Calls Tryd.prog 7 #[.agg #[.int .i64 kd, .int .i64 ch, .int .i64 st, .bool pv, v]] w fun e w' => e = .returned (.agg #[.int .i64 (actCode kd ch st pv ns), .string (actText kd ch st pv ns)]) ∧ Below w.heap.size w w' := by
  have h1' := h1
  obtain ⟨av, cv, rfl, _⟩ := h1'
  have bel0 : Below w.heap.size w ((w.alloc (.cells #[.int .i64 kd, .int .i64 ch, .int .i64 st, .bool pv, .slice av ns.length cv] 29)).alloc (.cells #[.int .i64 0, .string ⟨#[]⟩] 27)) := (by repeat' (first | with_reducible exact Below.refl _ _ | with_reducible assumption | with_reducible refine Below.drew ?_ | with_reducible refine Below.alloc ?_ ?_ _ | with_reducible refine Below.setCell ?_ ?_ _ | (simp; done) | (simp; omega) | omega))
  have hA := (Blk.new w #[.int .i64 kd, .int .i64 ch, .int .i64 st, .bool pv, .slice av ns.length cv] 29).alloc (.cells #[.int .i64 0, .string ⟨#[]⟩] 27)
  have hR := Blk.new_at (w := w.alloc (.cells #[.int .i64 kd, .int .i64 ch, .int .i64 st, .bool pv, .slice av ns.length cv] 29)) (b := w.heap.size + 1) (by simp) #[.int .i64 0, .string ⟨#[]⟩] 27
  obtain ⟨i0, hi, hz0, hz1, hz2⟩ := info_parts info_strs
  unfold actText
  by_cases hc : actCode kd ch st pv ns = 0
  · rw [if_pos hc, hc]
    have hF := afine_of hc
    rcases hF.k with rfl | rfl | rfl | rfl | rfl | rfl
    · cases pv
      · obtain ⟨ws, hws⟩ : ∃ x, Hid (strOfNums (wordN 0) = x) := ⟨_, hide rfl⟩
        have cw0 : w.cell? ⟨0, 0, none⟩ = some (.string ws) := by rw [← hws.out]; exact hkw 0 (by omega)
        go_enter Tryd.func7, Tryd.ntmps7
        go_wp2_with fail
        go_at_call 14
        refine (implActionFault_calls 0 ch st false ns _ _ hn (h1.below bel0)).mono ?_
        rintro e w1 ⟨rfl, hb⟩
        replace hA := hA.belowb hb
        replace hR := hR.belowb hb
        have bel1 := bel0.trans (hb.mono bel0.size)
        have z1 : w.heap.size + 2 ≤ w1.heap.size := by have := hb.size; simp at this; omega
        clear hb bel0
        rw [hc]
        have HTB : ∀ w', Below w.heap.size w w' → Lib.TabIs Tryd.prog w' "internal/strconv.uint64pow10" .u64 Lib.pow10Tab := Lib.tabBelow_of_tabIs htab
        have cw := cellb bel1 cw0
        have b0 := hA.at 0 rfl
        have own1 : (w1.alloc (.cells #[.string ws] 9)).ownsRow w1.heap.size 9 1 (.slice (some ⟨w1.heap.size, 0, none⟩) 1 1) 1 [.string ws] := World.ownsRow_lit (base := w1.heap.size) (e := 9) (size := 1) w1 #[.string ws] 1 (Nat.le_refl _) (by unfold maxLen; omega) rfl
        have hA1 := hA.alloc (.cells #[.string ws] 9)
        have a0 := hA1.at 0 rfl
        have a1 := hA1.at 1 rfl
        have a2 := hA1.at 2 rfl
        have a3 := hA1.at 3 rfl
        have a4 := hA1.at 4 rfl
        have bel2 : Below w1.heap.size w1 (w1.alloc (.cells #[.string ws] 9)) := (Below.refl _ w1).alloc (Nat.le_refl _) _
        have HW0 : strs (wordsTo 0 ch st false ns 0) = [.string ws] := by
          rw [← hws.out]
          rfl
        have hln : (wordsTo 0 ch st false ns 0).length = 1 := rfl
        have hlen := fun j hj => textTo_len hF j hj
        have hl6 := hF.l
        have hnn := hF.n
        clear hF hc
        go_wp2_with (first | fail)
        have HO0 : Hid ((w1.alloc (.cells #[.string ws] 9)).ownsRow w1.heap.size 9 1 (.slice (some ⟨w1.heap.size, 0, none⟩) 1 1) (wordsTo 0 ch st false ns 0).length (strs (wordsTo 0 ch st false ns 0))) := hide (by rw [HW0, hln]; exact own1)
        clear HW0 hln own1
        go_loopw [4, 44] (fun o i wr => ∃ j : Nat, j ≤ ns.length ∧ i = .int .i64 j ∧ Hid (wr.ownsRow w1.heap.size 9 1 o (wordsTo 0 ch st false ns j).length (strs (wordsTo 0 ch st false ns j))) ∧ Below w1.heap.size w1 wr) (fun _ i _ => ns.length - (intOf i).toNat)
        case atStart => exact ⟨0, Nat.zero_le _, rfl, HO0, bel2⟩
        case round =>
          obtain ⟨j, hj, rfl, hO, hb⟩ := hrel
          have hRr := hR.below hb hR.lt
          have belr := bel1.trans (hb.mono (by omega))
          have hlj := hlen j hj
          have hne := wordsTo_ne 0 ch st false ns j
          have hwl : (wordsTo 0 ch st false ns j).length = 1 + j := wordsTo_len _ _ _ _ _ _
          have zr := hb.size
          by_cases hlt : j < ns.length
          · have hltI : (j : Int) < (ns.length : Int) := by omega
            obtain ⟨b9, o9, e9, hcell⟩ := (h1.below belr).spot j hlt
            subst e9
            have hnj := hnn j hlt
            have hs : wordsTo 0 ch st false ns (j + 1) = wordsTo 0 ch st false ns j ++ [digL (ns.getD j 0)] := rfl
            obtain ⟨WS, hWS⟩ : ∃ z, wordsTo 0 ch st false ns j = z := ⟨_, rfl⟩
            have hO' := hO.out
            rw [hWS] at hO' hs hwl
            obtain ⟨n0, hn0⟩ : ∃ z, ns.getD j 0 = z := ⟨_, rfl⟩
            rw [hn0] at hcell hnj hs
            have HS := hide hs
            clear hs hn0 hWS hne hlj hO hlen hnn
            go_wp2_with fail
            go_at_call 15
            refine (numberText_calls n0 _ hnj.1 (by omega) (HTB _ belr)).mono ?_
            rintro e w8 ⟨rfl, hb'⟩
            have own8 := own_belowS hO' hb'
            have bel8 : Below w1.heap.size w1 w8 := hb.trans (hb'.mono zr)
            have zz8 := bel8.size
            obtain ⟨dn, hdn⟩ : ∃ x, Hid (strOfNums (digL n0) = x) := ⟨_, hide rfl⟩
            rw [hdn.out]
            clear hb' hO'
            go_wp2_with (first | fail | (at_builtin; refine wpList_append_own _ rfl (.tmp 48) (.tmp 51) 37 rfl w1.heap.size 9 i0 (.string ⟨#[]⟩) 1 16 Tryd.underlying37 hi hz0 hz1 hz2 rfl (by decide) _ _ _ rfl (own8.alloc _) ⟨w8.heap.size, 0, none⟩ 1 1 [.string dn] rfl rfl str_new one_str (by show WS.length + 1 ≤ maxLen; unfold maxLen; omega) (by show (WS.length + 1) * 16 ≤ 140737488355328; omega) (by simp; omega) ?_; intro v9' w9 own' hgr hnil; have own9 : w9.ownsRow w1.heap.size 9 1 v9' (WS.length + 1) (strs WS ++ [.string dn]) := own'; have bel9 : Below w1.heap.size w1 w9 := (bel8.alloc (by omega) _).grown hgr (by simp; omega) (fun g hg => (own8.lt g hg).1); clear hgr own' hnil))
            have HO9 : Hid (w9.ownsRow w1.heap.size 9 1 v9' (wordsTo 0 ch st false ns (j + 1)).length (strs (wordsTo 0 ch st false ns (j + 1)))) := by
              refine hide ?_
              rw [HS.out, List.length_append]
              have e1 : strs (WS ++ [digL n0]) = strs WS ++ [.string dn] := by rw [← hdn.out]; simp [strs]
              rw [e1]
              exact own9
            clear own9
            go_roundw
            case rel => exact ⟨j + 1, by omega, by go_num, HO9, bel9⟩
            case measure => simp [intOf]; omega
          · obtain rfl : j = ns.length := by omega
            obtain ⟨BS, g, cap, hBS, rfl, hcap, hg, hcells⟩ := own_strs hO.out hne
            have hjl := join_len hBS.out
            have hjs := join_of hBS.out
            have hjw : BS.length = 1 + ns.length := by rw [hBS.out, List.length_map]; exact hwl
            have hln : (joinN (wordsTo 0 ch st false ns ns.length)).length ≤ 40 + 7 * ns.length := hlj
            obtain ⟨xs, hxs⟩ : ∃ z, Hid (strOfNums (joinN (wordsTo 0 ch st false ns ns.length)) = z) := ⟨_, hide rfl⟩
            have HTX : Hid (strOfNums (textTo 0 ch st false ns ns.length) = xs) := hide hxs.out
            have HJ : Hid (Calls Tryd.prog 16 #[.slice (some ⟨g, 0, none⟩) BS.length cap, .string ⟨#[32]⟩] wr fun e w' => e = .returned (.string xs) ∧ Below wr.heap.size wr w') := hide (by rw [← hxs.out, hjs]; exact Any.strings_Join at_lays156 at_Builder_Extra_156 g 0 cap BS ⟨#[32]⟩ wr hcells hg (by omega) hcap (by omega))
            clear hjs hjl hO hcells hlen hnn hlj hln hjw hwl hne hxs
            go_wp2_with fail
            go_at_call 16
            refine HJ.out.mono ?_
            rintro e w8 ⟨rfl, hb8⟩
            have hR := hRr.belowb hb8
            have bel8 := belr.trans (hb8.mono belr.size)
            have zz8 := hb8.size
            clear hb8 hRr
            go_wp2_with (first | fail | (refine wpList_build_at rfl 27 _ rfl #[.int .i64 0, .string xs] (by first | rfl | kernel_rfl) ?_; (try simp only [Act.put, List.setIfInBounds_toArray, List.set_cons_zero, List.set_cons_succ])) | (refine wpList_store_blk rfl _ _ _ rfl (w.heap.size + 1) 0 #[.int .i64 0, .string ⟨#[]⟩] #[.int .i64 0, .string xs] (.agg #[.int .i64 0, .string xs]) rfl rfl hR rfl (by kernel_rfl) rfl rfl ?_; (try simp only [Act.put, List.setIfInBounds_toArray, List.set_cons_zero, List.set_cons_succ]); clear hR; intro w9 hR hu))
            exact bodyPost_ret (results_blk hR _ _ rfl rfl Tryd.underlying27 rfl (by kernel_rfl)) rfl ⟨by rw [HTX.out], bel8.trans (hu.below (by omega))⟩
      · exact absurd (hF.z rfl).1 (by simp)
    · cases pv
      · obtain ⟨ws, hws⟩ : ∃ x, Hid (strOfNums (wordN 1) = x) := ⟨_, hide rfl⟩
        have cw0 : w.cell? ⟨0, 1, none⟩ = some (.string ws) := by rw [← hws.out]; exact hkw 1 (by omega)
        have hch : 0 ≤ ch ∧ ch ≤ 65535 := by have := hF.c; omega
        go_enter Tryd.func7, Tryd.ntmps7
        go_wp2_with fail
        go_at_call 14
        refine (implActionFault_calls 1 ch st false ns _ _ hn (h1.below bel0)).mono ?_
        rintro e w1 ⟨rfl, hb⟩
        replace hA := hA.belowb hb
        replace hR := hR.belowb hb
        have bel1 := bel0.trans (hb.mono bel0.size)
        have z1 : w.heap.size + 2 ≤ w1.heap.size := by have := hb.size; simp at this; omega
        clear hb bel0
        rw [hc]
        have HTB : ∀ w', Below w.heap.size w w' → Lib.TabIs Tryd.prog w' "internal/strconv.uint64pow10" .u64 Lib.pow10Tab := Lib.tabBelow_of_tabIs htab
        have cw := cellb bel1 cw0
        have b0 := hA.at 0 rfl
        have own1 : (w1.alloc (.cells #[.string ws] 9)).ownsRow w1.heap.size 9 1 (.slice (some ⟨w1.heap.size, 0, none⟩) 1 1) 1 [.string ws] := World.ownsRow_lit (base := w1.heap.size) (e := 9) (size := 1) w1 #[.string ws] 1 (Nat.le_refl _) (by unfold maxLen; omega) rfl
        have hA1 := hA.alloc (.cells #[.string ws] 9)
        have a0 := hA1.at 0 rfl
        have a1 := hA1.at 1 rfl
        have a2 := hA1.at 2 rfl
        have a3 := hA1.at 3 rfl
        have a4 := hA1.at 4 rfl
        have bel2 : Below w1.heap.size w1 (w1.alloc (.cells #[.string ws] 9)) := (Below.refl _ w1).alloc (Nat.le_refl _) _
        go_wp2_with (first | fail)
        go_at_call 15
        refine (numberText_calls ch _ hch.1 (by omega) (HTB _ (bel1.trans (bel2.mono (by omega))))).mono ?_
        rintro e w2 ⟨rfl, hb⟩
        replace own1 := own_belowS own1 hb
        have bel3 : Below w1.heap.size w1 w2 := bel2.trans (hb.mono bel2.size)
        have zz2 := bel3.size
        obtain ⟨da, hda⟩ : ∃ x, Hid (strOfNums (digL ch) = x) := ⟨_, hide rfl⟩
        rw [hda.out]
        clear hb a0 a1 a2 a3 a4
        have a0 := (hA.below bel3 hA.lt).at 0 rfl; have a1 := (hA.below bel3 hA.lt).at 1 rfl; have a2 := (hA.below bel3 hA.lt).at 2 rfl; have a3 := (hA.below bel3 hA.lt).at 3 rfl; have a4 := (hA.below bel3 hA.lt).at 4 rfl
        have HW0 : strs (wordsTo 1 ch st false ns 0) = [.string ws, .string da] := by
          rw [← hws.out, ← hda.out]
          rfl
        have hln : (wordsTo 1 ch st false ns 0).length = 2 := rfl
        have hlen := fun j hj => textTo_len hF j hj
        have hl6 := hF.l
        have hnn := hF.n
        clear hF hc
        go_wp2_with (first | fail | (at_builtin; refine wpList_append_own _ rfl (.tmp 21) (.tmp 25) 37 rfl w1.heap.size 9 i0 (.string ⟨#[]⟩) 1 16 Tryd.underlying37 hi hz0 hz1 hz2 rfl (by decide) _ _ _ rfl (own1.alloc _) ⟨w2.heap.size, 0, none⟩ 1 1 [.string da] rfl rfl str_new one_str (by show 1 + 1 ≤ maxLen; unfold maxLen; omega) (by show (1 + 1) * 16 ≤ 140737488355328; omega) (by simp; omega) ?_; intro v3' w3 own' hgr hnil; have own3 : w3.ownsRow w1.heap.size 9 1 v3' 2 [.string ws, .string da] := own'; have bel4 : Below w1.heap.size w1 w3 := (bel3.alloc (by omega) _).grown hgr (by simp; omega) (fun g hg => (own1.lt g hg).1); have zz3 := bel4.size; clear hgr own' hnil a0 a1 a2 a3 a4; have a0 := (hA.below bel4 hA.lt).at 0 rfl; have a1 := (hA.below bel4 hA.lt).at 1 rfl; have a2 := (hA.below bel4 hA.lt).at 2 rfl; have a3 := (hA.below bel4 hA.lt).at 3 rfl; have a4 := (hA.below bel4 hA.lt).at 4 rfl))
        have HO0 : Hid (w3.ownsRow w1.heap.size 9 1 v3' (wordsTo 1 ch st false ns 0).length (strs (wordsTo 1 ch st false ns 0))) := hide (by rw [HW0, hln]; exact own3)
        clear HW0 hln own3
        go_loopw [4, 44] (fun o i wr => ∃ j : Nat, j ≤ ns.length ∧ i = .int .i64 j ∧ Hid (wr.ownsRow w1.heap.size 9 1 o (wordsTo 1 ch st false ns j).length (strs (wordsTo 1 ch st false ns j))) ∧ Below w1.heap.size w1 wr) (fun _ i _ => ns.length - (intOf i).toNat)
        case atStart => exact ⟨0, Nat.zero_le _, rfl, HO0, bel4⟩
        case round =>
          obtain ⟨j, hj, rfl, hO, hb⟩ := hrel
          have hRr := hR.below hb hR.lt
          have belr := bel1.trans (hb.mono (by omega))
          have hlj := hlen j hj
          have hne := wordsTo_ne 1 ch st false ns j
          have hwl : (wordsTo 1 ch st false ns j).length = 2 + j := wordsTo_len _ _ _ _ _ _
          have zr := hb.size
          by_cases hlt : j < ns.length
          · have hltI : (j : Int) < (ns.length : Int) := by omega
            obtain ⟨b9, o9, e9, hcell⟩ := (h1.below belr).spot j hlt
            subst e9
            have hnj := hnn j hlt
            have hs : wordsTo 1 ch st false ns (j + 1) = wordsTo 1 ch st false ns j ++ [digL (ns.getD j 0)] := rfl
            obtain ⟨WS, hWS⟩ : ∃ z, wordsTo 1 ch st false ns j = z := ⟨_, rfl⟩
            have hO' := hO.out
            rw [hWS] at hO' hs hwl
            obtain ⟨n0, hn0⟩ : ∃ z, ns.getD j 0 = z := ⟨_, rfl⟩
            rw [hn0] at hcell hnj hs
            have HS := hide hs
            clear hs hn0 hWS hne hlj hO hlen hnn
            go_wp2_with fail
            go_at_call 15
            refine (numberText_calls n0 _ hnj.1 (by omega) (HTB _ belr)).mono ?_
            rintro e w8 ⟨rfl, hb'⟩
            have own8 := own_belowS hO' hb'
            have bel8 : Below w1.heap.size w1 w8 := hb.trans (hb'.mono zr)
            have zz8 := bel8.size
            obtain ⟨dn, hdn⟩ : ∃ x, Hid (strOfNums (digL n0) = x) := ⟨_, hide rfl⟩
            rw [hdn.out]
            clear hb' hO'
            go_wp2_with (first | fail | (at_builtin; refine wpList_append_own _ rfl (.tmp 48) (.tmp 51) 37 rfl w1.heap.size 9 i0 (.string ⟨#[]⟩) 1 16 Tryd.underlying37 hi hz0 hz1 hz2 rfl (by decide) _ _ _ rfl (own8.alloc _) ⟨w8.heap.size, 0, none⟩ 1 1 [.string dn] rfl rfl str_new one_str (by show WS.length + 1 ≤ maxLen; unfold maxLen; omega) (by show (WS.length + 1) * 16 ≤ 140737488355328; omega) (by simp; omega) ?_; intro v9' w9 own' hgr hnil; have own9 : w9.ownsRow w1.heap.size 9 1 v9' (WS.length + 1) (strs WS ++ [.string dn]) := own'; have bel9 : Below w1.heap.size w1 w9 := (bel8.alloc (by omega) _).grown hgr (by simp; omega) (fun g hg => (own8.lt g hg).1); clear hgr own' hnil))
            have HO9 : Hid (w9.ownsRow w1.heap.size 9 1 v9' (wordsTo 1 ch st false ns (j + 1)).length (strs (wordsTo 1 ch st false ns (j + 1)))) := by
              refine hide ?_
              rw [HS.out, List.length_append]
              have e1 : strs (WS ++ [digL n0]) = strs WS ++ [.string dn] := by rw [← hdn.out]; simp [strs]
              rw [e1]
              exact own9
            clear own9
            go_roundw
            case rel => exact ⟨j + 1, by omega, by go_num, HO9, bel9⟩
            case measure => simp [intOf]; omega
          · obtain rfl : j = ns.length := by omega
            obtain ⟨BS, g, cap, hBS, rfl, hcap, hg, hcells⟩ := own_strs hO.out hne
            have hjl := join_len hBS.out
            have hjs := join_of hBS.out
            have hjw : BS.length = 2 + ns.length := by rw [hBS.out, List.length_map]; exact hwl
            have hln : (joinN (wordsTo 1 ch st false ns ns.length)).length ≤ 40 + 7 * ns.length := hlj
            obtain ⟨xs, hxs⟩ : ∃ z, Hid (strOfNums (joinN (wordsTo 1 ch st false ns ns.length)) = z) := ⟨_, hide rfl⟩
            have HTX : Hid (strOfNums (textTo 1 ch st false ns ns.length) = xs) := hide hxs.out
            have HJ : Hid (Calls Tryd.prog 16 #[.slice (some ⟨g, 0, none⟩) BS.length cap, .string ⟨#[32]⟩] wr fun e w' => e = .returned (.string xs) ∧ Below wr.heap.size wr w') := hide (by rw [← hxs.out, hjs]; exact Any.strings_Join at_lays156 at_Builder_Extra_156 g 0 cap BS ⟨#[32]⟩ wr hcells hg (by omega) hcap (by omega))
            clear hjs hjl hO hcells hlen hnn hlj hln hjw hwl hne hxs
            go_wp2_with fail
            go_at_call 16
            refine HJ.out.mono ?_
            rintro e w8 ⟨rfl, hb8⟩
            have hR := hRr.belowb hb8
            have bel8 := belr.trans (hb8.mono belr.size)
            have zz8 := hb8.size
            clear hb8 hRr
            go_wp2_with (first | fail | (refine wpList_build_at rfl 27 _ rfl #[.int .i64 0, .string xs] (by first | rfl | kernel_rfl) ?_; (try simp only [Act.put, List.setIfInBounds_toArray, List.set_cons_zero, List.set_cons_succ])) | (refine wpList_store_blk rfl _ _ _ rfl (w.heap.size + 1) 0 #[.int .i64 0, .string ⟨#[]⟩] #[.int .i64 0, .string xs] (.agg #[.int .i64 0, .string xs]) rfl rfl hR rfl (by kernel_rfl) rfl rfl ?_; (try simp only [Act.put, List.setIfInBounds_toArray, List.set_cons_zero, List.set_cons_succ]); clear hR; intro w9 hR hu))
            exact bodyPost_ret (results_blk hR _ _ rfl rfl Tryd.underlying27 rfl (by kernel_rfl)) rfl ⟨by rw [HTX.out], bel8.trans (hu.below (by omega))⟩
      · obtain ⟨ws, hws⟩ : ∃ x, Hid (strOfNums (wordN 1) = x) := ⟨_, hide rfl⟩
        have cw0 : w.cell? ⟨0, 1, none⟩ = some (.string ws) := by rw [← hws.out]; exact hkw 1 (by omega)
        have hch : 0 ≤ ch ∧ ch ≤ 65535 := by have := hF.c; omega
        go_enter Tryd.func7, Tryd.ntmps7
        go_wp2_with fail
        go_at_call 14
        refine (implActionFault_calls 1 ch st true ns _ _ hn (h1.below bel0)).mono ?_
        rintro e w1 ⟨rfl, hb⟩
        replace hA := hA.belowb hb
        replace hR := hR.belowb hb
        have bel1 := bel0.trans (hb.mono bel0.size)
        have z1 : w.heap.size + 2 ≤ w1.heap.size := by have := hb.size; simp at this; omega
        clear hb bel0
        rw [hc]
        have HTB : ∀ w', Below w.heap.size w w' → Lib.TabIs Tryd.prog w' "internal/strconv.uint64pow10" .u64 Lib.pow10Tab := Lib.tabBelow_of_tabIs htab
        have cw := cellb bel1 cw0
        have b0 := hA.at 0 rfl
        have own1 : (w1.alloc (.cells #[.string ws] 9)).ownsRow w1.heap.size 9 1 (.slice (some ⟨w1.heap.size, 0, none⟩) 1 1) 1 [.string ws] := World.ownsRow_lit (base := w1.heap.size) (e := 9) (size := 1) w1 #[.string ws] 1 (Nat.le_refl _) (by unfold maxLen; omega) rfl
        have hA1 := hA.alloc (.cells #[.string ws] 9)
        have a0 := hA1.at 0 rfl
        have a1 := hA1.at 1 rfl
        have a2 := hA1.at 2 rfl
        have a3 := hA1.at 3 rfl
        have a4 := hA1.at 4 rfl
        have bel2 : Below w1.heap.size w1 (w1.alloc (.cells #[.string ws] 9)) := (Below.refl _ w1).alloc (Nat.le_refl _) _
        go_wp2_with (first | fail)
        go_at_call 15
        refine (numberText_calls ch _ hch.1 (by omega) (HTB _ (bel1.trans (bel2.mono (by omega))))).mono ?_
        rintro e w2 ⟨rfl, hb⟩
        replace own1 := own_belowS own1 hb
        have bel3 : Below w1.heap.size w1 w2 := bel2.trans (hb.mono bel2.size)
        have zz2 := bel3.size
        obtain ⟨da, hda⟩ : ∃ x, Hid (strOfNums (digL ch) = x) := ⟨_, hide rfl⟩
        rw [hda.out]
        clear hb a0 a1 a2 a3 a4
        have a0 := (hA.below bel3 hA.lt).at 0 rfl; have a1 := (hA.below bel3 hA.lt).at 1 rfl; have a2 := (hA.below bel3 hA.lt).at 2 rfl; have a3 := (hA.below bel3 hA.lt).at 3 rfl; have a4 := (hA.below bel3 hA.lt).at 4 rfl
        have HW0 : strs (wordsTo 1 ch st true ns 0) = [.string ws, .string da, .string ⟨#[112, 114, 105, 118, 97, 116, 101]⟩] := by
          rw [← hws.out, ← hda.out]
          rfl
        have hln : (wordsTo 1 ch st true ns 0).length = 3 := rfl
        have hlen := fun j hj => textTo_len hF j hj
        have hl6 := hF.l
        have hnn := hF.n
        clear hF hc
        go_wp2_with (first | fail | (at_builtin; refine wpList_append_own _ rfl (.tmp 21) (.tmp 25) 37 rfl w1.heap.size 9 i0 (.string ⟨#[]⟩) 1 16 Tryd.underlying37 hi hz0 hz1 hz2 rfl (by decide) _ _ _ rfl (own1.alloc _) ⟨w2.heap.size, 0, none⟩ 1 1 [.string da] rfl rfl str_new one_str (by show 1 + 1 ≤ maxLen; unfold maxLen; omega) (by show (1 + 1) * 16 ≤ 140737488355328; omega) (by simp; omega) ?_; intro v3' w3 own' hgr hnil; have own3 : w3.ownsRow w1.heap.size 9 1 v3' 2 [.string ws, .string da] := own'; have bel4 : Below w1.heap.size w1 w3 := (bel3.alloc (by omega) _).grown hgr (by simp; omega) (fun g hg => (own1.lt g hg).1); have zz3 := bel4.size; clear hgr own' hnil a0 a1 a2 a3 a4; have a0 := (hA.below bel4 hA.lt).at 0 rfl; have a1 := (hA.below bel4 hA.lt).at 1 rfl; have a2 := (hA.below bel4 hA.lt).at 2 rfl; have a3 := (hA.below bel4 hA.lt).at 3 rfl; have a4 := (hA.below bel4 hA.lt).at 4 rfl) | (at_builtin; refine wpList_append_own _ rfl (.tmp 38) (.tmp 39) 37 rfl w1.heap.size 9 i0 (.string ⟨#[]⟩) 1 16 Tryd.underlying37 hi hz0 hz1 hz2 rfl (by decide) _ _ _ rfl (own3.alloc _) ⟨w3.heap.size, 0, none⟩ 1 1 [.string ⟨#[112, 114, 105, 118, 97, 116, 101]⟩] rfl rfl str_new one_str (by show 2 + 1 ≤ maxLen; unfold maxLen; omega) (by show (2 + 1) * 16 ≤ 140737488355328; omega) (by simp; omega) ?_; intro v4' w4 own' hgr hnil; have own4 : w4.ownsRow w1.heap.size 9 1 v4' 3 [.string ws, .string da, .string ⟨#[112, 114, 105, 118, 97, 116, 101]⟩] := own'; have bel5 : Below w1.heap.size w1 w4 := (bel4.alloc (by omega) _).grown hgr (by simp; omega) (fun g hg => (own3.lt g hg).1); have zz4 := bel5.size; clear hgr own' hnil a0 a1 a2 a3 a4; have a0 := (hA.below bel5 hA.lt).at 0 rfl; have a1 := (hA.below bel5 hA.lt).at 1 rfl; have a2 := (hA.below bel5 hA.lt).at 2 rfl; have a3 := (hA.below bel5 hA.lt).at 3 rfl; have a4 := (hA.below bel5 hA.lt).at 4 rfl))
        have HO0 : Hid (w4.ownsRow w1.heap.size 9 1 v4' (wordsTo 1 ch st true ns 0).length (strs (wordsTo 1 ch st true ns 0))) := hide (by rw [HW0, hln]; exact own4)
        clear HW0 hln own4
        go_loopw [4, 44] (fun o i wr => ∃ j : Nat, j ≤ ns.length ∧ i = .int .i64 j ∧ Hid (wr.ownsRow w1.heap.size 9 1 o (wordsTo 1 ch st true ns j).length (strs (wordsTo 1 ch st true ns j))) ∧ Below w1.heap.size w1 wr) (fun _ i _ => ns.length - (intOf i).toNat)
        case atStart => exact ⟨0, Nat.zero_le _, rfl, HO0, bel5⟩
        case round =>
          obtain ⟨j, hj, rfl, hO, hb⟩ := hrel
          have hRr := hR.below hb hR.lt
          have belr := bel1.trans (hb.mono (by omega))
          have hlj := hlen j hj
          have hne := wordsTo_ne 1 ch st true ns j
          have hwl : (wordsTo 1 ch st true ns j).length = 3 + j := wordsTo_len _ _ _ _ _ _
          have zr := hb.size
          by_cases hlt : j < ns.length
          · have hltI : (j : Int) < (ns.length : Int) := by omega
            obtain ⟨b9, o9, e9, hcell⟩ := (h1.below belr).spot j hlt
            subst e9
            have hnj := hnn j hlt
            have hs : wordsTo 1 ch st true ns (j + 1) = wordsTo 1 ch st true ns j ++ [digL (ns.getD j 0)] := rfl
            obtain ⟨WS, hWS⟩ : ∃ z, wordsTo 1 ch st true ns j = z := ⟨_, rfl⟩
            have hO' := hO.out
            rw [hWS] at hO' hs hwl
            obtain ⟨n0, hn0⟩ : ∃ z, ns.getD j 0 = z := ⟨_, rfl⟩
            rw [hn0] at hcell hnj hs
            have HS := hide hs
            clear hs hn0 hWS hne hlj hO hlen hnn
            go_wp2_with fail
            go_at_call 15
            refine (numberText_calls n0 _ hnj.1 (by omega) (HTB _ belr)).mono ?_
            rintro e w8 ⟨rfl, hb'⟩
            have own8 := own_belowS hO' hb'
            have bel8 : Below w1.heap.size w1 w8 := hb.trans (hb'.mono zr)
            have zz8 := bel8.size
            obtain ⟨dn, hdn⟩ : ∃ x, Hid (strOfNums (digL n0) = x) := ⟨_, hide rfl⟩
            rw [hdn.out]
            clear hb' hO'
            go_wp2_with (first | fail | (at_builtin; refine wpList_append_own _ rfl (.tmp 48) (.tmp 51) 37 rfl w1.heap.size 9 i0 (.string ⟨#[]⟩) 1 16 Tryd.underlying37 hi hz0 hz1 hz2 rfl (by decide) _ _ _ rfl (own8.alloc _) ⟨w8.heap.size, 0, none⟩ 1 1 [.string dn] rfl rfl str_new one_str (by show WS.length + 1 ≤ maxLen; unfold maxLen; omega) (by show (WS.length + 1) * 16 ≤ 140737488355328; omega) (by simp; omega) ?_; intro v9' w9 own' hgr hnil; have own9 : w9.ownsRow w1.heap.size 9 1 v9' (WS.length + 1) (strs WS ++ [.string dn]) := own'; have bel9 : Below w1.heap.size w1 w9 := (bel8.alloc (by omega) _).grown hgr (by simp; omega) (fun g hg => (own8.lt g hg).1); clear hgr own' hnil))
            have HO9 : Hid (w9.ownsRow w1.heap.size 9 1 v9' (wordsTo 1 ch st true ns (j + 1)).length (strs (wordsTo 1 ch st true ns (j + 1)))) := by
              refine hide ?_
              rw [HS.out, List.length_append]
              have e1 : strs (WS ++ [digL n0]) = strs WS ++ [.string dn] := by rw [← hdn.out]; simp [strs]
              rw [e1]
              exact own9
            clear own9
            go_roundw
            case rel => exact ⟨j + 1, by omega, by go_num, HO9, bel9⟩
            case measure => simp [intOf]; omega
          · obtain rfl : j = ns.length := by omega
            obtain ⟨BS, g, cap, hBS, rfl, hcap, hg, hcells⟩ := own_strs hO.out hne
            have hjl := join_len hBS.out
            have hjs := join_of hBS.out
            have hjw : BS.length = 3 + ns.length := by rw [hBS.out, List.length_map]; exact hwl
            have hln : (joinN (wordsTo 1 ch st true ns ns.length)).length ≤ 40 + 7 * ns.length := hlj
            obtain ⟨xs, hxs⟩ : ∃ z, Hid (strOfNums (joinN (wordsTo 1 ch st true ns ns.length)) = z) := ⟨_, hide rfl⟩
            have HTX : Hid (strOfNums (textTo 1 ch st true ns ns.length) = xs) := hide hxs.out
            have HJ : Hid (Calls Tryd.prog 16 #[.slice (some ⟨g, 0, none⟩) BS.length cap, .string ⟨#[32]⟩] wr fun e w' => e = .returned (.string xs) ∧ Below wr.heap.size wr w') := hide (by rw [← hxs.out, hjs]; exact Any.strings_Join at_lays156 at_Builder_Extra_156 g 0 cap BS ⟨#[32]⟩ wr hcells hg (by omega) hcap (by omega))
            clear hjs hjl hO hcells hlen hnn hlj hln hjw hwl hne hxs
            go_wp2_with fail
            go_at_call 16
            refine HJ.out.mono ?_
            rintro e w8 ⟨rfl, hb8⟩
            have hR := hRr.belowb hb8
            have bel8 := belr.trans (hb8.mono belr.size)
            have zz8 := hb8.size
            clear hb8 hRr
            go_wp2_with (first | fail | (refine wpList_build_at rfl 27 _ rfl #[.int .i64 0, .string xs] (by first | rfl | kernel_rfl) ?_; (try simp only [Act.put, List.setIfInBounds_toArray, List.set_cons_zero, List.set_cons_succ])) | (refine wpList_store_blk rfl _ _ _ rfl (w.heap.size + 1) 0 #[.int .i64 0, .string ⟨#[]⟩] #[.int .i64 0, .string xs] (.agg #[.int .i64 0, .string xs]) rfl rfl hR rfl (by kernel_rfl) rfl rfl ?_; (try simp only [Act.put, List.setIfInBounds_toArray, List.set_cons_zero, List.set_cons_succ]); clear hR; intro w9 hR hu))
            exact bodyPost_ret (results_blk hR _ _ rfl rfl Tryd.underlying27 rfl (by kernel_rfl)) rfl ⟨by rw [HTX.out], bel8.trans (hu.below (by omega))⟩
    · cases pv
      · obtain ⟨ws, hws⟩ : ∃ x, Hid (strOfNums (wordN 2) = x) := ⟨_, hide rfl⟩
        have cw0 : w.cell? ⟨0, 2, none⟩ = some (.string ws) := by rw [← hws.out]; exact hkw 2 (by omega)
        have hch : 0 ≤ ch ∧ ch ≤ 65535 := by have := hF.c; omega
        go_enter Tryd.func7, Tryd.ntmps7
        go_wp2_with fail
        go_at_call 14
        refine (implActionFault_calls 2 ch st false ns _ _ hn (h1.below bel0)).mono ?_
        rintro e w1 ⟨rfl, hb⟩
        replace hA := hA.belowb hb
        replace hR := hR.belowb hb
        have bel1 := bel0.trans (hb.mono bel0.size)
        have z1 : w.heap.size + 2 ≤ w1.heap.size := by have := hb.size; simp at this; omega
        clear hb bel0
        rw [hc]
        have HTB : ∀ w', Below w.heap.size w w' → Lib.TabIs Tryd.prog w' "internal/strconv.uint64pow10" .u64 Lib.pow10Tab := Lib.tabBelow_of_tabIs htab
        have cw := cellb bel1 cw0
        have b0 := hA.at 0 rfl
        have own1 : (w1.alloc (.cells #[.string ws] 9)).ownsRow w1.heap.size 9 1 (.slice (some ⟨w1.heap.size, 0, none⟩) 1 1) 1 [.string ws] := World.ownsRow_lit (base := w1.heap.size) (e := 9) (size := 1) w1 #[.string ws] 1 (Nat.le_refl _) (by unfold maxLen; omega) rfl
        have hA1 := hA.alloc (.cells #[.string ws] 9)
        have a0 := hA1.at 0 rfl
        have a1 := hA1.at 1 rfl
        have a2 := hA1.at 2 rfl
        have a3 := hA1.at 3 rfl
        have a4 := hA1.at 4 rfl
        have bel2 : Below w1.heap.size w1 (w1.alloc (.cells #[.string ws] 9)) := (Below.refl _ w1).alloc (Nat.le_refl _) _
        go_wp2_with (first | fail)
        go_at_call 15
        refine (numberText_calls ch _ hch.1 (by omega) (HTB _ (bel1.trans (bel2.mono (by omega))))).mono ?_
        rintro e w2 ⟨rfl, hb⟩
        replace own1 := own_belowS own1 hb
        have bel3 : Below w1.heap.size w1 w2 := bel2.trans (hb.mono bel2.size)
        have zz2 := bel3.size
        obtain ⟨da, hda⟩ : ∃ x, Hid (strOfNums (digL ch) = x) := ⟨_, hide rfl⟩
        rw [hda.out]
        clear hb a0 a1 a2 a3 a4
        have a0 := (hA.below bel3 hA.lt).at 0 rfl; have a1 := (hA.below bel3 hA.lt).at 1 rfl; have a2 := (hA.below bel3 hA.lt).at 2 rfl; have a3 := (hA.below bel3 hA.lt).at 3 rfl; have a4 := (hA.below bel3 hA.lt).at 4 rfl
        have HW0 : strs (wordsTo 2 ch st false ns 0) = [.string ws, .string da] := by
          rw [← hws.out, ← hda.out]
          rfl
        have hln : (wordsTo 2 ch st false ns 0).length = 2 := rfl
        have hlen := fun j hj => textTo_len hF j hj
        have hl6 := hF.l
        have hnn := hF.n
        clear hF hc
        go_wp2_with (first | fail | (at_builtin; refine wpList_append_own _ rfl (.tmp 21) (.tmp 25) 37 rfl w1.heap.size 9 i0 (.string ⟨#[]⟩) 1 16 Tryd.underlying37 hi hz0 hz1 hz2 rfl (by decide) _ _ _ rfl (own1.alloc _) ⟨w2.heap.size, 0, none⟩ 1 1 [.string da] rfl rfl str_new one_str (by show 1 + 1 ≤ maxLen; unfold maxLen; omega) (by show (1 + 1) * 16 ≤ 140737488355328; omega) (by simp; omega) ?_; intro v3' w3 own' hgr hnil; have own3 : w3.ownsRow w1.heap.size 9 1 v3' 2 [.string ws, .string da] := own'; have bel4 : Below w1.heap.size w1 w3 := (bel3.alloc (by omega) _).grown hgr (by simp; omega) (fun g hg => (own1.lt g hg).1); have zz3 := bel4.size; clear hgr own' hnil a0 a1 a2 a3 a4; have a0 := (hA.below bel4 hA.lt).at 0 rfl; have a1 := (hA.below bel4 hA.lt).at 1 rfl; have a2 := (hA.below bel4 hA.lt).at 2 rfl; have a3 := (hA.below bel4 hA.lt).at 3 rfl; have a4 := (hA.below bel4 hA.lt).at 4 rfl))
        have HO0 : Hid (w3.ownsRow w1.heap.size 9 1 v3' (wordsTo 2 ch st false ns 0).length (strs (wordsTo 2 ch st false ns 0))) := hide (by rw [HW0, hln]; exact own3)
        clear HW0 hln own3
        go_loopw [4, 44] (fun o i wr => ∃ j : Nat, j ≤ ns.length ∧ i = .int .i64 j ∧ Hid (wr.ownsRow w1.heap.size 9 1 o (wordsTo 2 ch st false ns j).length (strs (wordsTo 2 ch st false ns j))) ∧ Below w1.heap.size w1 wr) (fun _ i _ => ns.length - (intOf i).toNat)
        case atStart => exact ⟨0, Nat.zero_le _, rfl, HO0, bel4⟩
        case round =>
          obtain ⟨j, hj, rfl, hO, hb⟩ := hrel
          have hRr := hR.below hb hR.lt
          have belr := bel1.trans (hb.mono (by omega))
          have hlj := hlen j hj
          have hne := wordsTo_ne 2 ch st false ns j
          have hwl : (wordsTo 2 ch st false ns j).length = 2 + j := wordsTo_len _ _ _ _ _ _
          have zr := hb.size
          by_cases hlt : j < ns.length
          · have hltI : (j : Int) < (ns.length : Int) := by omega
            obtain ⟨b9, o9, e9, hcell⟩ := (h1.below belr).spot j hlt
            subst e9
            have hnj := hnn j hlt
            have hs : wordsTo 2 ch st false ns (j + 1) = wordsTo 2 ch st false ns j ++ [digL (ns.getD j 0)] := rfl
            obtain ⟨WS, hWS⟩ : ∃ z, wordsTo 2 ch st false ns j = z := ⟨_, rfl⟩
            have hO' := hO.out
            rw [hWS] at hO' hs hwl
            obtain ⟨n0, hn0⟩ : ∃ z, ns.getD j 0 = z := ⟨_, rfl⟩
            rw [hn0] at hcell hnj hs
            have HS := hide hs
            clear hs hn0 hWS hne hlj hO hlen hnn
            go_wp2_with fail
            go_at_call 15
            refine (numberText_calls n0 _ hnj.1 (by omega) (HTB _ belr)).mono ?_
            rintro e w8 ⟨rfl, hb'⟩
            have own8 := own_belowS hO' hb'
            have bel8 : Below w1.heap.size w1 w8 := hb.trans (hb'.mono zr)
            have zz8 := bel8.size
            obtain ⟨dn, hdn⟩ : ∃ x, Hid (strOfNums (digL n0) = x) := ⟨_, hide rfl⟩
            rw [hdn.out]
            clear hb' hO'
            go_wp2_with (first | fail | (at_builtin; refine wpList_append_own _ rfl (.tmp 48) (.tmp 51) 37 rfl w1.heap.size 9 i0 (.string ⟨#[]⟩) 1 16 Tryd.underlying37 hi hz0 hz1 hz2 rfl (by decide) _ _ _ rfl (own8.alloc _) ⟨w8.heap.size, 0, none⟩ 1 1 [.string dn] rfl rfl str_new one_str (by show WS.length + 1 ≤ maxLen; unfold maxLen; omega) (by show (WS.length + 1) * 16 ≤ 140737488355328; omega) (by simp; omega) ?_; intro v9' w9 own' hgr hnil; have own9 : w9.ownsRow w1.heap.size 9 1 v9' (WS.length + 1) (strs WS ++ [.string dn]) := own'; have bel9 : Below w1.heap.size w1 w9 := (bel8.alloc (by omega) _).grown hgr (by simp; omega) (fun g hg => (own8.lt g hg).1); clear hgr own' hnil))
            have HO9 : Hid (w9.ownsRow w1.heap.size 9 1 v9' (wordsTo 2 ch st false ns (j + 1)).length (strs (wordsTo 2 ch st false ns (j + 1)))) := by
              refine hide ?_
              rw [HS.out, List.length_append]
              have e1 : strs (WS ++ [digL n0]) = strs WS ++ [.string dn] := by rw [← hdn.out]; simp [strs]
              rw [e1]
              exact own9
            clear own9
            go_roundw
            case rel => exact ⟨j + 1, by omega, by go_num, HO9, bel9⟩
            case measure => simp [intOf]; omega
          · obtain rfl : j = ns.length := by omega
            obtain ⟨BS, g, cap, hBS, rfl, hcap, hg, hcells⟩ := own_strs hO.out hne
            have hjl := join_len hBS.out
            have hjs := join_of hBS.out
            have hjw : BS.length = 2 + ns.length := by rw [hBS.out, List.length_map]; exact hwl
            have hln : (joinN (wordsTo 2 ch st false ns ns.length)).length ≤ 40 + 7 * ns.length := hlj
            obtain ⟨xs, hxs⟩ : ∃ z, Hid (strOfNums (joinN (wordsTo 2 ch st false ns ns.length)) = z) := ⟨_, hide rfl⟩
            have HTX : Hid (strOfNums (textTo 2 ch st false ns ns.length) = xs) := hide hxs.out
            have HJ : Hid (Calls Tryd.prog 16 #[.slice (some ⟨g, 0, none⟩) BS.length cap, .string ⟨#[32]⟩] wr fun e w' => e = .returned (.string xs) ∧ Below wr.heap.size wr w') := hide (by rw [← hxs.out, hjs]; exact Any.strings_Join at_lays156 at_Builder_Extra_156 g 0 cap BS ⟨#[32]⟩ wr hcells hg (by omega) hcap (by omega))
            clear hjs hjl hO hcells hlen hnn hlj hln hjw hwl hne hxs
            go_wp2_with fail
            go_at_call 16
            refine HJ.out.mono ?_
            rintro e w8 ⟨rfl, hb8⟩
            have hR := hRr.belowb hb8
            have bel8 := belr.trans (hb8.mono belr.size)
            have zz8 := hb8.size
            clear hb8 hRr
            go_wp2_with (first | fail | (refine wpList_build_at rfl 27 _ rfl #[.int .i64 0, .string xs] (by first | rfl | kernel_rfl) ?_; (try simp only [Act.put, List.setIfInBounds_toArray, List.set_cons_zero, List.set_cons_succ])) | (refine wpList_store_blk rfl _ _ _ rfl (w.heap.size + 1) 0 #[.int .i64 0, .string ⟨#[]⟩] #[.int .i64 0, .string xs] (.agg #[.int .i64 0, .string xs]) rfl rfl hR rfl (by kernel_rfl) rfl rfl ?_; (try simp only [Act.put, List.setIfInBounds_toArray, List.set_cons_zero, List.set_cons_succ]); clear hR; intro w9 hR hu))
            exact bodyPost_ret (results_blk hR _ _ rfl rfl Tryd.underlying27 rfl (by kernel_rfl)) rfl ⟨by rw [HTX.out], bel8.trans (hu.below (by omega))⟩
      · obtain ⟨ws, hws⟩ : ∃ x, Hid (strOfNums (wordN 2) = x) := ⟨_, hide rfl⟩
        have cw0 : w.cell? ⟨0, 2, none⟩ = some (.string ws) := by rw [← hws.out]; exact hkw 2 (by omega)
        have hch : 0 ≤ ch ∧ ch ≤ 65535 := by have := hF.c; omega
        go_enter Tryd.func7, Tryd.ntmps7
        go_wp2_with fail
        go_at_call 14
        refine (implActionFault_calls 2 ch st true ns _ _ hn (h1.below bel0)).mono ?_
        rintro e w1 ⟨rfl, hb⟩
        replace hA := hA.belowb hb
        replace hR := hR.belowb hb
        have bel1 := bel0.trans (hb.mono bel0.size)
        have z1 : w.heap.size + 2 ≤ w1.heap.size := by have := hb.size; simp at this; omega
        clear hb bel0
        rw [hc]
        have HTB : ∀ w', Below w.heap.size w w' → Lib.TabIs Tryd.prog w' "internal/strconv.uint64pow10" .u64 Lib.pow10Tab := Lib.tabBelow_of_tabIs htab
        have cw := cellb bel1 cw0
        have b0 := hA.at 0 rfl
        have own1 : (w1.alloc (.cells #[.string ws] 9)).ownsRow w1.heap.size 9 1 (.slice (some ⟨w1.heap.size, 0, none⟩) 1 1) 1 [.string ws] := World.ownsRow_lit (base := w1.heap.size) (e := 9) (size := 1) w1 #[.string ws] 1 (Nat.le_refl _) (by unfold maxLen; omega) rfl
        have hA1 := hA.alloc (.cells #[.string ws] 9)
        have a0 := hA1.at 0 rfl
        have a1 := hA1.at 1 rfl
        have a2 := hA1.at 2 rfl
        have a3 := hA1.at 3 rfl
        have a4 := hA1.at 4 rfl
        have bel2 : Below w1.heap.size w1 (w1.alloc (.cells #[.string ws] 9)) := (Below.refl _ w1).alloc (Nat.le_refl _) _
        go_wp2_with (first | fail)
        go_at_call 15
        refine (numberText_calls ch _ hch.1 (by omega) (HTB _ (bel1.trans (bel2.mono (by omega))))).mono ?_
        rintro e w2 ⟨rfl, hb⟩
        replace own1 := own_belowS own1 hb
        have bel3 : Below w1.heap.size w1 w2 := bel2.trans (hb.mono bel2.size)
        have zz2 := bel3.size
        obtain ⟨da, hda⟩ : ∃ x, Hid (strOfNums (digL ch) = x) := ⟨_, hide rfl⟩
        rw [hda.out]
        clear hb a0 a1 a2 a3 a4
        have a0 := (hA.below bel3 hA.lt).at 0 rfl; have a1 := (hA.below bel3 hA.lt).at 1 rfl; have a2 := (hA.below bel3 hA.lt).at 2 rfl; have a3 := (hA.below bel3 hA.lt).at 3 rfl; have a4 := (hA.below bel3 hA.lt).at 4 rfl
        have HW0 : strs (wordsTo 2 ch st true ns 0) = [.string ws, .string da, .string ⟨#[112, 114, 105, 118, 97, 116, 101]⟩] := by
          rw [← hws.out, ← hda.out]
          rfl
        have hln : (wordsTo 2 ch st true ns 0).length = 3 := rfl
        have hlen := fun j hj => textTo_len hF j hj
        have hl6 := hF.l
        have hnn := hF.n
        clear hF hc
        go_wp2_with (first | fail | (at_builtin; refine wpList_append_own _ rfl (.tmp 21) (.tmp 25) 37 rfl w1.heap.size 9 i0 (.string ⟨#[]⟩) 1 16 Tryd.underlying37 hi hz0 hz1 hz2 rfl (by decide) _ _ _ rfl (own1.alloc _) ⟨w2.heap.size, 0, none⟩ 1 1 [.string da] rfl rfl str_new one_str (by show 1 + 1 ≤ maxLen; unfold maxLen; omega) (by show (1 + 1) * 16 ≤ 140737488355328; omega) (by simp; omega) ?_; intro v3' w3 own' hgr hnil; have own3 : w3.ownsRow w1.heap.size 9 1 v3' 2 [.string ws, .string da] := own'; have bel4 : Below w1.heap.size w1 w3 := (bel3.alloc (by omega) _).grown hgr (by simp; omega) (fun g hg => (own1.lt g hg).1); have zz3 := bel4.size; clear hgr own' hnil a0 a1 a2 a3 a4; have a0 := (hA.below bel4 hA.lt).at 0 rfl; have a1 := (hA.below bel4 hA.lt).at 1 rfl; have a2 := (hA.below bel4 hA.lt).at 2 rfl; have a3 := (hA.below bel4 hA.lt).at 3 rfl; have a4 := (hA.below bel4 hA.lt).at 4 rfl) | (at_builtin; refine wpList_append_own _ rfl (.tmp 38) (.tmp 39) 37 rfl w1.heap.size 9 i0 (.string ⟨#[]⟩) 1 16 Tryd.underlying37 hi hz0 hz1 hz2 rfl (by decide) _ _ _ rfl (own3.alloc _) ⟨w3.heap.size, 0, none⟩ 1 1 [.string ⟨#[112, 114, 105, 118, 97, 116, 101]⟩] rfl rfl str_new one_str (by show 2 + 1 ≤ maxLen; unfold maxLen; omega) (by show (2 + 1) * 16 ≤ 140737488355328; omega) (by simp; omega) ?_; intro v4' w4 own' hgr hnil; have own4 : w4.ownsRow w1.heap.size 9 1 v4' 3 [.string ws, .string da, .string ⟨#[112, 114, 105, 118, 97, 116, 101]⟩] := own'; have bel5 : Below w1.heap.size w1 w4 := (bel4.alloc (by omega) _).grown hgr (by simp; omega) (fun g hg => (own3.lt g hg).1); have zz4 := bel5.size; clear hgr own' hnil a0 a1 a2 a3 a4; have a0 := (hA.below bel5 hA.lt).at 0 rfl; have a1 := (hA.below bel5 hA.lt).at 1 rfl; have a2 := (hA.below bel5 hA.lt).at 2 rfl; have a3 := (hA.below bel5 hA.lt).at 3 rfl; have a4 := (hA.below bel5 hA.lt).at 4 rfl))
        have HO0 : Hid (w4.ownsRow w1.heap.size 9 1 v4' (wordsTo 2 ch st true ns 0).length (strs (wordsTo 2 ch st true ns 0))) := hide (by rw [HW0, hln]; exact own4)
        clear HW0 hln own4
        go_loopw [4, 44] (fun o i wr => ∃ j : Nat, j ≤ ns.length ∧ i = .int .i64 j ∧ Hid (wr.ownsRow w1.heap.size 9 1 o (wordsTo 2 ch st true ns j).length (strs (wordsTo 2 ch st true ns j))) ∧ Below w1.heap.size w1 wr) (fun _ i _ => ns.length - (intOf i).toNat)
        case atStart => exact ⟨0, Nat.zero_le _, rfl, HO0, bel5⟩
        case round =>
          obtain ⟨j, hj, rfl, hO, hb⟩ := hrel
          have hRr := hR.below hb hR.lt
          have belr := bel1.trans (hb.mono (by omega))
          have hlj := hlen j hj
          have hne := wordsTo_ne 2 ch st true ns j
          have hwl : (wordsTo 2 ch st true ns j).length = 3 + j := wordsTo_len _ _ _ _ _ _
          have zr := hb.size
          by_cases hlt : j < ns.length
          · have hltI : (j : Int) < (ns.length : Int) := by omega
            obtain ⟨b9, o9, e9, hcell⟩ := (h1.below belr).spot j hlt
            subst e9
            have hnj := hnn j hlt
            have hs : wordsTo 2 ch st true ns (j + 1) = wordsTo 2 ch st true ns j ++ [digL (ns.getD j 0)] := rfl
            obtain ⟨WS, hWS⟩ : ∃ z, wordsTo 2 ch st true ns j = z := ⟨_, rfl⟩
            have hO' := hO.out
            rw [hWS] at hO' hs hwl
            obtain ⟨n0, hn0⟩ : ∃ z, ns.getD j 0 = z := ⟨_, rfl⟩
            rw [hn0] at hcell hnj hs
            have HS := hide hs
            clear hs hn0 hWS hne hlj hO hlen hnn
            go_wp2_with fail
            go_at_call 15
            refine (numberText_calls n0 _ hnj.1 (by omega) (HTB _ belr)).mono ?_
            rintro e w8 ⟨rfl, hb'⟩
            have own8 := own_belowS hO' hb'
            have bel8 : Below w1.heap.size w1 w8 := hb.trans (hb'.mono zr)
            have zz8 := bel8.size
            obtain ⟨dn, hdn⟩ : ∃ x, Hid (strOfNums (digL n0) = x) := ⟨_, hide rfl⟩
            rw [hdn.out]
            clear hb' hO'
            go_wp2_with (first | fail | (at_builtin; refine wpList_append_own _ rfl (.tmp 48) (.tmp 51) 37 rfl w1.heap.size 9 i0 (.string ⟨#[]⟩) 1 16 Tryd.underlying37 hi hz0 hz1 hz2 rfl (by decide) _ _ _ rfl (own8.alloc _) ⟨w8.heap.size, 0, none⟩ 1 1 [.string dn] rfl rfl str_new one_str (by show WS.length + 1 ≤ maxLen; unfold maxLen; omega) (by show (WS.length + 1) * 16 ≤ 140737488355328; omega) (by simp; omega) ?_; intro v9' w9 own' hgr hnil; have own9 : w9.ownsRow w1.heap.size 9 1 v9' (WS.length + 1) (strs WS ++ [.string dn]) := own'; have bel9 : Below w1.heap.size w1 w9 := (bel8.alloc (by omega) _).grown hgr (by simp; omega) (fun g hg => (own8.lt g hg).1); clear hgr own' hnil))
            have HO9 : Hid (w9.ownsRow w1.heap.size 9 1 v9' (wordsTo 2 ch st true ns (j + 1)).length (strs (wordsTo 2 ch st true ns (j + 1)))) := by
              refine hide ?_
              rw [HS.out, List.length_append]
              have e1 : strs (WS ++ [digL n0]) = strs WS ++ [.string dn] := by rw [← hdn.out]; simp [strs]
              rw [e1]
              exact own9
            clear own9
            go_roundw
            case rel => exact ⟨j + 1, by omega, by go_num, HO9, bel9⟩
            case measure => simp [intOf]; omega
          · obtain rfl : j = ns.length := by omega
            obtain ⟨BS, g, cap, hBS, rfl, hcap, hg, hcells⟩ := own_strs hO.out hne
            have hjl := join_len hBS.out
            have hjs := join_of hBS.out
            have hjw : BS.length = 3 + ns.length := by rw [hBS.out, List.length_map]; exact hwl
            have hln : (joinN (wordsTo 2 ch st true ns ns.length)).length ≤ 40 + 7 * ns.length := hlj
            obtain ⟨xs, hxs⟩ : ∃ z, Hid (strOfNums (joinN (wordsTo 2 ch st true ns ns.length)) = z) := ⟨_, hide rfl⟩
            have HTX : Hid (strOfNums (textTo 2 ch st true ns ns.length) = xs) := hide hxs.out
            have HJ : Hid (Calls Tryd.prog 16 #[.slice (some ⟨g, 0, none⟩) BS.length cap, .string ⟨#[32]⟩] wr fun e w' => e = .returned (.string xs) ∧ Below wr.heap.size wr w') := hide (by rw [← hxs.out, hjs]; exact Any.strings_Join at_lays156 at_Builder_Extra_156 g 0 cap BS ⟨#[32]⟩ wr hcells hg (by omega) hcap (by omega))
            clear hjs hjl hO hcells hlen hnn hlj hln hjw hwl hne hxs
            go_wp2_with fail
            go_at_call 16
            refine HJ.out.mono ?_
            rintro e w8 ⟨rfl, hb8⟩
            have hR := hRr.belowb hb8
            have bel8 := belr.trans (hb8.mono belr.size)
            have zz8 := hb8.size
            clear hb8 hRr
            go_wp2_with (first | fail | (refine wpList_build_at rfl 27 _ rfl #[.int .i64 0, .string xs] (by first | rfl | kernel_rfl) ?_; (try simp only [Act.put, List.setIfInBounds_toArray, List.set_cons_zero, List.set_cons_succ])) | (refine wpList_store_blk rfl _ _ _ rfl (w.heap.size + 1) 0 #[.int .i64 0, .string ⟨#[]⟩] #[.int .i64 0, .string xs] (.agg #[.int .i64 0, .string xs]) rfl rfl hR rfl (by kernel_rfl) rfl rfl ?_; (try simp only [Act.put, List.setIfInBounds_toArray, List.set_cons_zero, List.set_cons_succ]); clear hR; intro w9 hR hu))
            exact bodyPost_ret (results_blk hR _ _ rfl rfl Tryd.underlying27 rfl (by kernel_rfl)) rfl ⟨by rw [HTX.out], bel8.trans (hu.below (by omega))⟩
    · cases pv
      · obtain ⟨ws, hws⟩ : ∃ x, Hid (strOfNums (wordN 3) = x) := ⟨_, hide rfl⟩
        have cw0 : w.cell? ⟨0, 3, none⟩ = some (.string ws) := by rw [← hws.out]; exact hkw 3 (by omega)
        have hch : 0 ≤ ch ∧ ch ≤ 65535 := by have := hF.c; omega
        go_enter Tryd.func7, Tryd.ntmps7
        go_wp2_with fail
        go_at_call 14
        refine (implActionFault_calls 3 ch st false ns _ _ hn (h1.below bel0)).mono ?_
        rintro e w1 ⟨rfl, hb⟩
        replace hA := hA.belowb hb
        replace hR := hR.belowb hb
        have bel1 := bel0.trans (hb.mono bel0.size)
        have z1 : w.heap.size + 2 ≤ w1.heap.size := by have := hb.size; simp at this; omega
        clear hb bel0
        rw [hc]
        have HTB : ∀ w', Below w.heap.size w w' → Lib.TabIs Tryd.prog w' "internal/strconv.uint64pow10" .u64 Lib.pow10Tab := Lib.tabBelow_of_tabIs htab
        have cw := cellb bel1 cw0
        have b0 := hA.at 0 rfl
        have own1 : (w1.alloc (.cells #[.string ws] 9)).ownsRow w1.heap.size 9 1 (.slice (some ⟨w1.heap.size, 0, none⟩) 1 1) 1 [.string ws] := World.ownsRow_lit (base := w1.heap.size) (e := 9) (size := 1) w1 #[.string ws] 1 (Nat.le_refl _) (by unfold maxLen; omega) rfl
        have hA1 := hA.alloc (.cells #[.string ws] 9)
        have a0 := hA1.at 0 rfl
        have a1 := hA1.at 1 rfl
        have a2 := hA1.at 2 rfl
        have a3 := hA1.at 3 rfl
        have a4 := hA1.at 4 rfl
        have bel2 : Below w1.heap.size w1 (w1.alloc (.cells #[.string ws] 9)) := (Below.refl _ w1).alloc (Nat.le_refl _) _
        go_wp2_with (first | fail)
        go_at_call 15
        refine (numberText_calls ch _ hch.1 (by omega) (HTB _ (bel1.trans (bel2.mono (by omega))))).mono ?_
        rintro e w2 ⟨rfl, hb⟩
        replace own1 := own_belowS own1 hb
        have bel3 : Below w1.heap.size w1 w2 := bel2.trans (hb.mono bel2.size)
        have zz2 := bel3.size
        obtain ⟨da, hda⟩ : ∃ x, Hid (strOfNums (digL ch) = x) := ⟨_, hide rfl⟩
        rw [hda.out]
        clear hb a0 a1 a2 a3 a4
        have a0 := (hA.below bel3 hA.lt).at 0 rfl; have a1 := (hA.below bel3 hA.lt).at 1 rfl; have a2 := (hA.below bel3 hA.lt).at 2 rfl; have a3 := (hA.below bel3 hA.lt).at 3 rfl; have a4 := (hA.below bel3 hA.lt).at 4 rfl
        have HW0 : strs (wordsTo 3 ch st false ns 0) = [.string ws, .string da] := by
          rw [← hws.out, ← hda.out]
          rfl
        have hln : (wordsTo 3 ch st false ns 0).length = 2 := rfl
        have hlen := fun j hj => textTo_len hF j hj
        have hl6 := hF.l
        have hnn := hF.n
        clear hF hc
        go_wp2_with (first | fail | (at_builtin; refine wpList_append_own _ rfl (.tmp 21) (.tmp 25) 37 rfl w1.heap.size 9 i0 (.string ⟨#[]⟩) 1 16 Tryd.underlying37 hi hz0 hz1 hz2 rfl (by decide) _ _ _ rfl (own1.alloc _) ⟨w2.heap.size, 0, none⟩ 1 1 [.string da] rfl rfl str_new one_str (by show 1 + 1 ≤ maxLen; unfold maxLen; omega) (by show (1 + 1) * 16 ≤ 140737488355328; omega) (by simp; omega) ?_; intro v3' w3 own' hgr hnil; have own3 : w3.ownsRow w1.heap.size 9 1 v3' 2 [.string ws, .string da] := own'; have bel4 : Below w1.heap.size w1 w3 := (bel3.alloc (by omega) _).grown hgr (by simp; omega) (fun g hg => (own1.lt g hg).1); have zz3 := bel4.size; clear hgr own' hnil a0 a1 a2 a3 a4; have a0 := (hA.below bel4 hA.lt).at 0 rfl; have a1 := (hA.below bel4 hA.lt).at 1 rfl; have a2 := (hA.below bel4 hA.lt).at 2 rfl; have a3 := (hA.below bel4 hA.lt).at 3 rfl; have a4 := (hA.below bel4 hA.lt).at 4 rfl))
        have HO0 : Hid (w3.ownsRow w1.heap.size 9 1 v3' (wordsTo 3 ch st false ns 0).length (strs (wordsTo 3 ch st false ns 0))) := hide (by rw [HW0, hln]; exact own3)
        clear HW0 hln own3
        go_loopw [4, 44] (fun o i wr => ∃ j : Nat, j ≤ ns.length ∧ i = .int .i64 j ∧ Hid (wr.ownsRow w1.heap.size 9 1 o (wordsTo 3 ch st false ns j).length (strs (wordsTo 3 ch st false ns j))) ∧ Below w1.heap.size w1 wr) (fun _ i _ => ns.length - (intOf i).toNat)
        case atStart => exact ⟨0, Nat.zero_le _, rfl, HO0, bel4⟩
        case round =>
          obtain ⟨j, hj, rfl, hO, hb⟩ := hrel
          have hRr := hR.below hb hR.lt
          have belr := bel1.trans (hb.mono (by omega))
          have hlj := hlen j hj
          have hne := wordsTo_ne 3 ch st false ns j
          have hwl : (wordsTo 3 ch st false ns j).length = 2 + j := wordsTo_len _ _ _ _ _ _
          have zr := hb.size
          by_cases hlt : j < ns.length
          · have hltI : (j : Int) < (ns.length : Int) := by omega
            obtain ⟨b9, o9, e9, hcell⟩ := (h1.below belr).spot j hlt
            subst e9
            have hnj := hnn j hlt
            have hs : wordsTo 3 ch st false ns (j + 1) = wordsTo 3 ch st false ns j ++ [digL (ns.getD j 0)] := rfl
            obtain ⟨WS, hWS⟩ : ∃ z, wordsTo 3 ch st false ns j = z := ⟨_, rfl⟩
            have hO' := hO.out
            rw [hWS] at hO' hs hwl
            obtain ⟨n0, hn0⟩ : ∃ z, ns.getD j 0 = z := ⟨_, rfl⟩
            rw [hn0] at hcell hnj hs
            have HS := hide hs
            clear hs hn0 hWS hne hlj hO hlen hnn
            go_wp2_with fail
            go_at_call 15
            refine (numberText_calls n0 _ hnj.1 (by omega) (HTB _ belr)).mono ?_
            rintro e w8 ⟨rfl, hb'⟩
            have own8 := own_belowS hO' hb'
            have bel8 : Below w1.heap.size w1 w8 := hb.trans (hb'.mono zr)
            have zz8 := bel8.size
            obtain ⟨dn, hdn⟩ : ∃ x, Hid (strOfNums (digL n0) = x) := ⟨_, hide rfl⟩
            rw [hdn.out]
            clear hb' hO'
            go_wp2_with (first | fail | (at_builtin; refine wpList_append_own _ rfl (.tmp 48) (.tmp 51) 37 rfl w1.heap.size 9 i0 (.string ⟨#[]⟩) 1 16 Tryd.underlying37 hi hz0 hz1 hz2 rfl (by decide) _ _ _ rfl (own8.alloc _) ⟨w8.heap.size, 0, none⟩ 1 1 [.string dn] rfl rfl str_new one_str (by show WS.length + 1 ≤ maxLen; unfold maxLen; omega) (by show (WS.length + 1) * 16 ≤ 140737488355328; omega) (by simp; omega) ?_; intro v9' w9 own' hgr hnil; have own9 : w9.ownsRow w1.heap.size 9 1 v9' (WS.length + 1) (strs WS ++ [.string dn]) := own'; have bel9 : Below w1.heap.size w1 w9 := (bel8.alloc (by omega) _).grown hgr (by simp; omega) (fun g hg => (own8.lt g hg).1); clear hgr own' hnil))
            have HO9 : Hid (w9.ownsRow w1.heap.size 9 1 v9' (wordsTo 3 ch st false ns (j + 1)).length (strs (wordsTo 3 ch st false ns (j + 1)))) := by
              refine hide ?_
              rw [HS.out, List.length_append]
              have e1 : strs (WS ++ [digL n0]) = strs WS ++ [.string dn] := by rw [← hdn.out]; simp [strs]
              rw [e1]
              exact own9
            clear own9
            go_roundw
            case rel => exact ⟨j + 1, by omega, by go_num, HO9, bel9⟩
            case measure => simp [intOf]; omega
          · obtain rfl : j = ns.length := by omega
            obtain ⟨BS, g, cap, hBS, rfl, hcap, hg, hcells⟩ := own_strs hO.out hne
            have hjl := join_len hBS.out
            have hjs := join_of hBS.out
            have hjw : BS.length = 2 + ns.length := by rw [hBS.out, List.length_map]; exact hwl
            have hln : (joinN (wordsTo 3 ch st false ns ns.length)).length ≤ 40 + 7 * ns.length := hlj
            obtain ⟨xs, hxs⟩ : ∃ z, Hid (strOfNums (joinN (wordsTo 3 ch st false ns ns.length)) = z) := ⟨_, hide rfl⟩
            have HTX : Hid (strOfNums (textTo 3 ch st false ns ns.length) = xs) := hide hxs.out
            have HJ : Hid (Calls Tryd.prog 16 #[.slice (some ⟨g, 0, none⟩) BS.length cap, .string ⟨#[32]⟩] wr fun e w' => e = .returned (.string xs) ∧ Below wr.heap.size wr w') := hide (by rw [← hxs.out, hjs]; exact Any.strings_Join at_lays156 at_Builder_Extra_156 g 0 cap BS ⟨#[32]⟩ wr hcells hg (by omega) hcap (by omega))
            clear hjs hjl hO hcells hlen hnn hlj hln hjw hwl hne hxs
            go_wp2_with fail
            go_at_call 16
            refine HJ.out.mono ?_
            rintro e w8 ⟨rfl, hb8⟩
            have hR := hRr.belowb hb8
            have bel8 := belr.trans (hb8.mono belr.size)
            have zz8 := hb8.size
            clear hb8 hRr
            go_wp2_with (first | fail | (refine wpList_build_at rfl 27 _ rfl #[.int .i64 0, .string xs] (by first | rfl | kernel_rfl) ?_; (try simp only [Act.put, List.setIfInBounds_toArray, List.set_cons_zero, List.set_cons_succ])) | (refine wpList_store_blk rfl _ _ _ rfl (w.heap.size + 1) 0 #[.int .i64 0, .string ⟨#[]⟩] #[.int .i64 0, .string xs] (.agg #[.int .i64 0, .string xs]) rfl rfl hR rfl (by kernel_rfl) rfl rfl ?_; (try simp only [Act.put, List.setIfInBounds_toArray, List.set_cons_zero, List.set_cons_succ]); clear hR; intro w9 hR hu))
            exact bodyPost_ret (results_blk hR _ _ rfl rfl Tryd.underlying27 rfl (by kernel_rfl)) rfl ⟨by rw [HTX.out], bel8.trans (hu.below (by omega))⟩
      · obtain ⟨ws, hws⟩ : ∃ x, Hid (strOfNums (wordN 3) = x) := ⟨_, hide rfl⟩
        have cw0 : w.cell? ⟨0, 3, none⟩ = some (.string ws) := by rw [← hws.out]; exact hkw 3 (by omega)
        have hch : 0 ≤ ch ∧ ch ≤ 65535 := by have := hF.c; omega
        go_enter Tryd.func7, Tryd.ntmps7
        go_wp2_with fail
        go_at_call 14
        refine (implActionFault_calls 3 ch st true ns _ _ hn (h1.below bel0)).mono ?_
        rintro e w1 ⟨rfl, hb⟩
        replace hA := hA.belowb hb
        replace hR := hR.belowb hb
        have bel1 := bel0.trans (hb.mono bel0.size)
        have z1 : w.heap.size + 2 ≤ w1.heap.size := by have := hb.size; simp at this; omega
        clear hb bel0
        rw [hc]
        have HTB : ∀ w', Below w.heap.size w w' → Lib.TabIs Tryd.prog w' "internal/strconv.uint64pow10" .u64 Lib.pow10Tab := Lib.tabBelow_of_tabIs htab
        have cw := cellb bel1 cw0
        have b0 := hA.at 0 rfl
        have own1 : (w1.alloc (.cells #[.string ws] 9)).ownsRow w1.heap.size 9 1 (.slice (some ⟨w1.heap.size, 0, none⟩) 1 1) 1 [.string ws] := World.ownsRow_lit (base := w1.heap.size) (e := 9) (size := 1) w1 #[.string ws] 1 (Nat.le_refl _) (by unfold maxLen; omega) rfl
        have hA1 := hA.alloc (.cells #[.string ws] 9)
        have a0 := hA1.at 0 rfl
        have a1 := hA1.at 1 rfl
        have a2 := hA1.at 2 rfl
        have a3 := hA1.at 3 rfl
        have a4 := hA1.at 4 rfl
        have bel2 : Below w1.heap.size w1 (w1.alloc (.cells #[.string ws] 9)) := (Below.refl _ w1).alloc (Nat.le_refl _) _
        go_wp2_with (first | fail)
        go_at_call 15
        refine (numberText_calls ch _ hch.1 (by omega) (HTB _ (bel1.trans (bel2.mono (by omega))))).mono ?_
        rintro e w2 ⟨rfl, hb⟩
        replace own1 := own_belowS own1 hb
        have bel3 : Below w1.heap.size w1 w2 := bel2.trans (hb.mono bel2.size)
        have zz2 := bel3.size
        obtain ⟨da, hda⟩ : ∃ x, Hid (strOfNums (digL ch) = x) := ⟨_, hide rfl⟩
        rw [hda.out]
        clear hb a0 a1 a2 a3 a4
        have a0 := (hA.below bel3 hA.lt).at 0 rfl; have a1 := (hA.below bel3 hA.lt).at 1 rfl; have a2 := (hA.below bel3 hA.lt).at 2 rfl; have a3 := (hA.below bel3 hA.lt).at 3 rfl; have a4 := (hA.below bel3 hA.lt).at 4 rfl
        have HW0 : strs (wordsTo 3 ch st true ns 0) = [.string ws, .string da, .string ⟨#[112, 114, 105, 118, 97, 116, 101]⟩] := by
          rw [← hws.out, ← hda.out]
          rfl
        have hln : (wordsTo 3 ch st true ns 0).length = 3 := rfl
        have hlen := fun j hj => textTo_len hF j hj
        have hl6 := hF.l
        have hnn := hF.n
        clear hF hc
        go_wp2_with (first | fail | (at_builtin; refine wpList_append_own _ rfl (.tmp 21) (.tmp 25) 37 rfl w1.heap.size 9 i0 (.string ⟨#[]⟩) 1 16 Tryd.underlying37 hi hz0 hz1 hz2 rfl (by decide) _ _ _ rfl (own1.alloc _) ⟨w2.heap.size, 0, none⟩ 1 1 [.string da] rfl rfl str_new one_str (by show 1 + 1 ≤ maxLen; unfold maxLen; omega) (by show (1 + 1) * 16 ≤ 140737488355328; omega) (by simp; omega) ?_; intro v3' w3 own' hgr hnil; have own3 : w3.ownsRow w1.heap.size 9 1 v3' 2 [.string ws, .string da] := own'; have bel4 : Below w1.heap.size w1 w3 := (bel3.alloc (by omega) _).grown hgr (by simp; omega) (fun g hg => (own1.lt g hg).1); have zz3 := bel4.size; clear hgr own' hnil a0 a1 a2 a3 a4; have a0 := (hA.below bel4 hA.lt).at 0 rfl; have a1 := (hA.below bel4 hA.lt).at 1 rfl; have a2 := (hA.below bel4 hA.lt).at 2 rfl; have a3 := (hA.below bel4 hA.lt).at 3 rfl; have a4 := (hA.below bel4 hA.lt).at 4 rfl) | (at_builtin; refine wpList_append_own _ rfl (.tmp 38) (.tmp 39) 37 rfl w1.heap.size 9 i0 (.string ⟨#[]⟩) 1 16 Tryd.underlying37 hi hz0 hz1 hz2 rfl (by decide) _ _ _ rfl (own3.alloc _) ⟨w3.heap.size, 0, none⟩ 1 1 [.string ⟨#[112, 114, 105, 118, 97, 116, 101]⟩] rfl rfl str_new one_str (by show 2 + 1 ≤ maxLen; unfold maxLen; omega) (by show (2 + 1) * 16 ≤ 140737488355328; omega) (by simp; omega) ?_; intro v4' w4 own' hgr hnil; have own4 : w4.ownsRow w1.heap.size 9 1 v4' 3 [.string ws, .string da, .string ⟨#[112, 114, 105, 118, 97, 116, 101]⟩] := own'; have bel5 : Below w1.heap.size w1 w4 := (bel4.alloc (by omega) _).grown hgr (by simp; omega) (fun g hg => (own3.lt g hg).1); have zz4 := bel5.size; clear hgr own' hnil a0 a1 a2 a3 a4; have a0 := (hA.below bel5 hA.lt).at 0 rfl; have a1 := (hA.below bel5 hA.lt).at 1 rfl; have a2 := (hA.below bel5 hA.lt).at 2 rfl; have a3 := (hA.below bel5 hA.lt).at 3 rfl; have a4 := (hA.below bel5 hA.lt).at 4 rfl))
        have HO0 : Hid (w4.ownsRow w1.heap.size 9 1 v4' (wordsTo 3 ch st true ns 0).length (strs (wordsTo 3 ch st true ns 0))) := hide (by rw [HW0, hln]; exact own4)
        clear HW0 hln own4
        go_loopw [4, 44] (fun o i wr => ∃ j : Nat, j ≤ ns.length ∧ i = .int .i64 j ∧ Hid (wr.ownsRow w1.heap.size 9 1 o (wordsTo 3 ch st true ns j).length (strs (wordsTo 3 ch st true ns j))) ∧ Below w1.heap.size w1 wr) (fun _ i _ => ns.length - (intOf i).toNat)
        case atStart => exact ⟨0, Nat.zero_le _, rfl, HO0, bel5⟩
        case round =>
          obtain ⟨j, hj, rfl, hO, hb⟩ := hrel
          have hRr := hR.below hb hR.lt
          have belr := bel1.trans (hb.mono (by omega))
          have hlj := hlen j hj
          have hne := wordsTo_ne 3 ch st true ns j
          have hwl : (wordsTo 3 ch st true ns j).length = 3 + j := wordsTo_len _ _ _ _ _ _
          have zr := hb.size
          by_cases hlt : j < ns.length
          · have hltI : (j : Int) < (ns.length : Int) := by omega
            obtain ⟨b9, o9, e9, hcell⟩ := (h1.below belr).spot j hlt
            subst e9
            have hnj := hnn j hlt
            have hs : wordsTo 3 ch st true ns (j + 1) = wordsTo 3 ch st true ns j ++ [digL (ns.getD j 0)] := rfl
            obtain ⟨WS, hWS⟩ : ∃ z, wordsTo 3 ch st true ns j = z := ⟨_, rfl⟩
            have hO' := hO.out
            rw [hWS] at hO' hs hwl
            obtain ⟨n0, hn0⟩ : ∃ z, ns.getD j 0 = z := ⟨_, rfl⟩
            rw [hn0] at hcell hnj hs
            have HS := hide hs
            clear hs hn0 hWS hne hlj hO hlen hnn
            go_wp2_with fail
            go_at_call 15
            refine (numberText_calls n0 _ hnj.1 (by omega) (HTB _ belr)).mono ?_
            rintro e w8 ⟨rfl, hb'⟩
            have own8 := own_belowS hO' hb'
            have bel8 : Below w1.heap.size w1 w8 := hb.trans (hb'.mono zr)
            have zz8 := bel8.size
            obtain ⟨dn, hdn⟩ : ∃ x, Hid (strOfNums (digL n0) = x) := ⟨_, hide rfl⟩
            rw [hdn.out]
            clear hb' hO'
            go_wp2_with (first | fail | (at_builtin; refine wpList_append_own _ rfl (.tmp 48) (.tmp 51) 37 rfl w1.heap.size 9 i0 (.string ⟨#[]⟩) 1 16 Tryd.underlying37 hi hz0 hz1 hz2 rfl (by decide) _ _ _ rfl (own8.alloc _) ⟨w8.heap.size, 0, none⟩ 1 1 [.string dn] rfl rfl str_new one_str (by show WS.length + 1 ≤ maxLen; unfold maxLen; omega) (by show (WS.length + 1) * 16 ≤ 140737488355328; omega) (by simp; omega) ?_; intro v9' w9 own' hgr hnil; have own9 : w9.ownsRow w1.heap.size 9 1 v9' (WS.length + 1) (strs WS ++ [.string dn]) := own'; have bel9 : Below w1.heap.size w1 w9 := (bel8.alloc (by omega) _).grown hgr (by simp; omega) (fun g hg => (own8.lt g hg).1); clear hgr own' hnil))
            have HO9 : Hid (w9.ownsRow w1.heap.size 9 1 v9' (wordsTo 3 ch st true ns (j + 1)).length (strs (wordsTo 3 ch st true ns (j + 1)))) := by
              refine hide ?_
              rw [HS.out, List.length_append]
              have e1 : strs (WS ++ [digL n0]) = strs WS ++ [.string dn] := by rw [← hdn.out]; simp [strs]
              rw [e1]
              exact own9
            clear own9
            go_roundw
            case rel => exact ⟨j + 1, by omega, by go_num, HO9, bel9⟩
            case measure => simp [intOf]; omega
          · obtain rfl : j = ns.length := by omega
            obtain ⟨BS, g, cap, hBS, rfl, hcap, hg, hcells⟩ := own_strs hO.out hne
            have hjl := join_len hBS.out
            have hjs := join_of hBS.out
            have hjw : BS.length = 3 + ns.length := by rw [hBS.out, List.length_map]; exact hwl
            have hln : (joinN (wordsTo 3 ch st true ns ns.length)).length ≤ 40 + 7 * ns.length := hlj
            obtain ⟨xs, hxs⟩ : ∃ z, Hid (strOfNums (joinN (wordsTo 3 ch st true ns ns.length)) = z) := ⟨_, hide rfl⟩
            have HTX : Hid (strOfNums (textTo 3 ch st true ns ns.length) = xs) := hide hxs.out
            have HJ : Hid (Calls Tryd.prog 16 #[.slice (some ⟨g, 0, none⟩) BS.length cap, .string ⟨#[32]⟩] wr fun e w' => e = .returned (.string xs) ∧ Below wr.heap.size wr w') := hide (by rw [← hxs.out, hjs]; exact Any.strings_Join at_lays156 at_Builder_Extra_156 g 0 cap BS ⟨#[32]⟩ wr hcells hg (by omega) hcap (by omega))
            clear hjs hjl hO hcells hlen hnn hlj hln hjw hwl hne hxs
            go_wp2_with fail
            go_at_call 16
            refine HJ.out.mono ?_
            rintro e w8 ⟨rfl, hb8⟩
            have hR := hRr.belowb hb8
            have bel8 := belr.trans (hb8.mono belr.size)
            have zz8 := hb8.size
            clear hb8 hRr
            go_wp2_with (first | fail | (refine wpList_build_at rfl 27 _ rfl #[.int .i64 0, .string xs] (by first | rfl | kernel_rfl) ?_; (try simp only [Act.put, List.setIfInBounds_toArray, List.set_cons_zero, List.set_cons_succ])) | (refine wpList_store_blk rfl _ _ _ rfl (w.heap.size + 1) 0 #[.int .i64 0, .string ⟨#[]⟩] #[.int .i64 0, .string xs] (.agg #[.int .i64 0, .string xs]) rfl rfl hR rfl (by kernel_rfl) rfl rfl ?_; (try simp only [Act.put, List.setIfInBounds_toArray, List.set_cons_zero, List.set_cons_succ]); clear hR; intro w9 hR hu))
            exact bodyPost_ret (results_blk hR _ _ rfl rfl Tryd.underlying27 rfl (by kernel_rfl)) rfl ⟨by rw [HTX.out], bel8.trans (hu.below (by omega))⟩
    · cases pv
      · obtain ⟨ws, hws⟩ : ∃ x, Hid (strOfNums (wordN 4) = x) := ⟨_, hide rfl⟩
        have cw0 : w.cell? ⟨0, 4, none⟩ = some (.string ws) := by rw [← hws.out]; exact hkw 4 (by omega)
        have hch : 0 ≤ ch ∧ ch ≤ 65535 := by have := hF.c; omega
        go_enter Tryd.func7, Tryd.ntmps7
        go_wp2_with fail
        go_at_call 14
        refine (implActionFault_calls 4 ch st false ns _ _ hn (h1.below bel0)).mono ?_
        rintro e w1 ⟨rfl, hb⟩
        replace hA := hA.belowb hb
        replace hR := hR.belowb hb
        have bel1 := bel0.trans (hb.mono bel0.size)
        have z1 : w.heap.size + 2 ≤ w1.heap.size := by have := hb.size; simp at this; omega
        clear hb bel0
        rw [hc]
        have HTB : ∀ w', Below w.heap.size w w' → Lib.TabIs Tryd.prog w' "internal/strconv.uint64pow10" .u64 Lib.pow10Tab := Lib.tabBelow_of_tabIs htab
        have cw := cellb bel1 cw0
        have b0 := hA.at 0 rfl
        have own1 : (w1.alloc (.cells #[.string ws] 9)).ownsRow w1.heap.size 9 1 (.slice (some ⟨w1.heap.size, 0, none⟩) 1 1) 1 [.string ws] := World.ownsRow_lit (base := w1.heap.size) (e := 9) (size := 1) w1 #[.string ws] 1 (Nat.le_refl _) (by unfold maxLen; omega) rfl
        have hA1 := hA.alloc (.cells #[.string ws] 9)
        have a0 := hA1.at 0 rfl
        have a1 := hA1.at 1 rfl
        have a2 := hA1.at 2 rfl
        have a3 := hA1.at 3 rfl
        have a4 := hA1.at 4 rfl
        have bel2 : Below w1.heap.size w1 (w1.alloc (.cells #[.string ws] 9)) := (Below.refl _ w1).alloc (Nat.le_refl _) _
        go_wp2_with (first | fail)
        go_at_call 15
        refine (numberText_calls ch _ hch.1 (by omega) (HTB _ (bel1.trans (bel2.mono (by omega))))).mono ?_
        rintro e w2 ⟨rfl, hb⟩
        replace own1 := own_belowS own1 hb
        have bel3 : Below w1.heap.size w1 w2 := bel2.trans (hb.mono bel2.size)
        have zz2 := bel3.size
        obtain ⟨da, hda⟩ : ∃ x, Hid (strOfNums (digL ch) = x) := ⟨_, hide rfl⟩
        rw [hda.out]
        clear hb a0 a1 a2 a3 a4
        have a0 := (hA.below bel3 hA.lt).at 0 rfl; have a1 := (hA.below bel3 hA.lt).at 1 rfl; have a2 := (hA.below bel3 hA.lt).at 2 rfl; have a3 := (hA.below bel3 hA.lt).at 3 rfl; have a4 := (hA.below bel3 hA.lt).at 4 rfl
        have HW0 : strs (wordsTo 4 ch st false ns 0) = [.string ws, .string da] := by
          rw [← hws.out, ← hda.out]
          rfl
        have hln : (wordsTo 4 ch st false ns 0).length = 2 := rfl
        have hlen := fun j hj => textTo_len hF j hj
        have hl6 := hF.l
        have hnn := hF.n
        clear hF hc
        go_wp2_with (first | fail | (at_builtin; refine wpList_append_own _ rfl (.tmp 21) (.tmp 25) 37 rfl w1.heap.size 9 i0 (.string ⟨#[]⟩) 1 16 Tryd.underlying37 hi hz0 hz1 hz2 rfl (by decide) _ _ _ rfl (own1.alloc _) ⟨w2.heap.size, 0, none⟩ 1 1 [.string da] rfl rfl str_new one_str (by show 1 + 1 ≤ maxLen; unfold maxLen; omega) (by show (1 + 1) * 16 ≤ 140737488355328; omega) (by simp; omega) ?_; intro v3' w3 own' hgr hnil; have own3 : w3.ownsRow w1.heap.size 9 1 v3' 2 [.string ws, .string da] := own'; have bel4 : Below w1.heap.size w1 w3 := (bel3.alloc (by omega) _).grown hgr (by simp; omega) (fun g hg => (own1.lt g hg).1); have zz3 := bel4.size; clear hgr own' hnil a0 a1 a2 a3 a4; have a0 := (hA.below bel4 hA.lt).at 0 rfl; have a1 := (hA.below bel4 hA.lt).at 1 rfl; have a2 := (hA.below bel4 hA.lt).at 2 rfl; have a3 := (hA.below bel4 hA.lt).at 3 rfl; have a4 := (hA.below bel4 hA.lt).at 4 rfl))
        have HO0 : Hid (w3.ownsRow w1.heap.size 9 1 v3' (wordsTo 4 ch st false ns 0).length (strs (wordsTo 4 ch st false ns 0))) := hide (by rw [HW0, hln]; exact own3)
        clear HW0 hln own3
        go_loopw [4, 44] (fun o i wr => ∃ j : Nat, j ≤ ns.length ∧ i = .int .i64 j ∧ Hid (wr.ownsRow w1.heap.size 9 1 o (wordsTo 4 ch st false ns j).length (strs (wordsTo 4 ch st false ns j))) ∧ Below w1.heap.size w1 wr) (fun _ i _ => ns.length - (intOf i).toNat)
        case atStart => exact ⟨0, Nat.zero_le _, rfl, HO0, bel4⟩
        case round =>
          obtain ⟨j, hj, rfl, hO, hb⟩ := hrel
          have hRr := hR.below hb hR.lt
          have belr := bel1.trans (hb.mono (by omega))
          have hlj := hlen j hj
          have hne := wordsTo_ne 4 ch st false ns j
          have hwl : (wordsTo 4 ch st false ns j).length = 2 + j := wordsTo_len _ _ _ _ _ _
          have zr := hb.size
          by_cases hlt : j < ns.length
          · have hltI : (j : Int) < (ns.length : Int) := by omega
            obtain ⟨b9, o9, e9, hcell⟩ := (h1.below belr).spot j hlt
            subst e9
            have hnj := hnn j hlt
            have hs : wordsTo 4 ch st false ns (j + 1) = wordsTo 4 ch st false ns j ++ [digL (ns.getD j 0)] := rfl
            obtain ⟨WS, hWS⟩ : ∃ z, wordsTo 4 ch st false ns j = z := ⟨_, rfl⟩
            have hO' := hO.out
            rw [hWS] at hO' hs hwl
            obtain ⟨n0, hn0⟩ : ∃ z, ns.getD j 0 = z := ⟨_, rfl⟩
            rw [hn0] at hcell hnj hs
            have HS := hide hs
            clear hs hn0 hWS hne hlj hO hlen hnn
            go_wp2_with fail
            go_at_call 15
            refine (numberText_calls n0 _ hnj.1 (by omega) (HTB _ belr)).mono ?_
            rintro e w8 ⟨rfl, hb'⟩
            have own8 := own_belowS hO' hb'
            have bel8 : Below w1.heap.size w1 w8 := hb.trans (hb'.mono zr)
            have zz8 := bel8.size
            obtain ⟨dn, hdn⟩ : ∃ x, Hid (strOfNums (digL n0) = x) := ⟨_, hide rfl⟩
            rw [hdn.out]
            clear hb' hO'
            go_wp2_with (first | fail | (at_builtin; refine wpList_append_own _ rfl (.tmp 48) (.tmp 51) 37 rfl w1.heap.size 9 i0 (.string ⟨#[]⟩) 1 16 Tryd.underlying37 hi hz0 hz1 hz2 rfl (by decide) _ _ _ rfl (own8.alloc _) ⟨w8.heap.size, 0, none⟩ 1 1 [.string dn] rfl rfl str_new one_str (by show WS.length + 1 ≤ maxLen; unfold maxLen; omega) (by show (WS.length + 1) * 16 ≤ 140737488355328; omega) (by simp; omega) ?_; intro v9' w9 own' hgr hnil; have own9 : w9.ownsRow w1.heap.size 9 1 v9' (WS.length + 1) (strs WS ++ [.string dn]) := own'; have bel9 : Below w1.heap.size w1 w9 := (bel8.alloc (by omega) _).grown hgr (by simp; omega) (fun g hg => (own8.lt g hg).1); clear hgr own' hnil))
            have HO9 : Hid (w9.ownsRow w1.heap.size 9 1 v9' (wordsTo 4 ch st false ns (j + 1)).length (strs (wordsTo 4 ch st false ns (j + 1)))) := by
              refine hide ?_
              rw [HS.out, List.length_append]
              have e1 : strs (WS ++ [digL n0]) = strs WS ++ [.string dn] := by rw [← hdn.out]; simp [strs]
              rw [e1]
              exact own9
            clear own9
            go_roundw
            case rel => exact ⟨j + 1, by omega, by go_num, HO9, bel9⟩
            case measure => simp [intOf]; omega
          · obtain rfl : j = ns.length := by omega
            obtain ⟨BS, g, cap, hBS, rfl, hcap, hg, hcells⟩ := own_strs hO.out hne
            have hjl := join_len hBS.out
            have hjs := join_of hBS.out
            have hjw : BS.length = 2 + ns.length := by rw [hBS.out, List.length_map]; exact hwl
            have hln : (joinN (wordsTo 4 ch st false ns ns.length)).length ≤ 40 + 7 * ns.length := hlj
            obtain ⟨xs, hxs⟩ : ∃ z, Hid (strOfNums (joinN (wordsTo 4 ch st false ns ns.length)) = z) := ⟨_, hide rfl⟩
            have HTX : Hid (strOfNums (textTo 4 ch st false ns ns.length) = xs) := hide hxs.out
            have HJ : Hid (Calls Tryd.prog 16 #[.slice (some ⟨g, 0, none⟩) BS.length cap, .string ⟨#[32]⟩] wr fun e w' => e = .returned (.string xs) ∧ Below wr.heap.size wr w') := hide (by rw [← hxs.out, hjs]; exact Any.strings_Join at_lays156 at_Builder_Extra_156 g 0 cap BS ⟨#[32]⟩ wr hcells hg (by omega) hcap (by omega))
            clear hjs hjl hO hcells hlen hnn hlj hln hjw hwl hne hxs
            go_wp2_with fail
            go_at_call 16
            refine HJ.out.mono ?_
            rintro e w8 ⟨rfl, hb8⟩
            have hR := hRr.belowb hb8
            have bel8 := belr.trans (hb8.mono belr.size)
            have zz8 := hb8.size
            clear hb8 hRr
            go_wp2_with (first | fail | (refine wpList_build_at rfl 27 _ rfl #[.int .i64 0, .string xs] (by first | rfl | kernel_rfl) ?_; (try simp only [Act.put, List.setIfInBounds_toArray, List.set_cons_zero, List.set_cons_succ])) | (refine wpList_store_blk rfl _ _ _ rfl (w.heap.size + 1) 0 #[.int .i64 0, .string ⟨#[]⟩] #[.int .i64 0, .string xs] (.agg #[.int .i64 0, .string xs]) rfl rfl hR rfl (by kernel_rfl) rfl rfl ?_; (try simp only [Act.put, List.setIfInBounds_toArray, List.set_cons_zero, List.set_cons_succ]); clear hR; intro w9 hR hu))
            exact bodyPost_ret (results_blk hR _ _ rfl rfl Tryd.underlying27 rfl (by kernel_rfl)) rfl ⟨by rw [HTX.out], bel8.trans (hu.below (by omega))⟩
      · obtain ⟨ws, hws⟩ : ∃ x, Hid (strOfNums (wordN 4) = x) := ⟨_, hide rfl⟩
        have cw0 : w.cell? ⟨0, 4, none⟩ = some (.string ws) := by rw [← hws.out]; exact hkw 4 (by omega)
        have hch : 0 ≤ ch ∧ ch ≤ 65535 := by have := hF.c; omega
        go_enter Tryd.func7, Tryd.ntmps7
        go_wp2_with fail
        go_at_call 14
        refine (implActionFault_calls 4 ch st true ns _ _ hn (h1.below bel0)).mono ?_
        rintro e w1 ⟨rfl, hb⟩
        replace hA := hA.belowb hb
        replace hR := hR.belowb hb
        have bel1 := bel0.trans (hb.mono bel0.size)
        have z1 : w.heap.size + 2 ≤ w1.heap.size := by have := hb.size; simp at this; omega
        clear hb bel0
        rw [hc]
        have HTB : ∀ w', Below w.heap.size w w' → Lib.TabIs Tryd.prog w' "internal/strconv.uint64pow10" .u64 Lib.pow10Tab := Lib.tabBelow_of_tabIs htab
        have cw := cellb bel1 cw0
        have b0 := hA.at 0 rfl
        have own1 : (w1.alloc (.cells #[.string ws] 9)).ownsRow w1.heap.size 9 1 (.slice (some ⟨w1.heap.size, 0, none⟩) 1 1) 1 [.string ws] := World.ownsRow_lit (base := w1.heap.size) (e := 9) (size := 1) w1 #[.string ws] 1 (Nat.le_refl _) (by unfold maxLen; omega) rfl
        have hA1 := hA.alloc (.cells #[.string ws] 9)
        have a0 := hA1.at 0 rfl
        have a1 := hA1.at 1 rfl
        have a2 := hA1.at 2 rfl
        have a3 := hA1.at 3 rfl
        have a4 := hA1.at 4 rfl
        have bel2 : Below w1.heap.size w1 (w1.alloc (.cells #[.string ws] 9)) := (Below.refl _ w1).alloc (Nat.le_refl _) _
        go_wp2_with (first | fail)
        go_at_call 15
        refine (numberText_calls ch _ hch.1 (by omega) (HTB _ (bel1.trans (bel2.mono (by omega))))).mono ?_
        rintro e w2 ⟨rfl, hb⟩
        replace own1 := own_belowS own1 hb
        have bel3 : Below w1.heap.size w1 w2 := bel2.trans (hb.mono bel2.size)
        have zz2 := bel3.size
        obtain ⟨da, hda⟩ : ∃ x, Hid (strOfNums (digL ch) = x) := ⟨_, hide rfl⟩
        rw [hda.out]
        clear hb a0 a1 a2 a3 a4
        have a0 := (hA.below bel3 hA.lt).at 0 rfl; have a1 := (hA.below bel3 hA.lt).at 1 rfl; have a2 := (hA.below bel3 hA.lt).at 2 rfl; have a3 := (hA.below bel3 hA.lt).at 3 rfl; have a4 := (hA.below bel3 hA.lt).at 4 rfl
        have HW0 : strs (wordsTo 4 ch st true ns 0) = [.string ws, .string da, .string ⟨#[112, 114, 105, 118, 97, 116, 101]⟩] := by
          rw [← hws.out, ← hda.out]
          rfl
        have hln : (wordsTo 4 ch st true ns 0).length = 3 := rfl
        have hlen := fun j hj => textTo_len hF j hj
        have hl6 := hF.l
        have hnn := hF.n
        clear hF hc
        go_wp2_with (first | fail | (at_builtin; refine wpList_append_own _ rfl (.tmp 21) (.tmp 25) 37 rfl w1.heap.size 9 i0 (.string ⟨#[]⟩) 1 16 Tryd.underlying37 hi hz0 hz1 hz2 rfl (by decide) _ _ _ rfl (own1.alloc _) ⟨w2.heap.size, 0, none⟩ 1 1 [.string da] rfl rfl str_new one_str (by show 1 + 1 ≤ maxLen; unfold maxLen; omega) (by show (1 + 1) * 16 ≤ 140737488355328; omega) (by simp; omega) ?_; intro v3' w3 own' hgr hnil; have own3 : w3.ownsRow w1.heap.size 9 1 v3' 2 [.string ws, .string da] := own'; have bel4 : Below w1.heap.size w1 w3 := (bel3.alloc (by omega) _).grown hgr (by simp; omega) (fun g hg => (own1.lt g hg).1); have zz3 := bel4.size; clear hgr own' hnil a0 a1 a2 a3 a4; have a0 := (hA.below bel4 hA.lt).at 0 rfl; have a1 := (hA.below bel4 hA.lt).at 1 rfl; have a2 := (hA.below bel4 hA.lt).at 2 rfl; have a3 := (hA.below bel4 hA.lt).at 3 rfl; have a4 := (hA.below bel4 hA.lt).at 4 rfl) | (at_builtin; refine wpList_append_own _ rfl (.tmp 38) (.tmp 39) 37 rfl w1.heap.size 9 i0 (.string ⟨#[]⟩) 1 16 Tryd.underlying37 hi hz0 hz1 hz2 rfl (by decide) _ _ _ rfl (own3.alloc _) ⟨w3.heap.size, 0, none⟩ 1 1 [.string ⟨#[112, 114, 105, 118, 97, 116, 101]⟩] rfl rfl str_new one_str (by show 2 + 1 ≤ maxLen; unfold maxLen; omega) (by show (2 + 1) * 16 ≤ 140737488355328; omega) (by simp; omega) ?_; intro v4' w4 own' hgr hnil; have own4 : w4.ownsRow w1.heap.size 9 1 v4' 3 [.string ws, .string da, .string ⟨#[112, 114, 105, 118, 97, 116, 101]⟩] := own'; have bel5 : Below w1.heap.size w1 w4 := (bel4.alloc (by omega) _).grown hgr (by simp; omega) (fun g hg => (own3.lt g hg).1); have zz4 := bel5.size; clear hgr own' hnil a0 a1 a2 a3 a4; have a0 := (hA.below bel5 hA.lt).at 0 rfl; have a1 := (hA.below bel5 hA.lt).at 1 rfl; have a2 := (hA.below bel5 hA.lt).at 2 rfl; have a3 := (hA.below bel5 hA.lt).at 3 rfl; have a4 := (hA.below bel5 hA.lt).at 4 rfl))
        have HO0 : Hid (w4.ownsRow w1.heap.size 9 1 v4' (wordsTo 4 ch st true ns 0).length (strs (wordsTo 4 ch st true ns 0))) := hide (by rw [HW0, hln]; exact own4)
        clear HW0 hln own4
        go_loopw [4, 44] (fun o i wr => ∃ j : Nat, j ≤ ns.length ∧ i = .int .i64 j ∧ Hid (wr.ownsRow w1.heap.size 9 1 o (wordsTo 4 ch st true ns j).length (strs (wordsTo 4 ch st true ns j))) ∧ Below w1.heap.size w1 wr) (fun _ i _ => ns.length - (intOf i).toNat)
        case atStart => exact ⟨0, Nat.zero_le _, rfl, HO0, bel5⟩
        case round =>
          obtain ⟨j, hj, rfl, hO, hb⟩ := hrel
          have hRr := hR.below hb hR.lt
          have belr := bel1.trans (hb.mono (by omega))
          have hlj := hlen j hj
          have hne := wordsTo_ne 4 ch st true ns j
          have hwl : (wordsTo 4 ch st true ns j).length = 3 + j := wordsTo_len _ _ _ _ _ _
          have zr := hb.size
          by_cases hlt : j < ns.length
          · have hltI : (j : Int) < (ns.length : Int) := by omega
            obtain ⟨b9, o9, e9, hcell⟩ := (h1.below belr).spot j hlt
            subst e9
            have hnj := hnn j hlt
            have hs : wordsTo 4 ch st true ns (j + 1) = wordsTo 4 ch st true ns j ++ [digL (ns.getD j 0)] := rfl
            obtain ⟨WS, hWS⟩ : ∃ z, wordsTo 4 ch st true ns j = z := ⟨_, rfl⟩
            have hO' := hO.out
            rw [hWS] at hO' hs hwl
            obtain ⟨n0, hn0⟩ : ∃ z, ns.getD j 0 = z := ⟨_, rfl⟩
            rw [hn0] at hcell hnj hs
            have HS := hide hs
            clear hs hn0 hWS hne hlj hO hlen hnn
            go_wp2_with fail
            go_at_call 15
            refine (numberText_calls n0 _ hnj.1 (by omega) (HTB _ belr)).mono ?_
            rintro e w8 ⟨rfl, hb'⟩
            have own8 := own_belowS hO' hb'
            have bel8 : Below w1.heap.size w1 w8 := hb.trans (hb'.mono zr)
            have zz8 := bel8.size
            obtain ⟨dn, hdn⟩ : ∃ x, Hid (strOfNums (digL n0) = x) := ⟨_, hide rfl⟩
            rw [hdn.out]
            clear hb' hO'
            go_wp2_with (first | fail | (at_builtin; refine wpList_append_own _ rfl (.tmp 48) (.tmp 51) 37 rfl w1.heap.size 9 i0 (.string ⟨#[]⟩) 1 16 Tryd.underlying37 hi hz0 hz1 hz2 rfl (by decide) _ _ _ rfl (own8.alloc _) ⟨w8.heap.size, 0, none⟩ 1 1 [.string dn] rfl rfl str_new one_str (by show WS.length + 1 ≤ maxLen; unfold maxLen; omega) (by show (WS.length + 1) * 16 ≤ 140737488355328; omega) (by simp; omega) ?_; intro v9' w9 own' hgr hnil; have own9 : w9.ownsRow w1.heap.size 9 1 v9' (WS.length + 1) (strs WS ++ [.string dn]) := own'; have bel9 : Below w1.heap.size w1 w9 := (bel8.alloc (by omega) _).grown hgr (by simp; omega) (fun g hg => (own8.lt g hg).1); clear hgr own' hnil))
            have HO9 : Hid (w9.ownsRow w1.heap.size 9 1 v9' (wordsTo 4 ch st true ns (j + 1)).length (strs (wordsTo 4 ch st true ns (j + 1)))) := by
              refine hide ?_
              rw [HS.out, List.length_append]
              have e1 : strs (WS ++ [digL n0]) = strs WS ++ [.string dn] := by rw [← hdn.out]; simp [strs]
              rw [e1]
              exact own9
            clear own9
            go_roundw
            case rel => exact ⟨j + 1, by omega, by go_num, HO9, bel9⟩
            case measure => simp [intOf]; omega
          · obtain rfl : j = ns.length := by omega
            obtain ⟨BS, g, cap, hBS, rfl, hcap, hg, hcells⟩ := own_strs hO.out hne
            have hjl := join_len hBS.out
            have hjs := join_of hBS.out
            have hjw : BS.length = 3 + ns.length := by rw [hBS.out, List.length_map]; exact hwl
            have hln : (joinN (wordsTo 4 ch st true ns ns.length)).length ≤ 40 + 7 * ns.length := hlj
            obtain ⟨xs, hxs⟩ : ∃ z, Hid (strOfNums (joinN (wordsTo 4 ch st true ns ns.length)) = z) := ⟨_, hide rfl⟩
            have HTX : Hid (strOfNums (textTo 4 ch st true ns ns.length) = xs) := hide hxs.out
            have HJ : Hid (Calls Tryd.prog 16 #[.slice (some ⟨g, 0, none⟩) BS.length cap, .string ⟨#[32]⟩] wr fun e w' => e = .returned (.string xs) ∧ Below wr.heap.size wr w') := hide (by rw [← hxs.out, hjs]; exact Any.strings_Join at_lays156 at_Builder_Extra_156 g 0 cap BS ⟨#[32]⟩ wr hcells hg (by omega) hcap (by omega))
            clear hjs hjl hO hcells hlen hnn hlj hln hjw hwl hne hxs
            go_wp2_with fail
            go_at_call 16
            refine HJ.out.mono ?_
            rintro e w8 ⟨rfl, hb8⟩
            have hR := hRr.belowb hb8
            have bel8 := belr.trans (hb8.mono belr.size)
            have zz8 := hb8.size
            clear hb8 hRr
            go_wp2_with (first | fail | (refine wpList_build_at rfl 27 _ rfl #[.int .i64 0, .string xs] (by first | rfl | kernel_rfl) ?_; (try simp only [Act.put, List.setIfInBounds_toArray, List.set_cons_zero, List.set_cons_succ])) | (refine wpList_store_blk rfl _ _ _ rfl (w.heap.size + 1) 0 #[.int .i64 0, .string ⟨#[]⟩] #[.int .i64 0, .string xs] (.agg #[.int .i64 0, .string xs]) rfl rfl hR rfl (by kernel_rfl) rfl rfl ?_; (try simp only [Act.put, List.setIfInBounds_toArray, List.set_cons_zero, List.set_cons_succ]); clear hR; intro w9 hR hu))
            exact bodyPost_ret (results_blk hR _ _ rfl rfl Tryd.underlying27 rfl (by kernel_rfl)) rfl ⟨by rw [HTX.out], bel8.trans (hu.below (by omega))⟩
    · cases pv
      · obtain ⟨ws, hws⟩ : ∃ x, Hid (strOfNums (wordN 5) = x) := ⟨_, hide rfl⟩
        have cw0 : w.cell? ⟨0, 5, none⟩ = some (.string ws) := by rw [← hws.out]; exact hkw 5 (by omega)
        have hch : 0 ≤ ch ∧ ch ≤ 65535 := by have := hF.c; omega
        have hst := hF.s rfl
        go_enter Tryd.func7, Tryd.ntmps7
        go_wp2_with fail
        go_at_call 14
        refine (implActionFault_calls 5 ch st false ns _ _ hn (h1.below bel0)).mono ?_
        rintro e w1 ⟨rfl, hb⟩
        replace hA := hA.belowb hb
        replace hR := hR.belowb hb
        have bel1 := bel0.trans (hb.mono bel0.size)
        have z1 : w.heap.size + 2 ≤ w1.heap.size := by have := hb.size; simp at this; omega
        clear hb bel0
        rw [hc]
        have HTB : ∀ w', Below w.heap.size w w' → Lib.TabIs Tryd.prog w' "internal/strconv.uint64pow10" .u64 Lib.pow10Tab := Lib.tabBelow_of_tabIs htab
        have cw := cellb bel1 cw0
        have b0 := hA.at 0 rfl
        have own1 : (w1.alloc (.cells #[.string ws] 9)).ownsRow w1.heap.size 9 1 (.slice (some ⟨w1.heap.size, 0, none⟩) 1 1) 1 [.string ws] := World.ownsRow_lit (base := w1.heap.size) (e := 9) (size := 1) w1 #[.string ws] 1 (Nat.le_refl _) (by unfold maxLen; omega) rfl
        have hA1 := hA.alloc (.cells #[.string ws] 9)
        have a0 := hA1.at 0 rfl
        have a1 := hA1.at 1 rfl
        have a2 := hA1.at 2 rfl
        have a3 := hA1.at 3 rfl
        have a4 := hA1.at 4 rfl
        have bel2 : Below w1.heap.size w1 (w1.alloc (.cells #[.string ws] 9)) := (Below.refl _ w1).alloc (Nat.le_refl _) _
        go_wp2_with (first | fail)
        go_at_call 15
        refine (numberText_calls ch _ hch.1 (by omega) (HTB _ (bel1.trans (bel2.mono (by omega))))).mono ?_
        rintro e w2 ⟨rfl, hb⟩
        replace own1 := own_belowS own1 hb
        have bel3 : Below w1.heap.size w1 w2 := bel2.trans (hb.mono bel2.size)
        have zz2 := bel3.size
        obtain ⟨da, hda⟩ : ∃ x, Hid (strOfNums (digL ch) = x) := ⟨_, hide rfl⟩
        rw [hda.out]
        clear hb a0 a1 a2 a3 a4
        have a0 := (hA.below bel3 hA.lt).at 0 rfl; have a1 := (hA.below bel3 hA.lt).at 1 rfl; have a2 := (hA.below bel3 hA.lt).at 2 rfl; have a3 := (hA.below bel3 hA.lt).at 3 rfl; have a4 := (hA.below bel3 hA.lt).at 4 rfl
        go_wp2_with (first | fail | (at_builtin; refine wpList_append_own _ rfl (.tmp 21) (.tmp 25) 37 rfl w1.heap.size 9 i0 (.string ⟨#[]⟩) 1 16 Tryd.underlying37 hi hz0 hz1 hz2 rfl (by decide) _ _ _ rfl (own1.alloc _) ⟨w2.heap.size, 0, none⟩ 1 1 [.string da] rfl rfl str_new one_str (by show 1 + 1 ≤ maxLen; unfold maxLen; omega) (by show (1 + 1) * 16 ≤ 140737488355328; omega) (by simp; omega) ?_; intro v3' w3 own' hgr hnil; have own3 : w3.ownsRow w1.heap.size 9 1 v3' 2 [.string ws, .string da] := own'; have bel4 : Below w1.heap.size w1 w3 := (bel3.alloc (by omega) _).grown hgr (by simp; omega) (fun g hg => (own1.lt g hg).1); have zz3 := bel4.size; clear hgr own' hnil a0 a1 a2 a3 a4; have a0 := (hA.below bel4 hA.lt).at 0 rfl; have a1 := (hA.below bel4 hA.lt).at 1 rfl; have a2 := (hA.below bel4 hA.lt).at 2 rfl; have a3 := (hA.below bel4 hA.lt).at 3 rfl; have a4 := (hA.below bel4 hA.lt).at 4 rfl))
        go_at_call 15
        refine (numberText_calls st _ (by omega) (by omega) (HTB _ (bel1.trans (bel4.mono (by omega))))).mono ?_
        rintro e w4 ⟨rfl, hb⟩
        replace own3 := own_belowS own3 hb
        have bel5 : Below w1.heap.size w1 w4 := bel4.trans (hb.mono bel4.size)
        have zz4 := bel5.size
        obtain ⟨db, hdb⟩ : ∃ x, Hid (strOfNums (digL st) = x) := ⟨_, hide rfl⟩
        rw [hdb.out]
        clear hb a0 a1 a2 a3 a4
        have a0 := (hA.below bel5 hA.lt).at 0 rfl; have a1 := (hA.below bel5 hA.lt).at 1 rfl; have a2 := (hA.below bel5 hA.lt).at 2 rfl; have a3 := (hA.below bel5 hA.lt).at 3 rfl; have a4 := (hA.below bel5 hA.lt).at 4 rfl
        have HW0 : strs (wordsTo 5 ch st false ns 0) = [.string ws, .string da, .string db] := by
          rw [← hws.out, ← hda.out, ← hdb.out]
          rfl
        have hln : (wordsTo 5 ch st false ns 0).length = 3 := rfl
        have hlen := fun j hj => textTo_len hF j hj
        have hl6 := hF.l
        have hnn := hF.n
        clear hF hc
        go_wp2_with (first | fail | (at_builtin; refine wpList_append_own _ rfl (.tmp 30) (.tmp 34) 37 rfl w1.heap.size 9 i0 (.string ⟨#[]⟩) 1 16 Tryd.underlying37 hi hz0 hz1 hz2 rfl (by decide) _ _ _ rfl (own3.alloc _) ⟨w4.heap.size, 0, none⟩ 1 1 [.string db] rfl rfl str_new one_str (by show 2 + 1 ≤ maxLen; unfold maxLen; omega) (by show (2 + 1) * 16 ≤ 140737488355328; omega) (by simp; omega) ?_; intro v5' w5 own' hgr hnil; have own5 : w5.ownsRow w1.heap.size 9 1 v5' 3 [.string ws, .string da, .string db] := own'; have bel6 : Below w1.heap.size w1 w5 := (bel5.alloc (by omega) _).grown hgr (by simp; omega) (fun g hg => (own3.lt g hg).1); have zz5 := bel6.size; clear hgr own' hnil a0 a1 a2 a3 a4; have a0 := (hA.below bel6 hA.lt).at 0 rfl; have a1 := (hA.below bel6 hA.lt).at 1 rfl; have a2 := (hA.below bel6 hA.lt).at 2 rfl; have a3 := (hA.below bel6 hA.lt).at 3 rfl; have a4 := (hA.below bel6 hA.lt).at 4 rfl))
        have HO0 : Hid (w5.ownsRow w1.heap.size 9 1 v5' (wordsTo 5 ch st false ns 0).length (strs (wordsTo 5 ch st false ns 0))) := hide (by rw [HW0, hln]; exact own5)
        clear HW0 hln own5
        go_loopw [4, 44] (fun o i wr => ∃ j : Nat, j ≤ ns.length ∧ i = .int .i64 j ∧ Hid (wr.ownsRow w1.heap.size 9 1 o (wordsTo 5 ch st false ns j).length (strs (wordsTo 5 ch st false ns j))) ∧ Below w1.heap.size w1 wr) (fun _ i _ => ns.length - (intOf i).toNat)
        case atStart => exact ⟨0, Nat.zero_le _, rfl, HO0, bel6⟩
        case round =>
          obtain ⟨j, hj, rfl, hO, hb⟩ := hrel
          have hRr := hR.below hb hR.lt
          have belr := bel1.trans (hb.mono (by omega))
          have hlj := hlen j hj
          have hne := wordsTo_ne 5 ch st false ns j
          have hwl : (wordsTo 5 ch st false ns j).length = 3 + j := wordsTo_len _ _ _ _ _ _
          have zr := hb.size
          by_cases hlt : j < ns.length
          · have hltI : (j : Int) < (ns.length : Int) := by omega
            obtain ⟨b9, o9, e9, hcell⟩ := (h1.below belr).spot j hlt
            subst e9
            have hnj := hnn j hlt
            have hs : wordsTo 5 ch st false ns (j + 1) = wordsTo 5 ch st false ns j ++ [digL (ns.getD j 0)] := rfl
            obtain ⟨WS, hWS⟩ : ∃ z, wordsTo 5 ch st false ns j = z := ⟨_, rfl⟩
            have hO' := hO.out
            rw [hWS] at hO' hs hwl
            obtain ⟨n0, hn0⟩ : ∃ z, ns.getD j 0 = z := ⟨_, rfl⟩
            rw [hn0] at hcell hnj hs
            have HS := hide hs
            clear hs hn0 hWS hne hlj hO hlen hnn
            go_wp2_with fail
            go_at_call 15
            refine (numberText_calls n0 _ hnj.1 (by omega) (HTB _ belr)).mono ?_
            rintro e w8 ⟨rfl, hb'⟩
            have own8 := own_belowS hO' hb'
            have bel8 : Below w1.heap.size w1 w8 := hb.trans (hb'.mono zr)
            have zz8 := bel8.size
            obtain ⟨dn, hdn⟩ : ∃ x, Hid (strOfNums (digL n0) = x) := ⟨_, hide rfl⟩
            rw [hdn.out]
            clear hb' hO'
            go_wp2_with (first | fail | (at_builtin; refine wpList_append_own _ rfl (.tmp 48) (.tmp 51) 37 rfl w1.heap.size 9 i0 (.string ⟨#[]⟩) 1 16 Tryd.underlying37 hi hz0 hz1 hz2 rfl (by decide) _ _ _ rfl (own8.alloc _) ⟨w8.heap.size, 0, none⟩ 1 1 [.string dn] rfl rfl str_new one_str (by show WS.length + 1 ≤ maxLen; unfold maxLen; omega) (by show (WS.length + 1) * 16 ≤ 140737488355328; omega) (by simp; omega) ?_; intro v9' w9 own' hgr hnil; have own9 : w9.ownsRow w1.heap.size 9 1 v9' (WS.length + 1) (strs WS ++ [.string dn]) := own'; have bel9 : Below w1.heap.size w1 w9 := (bel8.alloc (by omega) _).grown hgr (by simp; omega) (fun g hg => (own8.lt g hg).1); clear hgr own' hnil))
            have HO9 : Hid (w9.ownsRow w1.heap.size 9 1 v9' (wordsTo 5 ch st false ns (j + 1)).length (strs (wordsTo 5 ch st false ns (j + 1)))) := by
              refine hide ?_
              rw [HS.out, List.length_append]
              have e1 : strs (WS ++ [digL n0]) = strs WS ++ [.string dn] := by rw [← hdn.out]; simp [strs]
              rw [e1]
              exact own9
            clear own9
            go_roundw
            case rel => exact ⟨j + 1, by omega, by go_num, HO9, bel9⟩
            case measure => simp [intOf]; omega
          · obtain rfl : j = ns.length := by omega
            obtain ⟨BS, g, cap, hBS, rfl, hcap, hg, hcells⟩ := own_strs hO.out hne
            have hjl := join_len hBS.out
            have hjs := join_of hBS.out
            have hjw : BS.length = 3 + ns.length := by rw [hBS.out, List.length_map]; exact hwl
            have hln : (joinN (wordsTo 5 ch st false ns ns.length)).length ≤ 40 + 7 * ns.length := hlj
            obtain ⟨xs, hxs⟩ : ∃ z, Hid (strOfNums (joinN (wordsTo 5 ch st false ns ns.length)) = z) := ⟨_, hide rfl⟩
            have HTX : Hid (strOfNums (textTo 5 ch st false ns ns.length) = xs) := hide hxs.out
            have HJ : Hid (Calls Tryd.prog 16 #[.slice (some ⟨g, 0, none⟩) BS.length cap, .string ⟨#[32]⟩] wr fun e w' => e = .returned (.string xs) ∧ Below wr.heap.size wr w') := hide (by rw [← hxs.out, hjs]; exact Any.strings_Join at_lays156 at_Builder_Extra_156 g 0 cap BS ⟨#[32]⟩ wr hcells hg (by omega) hcap (by omega))
            clear hjs hjl hO hcells hlen hnn hlj hln hjw hwl hne hxs
            go_wp2_with fail
            go_at_call 16
            refine HJ.out.mono ?_
            rintro e w8 ⟨rfl, hb8⟩
            have hR := hRr.belowb hb8
            have bel8 := belr.trans (hb8.mono belr.size)
            have zz8 := hb8.size
            clear hb8 hRr
            go_wp2_with (first | fail | (refine wpList_build_at rfl 27 _ rfl #[.int .i64 0, .string xs] (by first | rfl | kernel_rfl) ?_; (try simp only [Act.put, List.setIfInBounds_toArray, List.set_cons_zero, List.set_cons_succ])) | (refine wpList_store_blk rfl _ _ _ rfl (w.heap.size + 1) 0 #[.int .i64 0, .string ⟨#[]⟩] #[.int .i64 0, .string xs] (.agg #[.int .i64 0, .string xs]) rfl rfl hR rfl (by kernel_rfl) rfl rfl ?_; (try simp only [Act.put, List.setIfInBounds_toArray, List.set_cons_zero, List.set_cons_succ]); clear hR; intro w9 hR hu))
            exact bodyPost_ret (results_blk hR _ _ rfl rfl Tryd.underlying27 rfl (by kernel_rfl)) rfl ⟨by rw [HTX.out], bel8.trans (hu.below (by omega))⟩
      · obtain ⟨ws, hws⟩ : ∃ x, Hid (strOfNums (wordN 5) = x) := ⟨_, hide rfl⟩
        have cw0 : w.cell? ⟨0, 5, none⟩ = some (.string ws) := by rw [← hws.out]; exact hkw 5 (by omega)
        have hch : 0 ≤ ch ∧ ch ≤ 65535 := by have := hF.c; omega
        have hst := hF.s rfl
        go_enter Tryd.func7, Tryd.ntmps7
        go_wp2_with fail
        go_at_call 14
        refine (implActionFault_calls 5 ch st true ns _ _ hn (h1.below bel0)).mono ?_
        rintro e w1 ⟨rfl, hb⟩
        replace hA := hA.belowb hb
        replace hR := hR.belowb hb
        have bel1 := bel0.trans (hb.mono bel0.size)
        have z1 : w.heap.size + 2 ≤ w1.heap.size := by have := hb.size; simp at this; omega
        clear hb bel0
        rw [hc]
        have HTB : ∀ w', Below w.heap.size w w' → Lib.TabIs Tryd.prog w' "internal/strconv.uint64pow10" .u64 Lib.pow10Tab := Lib.tabBelow_of_tabIs htab
        have cw := cellb bel1 cw0
        have b0 := hA.at 0 rfl
        have own1 : (w1.alloc (.cells #[.string ws] 9)).ownsRow w1.heap.size 9 1 (.slice (some ⟨w1.heap.size, 0, none⟩) 1 1) 1 [.string ws] := World.ownsRow_lit (base := w1.heap.size) (e := 9) (size := 1) w1 #[.string ws] 1 (Nat.le_refl _) (by unfold maxLen; omega) rfl
        have hA1 := hA.alloc (.cells #[.string ws] 9)
        have a0 := hA1.at 0 rfl
        have a1 := hA1.at 1 rfl
        have a2 := hA1.at 2 rfl
        have a3 := hA1.at 3 rfl
        have a4 := hA1.at 4 rfl
        have bel2 : Below w1.heap.size w1 (w1.alloc (.cells #[.string ws] 9)) := (Below.refl _ w1).alloc (Nat.le_refl _) _
        go_wp2_with (first | fail)
        go_at_call 15
        refine (numberText_calls ch _ hch.1 (by omega) (HTB _ (bel1.trans (bel2.mono (by omega))))).mono ?_
        rintro e w2 ⟨rfl, hb⟩
        replace own1 := own_belowS own1 hb
        have bel3 : Below w1.heap.size w1 w2 := bel2.trans (hb.mono bel2.size)
        have zz2 := bel3.size
        obtain ⟨da, hda⟩ : ∃ x, Hid (strOfNums (digL ch) = x) := ⟨_, hide rfl⟩
        rw [hda.out]
        clear hb a0 a1 a2 a3 a4
        have a0 := (hA.below bel3 hA.lt).at 0 rfl; have a1 := (hA.below bel3 hA.lt).at 1 rfl; have a2 := (hA.below bel3 hA.lt).at 2 rfl; have a3 := (hA.below bel3 hA.lt).at 3 rfl; have a4 := (hA.below bel3 hA.lt).at 4 rfl
        go_wp2_with (first | fail | (at_builtin; refine wpList_append_own _ rfl (.tmp 21) (.tmp 25) 37 rfl w1.heap.size 9 i0 (.string ⟨#[]⟩) 1 16 Tryd.underlying37 hi hz0 hz1 hz2 rfl (by decide) _ _ _ rfl (own1.alloc _) ⟨w2.heap.size, 0, none⟩ 1 1 [.string da] rfl rfl str_new one_str (by show 1 + 1 ≤ maxLen; unfold maxLen; omega) (by show (1 + 1) * 16 ≤ 140737488355328; omega) (by simp; omega) ?_; intro v3' w3 own' hgr hnil; have own3 : w3.ownsRow w1.heap.size 9 1 v3' 2 [.string ws, .string da] := own'; have bel4 : Below w1.heap.size w1 w3 := (bel3.alloc (by omega) _).grown hgr (by simp; omega) (fun g hg => (own1.lt g hg).1); have zz3 := bel4.size; clear hgr own' hnil a0 a1 a2 a3 a4; have a0 := (hA.below bel4 hA.lt).at 0 rfl; have a1 := (hA.below bel4 hA.lt).at 1 rfl; have a2 := (hA.below bel4 hA.lt).at 2 rfl; have a3 := (hA.below bel4 hA.lt).at 3 rfl; have a4 := (hA.below bel4 hA.lt).at 4 rfl))
        go_at_call 15
        refine (numberText_calls st _ (by omega) (by omega) (HTB _ (bel1.trans (bel4.mono (by omega))))).mono ?_
        rintro e w4 ⟨rfl, hb⟩
        replace own3 := own_belowS own3 hb
        have bel5 : Below w1.heap.size w1 w4 := bel4.trans (hb.mono bel4.size)
        have zz4 := bel5.size
        obtain ⟨db, hdb⟩ : ∃ x, Hid (strOfNums (digL st) = x) := ⟨_, hide rfl⟩
        rw [hdb.out]
        clear hb a0 a1 a2 a3 a4
        have a0 := (hA.below bel5 hA.lt).at 0 rfl; have a1 := (hA.below bel5 hA.lt).at 1 rfl; have a2 := (hA.below bel5 hA.lt).at 2 rfl; have a3 := (hA.below bel5 hA.lt).at 3 rfl; have a4 := (hA.below bel5 hA.lt).at 4 rfl
        have HW0 : strs (wordsTo 5 ch st true ns 0) = [.string ws, .string da, .string db, .string ⟨#[112, 114, 105, 118, 97, 116, 101]⟩] := by
          rw [← hws.out, ← hda.out, ← hdb.out]
          rfl
        have hln : (wordsTo 5 ch st true ns 0).length = 4 := rfl
        have hlen := fun j hj => textTo_len hF j hj
        have hl6 := hF.l
        have hnn := hF.n
        clear hF hc
        go_wp2_with (first | fail | (at_builtin; refine wpList_append_own _ rfl (.tmp 30) (.tmp 34) 37 rfl w1.heap.size 9 i0 (.string ⟨#[]⟩) 1 16 Tryd.underlying37 hi hz0 hz1 hz2 rfl (by decide) _ _ _ rfl (own3.alloc _) ⟨w4.heap.size, 0, none⟩ 1 1 [.string db] rfl rfl str_new one_str (by show 2 + 1 ≤ maxLen; unfold maxLen; omega) (by show (2 + 1) * 16 ≤ 140737488355328; omega) (by simp; omega) ?_; intro v5' w5 own' hgr hnil; have own5 : w5.ownsRow w1.heap.size 9 1 v5' 3 [.string ws, .string da, .string db] := own'; have bel6 : Below w1.heap.size w1 w5 := (bel5.alloc (by omega) _).grown hgr (by simp; omega) (fun g hg => (own3.lt g hg).1); have zz5 := bel6.size; clear hgr own' hnil a0 a1 a2 a3 a4; have a0 := (hA.below bel6 hA.lt).at 0 rfl; have a1 := (hA.below bel6 hA.lt).at 1 rfl; have a2 := (hA.below bel6 hA.lt).at 2 rfl; have a3 := (hA.below bel6 hA.lt).at 3 rfl; have a4 := (hA.below bel6 hA.lt).at 4 rfl) | (at_builtin; refine wpList_append_own _ rfl (.tmp 38) (.tmp 39) 37 rfl w1.heap.size 9 i0 (.string ⟨#[]⟩) 1 16 Tryd.underlying37 hi hz0 hz1 hz2 rfl (by decide) _ _ _ rfl (own5.alloc _) ⟨w5.heap.size, 0, none⟩ 1 1 [.string ⟨#[112, 114, 105, 118, 97, 116, 101]⟩] rfl rfl str_new one_str (by show 3 + 1 ≤ maxLen; unfold maxLen; omega) (by show (3 + 1) * 16 ≤ 140737488355328; omega) (by simp; omega) ?_; intro v6' w6 own' hgr hnil; have own6 : w6.ownsRow w1.heap.size 9 1 v6' 4 [.string ws, .string da, .string db, .string ⟨#[112, 114, 105, 118, 97, 116, 101]⟩] := own'; have bel7 : Below w1.heap.size w1 w6 := (bel6.alloc (by omega) _).grown hgr (by simp; omega) (fun g hg => (own5.lt g hg).1); have zz6 := bel7.size; clear hgr own' hnil a0 a1 a2 a3 a4; have a0 := (hA.below bel7 hA.lt).at 0 rfl; have a1 := (hA.below bel7 hA.lt).at 1 rfl; have a2 := (hA.below bel7 hA.lt).at 2 rfl; have a3 := (hA.below bel7 hA.lt).at 3 rfl; have a4 := (hA.below bel7 hA.lt).at 4 rfl))
        have HO0 : Hid (w6.ownsRow w1.heap.size 9 1 v6' (wordsTo 5 ch st true ns 0).length (strs (wordsTo 5 ch st true ns 0))) := hide (by rw [HW0, hln]; exact own6)
        clear HW0 hln own6
        go_loopw [4, 44] (fun o i wr => ∃ j : Nat, j ≤ ns.length ∧ i = .int .i64 j ∧ Hid (wr.ownsRow w1.heap.size 9 1 o (wordsTo 5 ch st true ns j).length (strs (wordsTo 5 ch st true ns j))) ∧ Below w1.heap.size w1 wr) (fun _ i _ => ns.length - (intOf i).toNat)
        case atStart => exact ⟨0, Nat.zero_le _, rfl, HO0, bel7⟩
        case round =>
          obtain ⟨j, hj, rfl, hO, hb⟩ := hrel
          have hRr := hR.below hb hR.lt
          have belr := bel1.trans (hb.mono (by omega))
          have hlj := hlen j hj
          have hne := wordsTo_ne 5 ch st true ns j
          have hwl : (wordsTo 5 ch st true ns j).length = 4 + j := wordsTo_len _ _ _ _ _ _
          have zr := hb.size
          by_cases hlt : j < ns.length
          · have hltI : (j : Int) < (ns.length : Int) := by omega
            obtain ⟨b9, o9, e9, hcell⟩ := (h1.below belr).spot j hlt
            subst e9
            have hnj := hnn j hlt
            have hs : wordsTo 5 ch st true ns (j + 1) = wordsTo 5 ch st true ns j ++ [digL (ns.getD j 0)] := rfl
            obtain ⟨WS, hWS⟩ : ∃ z, wordsTo 5 ch st true ns j = z := ⟨_, rfl⟩
            have hO' := hO.out
            rw [hWS] at hO' hs hwl
            obtain ⟨n0, hn0⟩ : ∃ z, ns.getD j 0 = z := ⟨_, rfl⟩
            rw [hn0] at hcell hnj hs
            have HS := hide hs
            clear hs hn0 hWS hne hlj hO hlen hnn
            go_wp2_with fail
            go_at_call 15
            refine (numberText_calls n0 _ hnj.1 (by omega) (HTB _ belr)).mono ?_
            rintro e w8 ⟨rfl, hb'⟩
            have own8 := own_belowS hO' hb'
            have bel8 : Below w1.heap.size w1 w8 := hb.trans (hb'.mono zr)
            have zz8 := bel8.size
            obtain ⟨dn, hdn⟩ : ∃ x, Hid (strOfNums (digL n0) = x) := ⟨_, hide rfl⟩
            rw [hdn.out]
            clear hb' hO'
            go_wp2_with (first | fail | (at_builtin; refine wpList_append_own _ rfl (.tmp 48) (.tmp 51) 37 rfl w1.heap.size 9 i0 (.string ⟨#[]⟩) 1 16 Tryd.underlying37 hi hz0 hz1 hz2 rfl (by decide) _ _ _ rfl (own8.alloc _) ⟨w8.heap.size, 0, none⟩ 1 1 [.string dn] rfl rfl str_new one_str (by show WS.length + 1 ≤ maxLen; unfold maxLen; omega) (by show (WS.length + 1) * 16 ≤ 140737488355328; omega) (by simp; omega) ?_; intro v9' w9 own' hgr hnil; have own9 : w9.ownsRow w1.heap.size 9 1 v9' (WS.length + 1) (strs WS ++ [.string dn]) := own'; have bel9 : Below w1.heap.size w1 w9 := (bel8.alloc (by omega) _).grown hgr (by simp; omega) (fun g hg => (own8.lt g hg).1); clear hgr own' hnil))
            have HO9 : Hid (w9.ownsRow w1.heap.size 9 1 v9' (wordsTo 5 ch st true ns (j + 1)).length (strs (wordsTo 5 ch st true ns (j + 1)))) := by
              refine hide ?_
              rw [HS.out, List.length_append]
              have e1 : strs (WS ++ [digL n0]) = strs WS ++ [.string dn] := by rw [← hdn.out]; simp [strs]
              rw [e1]
              exact own9
            clear own9
            go_roundw
            case rel => exact ⟨j + 1, by omega, by go_num, HO9, bel9⟩
            case measure => simp [intOf]; omega
          · obtain rfl : j = ns.length := by omega
            obtain ⟨BS, g, cap, hBS, rfl, hcap, hg, hcells⟩ := own_strs hO.out hne
            have hjl := join_len hBS.out
            have hjs := join_of hBS.out
            have hjw : BS.length = 4 + ns.length := by rw [hBS.out, List.length_map]; exact hwl
            have hln : (joinN (wordsTo 5 ch st true ns ns.length)).length ≤ 40 + 7 * ns.length := hlj
            obtain ⟨xs, hxs⟩ : ∃ z, Hid (strOfNums (joinN (wordsTo 5 ch st true ns ns.length)) = z) := ⟨_, hide rfl⟩
            have HTX : Hid (strOfNums (textTo 5 ch st true ns ns.length) = xs) := hide hxs.out
            have HJ : Hid (Calls Tryd.prog 16 #[.slice (some ⟨g, 0, none⟩) BS.length cap, .string ⟨#[32]⟩] wr fun e w' => e = .returned (.string xs) ∧ Below wr.heap.size wr w') := hide (by rw [← hxs.out, hjs]; exact Any.strings_Join at_lays156 at_Builder_Extra_156 g 0 cap BS ⟨#[32]⟩ wr hcells hg (by omega) hcap (by omega))
            clear hjs hjl hO hcells hlen hnn hlj hln hjw hwl hne hxs
            go_wp2_with fail
            go_at_call 16
            refine HJ.out.mono ?_
            rintro e w8 ⟨rfl, hb8⟩
            have hR := hRr.belowb hb8
            have bel8 := belr.trans (hb8.mono belr.size)
            have zz8 := hb8.size
            clear hb8 hRr
            go_wp2_with (first | fail | (refine wpList_build_at rfl 27 _ rfl #[.int .i64 0, .string xs] (by first | rfl | kernel_rfl) ?_; (try simp only [Act.put, List.setIfInBounds_toArray, List.set_cons_zero, List.set_cons_succ])) | (refine wpList_store_blk rfl _ _ _ rfl (w.heap.size + 1) 0 #[.int .i64 0, .string ⟨#[]⟩] #[.int .i64 0, .string xs] (.agg #[.int .i64 0, .string xs]) rfl rfl hR rfl (by kernel_rfl) rfl rfl ?_; (try simp only [Act.put, List.setIfInBounds_toArray, List.set_cons_zero, List.set_cons_succ]); clear hR; intro w9 hR hu))
            exact bodyPost_ret (results_blk hR _ _ rfl rfl Tryd.underlying27 rfl (by kernel_rfl)) rfl ⟨by rw [HTX.out], bel8.trans (hu.below (by omega))⟩
  · rw [if_neg hc]
    obtain ⟨code, hcd⟩ : ∃ c, actCode kd ch st pv ns = c := ⟨_, rfl⟩
    rw [hcd]
    have hne : (code != 0) = true := by rw [← hcd]; simpa using hc
    have HC := hide hcd
    clear hc hcd
    go_enter Tryd.func7, Tryd.ntmps7
    go_wp2_with fail
    go_at_call 14
    refine (implActionFault_calls kd ch st pv ns _ _ hn (h1.below bel0)).mono ?_
    rintro e w1 ⟨rfl, hb⟩
    replace hA := hA.belowb hb
    replace hR := hR.belowb hb
    have bel1 := bel0.trans (hb.mono bel0.size)
    have z1 : w.heap.size + 2 ≤ w1.heap.size := by have := hb.size; simp at this; omega
    clear hb bel0
    rw [HC.out]
    go_wp2_with (first | (refine wpList_build_at rfl 27 _ rfl #[.int .i64 code, .string ⟨#[]⟩] (by first | rfl | kernel_rfl) ?_; (try simp only [Act.put, List.setIfInBounds_toArray, List.set_cons_zero, List.set_cons_succ])) | (refine wpList_store_blk rfl _ _ _ rfl (w.heap.size + 1) 0 #[.int .i64 0, .string ⟨#[]⟩] #[.int .i64 code, .string ⟨#[]⟩] (.agg #[.int .i64 code, .string ⟨#[]⟩]) rfl rfl hR rfl (by kernel_rfl) rfl rfl ?_; (try simp only [Act.put, List.setIfInBounds_toArray, List.set_cons_zero, List.set_cons_succ]); clear hR; intro w9 hR hu))
    exact bodyPost_ret (results_blk hR _ _ rfl rfl Tryd.underlying27 rfl (by kernel_rfl)) rfl ⟨rfl, bel1.trans (hu.below (by omega))⟩
end Go.Proofs.YtbeidafmnbjibabDoor
