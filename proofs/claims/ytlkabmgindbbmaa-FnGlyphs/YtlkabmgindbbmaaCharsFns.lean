/-
  What CharsOf answers, of the program and of the model.
-/
import Derived.Test.YtlkabmgindbbmaaRows
import Derived.Test.YtlkabmgindbbmaaMapFns
import Derived.Test.YtlkabmgindbbmaaMapChars
import Derived.Test.YtlkabmgindbbmaaMapFont
import Derived.Test.YtlkabmgindbbmaaFontFaults
import Derived.Test.YtlkabmgindbbmaaResMem
import Derived.Test.YtlkabmgindbbmaaAppendStep
import Derived.Maps.OwnSet
import Derived.Maps.OwnOps
import Derived.Deep.RegionHeld
namespace Go.Proofs.Ytlkabmgindbbmaa
set_option maxRecDepth 20000
open Go.ChangeShapes Go.WideShapes Go.ChangeAt Go.RowKit Go.Maps
set_option linter.unusedVariables false
set_option linter.unusedSimpArgs false

/-- The characters of a glyph. -/
def chs (ps : List (Int × Int)) (g : Int) : List Int := (ps.filter (fun p => p.2 == g)).map (·.1)
theorem chs_length (ps : List (Int × Int)) (g : Int) : (chs ps g).length ≤ ps.length := by unfold chs; rw [List.length_map]; exact List.length_filter_le _ _
theorem chs_hit {ps : List (Int × Int)} {k : Nat} {g : Int} (hk : k < ps.length) (hc : (ps.getD k (0, 0)).2 = g) : chs (ps.take (k + 1)) g = chs (ps.take k) g ++ [(ps.getD k (0, 0)).1] := by
  rw [getD_at hk] at hc ⊢
  unfold chs
  rw [List.take_succ_eq_append_getElem hk, List.filter_append, List.filter_cons_of_pos (by simp [hc]), List.filter_nil, List.map_append]
  rfl
theorem chs_miss {ps : List (Int × Int)} {k : Nat} {g : Int} (hk : k < ps.length) (hc : (ps.getD k (0, 0)).2 ≠ g) : chs (ps.take (k + 1)) g = chs (ps.take k) g := by
  rw [getD_at hk] at hc
  unfold chs
  rw [List.take_succ_eq_append_getElem hk, List.filter_append, List.filter_cons_of_neg (by simp [hc]), List.filter_nil, List.append_nil]
def chCode (fb : Int) (ps : List (Int × Int)) (g : Int) : Int := if fontCode fb ps = 0 then (if glB g = true then 0 else 3) else fontCode fb ps
def chList (fb : Int) (ps : List (Int × Int)) (g : Int) : List Int := if fontCode fb ps = 0 then (if glB g = true then chs ps g else []) else []
theorem chList_length (fb : Int) (ps : List (Int × Int)) (g : Int) : (chList fb ps g).length ≤ 20 := by
  unfold chList
  split
  · rename_i h
    have h1 := (fine_of_code h).len
    have h2 := chs_length ps g
    split
    · omega
    · simp
  · simp

set_option maxHeartbeats 2000000 in
theorem implCharsOf_calls (fb : Int) (ps : List (Int × Int)) (g : Int) (v : Value) (w : World) (hn : ps.length ≤ 1048576) (h1 : PRead w v ps) :
    Calls Try.prog 34 #[.agg #[.int .i64 fb, v], .int .i64 g] w fun e w' => ∃ x, e = .returned (.agg #[.int .i64 (chCode fb ps g), x]) ∧ IntsAt .i64 w.heap.size w'.heap.size w' x (chList fb ps g) ∧ Below w.heap.size w w' := by
  have hb0 : Below w.heap.size w ((w.alloc (.cells #[.int .i64 fb, v] 50)).alloc (.cells #[.int .i64 0, .slice none 0 0] 46)) := (by repeat' (first | with_reducible exact Below.refl _ _ | with_reducible assumption | with_reducible refine Below.drew ?_ | with_reducible refine Below.alloc ?_ ?_ _ | with_reducible refine Below.setCell ?_ ?_ _ | (simp; done) | (simp; omega) | omega))
  have HF := implFontFault_calls fb ps v ((w.alloc (.cells #[.int .i64 fb, v] 50)).alloc (.cells #[.int .i64 0, .slice none 0 0] 46)) hn (h1.below hb0)
  by_cases hc0 : fontCode fb ps = 0
  · have hfi := fine_of_code hc0
    have HFi := hide hfi
    clear hfi
    rw [hc0] at HF
    cases hgl : glB g with
    | false =>
      have e1 : chCode fb ps g = 3 := by unfold chCode; rw [if_pos hc0, hgl]; rfl
      have e2 : chList fb ps g = [] := by unfold chList; rw [if_pos hc0, hgl]; rfl
      have hgd : decide (0 ≤ g ∧ g ≤ 255) = false := hgl
      rw [e1, e2]
      clear e1 e2 hc0
      go_enter Try.func34, Try.ntmps34
      go_wp2_with fail
      refine HF.mono ?_
      rintro e w1 ⟨rfl, hb1⟩
      have A0 : w1.cell? ⟨w.heap.size, 0, none⟩ = some (.int .i64 fb) := cellb hb1 (by simp)
      have A1 : w1.cell? ⟨w.heap.size, 1, none⟩ = some v := cellb hb1 (by simp)
      have R0 : w1.cell? ⟨w.heap.size + 1, 0, none⟩ = some (.int .i64 0) := cellb hb1 (by simp)
      have Z0 : w1.frozen? ⟨w.heap.size + 1, 0, none⟩ = false := by rw [hb1.frozen (p := ⟨w.heap.size + 1, 0, none⟩) (by simp)]; simp
      have R1 : w1.cell? ⟨w.heap.size + 1, 1, none⟩ = some (.slice none 0 0) := cellb hb1 (by simp)
      have Z1 : w1.frozen? ⟨w.heap.size + 1, 1, none⟩ = false := by rw [hb1.frozen (p := ⟨w.heap.size + 1, 1, none⟩) (by simp)]; simp
      have hb2 : Below w.heap.size w w1 := hb0.trans (hb1.mono (by simp; omega))
      have hs1 : w.heap.size + 2 ≤ w1.heap.size := by have := hb1.size; simp at this; omega
      clear hb1 hb0
      go_wp2_with (go_at_call 63; refine (isGlyph_calls g _).mono ?_; rintro e w' ⟨rfl, hw⟩; rw [hw, hgl]; clear hw w')
      have hr := res2 (w := w1) (r := w.heap.size + 1) (.int .i64 3) (.slice none 0 0) R0 R1
      try go_wp2
      refine bodyPost_ret (v := .agg #[.int .i64 3, .slice none 0 0]) (by simp only [results, Try.results34]; simp [go_sem, hr.1, hr.2]) rfl ⟨_, rfl, IntsAt.nil _ _ _ _ _ _, (by repeat' (first | with_reducible exact Below.refl _ _ | with_reducible assumption | with_reducible refine Below.drew ?_ | with_reducible refine Below.alloc ?_ ?_ _ | with_reducible refine Below.setCell ?_ ?_ _ | (simp; done) | (simp; omega) | omega))⟩
    | true =>
      have e1 : chCode fb ps g = 0 := by unfold chCode; rw [if_pos hc0, hgl]; rfl
      have e2 : chList fb ps g = chs ps g := by unfold chList; rw [if_pos hc0, hgl]; rfl
      have hgd : decide (0 ≤ g ∧ g ≤ 255) = true := hgl
      rw [e1, e2]
      clear e1 e2 hc0
      obtain ⟨i0, hi, hz0, hz1, hz2⟩ := info_parts info_i64
      go_enter Try.func34, Try.ntmps34
      go_wp2_with fail
      refine HF.mono ?_
      rintro e w1 ⟨rfl, hb1⟩
      have A0 : w1.cell? ⟨w.heap.size, 0, none⟩ = some (.int .i64 fb) := cellb hb1 (by simp)
      have A1 : w1.cell? ⟨w.heap.size, 1, none⟩ = some v := cellb hb1 (by simp)
      have R0 : w1.cell? ⟨w.heap.size + 1, 0, none⟩ = some (.int .i64 0) := cellb hb1 (by simp)
      have Z0 : w1.frozen? ⟨w.heap.size + 1, 0, none⟩ = false := by rw [hb1.frozen (p := ⟨w.heap.size + 1, 0, none⟩) (by simp)]; simp
      have R1 : w1.cell? ⟨w.heap.size + 1, 1, none⟩ = some (.slice none 0 0) := cellb hb1 (by simp)
      have Z1 : w1.frozen? ⟨w.heap.size + 1, 1, none⟩ = false := by rw [hb1.frozen (p := ⟨w.heap.size + 1, 1, none⟩) (by simp)]; simp
      have hb2 : Below w.heap.size w w1 := hb0.trans (hb1.mono (by simp; omega))
      have hs1 : w.heap.size + 2 ≤ w1.heap.size := by have := hb1.size; simp at this; omega
      clear hb1 hb0
      go_wp2_with (go_at_call 63; refine (isGlyph_calls g _).mono ?_; rintro e w' ⟨rfl, hw⟩; rw [hw, hgl]; clear hw w')
      have hfi := HFi.out
      refine (glyphsOf_calls fb ps _ _ hfi.sorted hfi.ok hfi.len (h1.below hb2)).mono ?_
      rintro e w3 ⟨bm, rfl, hbm, hmap, hb3⟩
      replace R0 := cellb hb3 R0
      replace Z0 : w3.frozen? ⟨w.heap.size + 1, 0, none⟩ = false := by rw [hb3.frozen (p := ⟨w.heap.size + 1, 0, none⟩) (by simp; omega)]; exact Z0
      replace R1 := cellb hb3 R1
      replace Z1 : w3.frozen? ⟨w.heap.size + 1, 1, none⟩ = false := by rw [hb3.frozen (p := ⟨w.heap.size + 1, 1, none⟩) (by simp; omega)]; exact Z1
      have hb4 := hb2.trans (hb3.mono (by omega))
      have hs3 : w1.heap.size ≤ w3.heap.size := hb3.size
      have hlm := hfi.len
      have HST := hide hfi.sorted
      have HWF : Hid (∀ p ∈ ps, wf64 p.1) := fun p hp => (prB_wf (hfi.ok p hp)).1
      clear hb3 hb2 hfi HFi A0 A1
      go_wp2_with fail
      refine (chars_calls bm ps.length ps w3 (by omega) hmap HWF.out).mono ?_
      rintro e w5 ⟨x5, rfl, hx5, hb5⟩
      replace R0 := cellb hb5 R0
      replace Z0 : w5.frozen? ⟨w.heap.size + 1, 0, none⟩ = false := by rw [hb5.frozen (p := ⟨w.heap.size + 1, 0, none⟩) (by simp; omega)]; exact Z0
      replace R1 := cellb hb5 R1
      replace Z1 : w5.frozen? ⟨w.heap.size + 1, 1, none⟩ = false := by rw [hb5.frozen (p := ⟨w.heap.size + 1, 1, none⟩) (by simp; omega)]; exact Z1
      have hb6 := hb4.trans (hb5.mono (by omega))
      have hs5 : w3.heap.size ≤ w5.heap.size := hb5.size
      have hmap5 := hmap.below hb5
      obtain ⟨ax, cx, rfl, hx5'⟩ := hx5
      have HX : Hid (IntsAt .i64 w3.heap.size w5.heap.size w5 (.slice ax (ps.map (·.1)).length cx) (ps.map (·.1))) := ⟨ax, cx, rfl, hx5'⟩
      simp only [List.length_map]
      clear hx5' hb5 hb4 hmap
      go_wp2_with fail
      go_loopw [7, 25] (fun o i wr => ∃ k : Nat, k ≤ ps.length ∧ i = .int .i64 k ∧ wr.ownsRow w5.heap.size 2 1 o (chs (ps.take k) g).length ((chs (ps.take k) g).map (Value.int .i64)) ∧ Below w5.heap.size w5 wr) (fun _ i _ => ps.length - (intOf i).toNat)
      case atStart => exact ⟨0, Nat.zero_le _, rfl, by simpa [chs] using World.ownsRow_nil _ _ _ _, Below.refl _ _⟩
      case round =>
        obtain ⟨k, hkk, rfl, hown, hb⟩ := hrel
        have hsz : w5.heap.size ≤ wr.heap.size := hb.size
        by_cases hlt : k < ps.length
        · have hxr := HX.out.below hb (Nat.le_refl _)
          have hlt2 : k < (ps.map (·.1)).length := by simpa using hlt
          obtain ⟨a', c', hv', hx'⟩ := hxr
          have hpos : ps.map (·.1) ≠ [] := by intro h; rw [h] at hlt2; simp at hlt2
          rcases hx' with hx' | ⟨bx, ox, ha', _, _, hx'⟩
          · exact absurd hx' hpos
          have ha1 : ax = a' := by simp at hv'; exact hv'.1
          have ha2 : ax = some ⟨bx, ox, none⟩ := by rw [ha1, ha']
          subst ha2
          obtain ⟨g1, _⟩ := hx' k hlt2
          have hg : (ps.map (·.1)).getD k 0 = (ps.getD k (0, 0)).1 := by simp [List.getD_eq_getElem?_getD, hlt]
          rw [hg] at g1
          have hlk : lk ps (ps.getD k (0, 0)).1 = some (ps.getD k (0, 0)).2 := (lk_some HST.out).2 (by rw [getD_at hlt]; exact List.getElem_mem hlt)
          have hwk : wf64 (ps.getD k (0, 0)).1 := HWF.out _ (by rw [getD_at hlt]; exact List.getElem_mem hlt)
          have hrun := (hmap5.below hb).look hwk hlk
          have hltI : (k : Int) < (ps.length : Int) := by omega
          have HH := hide (chs_hit (g := g) hlt)
          have HM := hide (chs_miss (g := g) hlt)
          have hle : (chs (ps.take k) g).length ≤ k := Nat.le_trans (chs_length _ _) (List.length_take_le _ _)
          clear hx' hpos hlt2 hv' ha' ha1 hg HX hlk hwk
          generalize (ps.getD k (0, 0)).1 = pc at *
          generalize (ps.getD k (0, 0)).2 = pg at *
          by_cases he : pg = g
          · subst he
            have hee : (pg == pg) = true := by simp
            have E1 := hide (HH.out rfl)
            have hown2 := hown.alloc (.cells #[.int .i64 pc] 2)
            clear HH HM
            go_wp2_with (at_builtin; refine wpList_append_own _ rfl (.tmp 35) (.tmp 37) 28 rfl w5.heap.size 2 i0 (.int .i64 0) 1 8 Try.underlying28 hi hz0 hz1 hz2 rfl (by decide) _ _ _ rfl hown2 ⟨wr.heap.size, 0, none⟩ 1 1 [.int .i64 pc] rfl rfl (new_row_at rfl rfl) (ints_one_cell .i64 [pc]) (by unfold maxLen; omega) (by omega) (by simp; omega) ?_)
            intro o' w7 hown7 hgrow7 _
            have hb7 : Below w5.heap.size w5 w7 := (hb.alloc hsz _).grown hgrow7 (by simp; omega) (fun q hq => (hown2.lt q hq).1)
            clear hgrow7 hown2 hown
            go_wp2
            go_roundw
            case rel =>
              refine ⟨k + 1, by omega, by go_num, ?_, hb7⟩
              rw [E1.out, List.length_append, List.map_append]
              exact hown7
            case measure => simp [intOf]; omega
          · have hee : (pg == g) = false := by simpa using he
            have E1 := hide (HM.out he)
            clear HH HM
            go_wp2
            go_roundw
            case rel => exact ⟨k + 1, by omega, by go_num, by rw [E1.out]; exact hown, hb⟩
            case measure => simp [intOf]; omega
        · have hk' : k = ps.length := by omega
          subst hk'
          rw [List.take_length] at hown
          have hx := own_ints hown (Nat.le_refl _)
          obtain ⟨ao, co, rfl, hx'⟩ := hx
          have hx : IntsAt .i64 w5.heap.size wr.heap.size wr (.slice ao (chs ps g).length co) (chs ps g) := ⟨ao, co, rfl, hx'⟩
          have hge : ¬ ((ps.length : Int) < (ps.length : Int)) := by omega
          replace R0 := cellb hb R0
          replace Z0 : wr.frozen? ⟨w.heap.size + 1, 0, none⟩ = false := by rw [hb.frozen (p := ⟨w.heap.size + 1, 0, none⟩) (by simp; omega)]; exact Z0
          replace R1 := cellb hb R1
          replace Z1 : wr.frozen? ⟨w.heap.size + 1, 1, none⟩ = false := by rw [hb.frozen (p := ⟨w.heap.size + 1, 1, none⟩) (by simp; omega)]; exact Z1
          have hb8 := hb6.trans (hb.mono (by omega))
          clear hown hx' hb
          have hr := res2 (w := wr) (r := w.heap.size + 1) (.int .i64 0) (.slice ao (chs ps g).length co) R0 R1
          go_wp2
          refine bodyPost_ret (v := .agg #[.int .i64 0, .slice ao (chs ps g).length co]) (by simp only [results, Try.results34]; simp [go_sem, hr.1, hr.2]) rfl ⟨_, rfl, ?_, (by repeat' (first | with_reducible exact Below.refl _ _ | with_reducible assumption | with_reducible refine Below.drew ?_ | with_reducible refine Below.alloc ?_ ?_ _ | with_reducible refine Below.setCell ?_ ?_ _ | (simp; done) | (simp; omega) | omega))⟩
          refine (hx.of_blocks ?_).mono (by omega) (by simp [World.setCell])
          intro i hi _
          simp only [World.setCell, Array.getElem?_modify]
          repeat rw [if_neg (by omega)]
  · have e1 : chCode fb ps g = fontCode fb ps := by unfold chCode; rw [if_neg hc0]
    have e2 : chList fb ps g = [] := by unfold chList; rw [if_neg hc0]
    rw [e1, e2]
    clear e1 e2
    generalize fontCode fb ps = code at *
    have hcb : (code != 0) = true := by simpa using hc0
    go_enter Try.func34, Try.ntmps34
    go_wp2_with fail
    refine HF.mono ?_
    rintro e w1 ⟨rfl, hb1⟩
    have A0 : w1.cell? ⟨w.heap.size, 0, none⟩ = some (.int .i64 fb) := cellb hb1 (by simp)
    have A1 : w1.cell? ⟨w.heap.size, 1, none⟩ = some v := cellb hb1 (by simp)
    have R0 : w1.cell? ⟨w.heap.size + 1, 0, none⟩ = some (.int .i64 0) := cellb hb1 (by simp)
    have Z0 : w1.frozen? ⟨w.heap.size + 1, 0, none⟩ = false := by rw [hb1.frozen (p := ⟨w.heap.size + 1, 0, none⟩) (by simp)]; simp
    have R1 : w1.cell? ⟨w.heap.size + 1, 1, none⟩ = some (.slice none 0 0) := cellb hb1 (by simp)
    have Z1 : w1.frozen? ⟨w.heap.size + 1, 1, none⟩ = false := by rw [hb1.frozen (p := ⟨w.heap.size + 1, 1, none⟩) (by simp)]; simp
    have hb2 : Below w.heap.size w w1 := hb0.trans (hb1.mono (by simp; omega))
    have hs1 : w.heap.size + 2 ≤ w1.heap.size := by have := hb1.size; simp at this; omega
    clear hb1 hb0
    have hr := res2 (w := w1) (r := w.heap.size + 1) (.int .i64 code) (.slice none 0 0) R0 R1
    go_wp2
    refine bodyPost_ret (v := .agg #[.int .i64 code, .slice none 0 0]) (by simp only [results, Try.results34]; simp [go_sem, hr.1, hr.2]) rfl ⟨_, rfl, IntsAt.nil _ _ _ _ _ _, (by repeat' (first | with_reducible exact Below.refl _ _ | with_reducible assumption | with_reducible refine Below.drew ?_ | with_reducible refine Below.alloc ?_ ?_ _ | with_reducible refine Below.setCell ?_ ?_ _ | (simp; done) | (simp; omega) | omega))⟩

set_option maxHeartbeats 2000000 in
theorem specCharsOf_calls (fb : Int) (ps : List (Int × Int)) (g : Int) (v : Value) (w : World) (hn : ps.length ≤ 1048576) (h1 : PRead w v ps) :
    Calls Try.prog 38 #[.agg #[.int .i64 fb, v], .int .i64 g] w fun e w' => ∃ x, e = .returned (.agg #[.int .i64 (chCode fb ps g), x]) ∧ IntsAt .i64 w.heap.size w'.heap.size w' x (chList fb ps g) ∧ Below w.heap.size w w' := by
  have hb0 : Below w.heap.size w ((w.alloc (.cells #[.int .i64 fb, v] 50)).alloc (.cells #[.int .i64 0, .slice none 0 0] 46)) := (by repeat' (first | with_reducible exact Below.refl _ _ | with_reducible assumption | with_reducible refine Below.drew ?_ | with_reducible refine Below.alloc ?_ ?_ _ | with_reducible refine Below.setCell ?_ ?_ _ | (simp; done) | (simp; omega) | omega))
  have HF : Calls Try.prog 60 #[.pointer (some ⟨w.heap.size, 0, none⟩)] ((w.alloc (.cells #[.int .i64 fb, v] 50)).alloc (.cells #[.int .i64 0, .slice none 0 0] 46)) fun e w' => e = .returned (.int .i64 (fontCode fb ps)) ∧ Below ((w.alloc (.cells #[.int .i64 fb, v] 50)).alloc (.cells #[.int .i64 0, .slice none 0 0] 46)).heap.size ((w.alloc (.cells #[.int .i64 fb, v] 50)).alloc (.cells #[.int .i64 0, .slice none 0 0] 46)) w' := (l2Fault_calls fb ps v w.heap.size ((w.alloc (.cells #[.int .i64 fb, v] 50)).alloc (.cells #[.int .i64 0, .slice none 0 0] 46)) hn (h1.below hb0) (by simp) (by simp)).mono fun e w' ⟨he, n, hw⟩ => ⟨he, by rw [hw]; exact below_drewN (Below.refl _ _) n⟩
  by_cases hc0 : fontCode fb ps = 0
  · have hfi := fine_of_code hc0
    have HFi := hide hfi
    clear hfi
    rw [hc0] at HF
    cases hgl : glB g with
    | false =>
      have e1 : chCode fb ps g = 3 := by unfold chCode; rw [if_pos hc0, hgl]; rfl
      have e2 : chList fb ps g = [] := by unfold chList; rw [if_pos hc0, hgl]; rfl
      have hgd : decide (0 ≤ g ∧ g ≤ 255) = false := hgl
      rw [e1, e2]
      clear e1 e2 hc0
      go_enter Try.func38, Try.ntmps38
      go_wp2_with fail
      refine HF.mono ?_
      rintro e w1 ⟨rfl, hb1⟩
      have A0 : w1.cell? ⟨w.heap.size, 0, none⟩ = some (.int .i64 fb) := cellb hb1 (by simp)
      have A1 : w1.cell? ⟨w.heap.size, 1, none⟩ = some v := cellb hb1 (by simp)
      have R0 : w1.cell? ⟨w.heap.size + 1, 0, none⟩ = some (.int .i64 0) := cellb hb1 (by simp)
      have Z0 : w1.frozen? ⟨w.heap.size + 1, 0, none⟩ = false := by rw [hb1.frozen (p := ⟨w.heap.size + 1, 0, none⟩) (by simp)]; simp
      have R1 : w1.cell? ⟨w.heap.size + 1, 1, none⟩ = some (.slice none 0 0) := cellb hb1 (by simp)
      have Z1 : w1.frozen? ⟨w.heap.size + 1, 1, none⟩ = false := by rw [hb1.frozen (p := ⟨w.heap.size + 1, 1, none⟩) (by simp)]; simp
      have hb2 : Below w.heap.size w w1 := hb0.trans (hb1.mono (by simp; omega))
      have hs1 : w.heap.size + 2 ≤ w1.heap.size := by have := hb1.size; simp at this; omega
      clear hb1 hb0
      go_wp2_with (go_at_call 67; refine (l1In_calls g 0 255 _).mono ?_; rintro e w' ⟨rfl, hw⟩; rw [hw, hgd]; clear hw w')
      have hr := res2 (w := w1) (r := w.heap.size + 1) (.int .i64 3) (.slice none 0 0) R0 R1
      try go_wp2
      refine bodyPost_ret (v := .agg #[.int .i64 3, .slice none 0 0]) (by simp only [results, Try.results38]; simp [go_sem, hr.1, hr.2]) rfl ⟨_, rfl, IntsAt.nil _ _ _ _ _ _, (by repeat' (first | with_reducible exact Below.refl _ _ | with_reducible assumption | with_reducible refine Below.drew ?_ | with_reducible refine Below.alloc ?_ ?_ _ | with_reducible refine Below.setCell ?_ ?_ _ | (simp; done) | (simp; omega) | omega))⟩
    | true =>
      have e1 : chCode fb ps g = 0 := by unfold chCode; rw [if_pos hc0, hgl]; rfl
      have e2 : chList fb ps g = chs ps g := by unfold chList; rw [if_pos hc0, hgl]; rfl
      have hgd : decide (0 ≤ g ∧ g ≤ 255) = true := hgl
      rw [e1, e2]
      clear e1 e2 hc0
      obtain ⟨i0, hi, hz0, hz1, hz2⟩ := info_parts info_i64
      go_enter Try.func38, Try.ntmps38
      go_wp2_with fail
      refine HF.mono ?_
      rintro e w1 ⟨rfl, hb1⟩
      have A0 : w1.cell? ⟨w.heap.size, 0, none⟩ = some (.int .i64 fb) := cellb hb1 (by simp)
      have A1 : w1.cell? ⟨w.heap.size, 1, none⟩ = some v := cellb hb1 (by simp)
      have R0 : w1.cell? ⟨w.heap.size + 1, 0, none⟩ = some (.int .i64 0) := cellb hb1 (by simp)
      have Z0 : w1.frozen? ⟨w.heap.size + 1, 0, none⟩ = false := by rw [hb1.frozen (p := ⟨w.heap.size + 1, 0, none⟩) (by simp)]; simp
      have R1 : w1.cell? ⟨w.heap.size + 1, 1, none⟩ = some (.slice none 0 0) := cellb hb1 (by simp)
      have Z1 : w1.frozen? ⟨w.heap.size + 1, 1, none⟩ = false := by rw [hb1.frozen (p := ⟨w.heap.size + 1, 1, none⟩) (by simp)]; simp
      have hb2 : Below w.heap.size w w1 := hb0.trans (hb1.mono (by simp; omega))
      have hs1 : w.heap.size + 2 ≤ w1.heap.size := by have := hb1.size; simp at this; omega
      clear hb1 hb0
      go_wp2_with (go_at_call 67; refine (l1In_calls g 0 255 _).mono ?_; rintro e w' ⟨rfl, hw⟩; rw [hw, hgd]; clear hw w')
      obtain ⟨av, cv, rfl, h1'⟩ := h1
      have H1 := hide h1'
      clear h1'
      have hlm := HFi.out.len
      clear HFi HF
      go_wp2_with fail
      go_loopw [7] (fun i wr => ∃ (k : Nat) (o : Value), k ≤ ps.length ∧ i = .int .i64 k ∧ Below w1.heap.size w1 wr ∧ w1.heap.size + 1 ≤ wr.heap.size ∧ wr.cell? ⟨w1.heap.size, 0, none⟩ = some (.int .i64 0) ∧ wr.cell? ⟨w1.heap.size, 1, none⟩ = some o ∧ wr.frozen? ⟨w1.heap.size, 1, none⟩ = false ∧ wr.ownsRow (w1.heap.size + 1) 2 1 o (chs (ps.take k) g).length ((chs (ps.take k) g).map (Value.int .i64))) (fun i _ => ps.length - (intOf i).toNat)
      case atStart => exact ⟨0, _, Nat.zero_le _, rfl, (by repeat' (first | with_reducible exact Below.refl _ _ | with_reducible assumption | with_reducible refine Below.drew ?_ | with_reducible refine Below.alloc ?_ ?_ _ | with_reducible refine Below.setCell ?_ ?_ _ | (simp; done) | (simp; omega) | omega)), by simp, by simp, by simp; rfl, by simp, by simpa [chs] using World.ownsRow_nil _ _ _ _⟩
      case round =>
        obtain ⟨k, o, hkk, rfl, hb, hsz, d0, d1, fz, hrow⟩ := hrel
        have hsz2 : w1.heap.size ≤ wr.heap.size := by omega
        have f0 := cellb hb A1
        have hbw := hb2.trans (hb.mono (by omega))
        by_cases hlt : k < ps.length
        · have hpos : ps ≠ [] := by intro h; rw [h] at hlt; simp at hlt
          rcases H1.out with h1 | ⟨b1, o1, rfl, h1⟩
          · exact absurd h1 hpos
          obtain ⟨g1, g2⟩ := h1 k hlt
          have hb1w := lt_of_cell g1
          replace g1 := cellb hbw g1
          replace g2 := cellb hbw g2
          have hltI : (k : Int) < (ps.length : Int) := by omega
          have HH := hide (chs_hit (g := g) hlt)
          have HM := hide (chs_miss (g := g) hlt)
          have hle : (chs (ps.take k) g).length ≤ k := Nat.le_trans (chs_length _ _) (List.length_take_le _ _)
          clear h1 hpos H1
          generalize (ps.getD k (0, 0)).1 = pc at *
          generalize (ps.getD k (0, 0)).2 = pg at *
          by_cases he : pg = g
          · subst he
            have hee : (pg == pg) = true := by simp
            have E1 := hide (HH.out rfl)
            clear HH HM
            have hW8 : Below wr.heap.size wr (wr.drew.alloc (.cells #[.int .i64 pc] 2)) := (by repeat' (first | with_reducible exact Below.refl _ _ | with_reducible assumption | with_reducible refine Below.drew ?_ | with_reducible refine Below.alloc ?_ ?_ _ | with_reducible refine Below.setCell ?_ ?_ _ | (simp; done) | (simp; omega) | omega))
            have hrow8 := own_below hrow hW8
            have f8 := cellb hW8 f0
            have p8 := cellb hW8 g1
            have d8 := cellb hW8 d1
            have dd8 := cellb hW8 d0
            have fz8 : (wr.drew.alloc (.cells #[.int .i64 pc] 2)).frozen? ⟨w1.heap.size, 1, none⟩ = false := by rw [hW8.frozen (p := ⟨w1.heap.size, 1, none⟩) (by simp; omega)]; exact fz
            have d9 : (wr.alloc (.cells #[.int .i64 pc] 2)).cell? ⟨w1.heap.size, 1, none⟩ = some o := d8
            go_wp2_with fail
            refine wp_region_held_drew (S := (fun w' => w'.cell? ⟨w.heap.size, 1, none⟩ = some (.slice (some ⟨b1, o1, none⟩) ps.length cv) ∧ w'.cell? ⟨b1, o1 + k * 2, none⟩ = some (.int .i64 pc))) (by kernel_rfl) ?_ (fun hHeld => ?_)
            · (try dsimp only); exact ⟨f0, g1⟩
            refine wpAnyH_take (i := 2) (oi := ⟨_, _, _, _, _, _⟩) (v := ?_) rfl (by kernel_rfl) (by kernel_rfl) (by kernel_rfl) (fun _ _ _ h => h) (Or.inl ⟨by rfl, ?_⟩) hHeld ?_
            rotate_left
            · (intro w hSw; (try dsimp only at hSw); go_simp; try (with_reducible rfl))
            try simp only [Act.put, List.setIfInBounds_toArray, List.set_cons_zero, List.set_cons_succ]
            refine wpAnyH_take (i := 3) (oi := ⟨_, _, _, _, _, _⟩) (v := ?_) rfl (by kernel_rfl) (by kernel_rfl) (by kernel_rfl) (fun _ _ _ h => h) (Or.inl ⟨by rfl, ?_⟩) hHeld ?_
            rotate_left
            · (intro w hSw; (try dsimp only at hSw); go_simp; try (with_reducible rfl))
            try simp only [Act.put, List.setIfInBounds_toArray, List.set_cons_zero, List.set_cons_succ]
            refine wpAnyH_take (i := 4) (oi := ⟨_, _, _, _, _, _⟩) (v := ?_) rfl (by kernel_rfl) (by kernel_rfl) (by kernel_rfl) (fun _ _ _ h => h) (Or.inl ⟨by rfl, ?_⟩) hHeld ?_
            rotate_left
            · (intro w hSw; (try dsimp only at hSw); go_simp; try (with_reducible rfl))
            try simp only [Act.put, List.setIfInBounds_toArray, List.set_cons_zero, List.set_cons_succ]
            refine wpAnyH_take (i := 5) (oi := ⟨_, _, _, _, _, _⟩) (v := ?_) rfl (by kernel_rfl) (by kernel_rfl) (by kernel_rfl) (fun _ _ _ h => h) (Or.inl ⟨by rfl, ?_⟩) hHeld ?_
            rotate_left
            · (intro w hSw; (try dsimp only at hSw); go_simp; try (with_reducible rfl))
            try simp only [Act.put, List.setIfInBounds_toArray, List.set_cons_zero, List.set_cons_succ]
            refine wpAnyH_take (i := 6) (oi := ⟨_, _, _, _, _, _⟩) (v := ?_) rfl (by kernel_rfl) (by kernel_rfl) (by kernel_rfl) (fun _ _ _ h => h) (Or.inl ⟨by rfl, ?_⟩) hHeld ?_
            rotate_left
            · (intro w hSw; (try dsimp only at hSw); go_simp; try (with_reducible rfl))
            try simp only [Act.put, List.setIfInBounds_toArray, List.set_cons_zero, List.set_cons_succ]
            refine wpAnyH_take (i := 7) (oi := ⟨_, _, _, _, _, _⟩) (v := ?_) rfl (by kernel_rfl) (by kernel_rfl) (by kernel_rfl) (fun _ _ _ h => h) (Or.inl ⟨by rfl, ?_⟩) hHeld ?_
            rotate_left
            · (intro w hSw; (try dsimp only at hSw); go_simp; try (with_reducible rfl))
            try simp only [Act.put, List.setIfInBounds_toArray, List.set_cons_zero, List.set_cons_succ]
            refine wpAnyH_take (i := 0) (oi := ⟨_, _, _, _, _, _⟩) (v := ?_) rfl (by kernel_rfl) (by kernel_rfl) (by kernel_rfl) (fun _ _ _ h => h) (Or.inl ⟨by rfl, ?_⟩) hHeld ?_
            rotate_left
            · (intro w hSw; (try dsimp only at hSw); go_simp; try (with_reducible rfl))
            try simp only [Act.put, List.setIfInBounds_toArray, List.set_cons_zero, List.set_cons_succ]
            refine wpAnyH_ready (rs := [1, 8]) (by kernel_rfl) (by simp) ?_
            refine (AllReadyH.cons (o := ⟨_, _, _, _, _, _⟩) rfl (fun K hK => ?_) (AllReadyH.cons (o := ⟨_, _, _, _, _, _⟩) rfl (fun K hK => ?_) AllReadyH.nil))
            · skip
              go_simp
              refine hK.out _ _ ?_ ?_
              · (try dsimp only); exact ⟨f0, g1⟩
              clear hHeld hK K
              intro hHeld
              try simp only [Act.put, List.setIfInBounds_toArray, List.set_cons_zero, List.set_cons_succ]
              refine wpAnyH_ready (rs := [8]) (by kernel_rfl) (by simp) ?_
              refine (AllReadyH.cons (o := ⟨_, _, _, _, _, _⟩) rfl (fun K hK => ?_) AllReadyH.nil)
              go_simp
              refine hK.out _ _ ?_ ?_
              · (try dsimp only); exact ⟨f8, p8⟩
              clear hHeld hK K
              intro hHeld
              try simp only [Act.put, List.setIfInBounds_toArray, List.set_cons_zero, List.set_cons_succ]
              refine wpAnyH_ready (rs := [9]) (by kernel_rfl) (by simp) ?_
              refine (AllReadyH.cons (o := ⟨_, _, _, _, _, _⟩) rfl (fun K hK => ?_) AllReadyH.nil)
              refine step_append2 rfl (.tmp 34) (.tmp 41) 28 rfl (w1.heap.size + 1) 2 i0 (.int .i64 0) 1 8 Try.underlying28 hi hz0 hz1 hz2 rfl (by decide) _ _ _ rfl hrow8 ⟨wr.heap.size, 0, none⟩ 1 1 [.int .i64 pc] rfl rfl (new_row_at (by simp) rfl) (ints_one_cell .i64 [pc]) (by unfold maxLen; omega) (by omega) (by simp; omega) ?_
              intro o5 w5 hown5 hgr5
              obtain ⟨a5, c5, rfl⟩ := own_shape hown5
              have hb5 : Below (w1.heap.size + 1) (wr.drew.alloc (.cells #[.int .i64 pc] 2)) w5 := (Below.refl _ _).grown hgr5 (by simp; omega) (fun q hq => (hrow8.lt q hq).1)
              have s0 : w5.cell? ⟨w.heap.size, 1, none⟩ = some (.slice (some ⟨b1, o1, none⟩) ps.length cv) := cellk hb5 (by omega) f8
              have s1 : w5.cell? ⟨b1, o1 + k * 2, none⟩ = some (.int .i64 pc) := cellk hb5 (by omega) p8
              have e1 : w5.cell? ⟨w1.heap.size, 1, none⟩ = some o := cellk hb5 (by omega) d8
              have e0 : w5.cell? ⟨w1.heap.size, 0, none⟩ = some (.int .i64 0) := cellk hb5 (by omega) dd8
              have f1 : w5.frozen? ⟨w1.heap.size, 1, none⟩ = false := by rw [hb5.frozen (p := ⟨w1.heap.size, 1, none⟩) (by simp)]; exact fz8
              have hw5 : Below w1.heap.size w1 w5 := hb.trans ((hW8.mono hsz2).trans (hb5.mono (by omega)))
              have hs5 : wr.heap.size < w5.heap.size := by have := hb5.size; simp at this; omega
              refine hK.out _ _ ?_ ?_
              · (try dsimp only); exact ⟨s0, s1⟩
              clear hHeld hK K
              intro hHeld
              try simp only [Act.put, List.setIfInBounds_toArray, List.set_cons_zero, List.set_cons_succ]
              refine wpAnyH_take (i := 10) (oi := ⟨_, _, _, _, _, _⟩) (v := ?_) rfl (by kernel_rfl) (by kernel_rfl) (by kernel_rfl) (fun _ _ _ h => h) (Or.inl ⟨by rfl, ?_⟩) hHeld ?_
              rotate_left
              · (intro w hSw; (try dsimp only at hSw); go_simp; try (with_reducible rfl))
              try simp only [Act.put, List.setIfInBounds_toArray, List.set_cons_zero, List.set_cons_succ]
              refine wpAnyH_ready (rs := [11]) (by kernel_rfl) (by simp) ?_
              refine (AllReadyH.cons (o := ⟨_, _, _, _, _, _⟩) rfl (fun K hK => ?_) AllReadyH.nil)
              go_simp
              refine hK.out _ _ ?_ ?_
              · (try dsimp only); exact ⟨by rw [World.cell?_setCell_other _ _ _ _ (addr_ne (by omega))]; exact s0, by rw [World.cell?_setCell_other _ _ _ _ (addr_ne (by omega))]; exact s1⟩
              clear hHeld hK K
              intro hHeld
              try simp only [Act.put, List.setIfInBounds_toArray, List.set_cons_zero, List.set_cons_succ]
              refine wpAnyH_done (by kernel_rfl) ?_ _
              go_wp2
              go_roundw
              case rel =>
                have hown6 : w5.ownsRow (w1.heap.size + 1) 2 1 (.slice a5 ((chs (ps.take k) pg).length + 1) c5) (chs (ps.take (k + 1)) pg).length ((chs (ps.take (k + 1)) pg).map (Value.int .i64)) := by rw [E1.out, List.length_append, List.map_append]; exact hown5
                refine ⟨k + 1, _, by omega, by go_num, hw5.setCell (Nat.le_refl _) _, by simp [World.setCell]; omega, ?_, World.cell?_setCell_same _ _ _ e1, ?_, ?_⟩
                · rw [World.cell?_setCell_other _ _ _ _ (addr_ne (by omega))]; exact e0
                · rw [World.frozen?_setCell]; exact f1
                · exact own_block2 hown6 (fun q hq => Below.heap_setCell _ _ _ _ (by have := (hown6.lt q hq).1; simp; omega))
              case measure => simp [intOf]; omega
            · skip
              go_simp
              refine hK.out _ _ ?_ ?_
              · (try dsimp only); exact ⟨f8, p8⟩
              clear hHeld hK K
              intro hHeld
              try simp only [Act.put, List.setIfInBounds_toArray, List.set_cons_zero, List.set_cons_succ]
              refine wpAnyH_ready (rs := [1]) (by kernel_rfl) (by simp) ?_
              refine (AllReadyH.cons (o := ⟨_, _, _, _, _, _⟩) rfl (fun K hK => ?_) AllReadyH.nil)
              go_simp
              refine hK.out _ _ ?_ ?_
              · (try dsimp only); exact ⟨f8, p8⟩
              clear hHeld hK K
              intro hHeld
              try simp only [Act.put, List.setIfInBounds_toArray, List.set_cons_zero, List.set_cons_succ]
              refine wpAnyH_ready (rs := [9]) (by kernel_rfl) (by simp) ?_
              refine (AllReadyH.cons (o := ⟨_, _, _, _, _, _⟩) rfl (fun K hK => ?_) AllReadyH.nil)
              refine step_append2 rfl (.tmp 34) (.tmp 41) 28 rfl (w1.heap.size + 1) 2 i0 (.int .i64 0) 1 8 Try.underlying28 hi hz0 hz1 hz2 rfl (by decide) _ _ _ rfl hrow8 ⟨wr.heap.size, 0, none⟩ 1 1 [.int .i64 pc] rfl rfl (new_row_at (by simp) rfl) (ints_one_cell .i64 [pc]) (by unfold maxLen; omega) (by omega) (by simp; omega) ?_
              intro o5 w5 hown5 hgr5
              obtain ⟨a5, c5, rfl⟩ := own_shape hown5
              have hb5 : Below (w1.heap.size + 1) (wr.drew.alloc (.cells #[.int .i64 pc] 2)) w5 := (Below.refl _ _).grown hgr5 (by simp; omega) (fun q hq => (hrow8.lt q hq).1)
              have s0 : w5.cell? ⟨w.heap.size, 1, none⟩ = some (.slice (some ⟨b1, o1, none⟩) ps.length cv) := cellk hb5 (by omega) f8
              have s1 : w5.cell? ⟨b1, o1 + k * 2, none⟩ = some (.int .i64 pc) := cellk hb5 (by omega) p8
              have e1 : w5.cell? ⟨w1.heap.size, 1, none⟩ = some o := cellk hb5 (by omega) d8
              have e0 : w5.cell? ⟨w1.heap.size, 0, none⟩ = some (.int .i64 0) := cellk hb5 (by omega) dd8
              have f1 : w5.frozen? ⟨w1.heap.size, 1, none⟩ = false := by rw [hb5.frozen (p := ⟨w1.heap.size, 1, none⟩) (by simp)]; exact fz8
              have hw5 : Below w1.heap.size w1 w5 := hb.trans ((hW8.mono hsz2).trans (hb5.mono (by omega)))
              have hs5 : wr.heap.size < w5.heap.size := by have := hb5.size; simp at this; omega
              refine hK.out _ _ ?_ ?_
              · (try dsimp only); exact ⟨s0, s1⟩
              clear hHeld hK K
              intro hHeld
              try simp only [Act.put, List.setIfInBounds_toArray, List.set_cons_zero, List.set_cons_succ]
              refine wpAnyH_take (i := 10) (oi := ⟨_, _, _, _, _, _⟩) (v := ?_) rfl (by kernel_rfl) (by kernel_rfl) (by kernel_rfl) (fun _ _ _ h => h) (Or.inl ⟨by rfl, ?_⟩) hHeld ?_
              rotate_left
              · (intro w hSw; (try dsimp only at hSw); go_simp; try (with_reducible rfl))
              try simp only [Act.put, List.setIfInBounds_toArray, List.set_cons_zero, List.set_cons_succ]
              refine wpAnyH_ready (rs := [11]) (by kernel_rfl) (by simp) ?_
              refine (AllReadyH.cons (o := ⟨_, _, _, _, _, _⟩) rfl (fun K hK => ?_) AllReadyH.nil)
              go_simp
              refine hK.out _ _ ?_ ?_
              · (try dsimp only); exact ⟨by rw [World.cell?_setCell_other _ _ _ _ (addr_ne (by omega))]; exact s0, by rw [World.cell?_setCell_other _ _ _ _ (addr_ne (by omega))]; exact s1⟩
              clear hHeld hK K
              intro hHeld
              try simp only [Act.put, List.setIfInBounds_toArray, List.set_cons_zero, List.set_cons_succ]
              refine wpAnyH_done (by kernel_rfl) ?_ _
              go_wp2
              go_roundw
              case rel =>
                have hown6 : w5.ownsRow (w1.heap.size + 1) 2 1 (.slice a5 ((chs (ps.take k) pg).length + 1) c5) (chs (ps.take (k + 1)) pg).length ((chs (ps.take (k + 1)) pg).map (Value.int .i64)) := by rw [E1.out, List.length_append, List.map_append]; exact hown5
                refine ⟨k + 1, _, by omega, by go_num, hw5.setCell (Nat.le_refl _) _, by simp [World.setCell]; omega, ?_, World.cell?_setCell_same _ _ _ e1, ?_, ?_⟩
                · rw [World.cell?_setCell_other _ _ _ _ (addr_ne (by omega))]; exact e0
                · rw [World.frozen?_setCell]; exact f1
                · exact own_block2 hown6 (fun q hq => Below.heap_setCell _ _ _ _ (by have := (hown6.lt q hq).1; simp; omega))
              case measure => simp [intOf]; omega
          · have hee : (pg == g) = false := by simpa using he
            have E1 := hide (HM.out he)
            clear HH HM
            go_wp2
            go_roundw
            case rel => exact ⟨k + 1, o, by omega, by go_num, hb, hsz, d0, d1, fz, by rw [E1.out]; exact hrow⟩
            case measure => simp [intOf]; omega
        · have hk' : k = ps.length := by omega
          subst hk'
          rw [List.take_length] at hrow
          obtain ⟨ao, co, rfl⟩ := own_shape hrow
          have hx : IntsAt .i64 (w1.heap.size + 1) wr.heap.size wr (.slice ao (chs ps g).length co) (chs ps g) := own_ints hrow (Nat.le_refl _)
          have hge : ¬ ((ps.length : Int) < (ps.length : Int)) := by omega
          replace R0 := cellb hb R0
          replace Z0 : wr.frozen? ⟨w.heap.size + 1, 0, none⟩ = false := by rw [hb.frozen (p := ⟨w.heap.size + 1, 0, none⟩) (by simp; omega)]; exact Z0
          replace R1 := cellb hb R1
          replace Z1 : wr.frozen? ⟨w.heap.size + 1, 1, none⟩ = false := by rw [hb.frozen (p := ⟨w.heap.size + 1, 1, none⟩) (by simp; omega)]; exact Z1
          clear hrow hb
          have hr := res2 (w := wr) (r := w.heap.size + 1) (.int .i64 0) (.slice ao (chs ps g).length co) R0 R1
          go_wp2
          refine bodyPost_ret (v := .agg #[.int .i64 0, .slice ao (chs ps g).length co]) (by simp only [results, Try.results38]; simp [go_sem, hr.1, hr.2]) rfl ⟨_, rfl, ?_, (by repeat' (first | with_reducible exact Below.refl _ _ | with_reducible assumption | with_reducible refine Below.drew ?_ | with_reducible refine Below.alloc ?_ ?_ _ | with_reducible refine Below.setCell ?_ ?_ _ | (simp; done) | (simp; omega) | omega))⟩
          refine (hx.of_blocks ?_).mono (by omega) (by simp [World.setCell])
          intro i hi _
          simp only [World.setCell, Array.getElem?_modify]
          repeat rw [if_neg (by omega)]
  · have e1 : chCode fb ps g = fontCode fb ps := by unfold chCode; rw [if_neg hc0]
    have e2 : chList fb ps g = [] := by unfold chList; rw [if_neg hc0]
    rw [e1, e2]
    clear e1 e2
    generalize fontCode fb ps = code at *
    have hcb : (code != 0) = true := by simpa using hc0
    go_enter Try.func38, Try.ntmps38
    go_wp2_with fail
    refine HF.mono ?_
    rintro e w1 ⟨rfl, hb1⟩
    have A0 : w1.cell? ⟨w.heap.size, 0, none⟩ = some (.int .i64 fb) := cellb hb1 (by simp)
    have A1 : w1.cell? ⟨w.heap.size, 1, none⟩ = some v := cellb hb1 (by simp)
    have R0 : w1.cell? ⟨w.heap.size + 1, 0, none⟩ = some (.int .i64 0) := cellb hb1 (by simp)
    have Z0 : w1.frozen? ⟨w.heap.size + 1, 0, none⟩ = false := by rw [hb1.frozen (p := ⟨w.heap.size + 1, 0, none⟩) (by simp)]; simp
    have R1 : w1.cell? ⟨w.heap.size + 1, 1, none⟩ = some (.slice none 0 0) := cellb hb1 (by simp)
    have Z1 : w1.frozen? ⟨w.heap.size + 1, 1, none⟩ = false := by rw [hb1.frozen (p := ⟨w.heap.size + 1, 1, none⟩) (by simp)]; simp
    have hb2 : Below w.heap.size w w1 := hb0.trans (hb1.mono (by simp; omega))
    have hs1 : w.heap.size + 2 ≤ w1.heap.size := by have := hb1.size; simp at this; omega
    clear hb1 hb0
    have hr := res2 (w := w1) (r := w.heap.size + 1) (.int .i64 code) (.slice none 0 0) R0 R1
    go_wp2
    refine bodyPost_ret (v := .agg #[.int .i64 code, .slice none 0 0]) (by simp only [results, Try.results38]; simp [go_sem, hr.1, hr.2]) rfl ⟨_, rfl, IntsAt.nil _ _ _ _ _ _, (by repeat' (first | with_reducible exact Below.refl _ _ | with_reducible assumption | with_reducible refine Below.drew ?_ | with_reducible refine Below.alloc ?_ ?_ _ | with_reducible refine Below.setCell ?_ ?_ _ | (simp; done) | (simp; omega) | omega))⟩

end Go.Proofs.Ytlkabmgindbbmaa
