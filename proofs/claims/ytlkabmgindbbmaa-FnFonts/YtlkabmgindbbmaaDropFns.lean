/-
  What DropPair answers, of the program and of the model.
-/
import Derived.Test.YtlkabmgindbbmaaRows
import Derived.Test.YtlkabmgindbbmaaMapFns
import Derived.Test.YtlkabmgindbbmaaMapFont
import Derived.Test.YtlkabmgindbbmaaFontFaults
import Derived.Test.YtlkabmgindbbmaaResMem
import Derived.Test.YtlkabmgindbbmaaLessFns
import Derived.Maps.OwnSet
import Derived.Maps.OwnOps
namespace Go.Proofs.Ytlkabmgindbbmaa
set_option maxRecDepth 20000
open Go.ChangeShapes Go.WideShapes Go.ChangeAt Go.RowKit Go.Maps
set_option linter.unusedVariables false
set_option linter.unusedSimpArgs false

theorem turned_cell {w w' : World} {bm b o : Nat} {u : Value} (h : w.mapTurned w' bm) (hb : b < w.heap.size) (hne : b ≠ bm) (hc : w.cell? ⟨b, o, none⟩ = some u) : w'.cell? ⟨b, o, none⟩ = some u :=
  (World.cell?_of_block (w := w) (a := ⟨b, o, none⟩) (h.grown.block b hb (by intro e; injection e with e; omega))).trans hc
theorem turned_frozen {w w' : World} {bm : Nat} {a : Addr} (h : w.mapTurned w' bm) (hc : w.frozen? a = false) : w'.frozen? a = false := (h.frozen a).trans hc
def dropOk (fb : Int) (ps : List (Int × Int)) (c : Int) : Bool := decide (fontCode fb ps = 0) && (lk ps c).isSome
def dropCode (fb : Int) (ps : List (Int × Int)) (c : Int) : Int := if fontCode fb ps = 0 then (if (lk ps c).isSome = true then 0 else 4) else fontCode fb ps
def dropFb (fb : Int) (ps : List (Int × Int)) (c : Int) : Int := if dropOk fb ps c = true then fb else 0
def dropPs (fb : Int) (ps : List (Int × Int)) (c : Int) : List (Int × Int) := if dropOk fb ps c = true then without ps c else []
theorem dropPs_length (fb : Int) (ps : List (Int × Int)) (c : Int) : (dropPs fb ps c).length ≤ 21 := by
  unfold dropPs
  split
  · rename_i h
    unfold dropOk at h
    simp at h
    have h1 := (fine_of_code h.1).len
    have h2 : (without ps c).length ≤ ps.length := List.length_filter_le _ _
    omega
  · simp
theorem drop_fault {fb : Int} {ps : List (Int × Int)} {c : Int} (h : ¬ fontCode fb ps = 0) : dropCode fb ps c = fontCode fb ps ∧ dropFb fb ps c = 0 ∧ dropPs fb ps c = [] := by
  have h2 : dropOk fb ps c = false := by simp [dropOk, h]
  exact ⟨by unfold dropCode; rw [if_neg h], by unfold dropFb; rw [h2]; rfl, by unfold dropPs; rw [h2]; rfl⟩
theorem drop_none {fb : Int} {ps : List (Int × Int)} {c : Int} (h : fontCode fb ps = 0) (hl : lk ps c = none) : dropCode fb ps c = 4 ∧ dropFb fb ps c = 0 ∧ dropPs fb ps c = [] := by
  have h2 : dropOk fb ps c = false := by simp [dropOk, hl]
  exact ⟨by unfold dropCode; rw [if_pos h, hl]; rfl, by unfold dropFb; rw [h2]; rfl, by unfold dropPs; rw [h2]; rfl⟩
theorem drop_some {fb : Int} {ps : List (Int × Int)} {c g : Int} (h : fontCode fb ps = 0) (hl : lk ps c = some g) : dropCode fb ps c = 0 ∧ dropFb fb ps c = fb ∧ dropPs fb ps c = without ps c := by
  have h2 : dropOk fb ps c = true := by simp [dropOk, hl, h]
  exact ⟨by unfold dropCode; rw [if_pos h, hl]; rfl, by unfold dropFb; rw [h2]; rfl, by unfold dropPs; rw [h2]; rfl⟩


set_option maxHeartbeats 1000000 in
theorem implDropPair_calls (fb : Int) (ps : List (Int × Int)) (c : Int) (v : Value) (w : World) (hn : ps.length ≤ 1048576) (hwc : wf64 c) (h1 : PRead w v ps) :
    Calls Try.prog 31 #[.agg #[.int .i64 fb, v], .int .i64 c] w fun e w' => ∃ x, e = .returned (.agg #[.int .i64 (dropCode fb ps c), .int .i64 (dropFb fb ps c), x]) ∧ PairsAt w.heap.size w'.heap.size w' x (dropPs fb ps c) ∧ Below w.heap.size w w' := by
  have hb0 : Below w.heap.size w ((w.alloc (.cells #[.int .i64 fb, v] 50)).alloc (.cells #[.int .i64 0, .int .i64 0, .slice none 0 0] 56)) := (by repeat' (first | with_reducible exact Below.refl _ _ | with_reducible assumption | with_reducible refine Below.drew ?_ | with_reducible refine Below.alloc ?_ ?_ _ | with_reducible refine Below.setCell ?_ ?_ _ | (simp; done) | (simp; omega) | omega))
  have HF := implFontFault_calls fb ps v ((w.alloc (.cells #[.int .i64 fb, v] 50)).alloc (.cells #[.int .i64 0, .int .i64 0, .slice none 0 0] 56)) hn (h1.below hb0)
  by_cases hc0 : fontCode fb ps = 0
  · have hfi := fine_of_code hc0
    have HFi := hide hfi
    clear hfi
    rw [hc0] at HF
    cases hlk : lk ps c with
    | none =>
      obtain ⟨e1, e2, e3⟩ := drop_none hc0 hlk
      rw [e1, e2, e3]
      clear e1 e2 e3 hc0
      go_enter Try.func31, Try.ntmps31
      go_wp2_with fail
      refine HF.mono ?_
      rintro e w1 ⟨rfl, hb1⟩
      have A0 : w1.cell? ⟨w.heap.size, 0, none⟩ = some (.int .i64 fb) := cellb hb1 (by simp)
      have A1 : w1.cell? ⟨w.heap.size, 1, none⟩ = some v := cellb hb1 (by simp)
      have R0 : w1.cell? ⟨w.heap.size + 1, 0, none⟩ = some (.int .i64 0) := cellb hb1 (by simp)
      have Z0 : w1.frozen? ⟨w.heap.size + 1, 0, none⟩ = false := by rw [hb1.frozen (p := ⟨w.heap.size + 1, 0, none⟩) (by simp)]; simp
      have R1 : w1.cell? ⟨w.heap.size + 1, 1, none⟩ = some (.int .i64 0) := cellb hb1 (by simp)
      have Z1 : w1.frozen? ⟨w.heap.size + 1, 1, none⟩ = false := by rw [hb1.frozen (p := ⟨w.heap.size + 1, 1, none⟩) (by simp)]; simp
      have R2 : w1.cell? ⟨w.heap.size + 1, 2, none⟩ = some (.slice none 0 0) := cellb hb1 (by simp)
      have Z2 : w1.frozen? ⟨w.heap.size + 1, 2, none⟩ = false := by rw [hb1.frozen (p := ⟨w.heap.size + 1, 2, none⟩) (by simp)]; simp
      have hb2 : Below w.heap.size w w1 := hb0.trans (hb1.mono (by simp; omega))
      have hs1 : w.heap.size + 2 ≤ w1.heap.size := by have := hb1.size; simp at this; omega
      clear hb1 hb0
      go_wp2_with fail
      have hfi := HFi.out
      refine (glyphsOf_calls fb ps _ _ hfi.sorted hfi.ok hfi.len (h1.below hb2)).mono ?_
      rintro e w3 ⟨bm, rfl, hbm, hmap, hb3⟩
      replace A0 := cellb hb3 A0
      replace R0 := cellb hb3 R0
      replace Z0 : w3.frozen? ⟨w.heap.size + 1, 0, none⟩ = false := by rw [hb3.frozen (p := ⟨w.heap.size + 1, 0, none⟩) (by simp; omega)]; exact Z0
      replace R1 := cellb hb3 R1
      replace Z1 : w3.frozen? ⟨w.heap.size + 1, 1, none⟩ = false := by rw [hb3.frozen (p := ⟨w.heap.size + 1, 1, none⟩) (by simp; omega)]; exact Z1
      replace R2 := cellb hb3 R2
      replace Z2 : w3.frozen? ⟨w.heap.size + 1, 2, none⟩ = false := by rw [hb3.frozen (p := ⟨w.heap.size + 1, 2, none⟩) (by simp; omega)]; exact Z2
      have hb4 := hb2.trans (hb3.mono (by omega))
      have hs3 : w1.heap.size ≤ w3.heap.size := hb3.size
      obtain ⟨D, hown, htl⟩ := hmap
      have hbl := hown.lt
      have hkey := keyOf_ck hwc
      have hhas : Maps.has D (keyL c) = false := by rw [htl.has c hwc, hlk]; rfl
      have htd := hown.tidy key_law
      have HT := hide (htl.del htd hwc)
      have hlm := hfi.len
      have HOk : Hid (∀ p ∈ without ps c, wf64 p.1) := fun p hp => (prB_wf (hfi.ok p (List.mem_filter.1 hp).1)).1
      clear htl htd hb3 hb2 hfi HFi A1
      go_wp2_with (at_lookup; refine wpList_lookup_own_ok_int _ rfl _ _ 95 rfl 98 2 .i64 key_law Try.underlying95 Try.underlying2 (zero_elem _) bm ps.length D rfl hown _ _ rfl hkey ?_; intro x hat hwx; rw [hhas])
      have hr := res3 (w := w3) (r := w.heap.size + 1) (.int .i64 4) (.int .i64 0) (.slice none 0 0) R0 R1 R2
      try go_wp2
      refine bodyPost_ret (v := .agg #[.int .i64 4, .int .i64 0, .slice none 0 0]) (by simp only [results, Try.results31]; simp [go_sem, hr.1, hr.2.1, hr.2.2]) rfl ⟨_, rfl, PairsAt.nil _ _ _ _ _, (by repeat' (first | with_reducible exact Below.refl _ _ | with_reducible assumption | with_reducible refine Below.drew ?_ | with_reducible refine Below.alloc ?_ ?_ _ | with_reducible refine Below.setCell ?_ ?_ _ | (simp; done) | (simp; omega) | omega))⟩
    | some g =>
      obtain ⟨e1, e2, e3⟩ := drop_some hc0 hlk
      rw [e1, e2, e3]
      clear e1 e2 e3 hc0
      go_enter Try.func31, Try.ntmps31
      go_wp2_with fail
      refine HF.mono ?_
      rintro e w1 ⟨rfl, hb1⟩
      have A0 : w1.cell? ⟨w.heap.size, 0, none⟩ = some (.int .i64 fb) := cellb hb1 (by simp)
      have A1 : w1.cell? ⟨w.heap.size, 1, none⟩ = some v := cellb hb1 (by simp)
      have R0 : w1.cell? ⟨w.heap.size + 1, 0, none⟩ = some (.int .i64 0) := cellb hb1 (by simp)
      have Z0 : w1.frozen? ⟨w.heap.size + 1, 0, none⟩ = false := by rw [hb1.frozen (p := ⟨w.heap.size + 1, 0, none⟩) (by simp)]; simp
      have R1 : w1.cell? ⟨w.heap.size + 1, 1, none⟩ = some (.int .i64 0) := cellb hb1 (by simp)
      have Z1 : w1.frozen? ⟨w.heap.size + 1, 1, none⟩ = false := by rw [hb1.frozen (p := ⟨w.heap.size + 1, 1, none⟩) (by simp)]; simp
      have R2 : w1.cell? ⟨w.heap.size + 1, 2, none⟩ = some (.slice none 0 0) := cellb hb1 (by simp)
      have Z2 : w1.frozen? ⟨w.heap.size + 1, 2, none⟩ = false := by rw [hb1.frozen (p := ⟨w.heap.size + 1, 2, none⟩) (by simp)]; simp
      have hb2 : Below w.heap.size w w1 := hb0.trans (hb1.mono (by simp; omega))
      have hs1 : w.heap.size + 2 ≤ w1.heap.size := by have := hb1.size; simp at this; omega
      clear hb1 hb0
      go_wp2_with fail
      have hfi := HFi.out
      refine (glyphsOf_calls fb ps _ _ hfi.sorted hfi.ok hfi.len (h1.below hb2)).mono ?_
      rintro e w3 ⟨bm, rfl, hbm, hmap, hb3⟩
      replace A0 := cellb hb3 A0
      replace R0 := cellb hb3 R0
      replace Z0 : w3.frozen? ⟨w.heap.size + 1, 0, none⟩ = false := by rw [hb3.frozen (p := ⟨w.heap.size + 1, 0, none⟩) (by simp; omega)]; exact Z0
      replace R1 := cellb hb3 R1
      replace Z1 : w3.frozen? ⟨w.heap.size + 1, 1, none⟩ = false := by rw [hb3.frozen (p := ⟨w.heap.size + 1, 1, none⟩) (by simp; omega)]; exact Z1
      replace R2 := cellb hb3 R2
      replace Z2 : w3.frozen? ⟨w.heap.size + 1, 2, none⟩ = false := by rw [hb3.frozen (p := ⟨w.heap.size + 1, 2, none⟩) (by simp; omega)]; exact Z2
      have hb4 := hb2.trans (hb3.mono (by omega))
      have hs3 : w1.heap.size ≤ w3.heap.size := hb3.size
      obtain ⟨D, hown, htl⟩ := hmap
      have hbl := hown.lt
      have hkey := keyOf_ck hwc
      have hhas : Maps.has D (keyL c) = true := by rw [htl.has c hwc, hlk]; rfl
      have htd := hown.tidy key_law
      have HT := hide (htl.del htd hwc)
      have hlm := hfi.len
      have HOk : Hid (∀ p ∈ without ps c, wf64 p.1) := fun p hp => (prB_wf (hfi.ok p (List.mem_filter.1 hp).1)).1
      clear htl htd hb3 hb2 hfi HFi A1
      go_wp2_with (first
        | (at_lookup; refine wpList_lookup_own_ok_int _ rfl _ _ 95 rfl 98 2 .i64 key_law Try.underlying95 Try.underlying2 (zero_elem _) bm ps.length D rfl hown _ _ rfl hkey ?_; intro x hat hwx; rw [hhas])
        | (at_delete; refine wpList_delete_own (H := Unit) _ rfl (.tmp 27) (.tmp 29) 95 98 rfl 2 key_law Try.underlying95 (plainElem Try.prog 2) bm ps.length D rfl hown (.agg #[.int .i64 c]) (keyL c) rfl hkey ?_; intro w5 hown5 hturn5; have A5 := turned_cell hturn5 (by omega) (by omega) A0))
      have R50 := turned_cell hturn5 (by omega) (by omega) R0
      have R51 := turned_cell hturn5 (by omega) (by omega) R1
      have R52 := turned_cell hturn5 (by omega) (by omega) R2
      have Z50 := turned_frozen hturn5 Z0
      have Z51 := turned_frozen hturn5 Z1
      have Z52 := turned_frozen hturn5 Z2
      have hb5 : Below w.heap.size w w5 := hb4.grown hturn5.grown (by omega) (fun q hq => by injection hq with hq; omega)
      have hm5 : MapAt w5 bm ps.length (without ps c) := ⟨_, hown5, HT.out⟩
      have hs5 : w3.heap.size ≤ w5.heap.size := hturn5.grown.size
      clear R0 R1 R2 Z0 Z1 Z2 A0 hown hown5 hturn5 hhas hkey hb4 HT hat hwx
      refine (font_calls bm ps.length (without ps c) fb w5 (by omega) hm5 HOk.out).mono ?_
      rintro e w6 ⟨x6, rfl, hx, hb6⟩
      have R0 := cellb hb6 R50
      have R1 := cellb hb6 R51
      have R2 := cellb hb6 R52
      have Z0 : w6.frozen? ⟨w.heap.size + 1, 0, none⟩ = false := by rw [hb6.frozen (p := ⟨w.heap.size + 1, 0, none⟩) (by simp; omega)]; exact Z50
      have Z1 : w6.frozen? ⟨w.heap.size + 1, 1, none⟩ = false := by rw [hb6.frozen (p := ⟨w.heap.size + 1, 1, none⟩) (by simp; omega)]; exact Z51
      have Z2 : w6.frozen? ⟨w.heap.size + 1, 2, none⟩ = false := by rw [hb6.frozen (p := ⟨w.heap.size + 1, 2, none⟩) (by simp; omega)]; exact Z52
      have hb7 := hb5.trans (hb6.mono (by omega))
      have hs6 : w5.heap.size ≤ w6.heap.size := hb6.size
      obtain ⟨ax, cx, rfl, hx'⟩ := hx
      have hx : PairsAt w5.heap.size w6.heap.size w6 (.slice ax (without ps c).length cx) (without ps c) := ⟨ax, cx, rfl, hx'⟩
      clear hx' hb6 hb5 hm5 R50 R51 R52 Z50 Z51 Z52
      have hr := res3 (w := w6) (r := w.heap.size + 1) (.int .i64 0) (.int .i64 fb) (.slice ax (without ps c).length cx) R0 R1 R2
      go_wp2
      refine bodyPost_ret (v := .agg #[.int .i64 0, .int .i64 fb, .slice ax (without ps c).length cx]) (by simp only [results, Try.results31]; simp [go_sem, hr.1, hr.2.1, hr.2.2]) rfl ⟨_, rfl, ?_, (by repeat' (first | with_reducible exact Below.refl _ _ | with_reducible assumption | with_reducible refine Below.drew ?_ | with_reducible refine Below.alloc ?_ ?_ _ | with_reducible refine Below.setCell ?_ ?_ _ | (simp; done) | (simp; omega) | omega))⟩
      refine (hx.of_blocks ?_).mono (by omega) (by simp [World.setCell])
      intro i hi _
      simp only [World.setCell, Array.getElem?_modify]
      repeat rw [if_neg (by omega)]
  · obtain ⟨e1, e2, e3⟩ := drop_fault (c := c) hc0
    rw [e1, e2, e3]
    clear e1 e2 e3
    generalize fontCode fb ps = code at *
    have hcb : (code != 0) = true := by simpa using hc0
    go_enter Try.func31, Try.ntmps31
    go_wp2_with fail
    refine HF.mono ?_
    rintro e w1 ⟨rfl, hb1⟩
    have A0 : w1.cell? ⟨w.heap.size, 0, none⟩ = some (.int .i64 fb) := cellb hb1 (by simp)
    have A1 : w1.cell? ⟨w.heap.size, 1, none⟩ = some v := cellb hb1 (by simp)
    have R0 : w1.cell? ⟨w.heap.size + 1, 0, none⟩ = some (.int .i64 0) := cellb hb1 (by simp)
    have Z0 : w1.frozen? ⟨w.heap.size + 1, 0, none⟩ = false := by rw [hb1.frozen (p := ⟨w.heap.size + 1, 0, none⟩) (by simp)]; simp
    have R1 : w1.cell? ⟨w.heap.size + 1, 1, none⟩ = some (.int .i64 0) := cellb hb1 (by simp)
    have Z1 : w1.frozen? ⟨w.heap.size + 1, 1, none⟩ = false := by rw [hb1.frozen (p := ⟨w.heap.size + 1, 1, none⟩) (by simp)]; simp
    have R2 : w1.cell? ⟨w.heap.size + 1, 2, none⟩ = some (.slice none 0 0) := cellb hb1 (by simp)
    have Z2 : w1.frozen? ⟨w.heap.size + 1, 2, none⟩ = false := by rw [hb1.frozen (p := ⟨w.heap.size + 1, 2, none⟩) (by simp)]; simp
    have hb2 : Below w.heap.size w w1 := hb0.trans (hb1.mono (by simp; omega))
    have hs1 : w.heap.size + 2 ≤ w1.heap.size := by have := hb1.size; simp at this; omega
    clear hb1 hb0
    have hr := res3 (w := w1) (r := w.heap.size + 1) (.int .i64 code) (.int .i64 0) (.slice none 0 0) R0 R1 R2
    go_wp2
    refine bodyPost_ret (v := .agg #[.int .i64 code, .int .i64 0, .slice none 0 0]) (by simp only [results, Try.results31]; simp [go_sem, hr.1, hr.2.1, hr.2.2]) rfl ⟨_, rfl, PairsAt.nil _ _ _ _ _, (by repeat' (first | with_reducible exact Below.refl _ _ | with_reducible assumption | with_reducible refine Below.drew ?_ | with_reducible refine Below.alloc ?_ ?_ _ | with_reducible refine Below.setCell ?_ ?_ _ | (simp; done) | (simp; omega) | omega))⟩

end Go.Proofs.Ytlkabmgindbbmaa
