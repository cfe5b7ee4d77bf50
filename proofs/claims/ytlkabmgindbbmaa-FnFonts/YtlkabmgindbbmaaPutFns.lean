/-
  What PutPair answers, of the program and of the model.
-/
import Derived.Test.YtlkabmgindbbmaaRows
import Derived.Test.YtlkabmgindbbmaaMapFns
import Derived.Test.YtlkabmgindbbmaaMapFont
import Derived.Test.YtlkabmgindbbmaaFontFaults
import Derived.Test.YtlkabmgindbbmaaResMem
import Derived.Test.YtlkabmgindbbmaaPairAppend
import Derived.Test.YtlkabmgindbbmaaLessFns
import Derived.Maps.OwnSet
import Derived.Maps.OwnOps
import Derived.Deep.QuietTactic
import Derived.BigQuiet
import Derived.Deep.RegionHeld
namespace Go.Proofs.Ytlkabmgindbbmaa
set_option maxRecDepth 20000
open Go.ChangeShapes Go.WideShapes Go.ChangeAt Go.RowKit Go.Maps
set_option linter.unusedVariables false
set_option linter.unusedSimpArgs false

theorem turned_cell2 {w w' : World} {bm b o : Nat} {u : Value} (h : w.mapTurned w' bm) (hb : b < w.heap.size) (hne : b ≠ bm) (hc : w.cell? ⟨b, o, none⟩ = some u) : w'.cell? ⟨b, o, none⟩ = some u :=
  (World.cell?_of_block (w := w) (a := ⟨b, o, none⟩) (h.grown.block b hb (by intro e; injection e with e; omega))).trans hc
theorem turned_frozen2 {w w' : World} {bm : Nat} {a : Addr} (h : w.mapTurned w' bm) (hc : w.frozen? a = false) : w'.frozen? a = false := (h.frozen a).trans hc
def putOk (fb : Int) (ps : List (Int × Int)) (p : Int × Int) : Bool := decide (fontCode fb ps = 0) && prB p && decide ((put ps p).length ≤ 20)
def putCode (fb : Int) (ps : List (Int × Int)) (p : Int × Int) : Int := if fontCode fb ps = 0 then (if prB p = true then (if (put ps p).length ≤ 20 then 0 else 2) else 3) else fontCode fb ps
def putFb (fb : Int) (ps : List (Int × Int)) (p : Int × Int) : Int := if putOk fb ps p = true then fb else 0
def putPs (fb : Int) (ps : List (Int × Int)) (p : Int × Int) : List (Int × Int) := if putOk fb ps p = true then put ps p else []
theorem putPs_length (fb : Int) (ps : List (Int × Int)) (p : Int × Int) : (putPs fb ps p).length ≤ 21 := by
  unfold putPs
  split
  · rename_i h
    unfold putOk at h
    simp at h
    omega
  · simp
theorem put_no {fb : Int} {ps : List (Int × Int)} {p : Int × Int} (h2 : putOk fb ps p = false) : putFb fb ps p = 0 ∧ putPs fb ps p = [] := ⟨by unfold putFb; rw [h2]; rfl, by unfold putPs; rw [h2]; rfl⟩
theorem put_fault {fb : Int} {ps : List (Int × Int)} {p : Int × Int} (h : ¬ fontCode fb ps = 0) : putCode fb ps p = fontCode fb ps ∧ putFb fb ps p = 0 ∧ putPs fb ps p = [] := by
  have h2 : putOk fb ps p = false := by simp [putOk, h]
  exact ⟨by unfold putCode; rw [if_neg h], (put_no h2).1, (put_no h2).2⟩
theorem put_range {fb : Int} {ps : List (Int × Int)} {p : Int × Int} (h : fontCode fb ps = 0) (hp : prB p = false) : putCode fb ps p = 3 ∧ putFb fb ps p = 0 ∧ putPs fb ps p = [] := by
  have h2 : putOk fb ps p = false := by simp [putOk, hp]
  exact ⟨by unfold putCode; rw [if_pos h, hp]; rfl, (put_no h2).1, (put_no h2).2⟩
theorem put_many {fb : Int} {ps : List (Int × Int)} {p : Int × Int} (h : fontCode fb ps = 0) (hp : prB p = true) (hl : ¬ (put ps p).length ≤ 20) : putCode fb ps p = 2 ∧ putFb fb ps p = 0 ∧ putPs fb ps p = [] := by
  have h2 : putOk fb ps p = false := by simp only [putOk, hl, decide_false, Bool.and_false]
  exact ⟨by unfold putCode; rw [if_pos h, hp, if_pos rfl, if_neg hl], (put_no h2).1, (put_no h2).2⟩
theorem put_ok {fb : Int} {ps : List (Int × Int)} {p : Int × Int} (h : fontCode fb ps = 0) (hp : prB p = true) (hl : (put ps p).length ≤ 20) : putCode fb ps p = 0 ∧ putFb fb ps p = fb ∧ putPs fb ps p = put ps p := by
  have h2 : putOk fb ps p = true := by simp [putOk, hp, h, hl]
  exact ⟨by unfold putCode; rw [if_pos h, hp, if_pos rfl, if_pos hl], by unfold putFb; rw [h2]; rfl, by unfold putPs; rw [h2]; rfl⟩

set_option maxRecDepth 20000 in
set_option maxHeartbeats 4000000 in
theorem implPutPair_calls (fb : Int) (ps : List (Int × Int)) (c g : Int) (v : Value) (w : World) (hn : ps.length ≤ 1048576) (h1 : PRead w v ps) :
    Calls Try.prog 27 #[.agg #[.int .i64 fb, v], .agg #[.int .i64 c, .int .i64 g]] w fun e w' => ∃ x, e = .returned (.agg #[.int .i64 (putCode fb ps (c, g)), .int .i64 (putFb fb ps (c, g)), x]) ∧ PairsAt w.heap.size w'.heap.size w' x (putPs fb ps (c, g)) ∧ Below w.heap.size w w' := by
  have hb0 : Below w.heap.size w (((w.alloc (.cells #[.int .i64 fb, v] 50)).alloc (.cells #[.int .i64 c, .int .i64 g] 52)).alloc (.cells #[.int .i64 0, .int .i64 0, .slice none 0 0] 56)) := (by repeat' (first | with_reducible exact Below.refl _ _ | with_reducible assumption | with_reducible refine Below.drew ?_ | with_reducible refine Below.alloc ?_ ?_ _ | with_reducible refine Below.setCell ?_ ?_ _ | (simp; done) | (simp; omega) | omega))
  have HF := implFontFault_calls fb ps v (((w.alloc (.cells #[.int .i64 fb, v] 50)).alloc (.cells #[.int .i64 c, .int .i64 g] 52)).alloc (.cells #[.int .i64 0, .int .i64 0, .slice none 0 0] 56)) hn (h1.below hb0)
  by_cases hc0 : fontCode fb ps = 0
  · have hfi := fine_of_code hc0
    have HFi := hide hfi
    clear hfi
    rw [hc0] at HF
    cases hp : prB (c, g) with
    | false =>
      obtain ⟨e1, e2, e3⟩ := put_range hc0 hp
      rw [e1, e2, e3]
      clear e1 e2 e3 hc0
      go_enter Try.func27, Try.ntmps27
      go_wp2_with fail
      refine HF.mono ?_
      rintro e w1 ⟨rfl, hb1⟩
      have A0 : w1.cell? ⟨w.heap.size, 0, none⟩ = some (.int .i64 fb) := cellb hb1 (by simp [go_sem])
      have A1 : w1.cell? ⟨w.heap.size, 1, none⟩ = some v := cellb hb1 (by simp [go_sem])
      have P0 : w1.cell? ⟨w.heap.size + 1, 0, none⟩ = some (.int .i64 c) := cellb hb1 (by simp [go_sem])
      have P1 : w1.cell? ⟨w.heap.size + 1, 1, none⟩ = some (.int .i64 g) := cellb hb1 (by simp [go_sem])
      have R0 : w1.cell? ⟨w.heap.size + 2, 0, none⟩ = some (.int .i64 0) := cellb hb1 (by simp [go_sem])
      have Z0 : w1.frozen? ⟨w.heap.size + 2, 0, none⟩ = false := by rw [hb1.frozen (p := ⟨w.heap.size + 2, 0, none⟩) (by simp)]; simp [go_sem]
      have R1 : w1.cell? ⟨w.heap.size + 2, 1, none⟩ = some (.int .i64 0) := cellb hb1 (by simp [go_sem])
      have Z1 : w1.frozen? ⟨w.heap.size + 2, 1, none⟩ = false := by rw [hb1.frozen (p := ⟨w.heap.size + 2, 1, none⟩) (by simp)]; simp [go_sem]
      have R2 : w1.cell? ⟨w.heap.size + 2, 2, none⟩ = some (.slice none 0 0) := cellb hb1 (by simp [go_sem])
      have Z2 : w1.frozen? ⟨w.heap.size + 2, 2, none⟩ = false := by rw [hb1.frozen (p := ⟨w.heap.size + 2, 2, none⟩) (by simp)]; simp [go_sem]
      have hb2 : Below w.heap.size w w1 := hb0.trans (hb1.mono (by simp; omega))
      have hs1 : w.heap.size + 3 ≤ w1.heap.size := by have := hb1.size; simp at this; omega
      clear hb1 hb0
      go_wp2_with fail
      refine (isPair_calls c g _).mono ?_
      rintro e w2 ⟨rfl, hb2'⟩
      rw [hp]
      replace A0 := cellb hb2' A0
      replace A1 := cellb hb2' A1
      replace P0 := cellb hb2' P0
      replace P1 := cellb hb2' P1
      replace R0 := cellb hb2' R0
      replace Z0 : w2.frozen? ⟨w.heap.size + 2, 0, none⟩ = false := by rw [hb2'.frozen (p := ⟨w.heap.size + 2, 0, none⟩) (by simp; omega)]; exact Z0
      replace R1 := cellb hb2' R1
      replace Z1 : w2.frozen? ⟨w.heap.size + 2, 1, none⟩ = false := by rw [hb2'.frozen (p := ⟨w.heap.size + 2, 1, none⟩) (by simp; omega)]; exact Z1
      replace R2 := cellb hb2' R2
      replace Z2 : w2.frozen? ⟨w.heap.size + 2, 2, none⟩ = false := by rw [hb2'.frozen (p := ⟨w.heap.size + 2, 2, none⟩) (by simp; omega)]; exact Z2
      have hs2 : w1.heap.size ≤ w2.heap.size := hb2'.size
      replace hb2 := hb2.trans (hb2'.mono (by omega))
      clear hb2'
      have hr := res3 (w := w2) (r := w.heap.size + 2) (.int .i64 3) (.int .i64 0) (.slice none 0 0) R0 R1 R2
      go_wp2
      refine bodyPost_ret (v := .agg #[.int .i64 3, .int .i64 0, .slice none 0 0]) (by simp only [results, Try.results27]; simp [go_sem, hr.1, hr.2.1, hr.2.2]) rfl ⟨_, rfl, PairsAt.nil _ _ _ _ _, (by repeat' (first | with_reducible exact Below.refl _ _ | with_reducible assumption | with_reducible refine Below.drew ?_ | with_reducible refine Below.alloc ?_ ?_ _ | with_reducible refine Below.setCell ?_ ?_ _ | (simp; done) | (simp; omega) | omega))⟩
    | true =>
      have hwf := prB_wf hp
      simp only at hwf
      have hlw := put_length HFi.out.sorted (c, g)
      have hlm := HFi.out.len
      have hl21 : (Proofs.Ytlkabmgindbbmaa.put ps (c, g)).length ≤ 21 := by rw [hlw]; split <;> omega
      by_cases hl : (Proofs.Ytlkabmgindbbmaa.put ps (c, g)).length ≤ 20
      · obtain ⟨e1, e2, e3⟩ := put_ok hc0 hp hl
        rw [e1, e2, e3]
        clear e1 e2 e3 hc0 hlw
        go_enter Try.func27, Try.ntmps27
        go_wp2_with fail
        refine HF.mono ?_
        rintro e w1 ⟨rfl, hb1⟩
        have A0 : w1.cell? ⟨w.heap.size, 0, none⟩ = some (.int .i64 fb) := cellb hb1 (by simp [go_sem])
        have A1 : w1.cell? ⟨w.heap.size, 1, none⟩ = some v := cellb hb1 (by simp [go_sem])
        have P0 : w1.cell? ⟨w.heap.size + 1, 0, none⟩ = some (.int .i64 c) := cellb hb1 (by simp [go_sem])
        have P1 : w1.cell? ⟨w.heap.size + 1, 1, none⟩ = some (.int .i64 g) := cellb hb1 (by simp [go_sem])
        have R0 : w1.cell? ⟨w.heap.size + 2, 0, none⟩ = some (.int .i64 0) := cellb hb1 (by simp [go_sem])
        have Z0 : w1.frozen? ⟨w.heap.size + 2, 0, none⟩ = false := by rw [hb1.frozen (p := ⟨w.heap.size + 2, 0, none⟩) (by simp)]; simp [go_sem]
        have R1 : w1.cell? ⟨w.heap.size + 2, 1, none⟩ = some (.int .i64 0) := cellb hb1 (by simp [go_sem])
        have Z1 : w1.frozen? ⟨w.heap.size + 2, 1, none⟩ = false := by rw [hb1.frozen (p := ⟨w.heap.size + 2, 1, none⟩) (by simp)]; simp [go_sem]
        have R2 : w1.cell? ⟨w.heap.size + 2, 2, none⟩ = some (.slice none 0 0) := cellb hb1 (by simp [go_sem])
        have Z2 : w1.frozen? ⟨w.heap.size + 2, 2, none⟩ = false := by rw [hb1.frozen (p := ⟨w.heap.size + 2, 2, none⟩) (by simp)]; simp [go_sem]
        have hb2 : Below w.heap.size w w1 := hb0.trans (hb1.mono (by simp; omega))
        have hs1 : w.heap.size + 3 ≤ w1.heap.size := by have := hb1.size; simp at this; omega
        clear hb1 hb0
        go_wp2_with fail
        refine (isPair_calls c g _).mono ?_
        rintro e w2 ⟨rfl, hb2'⟩
        rw [hp]
        replace A0 := cellb hb2' A0
        replace A1 := cellb hb2' A1
        replace P0 := cellb hb2' P0
        replace P1 := cellb hb2' P1
        replace R0 := cellb hb2' R0
        replace Z0 : w2.frozen? ⟨w.heap.size + 2, 0, none⟩ = false := by rw [hb2'.frozen (p := ⟨w.heap.size + 2, 0, none⟩) (by simp; omega)]; exact Z0
        replace R1 := cellb hb2' R1
        replace Z1 : w2.frozen? ⟨w.heap.size + 2, 1, none⟩ = false := by rw [hb2'.frozen (p := ⟨w.heap.size + 2, 1, none⟩) (by simp; omega)]; exact Z1
        replace R2 := cellb hb2' R2
        replace Z2 : w2.frozen? ⟨w.heap.size + 2, 2, none⟩ = false := by rw [hb2'.frozen (p := ⟨w.heap.size + 2, 2, none⟩) (by simp; omega)]; exact Z2
        have hs2 : w1.heap.size ≤ w2.heap.size := hb2'.size
        replace hb2 := hb2.trans (hb2'.mono (by omega))
        clear hb2'
        go_wp2_with fail
        have hfi := HFi.out
        refine (glyphsOf_calls fb ps _ _ hfi.sorted hfi.ok hfi.len (h1.below hb2)).mono ?_
        rintro e w3 ⟨bm, rfl, hbm, hmap, hb3⟩
        replace A0 := cellb hb3 A0
        replace P0 := cellb hb3 P0
        replace P1 := cellb hb3 P1
        replace R0 := cellb hb3 R0
        replace Z0 : w3.frozen? ⟨w.heap.size + 2, 0, none⟩ = false := by rw [hb3.frozen (p := ⟨w.heap.size + 2, 0, none⟩) (by simp; omega)]; exact Z0
        replace R1 := cellb hb3 R1
        replace Z1 : w3.frozen? ⟨w.heap.size + 2, 1, none⟩ = false := by rw [hb3.frozen (p := ⟨w.heap.size + 2, 1, none⟩) (by simp; omega)]; exact Z1
        replace R2 := cellb hb3 R2
        replace Z2 : w3.frozen? ⟨w.heap.size + 2, 2, none⟩ = false := by rw [hb3.frozen (p := ⟨w.heap.size + 2, 2, none⟩) (by simp; omega)]; exact Z2
        have hb4 := hb2.trans (hb3.mono (by omega))
        have hs3 : w2.heap.size ≤ w3.heap.size := hb3.size
        obtain ⟨D, hown, htl⟩ := hmap
        have hbl := hown.lt
        have hkey := keyOf_ck hwf.1
        have hel : plainElem (H := Unit) Try.prog 2 (.int .i64 g) = some (.lit (.int .i64 g), []) := plainElem_int Try.underlying2 hwf.2
        have htd := hown.tidy key_law
        have HT : Hid (Tells (D.put (keyL c) (.lit (.int .i64 g))) (Proofs.Ytlkabmgindbbmaa.put ps (c, g))) := htl.put htd (p := (c, g)) hwf.1
        have HOk : Hid (∀ p ∈ Proofs.Ytlkabmgindbbmaa.put ps (c, g), wf64 p.1) := fun p hp' => by
          rcases mem_ins.1 hp' with rfl | hp'
          · exact hwf.1
          · exact (prB_wf (hfi.ok p (List.mem_filter.1 hp').1)).1
        have hI : ¬ ((20 : Int) < ((Proofs.Ytlkabmgindbbmaa.put ps (c, g)).length : Int)) := by omega
        clear htl htd hb3 hb2 hfi HFi A1 hp
        go_wp2_with (first
          | (at_mapUpdate; refine wpList_mapUpdate_in (H := Unit) _ rfl _ _ _ 95 rfl 98 2 key_law Try.underlying95 (plainElem Try.prog 2) bm ps.length D rfl hown (by unfold maxLen; omega) (.agg #[.int .i64 c]) (.int .i64 g) (keyL c) rfl rfl hkey (.lit (.int .i64 g)) [] hel ?_; intro w5 hown5 hturn5; have A5 := turned_cell2 hturn5 (by omega) (by omega) A0; have R50 := turned_cell2 hturn5 (by omega) (by omega) R0; have R51 := turned_cell2 hturn5 (by omega) (by omega) R1; have R52 := turned_cell2 hturn5 (by omega) (by omega) R2; have Z50 := turned_frozen2 hturn5 Z0; have Z51 := turned_frozen2 hturn5 Z1; have Z52 := turned_frozen2 hturn5 Z2)
          | (at_len; refine wpList_len_own (H := Unit) _ rfl _ 95 rfl 98 2 Try.underlying95 (plainElem Try.prog 2) bm (ps.length + 1) _ rfl hown5 ?_; rw [HT.out.size]))
        have hb5 : Below w.heap.size w w5 := hb4.grown hturn5.grown (by omega) (fun q hq => by injection hq with hq; omega)
        have hm5 : MapAt w5 bm (ps.length + 1) (Proofs.Ytlkabmgindbbmaa.put ps (c, g)) := ⟨_, hown5, HT.out⟩
        have hs5 : w3.heap.size ≤ w5.heap.size := hturn5.grown.size
        clear R0 R1 R2 Z0 Z1 Z2 A0 hown hown5 hturn5 hkey hb4 HT hel P0 P1
        refine (font_calls bm (ps.length + 1) (Proofs.Ytlkabmgindbbmaa.put ps (c, g)) fb w5 (by omega) hm5 HOk.out).mono ?_
        rintro e w6 ⟨x6, rfl, hx, hb6⟩
        have R0 := cellb hb6 R50
        have R1 := cellb hb6 R51
        have R2 := cellb hb6 R52
        have Z0 : w6.frozen? ⟨w.heap.size + 2, 0, none⟩ = false := by rw [hb6.frozen (p := ⟨w.heap.size + 2, 0, none⟩) (by simp; omega)]; exact Z50
        have Z1 : w6.frozen? ⟨w.heap.size + 2, 1, none⟩ = false := by rw [hb6.frozen (p := ⟨w.heap.size + 2, 1, none⟩) (by simp; omega)]; exact Z51
        have Z2 : w6.frozen? ⟨w.heap.size + 2, 2, none⟩ = false := by rw [hb6.frozen (p := ⟨w.heap.size + 2, 2, none⟩) (by simp; omega)]; exact Z52
        have hb7 := hb5.trans (hb6.mono (by omega))
        have hs6 : w5.heap.size ≤ w6.heap.size := hb6.size
        obtain ⟨ax, cx, rfl, hx'⟩ := hx
        have hx : PairsAt w5.heap.size w6.heap.size w6 (.slice ax (Proofs.Ytlkabmgindbbmaa.put ps (c, g)).length cx) (Proofs.Ytlkabmgindbbmaa.put ps (c, g)) := ⟨ax, cx, rfl, hx'⟩
        clear hx' hb6 hb5 hm5 R50 R51 R52 Z50 Z51 Z52
        have hr := res3 (w := w6) (r := w.heap.size + 2) (.int .i64 0) (.int .i64 fb) (.slice ax (Proofs.Ytlkabmgindbbmaa.put ps (c, g)).length cx) R0 R1 R2
        go_wp2
        refine bodyPost_ret (v := .agg #[.int .i64 0, .int .i64 fb, .slice ax (Proofs.Ytlkabmgindbbmaa.put ps (c, g)).length cx]) (by simp only [results, Try.results27]; simp [go_sem, hr.1, hr.2.1, hr.2.2]) rfl ⟨_, rfl, ?_, (by repeat' (first | with_reducible exact Below.refl _ _ | with_reducible assumption | with_reducible refine Below.drew ?_ | with_reducible refine Below.alloc ?_ ?_ _ | with_reducible refine Below.setCell ?_ ?_ _ | (simp; done) | (simp; omega) | omega))⟩
        refine (hx.of_blocks ?_).mono (by omega) (by simp [World.setCell])
        intro i hi _
        simp only [World.setCell, Array.getElem?_modify]
        repeat rw [if_neg (by omega)]
      · obtain ⟨e1, e2, e3⟩ := put_many hc0 hp hl
        rw [e1, e2, e3]
        clear e1 e2 e3 hc0 hlw
        go_enter Try.func27, Try.ntmps27
        go_wp2_with fail
        refine HF.mono ?_
        rintro e w1 ⟨rfl, hb1⟩
        have A0 : w1.cell? ⟨w.heap.size, 0, none⟩ = some (.int .i64 fb) := cellb hb1 (by simp [go_sem])
        have A1 : w1.cell? ⟨w.heap.size, 1, none⟩ = some v := cellb hb1 (by simp [go_sem])
        have P0 : w1.cell? ⟨w.heap.size + 1, 0, none⟩ = some (.int .i64 c) := cellb hb1 (by simp [go_sem])
        have P1 : w1.cell? ⟨w.heap.size + 1, 1, none⟩ = some (.int .i64 g) := cellb hb1 (by simp [go_sem])
        have R0 : w1.cell? ⟨w.heap.size + 2, 0, none⟩ = some (.int .i64 0) := cellb hb1 (by simp [go_sem])
        have Z0 : w1.frozen? ⟨w.heap.size + 2, 0, none⟩ = false := by rw [hb1.frozen (p := ⟨w.heap.size + 2, 0, none⟩) (by simp)]; simp [go_sem]
        have R1 : w1.cell? ⟨w.heap.size + 2, 1, none⟩ = some (.int .i64 0) := cellb hb1 (by simp [go_sem])
        have Z1 : w1.frozen? ⟨w.heap.size + 2, 1, none⟩ = false := by rw [hb1.frozen (p := ⟨w.heap.size + 2, 1, none⟩) (by simp)]; simp [go_sem]
        have R2 : w1.cell? ⟨w.heap.size + 2, 2, none⟩ = some (.slice none 0 0) := cellb hb1 (by simp [go_sem])
        have Z2 : w1.frozen? ⟨w.heap.size + 2, 2, none⟩ = false := by rw [hb1.frozen (p := ⟨w.heap.size + 2, 2, none⟩) (by simp)]; simp [go_sem]
        have hb2 : Below w.heap.size w w1 := hb0.trans (hb1.mono (by simp; omega))
        have hs1 : w.heap.size + 3 ≤ w1.heap.size := by have := hb1.size; simp at this; omega
        clear hb1 hb0
        go_wp2_with fail
        refine (isPair_calls c g _).mono ?_
        rintro e w2 ⟨rfl, hb2'⟩
        rw [hp]
        replace A0 := cellb hb2' A0
        replace A1 := cellb hb2' A1
        replace P0 := cellb hb2' P0
        replace P1 := cellb hb2' P1
        replace R0 := cellb hb2' R0
        replace Z0 : w2.frozen? ⟨w.heap.size + 2, 0, none⟩ = false := by rw [hb2'.frozen (p := ⟨w.heap.size + 2, 0, none⟩) (by simp; omega)]; exact Z0
        replace R1 := cellb hb2' R1
        replace Z1 : w2.frozen? ⟨w.heap.size + 2, 1, none⟩ = false := by rw [hb2'.frozen (p := ⟨w.heap.size + 2, 1, none⟩) (by simp; omega)]; exact Z1
        replace R2 := cellb hb2' R2
        replace Z2 : w2.frozen? ⟨w.heap.size + 2, 2, none⟩ = false := by rw [hb2'.frozen (p := ⟨w.heap.size + 2, 2, none⟩) (by simp; omega)]; exact Z2
        have hs2 : w1.heap.size ≤ w2.heap.size := hb2'.size
        replace hb2 := hb2.trans (hb2'.mono (by omega))
        clear hb2'
        go_wp2_with fail
        have hfi := HFi.out
        refine (glyphsOf_calls fb ps _ _ hfi.sorted hfi.ok hfi.len (h1.below hb2)).mono ?_
        rintro e w3 ⟨bm, rfl, hbm, hmap, hb3⟩
        replace A0 := cellb hb3 A0
        replace P0 := cellb hb3 P0
        replace P1 := cellb hb3 P1
        replace R0 := cellb hb3 R0
        replace Z0 : w3.frozen? ⟨w.heap.size + 2, 0, none⟩ = false := by rw [hb3.frozen (p := ⟨w.heap.size + 2, 0, none⟩) (by simp; omega)]; exact Z0
        replace R1 := cellb hb3 R1
        replace Z1 : w3.frozen? ⟨w.heap.size + 2, 1, none⟩ = false := by rw [hb3.frozen (p := ⟨w.heap.size + 2, 1, none⟩) (by simp; omega)]; exact Z1
        replace R2 := cellb hb3 R2
        replace Z2 : w3.frozen? ⟨w.heap.size + 2, 2, none⟩ = false := by rw [hb3.frozen (p := ⟨w.heap.size + 2, 2, none⟩) (by simp; omega)]; exact Z2
        have hb4 := hb2.trans (hb3.mono (by omega))
        have hs3 : w2.heap.size ≤ w3.heap.size := hb3.size
        obtain ⟨D, hown, htl⟩ := hmap
        have hbl := hown.lt
        have hkey := keyOf_ck hwf.1
        have hel : plainElem (H := Unit) Try.prog 2 (.int .i64 g) = some (.lit (.int .i64 g), []) := plainElem_int Try.underlying2 hwf.2
        have htd := hown.tidy key_law
        have HT : Hid (Tells (D.put (keyL c) (.lit (.int .i64 g))) (Proofs.Ytlkabmgindbbmaa.put ps (c, g))) := htl.put htd (p := (c, g)) hwf.1
        have HOk : Hid (∀ p ∈ Proofs.Ytlkabmgindbbmaa.put ps (c, g), wf64 p.1) := fun p hp' => by
          rcases mem_ins.1 hp' with rfl | hp'
          · exact hwf.1
          · exact (prB_wf (hfi.ok p (List.mem_filter.1 hp').1)).1
        have hI : ((20 : Int) < ((Proofs.Ytlkabmgindbbmaa.put ps (c, g)).length : Int)) := by omega
        clear htl htd hb3 hb2 hfi HFi A1 hp
        go_wp2_with (first
          | (at_mapUpdate; refine wpList_mapUpdate_in (H := Unit) _ rfl _ _ _ 95 rfl 98 2 key_law Try.underlying95 (plainElem Try.prog 2) bm ps.length D rfl hown (by unfold maxLen; omega) (.agg #[.int .i64 c]) (.int .i64 g) (keyL c) rfl rfl hkey (.lit (.int .i64 g)) [] hel ?_; intro w5 hown5 hturn5; have A5 := turned_cell2 hturn5 (by omega) (by omega) A0; have R50 := turned_cell2 hturn5 (by omega) (by omega) R0; have R51 := turned_cell2 hturn5 (by omega) (by omega) R1; have R52 := turned_cell2 hturn5 (by omega) (by omega) R2; have Z50 := turned_frozen2 hturn5 Z0; have Z51 := turned_frozen2 hturn5 Z1; have Z52 := turned_frozen2 hturn5 Z2)
          | (at_len; refine wpList_len_own (H := Unit) _ rfl _ 95 rfl 98 2 Try.underlying95 (plainElem Try.prog 2) bm (ps.length + 1) _ rfl hown5 ?_; rw [HT.out.size]))
        have hb5 : Below w.heap.size w w5 := hb4.grown hturn5.grown (by omega) (fun q hq => by injection hq with hq; omega)
        clear R0 R1 R2 Z0 Z1 Z2 A0 hown hown5 hturn5 hkey hb4 HT hel P0 P1
        have R0 := R50
        have R1 := R51
        have R2 := R52
        clear R50 R51 R52
        have hr := res3 (w := w5) (r := w.heap.size + 2) (.int .i64 2) (.int .i64 0) (.slice none 0 0) R0 R1 R2
        try go_wp2
        refine bodyPost_ret (v := .agg #[.int .i64 2, .int .i64 0, .slice none 0 0]) (by simp only [results, Try.results27]; simp [go_sem, hr.1, hr.2.1, hr.2.2]) rfl ⟨_, rfl, PairsAt.nil _ _ _ _ _, (by repeat' (first | with_reducible exact Below.refl _ _ | with_reducible assumption | with_reducible refine Below.drew ?_ | with_reducible refine Below.alloc ?_ ?_ _ | with_reducible refine Below.setCell ?_ ?_ _ | (simp; done) | (simp; omega) | omega))⟩
  · obtain ⟨e1, e2, e3⟩ := put_fault (p := (c, g)) hc0
    rw [e1, e2, e3]
    clear e1 e2 e3
    generalize fontCode fb ps = code at *
    have hcb : (code != 0) = true := by simpa using hc0
    go_enter Try.func27, Try.ntmps27
    go_wp2_with fail
    refine HF.mono ?_
    rintro e w1 ⟨rfl, hb1⟩
    have A0 : w1.cell? ⟨w.heap.size, 0, none⟩ = some (.int .i64 fb) := cellb hb1 (by simp [go_sem])
    have A1 : w1.cell? ⟨w.heap.size, 1, none⟩ = some v := cellb hb1 (by simp [go_sem])
    have P0 : w1.cell? ⟨w.heap.size + 1, 0, none⟩ = some (.int .i64 c) := cellb hb1 (by simp [go_sem])
    have P1 : w1.cell? ⟨w.heap.size + 1, 1, none⟩ = some (.int .i64 g) := cellb hb1 (by simp [go_sem])
    have R0 : w1.cell? ⟨w.heap.size + 2, 0, none⟩ = some (.int .i64 0) := cellb hb1 (by simp [go_sem])
    have Z0 : w1.frozen? ⟨w.heap.size + 2, 0, none⟩ = false := by rw [hb1.frozen (p := ⟨w.heap.size + 2, 0, none⟩) (by simp)]; simp [go_sem]
    have R1 : w1.cell? ⟨w.heap.size + 2, 1, none⟩ = some (.int .i64 0) := cellb hb1 (by simp [go_sem])
    have Z1 : w1.frozen? ⟨w.heap.size + 2, 1, none⟩ = false := by rw [hb1.frozen (p := ⟨w.heap.size + 2, 1, none⟩) (by simp)]; simp [go_sem]
    have R2 : w1.cell? ⟨w.heap.size + 2, 2, none⟩ = some (.slice none 0 0) := cellb hb1 (by simp [go_sem])
    have Z2 : w1.frozen? ⟨w.heap.size + 2, 2, none⟩ = false := by rw [hb1.frozen (p := ⟨w.heap.size + 2, 2, none⟩) (by simp)]; simp [go_sem]
    have hb2 : Below w.heap.size w w1 := hb0.trans (hb1.mono (by simp; omega))
    have hs1 : w.heap.size + 3 ≤ w1.heap.size := by have := hb1.size; simp at this; omega
    clear hb1 hb0
    have hr := res3 (w := w1) (r := w.heap.size + 2) (.int .i64 code) (.int .i64 0) (.slice none 0 0) R0 R1 R2
    go_wp2
    refine bodyPost_ret (v := .agg #[.int .i64 code, .int .i64 0, .slice none 0 0]) (by simp only [results, Try.results27]; simp [go_sem, hr.1, hr.2.1, hr.2.2]) rfl ⟨_, rfl, PairsAt.nil _ _ _ _ _, (by repeat' (first | with_reducible exact Below.refl _ _ | with_reducible assumption | with_reducible refine Below.drew ?_ | with_reducible refine Below.alloc ?_ ?_ _ | with_reducible refine Below.setCell ?_ ?_ _ | (simp; done) | (simp; omega) | omega))⟩

set_option maxRecDepth 20000 in
set_option maxHeartbeats 4000000 in
theorem specPutPair_calls (fb : Int) (ps : List (Int × Int)) (c g : Int) (v : Value) (w : World) (hn : ps.length ≤ 1048576) (h1 : PRead w v ps) :
    Calls Try.prog 28 #[.agg #[.int .i64 fb, v], .agg #[.int .i64 c, .int .i64 g]] w fun e w' => ∃ x, e = .returned (.agg #[.int .i64 (putCode fb ps (c, g)), .int .i64 (putFb fb ps (c, g)), x]) ∧ PairsAt w.heap.size w'.heap.size w' x (putPs fb ps (c, g)) ∧ Below w.heap.size w w' := by
  have hb0 : Below w.heap.size w (((w.alloc (.cells #[.int .i64 fb, v] 50)).alloc (.cells #[.int .i64 c, .int .i64 g] 52)).alloc (.cells #[.int .i64 0, .int .i64 0, .slice none 0 0] 56)) := (by repeat' (first | with_reducible exact Below.refl _ _ | with_reducible assumption | with_reducible refine Below.drew ?_ | with_reducible refine Below.alloc ?_ ?_ _ | with_reducible refine Below.setCell ?_ ?_ _ | (simp; done) | (simp; omega) | omega))
  have HF : Calls Try.prog 60 #[.pointer (some ⟨w.heap.size, 0, none⟩)] (((w.alloc (.cells #[.int .i64 fb, v] 50)).alloc (.cells #[.int .i64 c, .int .i64 g] 52)).alloc (.cells #[.int .i64 0, .int .i64 0, .slice none 0 0] 56)) fun e w' => e = .returned (.int .i64 (fontCode fb ps)) ∧ Below (((w.alloc (.cells #[.int .i64 fb, v] 50)).alloc (.cells #[.int .i64 c, .int .i64 g] 52)).alloc (.cells #[.int .i64 0, .int .i64 0, .slice none 0 0] 56)).heap.size (((w.alloc (.cells #[.int .i64 fb, v] 50)).alloc (.cells #[.int .i64 c, .int .i64 g] 52)).alloc (.cells #[.int .i64 0, .int .i64 0, .slice none 0 0] 56)) w' := (l2Fault_calls fb ps v w.heap.size (((w.alloc (.cells #[.int .i64 fb, v] 50)).alloc (.cells #[.int .i64 c, .int .i64 g] 52)).alloc (.cells #[.int .i64 0, .int .i64 0, .slice none 0 0] 56)) hn (h1.below hb0) (by simp [go_sem]) (by simp [go_sem])).mono fun e w' ⟨he, n, hw⟩ => ⟨he, by rw [hw]; exact below_drewN (Below.refl _ _) n⟩
  by_cases hc0 : fontCode fb ps = 0
  · have hfi := fine_of_code hc0
    have HFi := hide hfi
    clear hfi
    rw [hc0] at HF
    cases hp : prB (c, g) with
    | false =>
      obtain ⟨e1, e2, e3⟩ := put_range hc0 hp
      rw [e1, e2, e3]
      clear e1 e2 e3 hc0
      go_enter Try.func28, Try.ntmps28
      go_wp2_with fail
      refine HF.mono ?_
      rintro e w1 ⟨rfl, hb1⟩
      have A0 : w1.cell? ⟨w.heap.size, 0, none⟩ = some (.int .i64 fb) := cellb hb1 (by simp [go_sem])
      have A1 : w1.cell? ⟨w.heap.size, 1, none⟩ = some v := cellb hb1 (by simp [go_sem])
      have P0 : w1.cell? ⟨w.heap.size + 1, 0, none⟩ = some (.int .i64 c) := cellb hb1 (by simp [go_sem])
      have P1 : w1.cell? ⟨w.heap.size + 1, 1, none⟩ = some (.int .i64 g) := cellb hb1 (by simp [go_sem])
      have R0 : w1.cell? ⟨w.heap.size + 2, 0, none⟩ = some (.int .i64 0) := cellb hb1 (by simp [go_sem])
      have Z0 : w1.frozen? ⟨w.heap.size + 2, 0, none⟩ = false := by rw [hb1.frozen (p := ⟨w.heap.size + 2, 0, none⟩) (by simp)]; simp [go_sem]
      have R1 : w1.cell? ⟨w.heap.size + 2, 1, none⟩ = some (.int .i64 0) := cellb hb1 (by simp [go_sem])
      have Z1 : w1.frozen? ⟨w.heap.size + 2, 1, none⟩ = false := by rw [hb1.frozen (p := ⟨w.heap.size + 2, 1, none⟩) (by simp)]; simp [go_sem]
      have R2 : w1.cell? ⟨w.heap.size + 2, 2, none⟩ = some (.slice none 0 0) := cellb hb1 (by simp [go_sem])
      have Z2 : w1.frozen? ⟨w.heap.size + 2, 2, none⟩ = false := by rw [hb1.frozen (p := ⟨w.heap.size + 2, 2, none⟩) (by simp)]; simp [go_sem]
      have hb2 : Below w.heap.size w w1 := hb0.trans (hb1.mono (by simp; omega))
      have hs1 : w.heap.size + 3 ≤ w1.heap.size := by have := hb1.size; simp at this; omega
      clear hb1 hb0
      go_wp2_with fail
      refine (l2Pair_calls c g _ _ _ P0 P1).mono ?_
      rintro e w2 ⟨rfl, hw2⟩
      rw [hw2, hp]
      clear hw2 w2
      have hr := res3 (w := w1) (r := w.heap.size + 2) (.int .i64 3) (.int .i64 0) (.slice none 0 0) R0 R1 R2
      go_wp2
      refine bodyPost_ret (v := .agg #[.int .i64 3, .int .i64 0, .slice none 0 0]) (by simp only [results, Try.results28]; simp [go_sem, hr.1, hr.2.1, hr.2.2]) rfl ⟨_, rfl, PairsAt.nil _ _ _ _ _, (by repeat' (first | with_reducible exact Below.refl _ _ | with_reducible assumption | with_reducible refine Below.drew ?_ | with_reducible refine Below.alloc ?_ ?_ _ | with_reducible refine Below.setCell ?_ ?_ _ | (simp; done) | (simp; omega) | omega))⟩
    | true =>
      have hwf := prB_wf hp
      simp only at hwf
      have hlw := put_length HFi.out.sorted (c, g)
      have hlm := HFi.out.len
      have hl21 : (Proofs.Ytlkabmgindbbmaa.put ps (c, g)).length ≤ 21 := by rw [hlw]; split <;> omega
      by_cases hl : (Proofs.Ytlkabmgindbbmaa.put ps (c, g)).length ≤ 20
      · obtain ⟨e1, e2, e3⟩ := put_ok hc0 hp hl
        rw [e1, e2, e3]
        clear e1 e2 e3 hc0 hlw
        have hL : (Proofs.Ytlkabmgindbbmaa.put ps (c, g)).length = (without ps c).length + 1 := by unfold Proofs.Ytlkabmgindbbmaa.put; rw [ins_length]
        have HPut : Hid (Proofs.Ytlkabmgindbbmaa.put ps (c, g) = ins (c, g) (without ps c)) := rfl
        rw [HPut.out]
        obtain ⟨i0, hi, hz0, hz1, hz2⟩ := info_parts info_pair3
        go_enter Try.func28, Try.ntmps28
        go_wp2_with fail
        refine HF.mono ?_
        rintro e w1 ⟨rfl, hb1⟩
        have A0 : w1.cell? ⟨w.heap.size, 0, none⟩ = some (.int .i64 fb) := cellb hb1 (by simp [go_sem])
        have A1 : w1.cell? ⟨w.heap.size, 1, none⟩ = some v := cellb hb1 (by simp [go_sem])
        have P0 : w1.cell? ⟨w.heap.size + 1, 0, none⟩ = some (.int .i64 c) := cellb hb1 (by simp [go_sem])
        have P1 : w1.cell? ⟨w.heap.size + 1, 1, none⟩ = some (.int .i64 g) := cellb hb1 (by simp [go_sem])
        have R0 : w1.cell? ⟨w.heap.size + 2, 0, none⟩ = some (.int .i64 0) := cellb hb1 (by simp [go_sem])
        have Z0 : w1.frozen? ⟨w.heap.size + 2, 0, none⟩ = false := by rw [hb1.frozen (p := ⟨w.heap.size + 2, 0, none⟩) (by simp)]; simp [go_sem]
        have R1 : w1.cell? ⟨w.heap.size + 2, 1, none⟩ = some (.int .i64 0) := cellb hb1 (by simp [go_sem])
        have Z1 : w1.frozen? ⟨w.heap.size + 2, 1, none⟩ = false := by rw [hb1.frozen (p := ⟨w.heap.size + 2, 1, none⟩) (by simp)]; simp [go_sem]
        have R2 : w1.cell? ⟨w.heap.size + 2, 2, none⟩ = some (.slice none 0 0) := cellb hb1 (by simp [go_sem])
        have Z2 : w1.frozen? ⟨w.heap.size + 2, 2, none⟩ = false := by rw [hb1.frozen (p := ⟨w.heap.size + 2, 2, none⟩) (by simp)]; simp [go_sem]
        have hb2 : Below w.heap.size w w1 := hb0.trans (hb1.mono (by simp; omega))
        have hs1 : w.heap.size + 3 ≤ w1.heap.size := by have := hb1.size; simp at this; omega
        clear hb1 hb0
        go_wp2_with fail
        refine (l2Pair_calls c g _ _ _ P0 P1).mono ?_
        rintro e w2 ⟨rfl, hw2⟩
        rw [hw2, hp]
        clear hw2 w2
        go_wp2_with fail
        refine (l2Less_owns fb ps c v w.heap.size _ hn (h1.below hb2) A0 A1).mono ?_
        rintro e w3 ⟨x, rfl, hx, hb3⟩
        replace A0 := cellb hb3 A0
        replace P0 := cellb hb3 P0
        replace P1 := cellb hb3 P1
        replace R0 := cellb hb3 R0
        replace Z0 : w3.frozen? ⟨w.heap.size + 2, 0, none⟩ = false := by rw [hb3.frozen (p := ⟨w.heap.size + 2, 0, none⟩) (by simp; omega)]; exact Z0
        replace R1 := cellb hb3 R1
        replace Z1 : w3.frozen? ⟨w.heap.size + 2, 1, none⟩ = false := by rw [hb3.frozen (p := ⟨w.heap.size + 2, 1, none⟩) (by simp; omega)]; exact Z1
        replace R2 := cellb hb3 R2
        replace Z2 : w3.frozen? ⟨w.heap.size + 2, 2, none⟩ = false := by rw [hb3.frozen (p := ⟨w.heap.size + 2, 2, none⟩) (by simp; omega)]; exact Z2
        have hb4 := hb2.trans (hb3.mono (by omega))
        have hs3 : w1.heap.size ≤ w3.heap.size := hb3.size
        obtain ⟨ax, cx, rfl, hcx⟩ := own_room2 hx
        clear hb3 hb2 A1 HF
        have hge2 : ¬ (20 : Int) ≤ ((without ps c).length : Int) := by omega
        have hq3 : PairsAt w1.heap.size w3.heap.size w3 (.slice ax (without ps c).length cx) (without ps c) := own_pairs hx (Nat.le_refl _)
        have hr3 := hq3.read
        have hlc : (without ps c).length ≤ 19 := by omega
        clear hx HPut hl hl21 hL
        generalize hL0 : without ps c = L at *
        have HL0 := hide hL0
        clear hL0
        go_wp2_with fail
        go_loopw [7] (fun i wr => ∃ k : Nat, k ≤ L.length ∧ i = .int .i64 k ∧ Hid (∀ j, j < k → (L.getD j (0, 0)).1 < c) ∧ ∃ n, wr = w3.drewN n) (fun i _ => L.length - (intOf i).toNat)
        case atStart => exact ⟨0, Nat.zero_le _, rfl, fun j hj => by omega, 0, rfl⟩
        case round =>
          obtain ⟨k, hkk, rfl, hj, n, rfl⟩ := hrel
          have hkc : k ≤ cx := by omega
          have hkcI : (k : Int) ≤ (cx : Int) := by omega
          have hkkI : (k : Int) ≤ (L.length : Int) := by omega
          by_cases hlt : k < L.length
          · have hltI : (k : Int) < (L.length : Int) := by omega
            have hpos : L ≠ [] := by intro h; rw [h] at hlt; simp at hlt
            have hr3' := hr3
            obtain ⟨a', c', hv', h3⟩ := hr3'
            rcases h3 with h3 | ⟨b1, o1, ha', h3⟩
            · exact absurd h3 hpos
            have ha1 : ax = a' := by simp at hv'; exact hv'.1
            have ha2 : ax = some ⟨b1, o1, none⟩ := by rw [ha1, ha']
            obtain ⟨g1, _⟩ := h3 k hlt
            clear h3 hv' ha' ha1 hpos
            subst ha2
            by_cases hcm : (L.getD k (0, 0)).1 < c
            · have HJ : Hid (∀ j, j < k + 1 → (L.getD j (0, 0)).1 < c) := fun j hj' => by
                by_cases e : j = k
                · subst e; exact hcm
                · exact hj.out j (by omega)
              generalize (L.getD k (0, 0)).1 = lc at *
              go_wp2_with fail
              go_quiet (fail)
              go_wp2
              go_roundw
              case rel => exact ⟨k + 1, by omega, by go_num, HJ, _, rfl⟩
              case measure => simp [intOf]; omega
            · have hstop : k < L.length → ¬ (L.getD k (0, 0)).1 < (c, g).1 := fun _ => hcm
              have HSt := hide hstop
              have HLt := hide hlt
              clear hstop
              generalize (L.getD k (0, 0)).1 = lc at hcm g1
              go_wp2_with fail
              go_quiet (fail)
              clear hltI g1 hlt
              generalize (some (⟨b1, o1, none⟩ : Addr)) = ax at *
              have hb5 : Below w3.heap.size w3 ((w3.drewN n).drewN nq) := below_drewN (below_drewN (Below.refl _ _) n) nq
              generalize (w3.drewN n).drewN nq = W4 at *
              have hs4 := hb5.size
              replace hr3 := hr3.below hb5
              replace hq3 := hq3.below hb5 (Nat.le_refl _)
              replace A0 := cellb hb5 A0
              replace P0 := cellb hb5 P0
              replace P1 := cellb hb5 P1
              replace R0 := cellb hb5 R0
              replace Z0 : W4.frozen? ⟨w.heap.size + 2, 0, none⟩ = false := by rw [hb5.frozen (p := ⟨w.heap.size + 2, 0, none⟩) (by simp; omega)]; exact Z0
              replace R1 := cellb hb5 R1
              replace Z1 : W4.frozen? ⟨w.heap.size + 2, 1, none⟩ = false := by rw [hb5.frozen (p := ⟨w.heap.size + 2, 1, none⟩) (by simp; omega)]; exact Z1
              replace R2 := cellb hb5 R2
              replace Z2 : W4.frozen? ⟨w.heap.size + 2, 2, none⟩ = false := by rw [hb5.frozen (p := ⟨w.heap.size + 2, 2, none⟩) (by simp; omega)]; exact Z2
              have hb6 := hb4.trans (hb5.mono (by omega))
              clear hb5 hb4
              have hbe : Below W4.heap.size W4 (W4.alloc (.cells #[] 52)) := (Below.refl _ _).alloc (Nat.le_refl _) _
              have hlit : (W4.alloc (.cells #[] 52)).ownsRow W4.heap.size 52 2 (.slice (some ⟨W4.heap.size, 0, none⟩) 0 0) 0 (pvs []) := World.ownsRow_lit (base := W4.heap.size) (e := 52) (size := 2) W4 #[] 0 (Nat.le_refl _) (by simp) rfl
              have hrk := (pread_high hr3 k (by omega)).below hbe
              have htk : Hid (k = (L.take k).length) := by show k = (L.take k).length; rw [List.length_take]; omega
              go_wp2_with (at_builtin; refine wpList_append_pread _ rfl (.tmp 40) (.tmp 43) 48 rfl W4.heap.size 52 i0 (.agg #[.int .i64 0, .int .i64 0]) 16 Try.underlying48 hi hz0 hz1 hz2 rfl _ 0 [] rfl hlit ax (L.take k) k cx rfl htk.out hrk (by unfold maxLen; omega) (by omega) (by simp) ?_)
              intro v5 w5 hown5 hgr5
              have hb7 : Below W4.heap.size W4 w5 := hbe.grown hgr5 (by simp) (fun q hq => (hlit.lt q hq).1)
              have hs5 := hb7.size
              have hq5 := hq3.below hb7 hs4
              have hlow := pairs_low hq5 hcx k hkk
              replace A0 := cellb hb7 A0
              replace P0 := cellb hb7 P0
              replace P1 := cellb hb7 P1
              replace R0 := cellb hb7 R0
              replace Z0 : w5.frozen? ⟨w.heap.size + 2, 0, none⟩ = false := by rw [hb7.frozen (p := ⟨w.heap.size + 2, 0, none⟩) (by simp; omega)]; exact Z0
              replace R1 := cellb hb7 R1
              replace Z1 : w5.frozen? ⟨w.heap.size + 2, 1, none⟩ = false := by rw [hb7.frozen (p := ⟨w.heap.size + 2, 1, none⟩) (by simp; omega)]; exact Z1
              replace R2 := cellb hb7 R2
              replace Z2 : w5.frozen? ⟨w.heap.size + 2, 2, none⟩ = false := by rw [hb7.frozen (p := ⟨w.heap.size + 2, 2, none⟩) (by simp; omega)]; exact Z2
              have hb8 := hb6.trans (hb7.mono (by omega))
              clear hb7 hgr5 hlit hrk hr3 hbe hb6 htk hq5 hq3
              try simp only [Nat.zero_add, List.nil_append] at hown5
              obtain ⟨a5, c5, rfl, hle5⟩ := own_room2 hown5
              have hW8 : Below w5.heap.size w5 (w5.drew.alloc (.cells #[.int .i64 c, .int .i64 g] 52)) := (by repeat' (first | with_reducible exact Below.refl _ _ | with_reducible assumption | with_reducible refine Below.drew ?_ | with_reducible refine Below.alloc ?_ ?_ _ | with_reducible refine Below.setCell ?_ ?_ _ | (simp; done) | (simp; omega) | omega))
              have hown8 := own_below hown5 hW8
              have hlow8 := hlow.below hW8 (by omega)
              have A8 := cellb hW8 A0
              have P80 := cellb hW8 P0
              have P81 := cellb hW8 P1
              go_wp2_with fail
              refine wp_region_held_drew (S := (fun w' => w'.cell? ⟨w.heap.size, 0, none⟩ = some (.int .i64 fb) ∧ w'.cell? ⟨w.heap.size + 1, 0, none⟩ = some (.int .i64 c) ∧ w'.cell? ⟨w.heap.size + 1, 1, none⟩ = some (.int .i64 g))) (by kernel_rfl) ?_ (fun hHeld => ?_)
              · (try dsimp only); exact ⟨A0, P0, P1⟩
              refine wpAnyH_take (i := 0) (oi := ⟨_, _, _, _, _, _⟩) (v := ?_) rfl (by kernel_rfl) (by kernel_rfl) (by kernel_rfl) (fun _ _ _ h => h) (Or.inl ⟨by rfl, ?_⟩) hHeld ?_
              rotate_left
              · (intro w hSw; (try dsimp only at hSw); go_simp; try (with_reducible rfl))
              try simp only [Act.put, List.setIfInBounds_toArray, List.set_cons_zero, List.set_cons_succ]
              refine wpAnyH_take (i := 1) (oi := ⟨_, _, _, _, _, _⟩) (v := ?_) rfl (by kernel_rfl) (by kernel_rfl) (by kernel_rfl) (fun _ _ _ h => h) (Or.inl ⟨by rfl, ?_⟩) hHeld ?_
              rotate_left
              · (intro w hSw; (try dsimp only at hSw); go_simp; try (with_reducible rfl))
              try simp only [Act.put, List.setIfInBounds_toArray, List.set_cons_zero, List.set_cons_succ]
              refine wpAnyH_take (i := 2) (oi := ⟨_, _, _, _, _, _⟩) (v := ?_) rfl (by kernel_rfl) (by kernel_rfl) (by kernel_rfl) (fun _ _ _ h => h) (Or.inl ⟨by rfl, ?_⟩) hHeld ?_
              rotate_left
              · (intro w hSw; (try dsimp only at hSw); go_simp; try (with_reducible rfl))
              try simp only [Act.put, List.setIfInBounds_toArray, List.set_cons_zero, List.set_cons_succ]
              refine wpAnyH_take (i := 3) (oi := ⟨_, _, _, _, _, _⟩) (v := ?_) rfl (by kernel_rfl) (by kernel_rfl) (by kernel_rfl) (fun _ _ _ h => h) (Or.inl ⟨by rfl, ?_⟩) hHeld ?_
              rotate_left
              · (intro w hSw; (try dsimp only at hSw); go_simp; try (with_reducible rfl))
              try simp only [Act.put, List.setIfInBounds_toArray, List.set_cons_zero, List.set_cons_succ]
              refine wpAnyH_take (i := 6) (oi := ⟨_, _, _, _, _, _⟩) (v := ?_) rfl (by kernel_rfl) (by kernel_rfl) (by kernel_rfl) (fun _ _ _ h => h) (Or.inl ⟨by rfl, ?_⟩) hHeld ?_
              rotate_left
              · (intro w hSw; (try dsimp only at hSw); go_simp; try (with_reducible rfl))
              try simp only [Act.put, List.setIfInBounds_toArray, List.set_cons_zero, List.set_cons_succ]
              refine wpAnyH_take (i := 7) (oi := ⟨_, _, _, _, _, _⟩) (v := ?_) rfl (by kernel_rfl) (by kernel_rfl) (by kernel_rfl) (fun _ _ _ h => h) (Or.inl ⟨by rfl, ?_⟩) hHeld ?_
              rotate_left
              · (intro w hSw; (try dsimp only at hSw); go_simp; try (with_reducible rfl))
              try simp only [Act.put, List.setIfInBounds_toArray, List.set_cons_zero, List.set_cons_succ]
              refine wpAnyH_take (i := 8) (oi := ⟨_, _, _, _, _, _⟩) (v := ?_) rfl (by kernel_rfl) (by kernel_rfl) (by kernel_rfl) (fun _ _ _ h => h) (Or.inl ⟨by rfl, ?_⟩) hHeld ?_
              rotate_left
              · (intro w hSw; (try dsimp only at hSw); go_simp; try (with_reducible rfl))
              try simp only [Act.put, List.setIfInBounds_toArray, List.set_cons_zero, List.set_cons_succ]
              generalize (if cx = k then ax else Option.map (fun x => x.add (k * 2)) ax) = ad at *
              refine wpAnyH_ready (rs := [4]) (by kernel_rfl) (by simp) ?_
              refine (AllReadyH.cons (o := ⟨_, _, _, _, _, _⟩) rfl (fun K hK => ?_) AllReadyH.nil)
              go_simp
              refine hK.out _ _ ?_ ?_
              · (try dsimp only); exact ⟨A8, P80, P81⟩
              clear hHeld hK K
              intro hHeld
              try simp only [Act.put, List.setIfInBounds_toArray, List.set_cons_zero, List.set_cons_succ]
              refine wpAnyH_ready (rs := [5]) (by kernel_rfl) (by simp) ?_
              refine (AllReadyH.cons (o := ⟨_, _, _, _, _, _⟩) rfl (fun K hK => ?_) AllReadyH.nil)
              refine step_append2 rfl (.tmp 47) (.tmp 49) 48 rfl W4.heap.size 52 i0 (.agg #[.int .i64 0, .int .i64 0]) 2 16 Try.underlying48 hi hz0 hz1 hz2 rfl (by decide) _ k (pvs (L.take k)) rfl hown8 ⟨w5.heap.size, 0, none⟩ 1 1 (pvs [(c, g)]) rfl rfl (new_row_at (by simp) rfl) (pvs_one _) (by unfold maxLen; omega) (by omega) (by simp; omega) ?_
              intro v6 w6 hown6 hgr6
              rw [← pvs_append] at hown6
              have hb9 : Below W4.heap.size (w5.drew.alloc (.cells #[.int .i64 c, .int .i64 g] 52)) w6 := (Below.refl _ _).grown hgr6 (by simp; omega) (fun q hq => (hown8.lt q hq).1)
              have hs6 : w5.heap.size < w6.heap.size := by have := hb9.size; simp at this; omega
              have hlow9 := hlow8.below hb9 hs4
              have A9 := cellk hb9 (by omega) A8
              have P90 := cellk hb9 (by omega) P80
              have P91 := cellk hb9 (by omega) P81
              refine hK.out _ _ ?_ ?_
              · (try dsimp only); exact ⟨A9, P90, P91⟩
              clear hHeld hK K
              intro hHeld
              try simp only [Act.put, List.setIfInBounds_toArray, List.set_cons_zero, List.set_cons_succ]
              refine wpAnyH_ready (rs := [9]) (by kernel_rfl) (by simp) ?_
              refine (AllReadyH.cons (o := ⟨_, _, _, _, _, _⟩) rfl (fun K hK => ?_) AllReadyH.nil)
              refine step_append_pread rfl (.tmp 50) (.tmp 53) 48 rfl W4.heap.size 52 i0 (.agg #[.int .i64 0, .int .i64 0]) 16 Try.underlying48 hi hz0 hz1 hz2 rfl _ (k + 1) (L.take k ++ [(c, g)]) rfl hown6 ad (L.drop k) (L.length - k) (cx - k) rfl (by rw [List.length_drop]) hlow9.read (by unfold maxLen; omega) (by omega) (by omega) ?_
              intro v7 w7 hown7 hgr7
              have hb10 : Below W4.heap.size w6 w7 := (Below.refl _ _).grown hgr7 (by omega) (fun q hq => (hown6.lt q hq).1)
              have hs7 := hb10.size
              have A10 := cellk hb10 (by omega) A9
              have P100 := cellk hb10 (by omega) P90
              have P101 := cellk hb10 (by omega) P91
              have hcount : k + 1 + (L.length - k) = L.length + 1 := by omega
              rw [hcount] at hown7
              obtain ⟨a7, c7, rfl, hle7⟩ := own_room2 hown7
              have hb11 : Below W4.heap.size w5 w7 := (hW8.mono (by omega)).trans (hb9.trans hb10)
              have R70 := cellk hb11 (by omega) R0
              have R71 := cellk hb11 (by omega) R1
              have R72 := cellk hb11 (by omega) R2
              have Z70 : w7.frozen? ⟨w.heap.size + 2, 0, none⟩ = false := by rw [hb11.frozen (p := ⟨w.heap.size + 2, 0, none⟩) (by simp; omega)]; exact Z0
              have Z71 : w7.frozen? ⟨w.heap.size + 2, 1, none⟩ = false := by rw [hb11.frozen (p := ⟨w.heap.size + 2, 1, none⟩) (by simp; omega)]; exact Z1
              have Z72 : w7.frozen? ⟨w.heap.size + 2, 2, none⟩ = false := by rw [hb11.frozen (p := ⟨w.heap.size + 2, 2, none⟩) (by simp; omega)]; exact Z2
              have hb12 := hb8.trans (hb11.mono (by omega))
              refine hK.out _ _ ?_ ?_
              · (try dsimp only); exact ⟨A10, P100, P101⟩
              clear hHeld hK K
              intro hHeld
              try simp only [Act.put, List.setIfInBounds_toArray, List.set_cons_zero, List.set_cons_succ]
              refine wpAnyH_take (i := 10) (oi := ⟨_, _, _, _, _, _⟩) (v := ?_) rfl (by kernel_rfl) (by kernel_rfl) (by kernel_rfl) (fun _ _ _ h => h) (Or.inl ⟨by rfl, ?_⟩) hHeld ?_
              rotate_left
              · (intro w hSw; (try dsimp only at hSw); go_simp; try (with_reducible rfl))
              try simp only [Act.put, List.setIfInBounds_toArray, List.set_cons_zero, List.set_cons_succ]
              refine wpAnyH_take (i := 11) (oi := ⟨_, _, _, _, _, _⟩) (v := ?_) rfl (by kernel_rfl) (by kernel_rfl) (by kernel_rfl) (fun _ _ _ h => h) (Or.inl ⟨by rfl, ?_⟩) hHeld ?_
              rotate_left
              · (intro w hSw; (try dsimp only at hSw); go_simp; try (with_reducible rfl))
              try simp only [Act.put, List.setIfInBounds_toArray, List.set_cons_zero, List.set_cons_succ]
              refine wpAnyH_ready (rs := [12]) (by kernel_rfl) (by simp) ?_
              refine (AllReadyH.cons (o := ⟨_, _, _, _, _, _⟩) rfl (fun K hK => ?_) AllReadyH.nil)
              go_simp
              refine hK.out _ _ ?_ ?_
              · (try dsimp only); exact ⟨by rw [World.cell?_setCell_other _ _ _ _ (addr_ne (by omega)), World.cell?_setCell_other _ _ _ _ (addr_ne (by omega)), World.cell?_setCell_other _ _ _ _ (addr_ne (by omega))]; exact A10, by rw [World.cell?_setCell_other _ _ _ _ (addr_ne (by omega)), World.cell?_setCell_other _ _ _ _ (addr_ne (by omega)), World.cell?_setCell_other _ _ _ _ (addr_ne (by omega))]; exact P100, by rw [World.cell?_setCell_other _ _ _ _ (addr_ne (by omega)), World.cell?_setCell_other _ _ _ _ (addr_ne (by omega)), World.cell?_setCell_other _ _ _ _ (addr_ne (by omega))]; exact P101⟩
              clear hHeld hK K
              intro hHeld
              try simp only [Act.put, List.setIfInBounds_toArray, List.set_cons_zero, List.set_cons_succ]
              refine wpAnyH_done (by kernel_rfl) ?_ _
              have hr := res3 (w := w7) (r := w.heap.size + 2) (.int .i64 0) (.int .i64 fb) (.slice a7 (L.length + 1) c7) R70 R71 R72
              have hx : PairsAt W4.heap.size w7.heap.size w7 (.slice a7 (L.length + 1) c7) (ins (c, g) (without ps c)) := by have h := own_pairs hown7 (Nat.le_refl w7.heap.size); rw [HL0.out, ins_at (p := (c, g)) L k hj.out hkk (fun h => by have hh := HSt.out h; intro h2; simp at hh h2; omega), List.append_cons]; exact h
              try go_wp2
              refine bodyPost_ret (v := .agg #[.int .i64 0, .int .i64 fb, .slice a7 (L.length + 1) c7]) (by simp only [results, Try.results28]; simp [go_sem, hr.1, hr.2.1, hr.2.2]) rfl ⟨_, rfl, ?_, (by repeat' (first | with_reducible exact Below.refl _ _ | with_reducible assumption | with_reducible refine Below.drew ?_ | with_reducible refine Below.alloc ?_ ?_ _ | with_reducible refine Below.setCell ?_ ?_ _ | (simp; done) | (simp; omega) | omega))⟩
              refine (hx.of_blocks ?_).mono (by omega) (by simp [World.setCell])
              intro i hi _
              simp only [World.setCell, Array.getElem?_modify]
              repeat rw [if_neg (by omega)]
          · have hstop : k < L.length → ¬ (L.getD k (0, 0)).1 < (c, g).1 := fun h => absurd h hlt
            have hge : ¬ ((k : Int) < (L.length : Int)) := by omega
            have HSt := hide hstop
            clear hstop
            go_wp2_with fail
            go_quiet (fail)
            clear hge
            have hb5 : Below w3.heap.size w3 ((w3.drewN n).drewN nq) := below_drewN (below_drewN (Below.refl _ _) n) nq
            generalize (w3.drewN n).drewN nq = W4 at *
            have hs4 := hb5.size
            replace hr3 := hr3.below hb5
            replace hq3 := hq3.below hb5 (Nat.le_refl _)
            replace A0 := cellb hb5 A0
            replace P0 := cellb hb5 P0
            replace P1 := cellb hb5 P1
            replace R0 := cellb hb5 R0
            replace Z0 : W4.frozen? ⟨w.heap.size + 2, 0, none⟩ = false := by rw [hb5.frozen (p := ⟨w.heap.size + 2, 0, none⟩) (by simp; omega)]; exact Z0
            replace R1 := cellb hb5 R1
            replace Z1 : W4.frozen? ⟨w.heap.size + 2, 1, none⟩ = false := by rw [hb5.frozen (p := ⟨w.heap.size + 2, 1, none⟩) (by simp; omega)]; exact Z1
            replace R2 := cellb hb5 R2
            replace Z2 : W4.frozen? ⟨w.heap.size + 2, 2, none⟩ = false := by rw [hb5.frozen (p := ⟨w.heap.size + 2, 2, none⟩) (by simp; omega)]; exact Z2
            have hb6 := hb4.trans (hb5.mono (by omega))
            clear hb5 hb4
            have hbe : Below W4.heap.size W4 (W4.alloc (.cells #[] 52)) := (Below.refl _ _).alloc (Nat.le_refl _) _
            have hlit : (W4.alloc (.cells #[] 52)).ownsRow W4.heap.size 52 2 (.slice (some ⟨W4.heap.size, 0, none⟩) 0 0) 0 (pvs []) := World.ownsRow_lit (base := W4.heap.size) (e := 52) (size := 2) W4 #[] 0 (Nat.le_refl _) (by simp) rfl
            have hrk := (pread_high hr3 k (by omega)).below hbe
            have htk : Hid (k = (L.take k).length) := by show k = (L.take k).length; rw [List.length_take]; omega
            go_wp2_with (at_builtin; refine wpList_append_pread _ rfl (.tmp 40) (.tmp 43) 48 rfl W4.heap.size 52 i0 (.agg #[.int .i64 0, .int .i64 0]) 16 Try.underlying48 hi hz0 hz1 hz2 rfl _ 0 [] rfl hlit ax (L.take k) k cx rfl htk.out hrk (by unfold maxLen; omega) (by omega) (by simp) ?_)
            intro v5 w5 hown5 hgr5
            have hb7 : Below W4.heap.size W4 w5 := hbe.grown hgr5 (by simp) (fun q hq => (hlit.lt q hq).1)
            have hs5 := hb7.size
            have hq5 := hq3.below hb7 hs4
            have hlow := pairs_low hq5 hcx k hkk
            replace A0 := cellb hb7 A0
            replace P0 := cellb hb7 P0
            replace P1 := cellb hb7 P1
            replace R0 := cellb hb7 R0
            replace Z0 : w5.frozen? ⟨w.heap.size + 2, 0, none⟩ = false := by rw [hb7.frozen (p := ⟨w.heap.size + 2, 0, none⟩) (by simp; omega)]; exact Z0
            replace R1 := cellb hb7 R1
            replace Z1 : w5.frozen? ⟨w.heap.size + 2, 1, none⟩ = false := by rw [hb7.frozen (p := ⟨w.heap.size + 2, 1, none⟩) (by simp; omega)]; exact Z1
            replace R2 := cellb hb7 R2
            replace Z2 : w5.frozen? ⟨w.heap.size + 2, 2, none⟩ = false := by rw [hb7.frozen (p := ⟨w.heap.size + 2, 2, none⟩) (by simp; omega)]; exact Z2
            have hb8 := hb6.trans (hb7.mono (by omega))
            clear hb7 hgr5 hlit hrk hr3 hbe hb6 htk hq5 hq3
            try simp only [Nat.zero_add, List.nil_append] at hown5
            obtain ⟨a5, c5, rfl, hle5⟩ := own_room2 hown5
            have hW8 : Below w5.heap.size w5 (w5.drew.alloc (.cells #[.int .i64 c, .int .i64 g] 52)) := (by repeat' (first | with_reducible exact Below.refl _ _ | with_reducible assumption | with_reducible refine Below.drew ?_ | with_reducible refine Below.alloc ?_ ?_ _ | with_reducible refine Below.setCell ?_ ?_ _ | (simp; done) | (simp; omega) | omega))
            have hown8 := own_below hown5 hW8
            have hlow8 := hlow.below hW8 (by omega)
            have A8 := cellb hW8 A0
            have P80 := cellb hW8 P0
            have P81 := cellb hW8 P1
            go_wp2_with fail
            refine wp_region_held_drew (S := (fun w' => w'.cell? ⟨w.heap.size, 0, none⟩ = some (.int .i64 fb) ∧ w'.cell? ⟨w.heap.size + 1, 0, none⟩ = some (.int .i64 c) ∧ w'.cell? ⟨w.heap.size + 1, 1, none⟩ = some (.int .i64 g))) (by kernel_rfl) ?_ (fun hHeld => ?_)
            · (try dsimp only); exact ⟨A0, P0, P1⟩
            refine wpAnyH_take (i := 0) (oi := ⟨_, _, _, _, _, _⟩) (v := ?_) rfl (by kernel_rfl) (by kernel_rfl) (by kernel_rfl) (fun _ _ _ h => h) (Or.inl ⟨by rfl, ?_⟩) hHeld ?_
            rotate_left
            · (intro w hSw; (try dsimp only at hSw); go_simp; try (with_reducible rfl))
            try simp only [Act.put, List.setIfInBounds_toArray, List.set_cons_zero, List.set_cons_succ]
            refine wpAnyH_take (i := 1) (oi := ⟨_, _, _, _, _, _⟩) (v := ?_) rfl (by kernel_rfl) (by kernel_rfl) (by kernel_rfl) (fun _ _ _ h => h) (Or.inl ⟨by rfl, ?_⟩) hHeld ?_
            rotate_left
            · (intro w hSw; (try dsimp only at hSw); go_simp; try (with_reducible rfl))
            try simp only [Act.put, List.setIfInBounds_toArray, List.set_cons_zero, List.set_cons_succ]
            refine wpAnyH_take (i := 2) (oi := ⟨_, _, _, _, _, _⟩) (v := ?_) rfl (by kernel_rfl) (by kernel_rfl) (by kernel_rfl) (fun _ _ _ h => h) (Or.inl ⟨by rfl, ?_⟩) hHeld ?_
            rotate_left
            · (intro w hSw; (try dsimp only at hSw); go_simp; try (with_reducible rfl))
            try simp only [Act.put, List.setIfInBounds_toArray, List.set_cons_zero, List.set_cons_succ]
            refine wpAnyH_take (i := 3) (oi := ⟨_, _, _, _, _, _⟩) (v := ?_) rfl (by kernel_rfl) (by kernel_rfl) (by kernel_rfl) (fun _ _ _ h => h) (Or.inl ⟨by rfl, ?_⟩) hHeld ?_
            rotate_left
            · (intro w hSw; (try dsimp only at hSw); go_simp; try (with_reducible rfl))
            try simp only [Act.put, List.setIfInBounds_toArray, List.set_cons_zero, List.set_cons_succ]
            refine wpAnyH_take (i := 6) (oi := ⟨_, _, _, _, _, _⟩) (v := ?_) rfl (by kernel_rfl) (by kernel_rfl) (by kernel_rfl) (fun _ _ _ h => h) (Or.inl ⟨by rfl, ?_⟩) hHeld ?_
            rotate_left
            · (intro w hSw; (try dsimp only at hSw); go_simp; try (with_reducible rfl))
            try simp only [Act.put, List.setIfInBounds_toArray, List.set_cons_zero, List.set_cons_succ]
            refine wpAnyH_take (i := 7) (oi := ⟨_, _, _, _, _, _⟩) (v := ?_) rfl (by kernel_rfl) (by kernel_rfl) (by kernel_rfl) (fun _ _ _ h => h) (Or.inl ⟨by rfl, ?_⟩) hHeld ?_
            rotate_left
            · (intro w hSw; (try dsimp only at hSw); go_simp; try (with_reducible rfl))
            try simp only [Act.put, List.setIfInBounds_toArray, List.set_cons_zero, List.set_cons_succ]
            refine wpAnyH_take (i := 8) (oi := ⟨_, _, _, _, _, _⟩) (v := ?_) rfl (by kernel_rfl) (by kernel_rfl) (by kernel_rfl) (fun _ _ _ h => h) (Or.inl ⟨by rfl, ?_⟩) hHeld ?_
            rotate_left
            · (intro w hSw; (try dsimp only at hSw); go_simp; try (with_reducible rfl))
            try simp only [Act.put, List.setIfInBounds_toArray, List.set_cons_zero, List.set_cons_succ]
            generalize (if cx = k then ax else Option.map (fun x => x.add (k * 2)) ax) = ad at *
            refine wpAnyH_ready (rs := [4]) (by kernel_rfl) (by simp) ?_
            refine (AllReadyH.cons (o := ⟨_, _, _, _, _, _⟩) rfl (fun K hK => ?_) AllReadyH.nil)
            go_simp
            refine hK.out _ _ ?_ ?_
            · (try dsimp only); exact ⟨A8, P80, P81⟩
            clear hHeld hK K
            intro hHeld
            try simp only [Act.put, List.setIfInBounds_toArray, List.set_cons_zero, List.set_cons_succ]
            refine wpAnyH_ready (rs := [5]) (by kernel_rfl) (by simp) ?_
            refine (AllReadyH.cons (o := ⟨_, _, _, _, _, _⟩) rfl (fun K hK => ?_) AllReadyH.nil)
            refine step_append2 rfl (.tmp 47) (.tmp 49) 48 rfl W4.heap.size 52 i0 (.agg #[.int .i64 0, .int .i64 0]) 2 16 Try.underlying48 hi hz0 hz1 hz2 rfl (by decide) _ k (pvs (L.take k)) rfl hown8 ⟨w5.heap.size, 0, none⟩ 1 1 (pvs [(c, g)]) rfl rfl (new_row_at (by simp) rfl) (pvs_one _) (by unfold maxLen; omega) (by omega) (by simp; omega) ?_
            intro v6 w6 hown6 hgr6
            rw [← pvs_append] at hown6
            have hb9 : Below W4.heap.size (w5.drew.alloc (.cells #[.int .i64 c, .int .i64 g] 52)) w6 := (Below.refl _ _).grown hgr6 (by simp; omega) (fun q hq => (hown8.lt q hq).1)
            have hs6 : w5.heap.size < w6.heap.size := by have := hb9.size; simp at this; omega
            have hlow9 := hlow8.below hb9 hs4
            have A9 := cellk hb9 (by omega) A8
            have P90 := cellk hb9 (by omega) P80
            have P91 := cellk hb9 (by omega) P81
            refine hK.out _ _ ?_ ?_
            · (try dsimp only); exact ⟨A9, P90, P91⟩
            clear hHeld hK K
            intro hHeld
            try simp only [Act.put, List.setIfInBounds_toArray, List.set_cons_zero, List.set_cons_succ]
            refine wpAnyH_ready (rs := [9]) (by kernel_rfl) (by simp) ?_
            refine (AllReadyH.cons (o := ⟨_, _, _, _, _, _⟩) rfl (fun K hK => ?_) AllReadyH.nil)
            refine step_append_pread rfl (.tmp 50) (.tmp 53) 48 rfl W4.heap.size 52 i0 (.agg #[.int .i64 0, .int .i64 0]) 16 Try.underlying48 hi hz0 hz1 hz2 rfl _ (k + 1) (L.take k ++ [(c, g)]) rfl hown6 ad (L.drop k) (L.length - k) (cx - k) rfl (by rw [List.length_drop]) hlow9.read (by unfold maxLen; omega) (by omega) (by omega) ?_
            intro v7 w7 hown7 hgr7
            have hb10 : Below W4.heap.size w6 w7 := (Below.refl _ _).grown hgr7 (by omega) (fun q hq => (hown6.lt q hq).1)
            have hs7 := hb10.size
            have A10 := cellk hb10 (by omega) A9
            have P100 := cellk hb10 (by omega) P90
            have P101 := cellk hb10 (by omega) P91
            have hcount : k + 1 + (L.length - k) = L.length + 1 := by omega
            rw [hcount] at hown7
            obtain ⟨a7, c7, rfl, hle7⟩ := own_room2 hown7
            have hb11 : Below W4.heap.size w5 w7 := (hW8.mono (by omega)).trans (hb9.trans hb10)
            have R70 := cellk hb11 (by omega) R0
            have R71 := cellk hb11 (by omega) R1
            have R72 := cellk hb11 (by omega) R2
            have Z70 : w7.frozen? ⟨w.heap.size + 2, 0, none⟩ = false := by rw [hb11.frozen (p := ⟨w.heap.size + 2, 0, none⟩) (by simp; omega)]; exact Z0
            have Z71 : w7.frozen? ⟨w.heap.size + 2, 1, none⟩ = false := by rw [hb11.frozen (p := ⟨w.heap.size + 2, 1, none⟩) (by simp; omega)]; exact Z1
            have Z72 : w7.frozen? ⟨w.heap.size + 2, 2, none⟩ = false := by rw [hb11.frozen (p := ⟨w.heap.size + 2, 2, none⟩) (by simp; omega)]; exact Z2
            have hb12 := hb8.trans (hb11.mono (by omega))
            refine hK.out _ _ ?_ ?_
            · (try dsimp only); exact ⟨A10, P100, P101⟩
            clear hHeld hK K
            intro hHeld
            try simp only [Act.put, List.setIfInBounds_toArray, List.set_cons_zero, List.set_cons_succ]
            refine wpAnyH_take (i := 10) (oi := ⟨_, _, _, _, _, _⟩) (v := ?_) rfl (by kernel_rfl) (by kernel_rfl) (by kernel_rfl) (fun _ _ _ h => h) (Or.inl ⟨by rfl, ?_⟩) hHeld ?_
            rotate_left
            · (intro w hSw; (try dsimp only at hSw); go_simp; try (with_reducible rfl))
            try simp only [Act.put, List.setIfInBounds_toArray, List.set_cons_zero, List.set_cons_succ]
            refine wpAnyH_take (i := 11) (oi := ⟨_, _, _, _, _, _⟩) (v := ?_) rfl (by kernel_rfl) (by kernel_rfl) (by kernel_rfl) (fun _ _ _ h => h) (Or.inl ⟨by rfl, ?_⟩) hHeld ?_
            rotate_left
            · (intro w hSw; (try dsimp only at hSw); go_simp; try (with_reducible rfl))
            try simp only [Act.put, List.setIfInBounds_toArray, List.set_cons_zero, List.set_cons_succ]
            refine wpAnyH_ready (rs := [12]) (by kernel_rfl) (by simp) ?_
            refine (AllReadyH.cons (o := ⟨_, _, _, _, _, _⟩) rfl (fun K hK => ?_) AllReadyH.nil)
            go_simp
            refine hK.out _ _ ?_ ?_
            · (try dsimp only); exact ⟨by rw [World.cell?_setCell_other _ _ _ _ (addr_ne (by omega)), World.cell?_setCell_other _ _ _ _ (addr_ne (by omega)), World.cell?_setCell_other _ _ _ _ (addr_ne (by omega))]; exact A10, by rw [World.cell?_setCell_other _ _ _ _ (addr_ne (by omega)), World.cell?_setCell_other _ _ _ _ (addr_ne (by omega)), World.cell?_setCell_other _ _ _ _ (addr_ne (by omega))]; exact P100, by rw [World.cell?_setCell_other _ _ _ _ (addr_ne (by omega)), World.cell?_setCell_other _ _ _ _ (addr_ne (by omega)), World.cell?_setCell_other _ _ _ _ (addr_ne (by omega))]; exact P101⟩
            clear hHeld hK K
            intro hHeld
            try simp only [Act.put, List.setIfInBounds_toArray, List.set_cons_zero, List.set_cons_succ]
            refine wpAnyH_done (by kernel_rfl) ?_ _
            have hr := res3 (w := w7) (r := w.heap.size + 2) (.int .i64 0) (.int .i64 fb) (.slice a7 (L.length + 1) c7) R70 R71 R72
            have hx : PairsAt W4.heap.size w7.heap.size w7 (.slice a7 (L.length + 1) c7) (ins (c, g) (without ps c)) := by have h := own_pairs hown7 (Nat.le_refl w7.heap.size); rw [HL0.out, ins_at (p := (c, g)) L k hj.out hkk (fun h => by have hh := HSt.out h; intro h2; simp at hh h2; omega), List.append_cons]; exact h
            try go_wp2
            refine bodyPost_ret (v := .agg #[.int .i64 0, .int .i64 fb, .slice a7 (L.length + 1) c7]) (by simp only [results, Try.results28]; simp [go_sem, hr.1, hr.2.1, hr.2.2]) rfl ⟨_, rfl, ?_, (by repeat' (first | with_reducible exact Below.refl _ _ | with_reducible assumption | with_reducible refine Below.drew ?_ | with_reducible refine Below.alloc ?_ ?_ _ | with_reducible refine Below.setCell ?_ ?_ _ | (simp; done) | (simp; omega) | omega))⟩
            refine (hx.of_blocks ?_).mono (by omega) (by simp [World.setCell])
            intro i hi _
            simp only [World.setCell, Array.getElem?_modify]
            repeat rw [if_neg (by omega)]
      · obtain ⟨e1, e2, e3⟩ := put_many hc0 hp hl
        rw [e1, e2, e3]
        clear e1 e2 e3 hc0 hlw
        have hL : (Proofs.Ytlkabmgindbbmaa.put ps (c, g)).length = (without ps c).length + 1 := by unfold Proofs.Ytlkabmgindbbmaa.put; rw [ins_length]
        have HPut : Hid (Proofs.Ytlkabmgindbbmaa.put ps (c, g) = ins (c, g) (without ps c)) := rfl
        skip
        obtain ⟨i0, hi, hz0, hz1, hz2⟩ := info_parts info_pair3
        go_enter Try.func28, Try.ntmps28
        go_wp2_with fail
        refine HF.mono ?_
        rintro e w1 ⟨rfl, hb1⟩
        have A0 : w1.cell? ⟨w.heap.size, 0, none⟩ = some (.int .i64 fb) := cellb hb1 (by simp [go_sem])
        have A1 : w1.cell? ⟨w.heap.size, 1, none⟩ = some v := cellb hb1 (by simp [go_sem])
        have P0 : w1.cell? ⟨w.heap.size + 1, 0, none⟩ = some (.int .i64 c) := cellb hb1 (by simp [go_sem])
        have P1 : w1.cell? ⟨w.heap.size + 1, 1, none⟩ = some (.int .i64 g) := cellb hb1 (by simp [go_sem])
        have R0 : w1.cell? ⟨w.heap.size + 2, 0, none⟩ = some (.int .i64 0) := cellb hb1 (by simp [go_sem])
        have Z0 : w1.frozen? ⟨w.heap.size + 2, 0, none⟩ = false := by rw [hb1.frozen (p := ⟨w.heap.size + 2, 0, none⟩) (by simp)]; simp [go_sem]
        have R1 : w1.cell? ⟨w.heap.size + 2, 1, none⟩ = some (.int .i64 0) := cellb hb1 (by simp [go_sem])
        have Z1 : w1.frozen? ⟨w.heap.size + 2, 1, none⟩ = false := by rw [hb1.frozen (p := ⟨w.heap.size + 2, 1, none⟩) (by simp)]; simp [go_sem]
        have R2 : w1.cell? ⟨w.heap.size + 2, 2, none⟩ = some (.slice none 0 0) := cellb hb1 (by simp [go_sem])
        have Z2 : w1.frozen? ⟨w.heap.size + 2, 2, none⟩ = false := by rw [hb1.frozen (p := ⟨w.heap.size + 2, 2, none⟩) (by simp)]; simp [go_sem]
        have hb2 : Below w.heap.size w w1 := hb0.trans (hb1.mono (by simp; omega))
        have hs1 : w.heap.size + 3 ≤ w1.heap.size := by have := hb1.size; simp at this; omega
        clear hb1 hb0
        go_wp2_with fail
        refine (l2Pair_calls c g _ _ _ P0 P1).mono ?_
        rintro e w2 ⟨rfl, hw2⟩
        rw [hw2, hp]
        clear hw2 w2
        go_wp2_with fail
        refine (l2Less_owns fb ps c v w.heap.size _ hn (h1.below hb2) A0 A1).mono ?_
        rintro e w3 ⟨x, rfl, hx, hb3⟩
        replace A0 := cellb hb3 A0
        replace P0 := cellb hb3 P0
        replace P1 := cellb hb3 P1
        replace R0 := cellb hb3 R0
        replace Z0 : w3.frozen? ⟨w.heap.size + 2, 0, none⟩ = false := by rw [hb3.frozen (p := ⟨w.heap.size + 2, 0, none⟩) (by simp; omega)]; exact Z0
        replace R1 := cellb hb3 R1
        replace Z1 : w3.frozen? ⟨w.heap.size + 2, 1, none⟩ = false := by rw [hb3.frozen (p := ⟨w.heap.size + 2, 1, none⟩) (by simp; omega)]; exact Z1
        replace R2 := cellb hb3 R2
        replace Z2 : w3.frozen? ⟨w.heap.size + 2, 2, none⟩ = false := by rw [hb3.frozen (p := ⟨w.heap.size + 2, 2, none⟩) (by simp; omega)]; exact Z2
        have hb4 := hb2.trans (hb3.mono (by omega))
        have hs3 : w1.heap.size ≤ w3.heap.size := hb3.size
        obtain ⟨ax, cx, rfl, hcx⟩ := own_room2 hx
        clear hb3 hb2 A1 HF
        have hge2 : (20 : Int) ≤ ((without ps c).length : Int) := by omega
        have hr := res3 (w := w3) (r := w.heap.size + 2) (.int .i64 2) (.int .i64 0) (.slice none 0 0) R0 R1 R2
        go_wp2
        refine bodyPost_ret (v := .agg #[.int .i64 2, .int .i64 0, .slice none 0 0]) (by simp only [results, Try.results28]; simp [go_sem, hr.1, hr.2.1, hr.2.2]) rfl ⟨_, rfl, PairsAt.nil _ _ _ _ _, (by repeat' (first | with_reducible exact Below.refl _ _ | with_reducible assumption | with_reducible refine Below.drew ?_ | with_reducible refine Below.alloc ?_ ?_ _ | with_reducible refine Below.setCell ?_ ?_ _ | (simp; done) | (simp; omega) | omega))⟩
  · obtain ⟨e1, e2, e3⟩ := put_fault (p := (c, g)) hc0
    rw [e1, e2, e3]
    clear e1 e2 e3
    generalize fontCode fb ps = code at *
    have hcb : (code != 0) = true := by simpa using hc0
    go_enter Try.func28, Try.ntmps28
    go_wp2_with fail
    refine HF.mono ?_
    rintro e w1 ⟨rfl, hb1⟩
    have A0 : w1.cell? ⟨w.heap.size, 0, none⟩ = some (.int .i64 fb) := cellb hb1 (by simp [go_sem])
    have A1 : w1.cell? ⟨w.heap.size, 1, none⟩ = some v := cellb hb1 (by simp [go_sem])
    have P0 : w1.cell? ⟨w.heap.size + 1, 0, none⟩ = some (.int .i64 c) := cellb hb1 (by simp [go_sem])
    have P1 : w1.cell? ⟨w.heap.size + 1, 1, none⟩ = some (.int .i64 g) := cellb hb1 (by simp [go_sem])
    have R0 : w1.cell? ⟨w.heap.size + 2, 0, none⟩ = some (.int .i64 0) := cellb hb1 (by simp [go_sem])
    have Z0 : w1.frozen? ⟨w.heap.size + 2, 0, none⟩ = false := by rw [hb1.frozen (p := ⟨w.heap.size + 2, 0, none⟩) (by simp)]; simp [go_sem]
    have R1 : w1.cell? ⟨w.heap.size + 2, 1, none⟩ = some (.int .i64 0) := cellb hb1 (by simp [go_sem])
    have Z1 : w1.frozen? ⟨w.heap.size + 2, 1, none⟩ = false := by rw [hb1.frozen (p := ⟨w.heap.size + 2, 1, none⟩) (by simp)]; simp [go_sem]
    have R2 : w1.cell? ⟨w.heap.size + 2, 2, none⟩ = some (.slice none 0 0) := cellb hb1 (by simp [go_sem])
    have Z2 : w1.frozen? ⟨w.heap.size + 2, 2, none⟩ = false := by rw [hb1.frozen (p := ⟨w.heap.size + 2, 2, none⟩) (by simp)]; simp [go_sem]
    have hb2 : Below w.heap.size w w1 := hb0.trans (hb1.mono (by simp; omega))
    have hs1 : w.heap.size + 3 ≤ w1.heap.size := by have := hb1.size; simp at this; omega
    clear hb1 hb0
    have hr := res3 (w := w1) (r := w.heap.size + 2) (.int .i64 code) (.int .i64 0) (.slice none 0 0) R0 R1 R2
    go_wp2
    refine bodyPost_ret (v := .agg #[.int .i64 code, .int .i64 0, .slice none 0 0]) (by simp only [results, Try.results28]; simp [go_sem, hr.1, hr.2.1, hr.2.2]) rfl ⟨_, rfl, PairsAt.nil _ _ _ _ _, (by repeat' (first | with_reducible exact Below.refl _ _ | with_reducible assumption | with_reducible refine Below.drew ?_ | with_reducible refine Below.alloc ?_ ?_ _ | with_reducible refine Below.setCell ?_ ?_ _ | (simp; done) | (simp; omega) | omega))⟩

end Go.Proofs.Ytlkabmgindbbmaa
