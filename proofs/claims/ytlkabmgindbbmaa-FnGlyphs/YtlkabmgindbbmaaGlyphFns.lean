/-
  What GlyphOf answers, of the program and of the model.
-/
import Derived.Test.YtlkabmgindbbmaaRows
import Derived.Test.YtlkabmgindbbmaaMapFns
import Derived.Test.YtlkabmgindbbmaaFontFaults
import Derived.Test.YtlkabmgindbbmaaResMem
import Derived.Maps.OwnSet
import Derived.Maps.OwnOps
namespace Go.Proofs.Ytlkabmgindbbmaa
set_option maxRecDepth 20000
open Go.ChangeShapes Go.WideShapes Go.ChangeAt Go.RowKit Go.Maps
set_option linter.unusedVariables false
set_option linter.unusedSimpArgs false

def glyCode (fb : Int) (ps : List (Int × Int)) (c : Int) : Int := if fontCode fb ps = 0 then (if chB c = true then 0 else 3) else fontCode fb ps
def glyVal (fb : Int) (ps : List (Int × Int)) (c : Int) : Int := if fontCode fb ps = 0 then (if chB c = true then (lk ps c).getD fb else 0) else 0

theorem chB_wf {c : Int} (h : chB c = true) : wf64 c := by
  unfold chB at h
  simp at h
  exact wf_small (by omega) (by omega)
theorem lk_drop_hit {ps : List (Int × Int)} {k : Nat} {c g : Int} (hk : k < ps.length) (hc : ps.getD k (0, 0) = (c, g)) : lk (ps.drop k) c = some g := by
  rw [getD_at hk] at hc
  rw [List.drop_eq_getElem_cons hk, hc]
  simp [lk]
theorem lk_drop_miss {ps : List (Int × Int)} {k : Nat} {c : Int} (hk : k < ps.length) (hc : (ps.getD k (0, 0)).1 ≠ c) : lk (ps.drop k) c = lk (ps.drop (k + 1)) c := by
  rw [getD_at hk] at hc
  rw [List.drop_eq_getElem_cons hk (l := ps)]
  unfold lk
  rw [List.find?_cons_of_neg (by simpa using hc)]
theorem lk_drop_end {ps : List (Int × Int)} {k : Nat} {c : Int} (hk : ¬ k < ps.length) : lk (ps.drop k) c = none := by
  rw [List.drop_eq_nil_of_le (by omega)]; rfl


set_option maxHeartbeats 1000000 in
theorem implGlyphOf_calls (fb : Int) (ps : List (Int × Int)) (c : Int) (v : Value) (w : World) (hn : ps.length ≤ 1048576) (h1 : PRead w v ps) :
    Calls Try.prog 32 #[.agg #[.int .i64 fb, v], .int .i64 c] w fun e w' => e = .returned (.agg #[.int .i64 (glyCode fb ps c), .int .i64 (glyVal fb ps c)]) ∧ Below w.heap.size w w' := by
  have hb0 : Below w.heap.size w ((w.alloc (.cells #[.int .i64 fb, v] 50)).alloc (.cells #[.int .i64 0, .int .i64 0] 61)) := (by repeat' (first | with_reducible exact Below.refl _ _ | with_reducible assumption | with_reducible refine Below.drew ?_ | with_reducible refine Below.alloc ?_ ?_ _ | with_reducible refine Below.setCell ?_ ?_ _ | (simp; done) | (simp; omega) | omega))
  have HF := implFontFault_calls fb ps v ((w.alloc (.cells #[.int .i64 fb, v] 50)).alloc (.cells #[.int .i64 0, .int .i64 0] 61)) hn (h1.below hb0)
  by_cases hc0 : fontCode fb ps = 0
  · have HFi := hide (fine_of_code hc0)
    rw [hc0] at HF
    cases hch : chB c with
    | false =>
      have e1 : glyCode fb ps c = 3 := by unfold glyCode; rw [if_pos hc0, hch]; rfl
      have e2 : glyVal fb ps c = 0 := by unfold glyVal; rw [if_pos hc0, hch]; rfl
      rw [e1, e2]
      clear e1 e2 hc0
      go_enter Try.func32, Try.ntmps32
      go_wp2_with fail
      refine HF.mono ?_
      rintro e w1 ⟨rfl, hb1⟩
      have A0 : w1.cell? ⟨w.heap.size, 0, none⟩ = some (.int .i64 fb) := cellb hb1 (by simp)
      have A1 : w1.cell? ⟨w.heap.size, 1, none⟩ = some v := cellb hb1 (by simp)
      have R0 : w1.cell? ⟨w.heap.size + 1, 0, none⟩ = some (.int .i64 0) := cellb hb1 (by simp)
      have Z0 : w1.frozen? ⟨w.heap.size + 1, 0, none⟩ = false := by rw [hb1.frozen (p := ⟨w.heap.size + 1, 0, none⟩) (by simp)]; simp
      have R1 : w1.cell? ⟨w.heap.size + 1, 1, none⟩ = some (.int .i64 0) := cellb hb1 (by simp)
      have Z1 : w1.frozen? ⟨w.heap.size + 1, 1, none⟩ = false := by rw [hb1.frozen (p := ⟨w.heap.size + 1, 1, none⟩) (by simp)]; simp
      have hb2 : Below w.heap.size w w1 := hb0.trans (hb1.mono (by simp; omega))
      have hs1 : w.heap.size + 2 ≤ w1.heap.size := by have := hb1.size; simp at this; omega
      clear hb1 hb0
      go_wp2_with (go_at_call 51; refine (isChar_calls c _).mono ?_; rintro e w' ⟨rfl, hw⟩; rw [hw, hch]; clear hw w')
      have hr := res2 (w := w1) (r := w.heap.size + 1) (.int .i64 3) (.int .i64 0) R0 R1
      try go_wp2
      exact bodyPost_ret (v := .agg #[.int .i64 3, .int .i64 0]) (by simp only [results, Try.results32]; simp [go_sem, hr.1, hr.2]) rfl ⟨rfl, (by repeat' (first | with_reducible exact Below.refl _ _ | with_reducible assumption | with_reducible refine Below.drew ?_ | with_reducible refine Below.alloc ?_ ?_ _ | with_reducible refine Below.setCell ?_ ?_ _ | (simp; done) | (simp; omega) | omega))⟩
    | true =>
      have e1 : glyCode fb ps c = 0 := by unfold glyCode; rw [if_pos hc0, hch]; rfl
      have e2 : glyVal fb ps c = (lk ps c).getD fb := by unfold glyVal; rw [if_pos hc0, hch]; rfl
      rw [e1, e2]
      clear e1 e2 hc0
      have hwc : wf64 c := chB_wf hch
      go_enter Try.func32, Try.ntmps32
      go_wp2_with fail
      refine HF.mono ?_
      rintro e w1 ⟨rfl, hb1⟩
      have A0 : w1.cell? ⟨w.heap.size, 0, none⟩ = some (.int .i64 fb) := cellb hb1 (by simp)
      have A1 : w1.cell? ⟨w.heap.size, 1, none⟩ = some v := cellb hb1 (by simp)
      have R0 : w1.cell? ⟨w.heap.size + 1, 0, none⟩ = some (.int .i64 0) := cellb hb1 (by simp)
      have Z0 : w1.frozen? ⟨w.heap.size + 1, 0, none⟩ = false := by rw [hb1.frozen (p := ⟨w.heap.size + 1, 0, none⟩) (by simp)]; simp
      have R1 : w1.cell? ⟨w.heap.size + 1, 1, none⟩ = some (.int .i64 0) := cellb hb1 (by simp)
      have Z1 : w1.frozen? ⟨w.heap.size + 1, 1, none⟩ = false := by rw [hb1.frozen (p := ⟨w.heap.size + 1, 1, none⟩) (by simp)]; simp
      have hb2 : Below w.heap.size w w1 := hb0.trans (hb1.mono (by simp; omega))
      have hs1 : w.heap.size + 2 ≤ w1.heap.size := by have := hb1.size; simp at this; omega
      clear hb1 hb0
      go_wp2_with (go_at_call 51; refine (isChar_calls c _).mono ?_; rintro e w' ⟨rfl, hw⟩; rw [hw, hch]; clear hw w')
      have hfi := HFi.out
      refine (glyphsOf_calls fb ps _ _ hfi.sorted hfi.ok hfi.len (h1.below hb2)).mono ?_
      rintro e w3 ⟨bm, rfl, hbm, hmap, hb3⟩
      replace A0 := cellb hb3 A0
      replace R0 := cellb hb3 R0
      replace R1 := cellb hb3 R1
      replace Z0 : w3.frozen? ⟨w.heap.size + 1, 0, none⟩ = false := by rw [hb3.frozen (p := ⟨w.heap.size + 1, 0, none⟩) (by simp; omega)]; exact Z0
      replace Z1 : w3.frozen? ⟨w.heap.size + 1, 1, none⟩ = false := by rw [hb3.frozen (p := ⟨w.heap.size + 1, 1, none⟩) (by simp; omega)]; exact Z1
      have hb4 := hb2.trans (hb3.mono (by omega))
      obtain ⟨D, hown, htl⟩ := hmap
      have hkey := keyOf_ck hwc
      have hhas := htl.has c hwc
      have HAt := hide (fun g hg z => htl.at_ c g hwc hg z)
      clear htl hb3 hb2 hfi HFi A1
      cases hlk : lk ps c with
      | none =>
        have hhas2 : Maps.has D (keyL c) = false := by rw [hhas, hlk]; rfl
        clear hhas
        go_wp2_with (at_lookup; refine wpList_lookup_own_ok_int _ rfl _ _ 95 rfl 98 2 .i64 key_law Try.underlying95 Try.underlying2 (zero_elem _) bm ps.length D rfl hown _ _ rfl hkey ?_; intro x hat hwx; rw [hhas2])
        have hr := res2 (w := w3) (r := w.heap.size + 1) (.int .i64 0) (.int .i64 fb) R0 R1
        try go_wp2
        exact bodyPost_ret (v := .agg #[.int .i64 0, .int .i64 fb]) (by simp only [results, Try.results32]; simp [go_sem, hr.1, hr.2]) rfl ⟨by rw [hlk]; rfl, (by repeat' (first | with_reducible exact Below.refl _ _ | with_reducible assumption | with_reducible refine Below.drew ?_ | with_reducible refine Below.alloc ?_ ?_ _ | with_reducible refine Below.setCell ?_ ?_ _ | (simp; done) | (simp; omega) | omega))⟩
      | some g =>
        have hhas2 : Maps.has D (keyL c) = true := by rw [hhas, hlk]; rfl
        clear hhas
        go_wp2_with (at_lookup; refine wpList_lookup_own_ok_int _ rfl _ _ 95 rfl 98 2 .i64 key_law Try.underlying95 Try.underlying2 (zero_elem _) bm ps.length D rfl hown _ _ rfl hkey ?_; intro x hat hwx; rw [hhas2])
        obtain rfl : g = x := by rw [HAt.out g hlk] at hat; simpa using hat
        have hr := res2 (w := w3) (r := w.heap.size + 1) (.int .i64 0) (.int .i64 g) R0 R1
        try go_wp2
        exact bodyPost_ret (v := .agg #[.int .i64 0, .int .i64 g]) (by simp only [results, Try.results32]; simp [go_sem, hr.1, hr.2]) rfl ⟨by rw [hlk]; rfl, (by repeat' (first | with_reducible exact Below.refl _ _ | with_reducible assumption | with_reducible refine Below.drew ?_ | with_reducible refine Below.alloc ?_ ?_ _ | with_reducible refine Below.setCell ?_ ?_ _ | (simp; done) | (simp; omega) | omega))⟩
  · have e1 : glyCode fb ps c = fontCode fb ps := by unfold glyCode; rw [if_neg hc0]
    have e2 : glyVal fb ps c = 0 := by unfold glyVal; rw [if_neg hc0]
    rw [e1, e2]
    clear e1 e2
    generalize fontCode fb ps = code at *
    have hcb : (code != 0) = true := by simpa using hc0
    go_enter Try.func32, Try.ntmps32
    go_wp2_with fail
    refine HF.mono ?_
    rintro e w1 ⟨rfl, hb1⟩
    have A0 : w1.cell? ⟨w.heap.size, 0, none⟩ = some (.int .i64 fb) := cellb hb1 (by simp)
    have A1 : w1.cell? ⟨w.heap.size, 1, none⟩ = some v := cellb hb1 (by simp)
    have R0 : w1.cell? ⟨w.heap.size + 1, 0, none⟩ = some (.int .i64 0) := cellb hb1 (by simp)
    have Z0 : w1.frozen? ⟨w.heap.size + 1, 0, none⟩ = false := by rw [hb1.frozen (p := ⟨w.heap.size + 1, 0, none⟩) (by simp)]; simp
    have R1 : w1.cell? ⟨w.heap.size + 1, 1, none⟩ = some (.int .i64 0) := cellb hb1 (by simp)
    have Z1 : w1.frozen? ⟨w.heap.size + 1, 1, none⟩ = false := by rw [hb1.frozen (p := ⟨w.heap.size + 1, 1, none⟩) (by simp)]; simp
    have hb2 : Below w.heap.size w w1 := hb0.trans (hb1.mono (by simp; omega))
    have hs1 : w.heap.size + 2 ≤ w1.heap.size := by have := hb1.size; simp at this; omega
    clear hb1 hb0
    have hr := res2 (w := w1) (r := w.heap.size + 1) (.int .i64 code) (.int .i64 0) R0 R1
    go_wp2
    exact bodyPost_ret (v := .agg #[.int .i64 code, .int .i64 0]) (by simp only [results, Try.results32]; simp [go_sem, hr.1, hr.2]) rfl ⟨rfl, (by repeat' (first | with_reducible exact Below.refl _ _ | with_reducible assumption | with_reducible refine Below.drew ?_ | with_reducible refine Below.alloc ?_ ?_ _ | with_reducible refine Below.setCell ?_ ?_ _ | (simp; done) | (simp; omega) | omega))⟩

end Go.Proofs.Ytlkabmgindbbmaa
