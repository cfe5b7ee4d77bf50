/-
  A parser whose numbers are copied: impl.ownParser, spec.l4Copy walked.
-/
import Derived.Test.YtaljegjflkebcaaRows
import Derived.Test.YtaljegjflkebcaaAppendRead
import Derived.Test.YtaljegjflkebcaaWithPar
namespace Go.Proofs.Ytaljegjflkebcaa
open Go.ChangeShapes Go.WideShapes Go.ChangeAt Go.RowKit
set_option linter.unusedVariables false
set_option linter.unusedSimpArgs false

set_option maxHeartbeats 1000000 in
theorem ownParser_calls (md st : Int) (pv : Bool) (ns : List Int) (v : Value) (w : World) (hn : ns.length ≤ 1048576) (h1 : ReadAt .i64 w v ns) :
    Calls Try.prog 43 #[.agg #[.int .i64 md, .int .i64 st, .bool pv, v]] w fun e w' => ∃ v', e = .returned (.agg #[.int .i64 md, .int .i64 st, .bool pv, v']) ∧ w'.ownsRow w.heap.size 2 1 v' ns.length (intsV ns) ∧ Below w.heap.size w w' := by
  obtain ⟨i0, hi, hz0, hz1, hz2⟩ := info_parts info_ints
  have h1' := h1
  obtain ⟨a1, c1, rfl, _⟩ := h1'
  have hb0 : Below w.heap.size w ((w.alloc (.cells #[.int .i64 md, .int .i64 st, .bool pv, .slice a1 ns.length c1] 27)).alloc (.cells #[.int .i64 0, .int .i64 0, .bool false, .slice none 0 0] 27)) := (by repeat' (first | with_reducible exact Below.refl _ _ | with_reducible assumption | with_reducible refine Below.drew ?_ | with_reducible refine Below.alloc ?_ ?_ _ | with_reducible refine Below.setCell ?_ ?_ _ | (simp; done) | (simp; omega) | omega))
  have HO : ((w.alloc (.cells #[.int .i64 md, .int .i64 st, .bool pv, .slice a1 ns.length c1] 27)).alloc (.cells #[.int .i64 0, .int .i64 0, .bool false, .slice none 0 0] 27)).ownsRow (w.heap.size + 2) 2 1 (.slice none 0 0) 0 (intsV []) := World.ownsRow_nil _ _ _ _
  have HR := h1.below hb0
  go_enter Try.func43, Try.ntmps43
  go_wp2_with (at_builtin; refine wpList_append_ints _ rfl (.const (.slice none 0 0)) (.tmp 4) 22 rfl (w.heap.size + 2) 2 i0 (.int .i64 0) 8 Try.underlying22 hi hz0 hz1 hz2 rfl (.slice none 0 0) 0 [] rfl HO a1 ns ns.length c1 rfl rfl HR (by unfold maxLen; omega) (by omega) (by simp; try omega) ?_)
  intro v' w1 hown1 hgr1
  replace hown1 : w1.ownsRow (w.heap.size + 2) 2 1 v' ns.length (intsV ns) := by simpa using hown1
  obtain ⟨a3, c3, rfl⟩ := own_form hown1
  have hs1 : w.heap.size + 2 ≤ w1.heap.size := by have := hgr1.size; simp at this; omega
  have hcell : ∀ b o, b < w.heap.size + 2 → w1.cell? ⟨b, o, none⟩ = ((w.alloc (.cells #[.int .i64 md, .int .i64 st, .bool pv, .slice a1 ns.length c1] 27)).alloc (.cells #[.int .i64 0, .int .i64 0, .bool false, .slice none 0 0] 27)).cell? ⟨b, o, none⟩ := fun b o hb => World.cell?_of_block (w := ((w.alloc (.cells #[.int .i64 md, .int .i64 st, .bool pv, .slice a1 ns.length c1] 27)).alloc (.cells #[.int .i64 0, .int .i64 0, .bool false, .slice none 0 0] 27))) (a := ⟨b, o, none⟩) (hgr1.block b (by simp; omega) (by simp [Value.ownBlock]))
  have hfz : ∀ b o, b < w.heap.size + 2 → w1.frozen? ⟨b, o, none⟩ = ((w.alloc (.cells #[.int .i64 md, .int .i64 st, .bool pv, .slice a1 ns.length c1] 27)).alloc (.cells #[.int .i64 0, .int .i64 0, .bool false, .slice none 0 0] 27)).frozen? ⟨b, o, none⟩ := fun b o hb => World.frozen?_of_block (w := ((w.alloc (.cells #[.int .i64 md, .int .i64 st, .bool pv, .slice a1 ns.length c1] 27)).alloc (.cells #[.int .i64 0, .int .i64 0, .bool false, .slice none 0 0] 27))) (a := ⟨b, o, none⟩) (hgr1.block b (by simp; omega) (by simp [Value.ownBlock]))
  have k0 : w1.cell? ⟨w.heap.size, 0, none⟩ = some (.int .i64 md) := by rw [hcell _ _ (by omega)]; simp [go_sem]
  have k1 : w1.cell? ⟨w.heap.size, 1, none⟩ = some (.int .i64 st) := by rw [hcell _ _ (by omega)]; simp [go_sem]
  have k2 : w1.cell? ⟨w.heap.size, 2, none⟩ = some (.bool pv) := by rw [hcell _ _ (by omega)]; simp [go_sem]
  have k3 : w1.cell? ⟨w.heap.size, 3, none⟩ = some (.slice a1 ns.length c1) := by rw [hcell _ _ (by omega)]; simp [go_sem]
  have j0 : w1.cell? ⟨w.heap.size + 1, 0, none⟩ = some (.int .i64 0) := by rw [hcell _ _ (by omega)]; simp [go_sem]
  have j1 : w1.cell? ⟨w.heap.size + 1, 1, none⟩ = some (.int .i64 0) := by rw [hcell _ _ (by omega)]; simp [go_sem]
  have j2 : w1.cell? ⟨w.heap.size + 1, 2, none⟩ = some (.bool false) := by rw [hcell _ _ (by omega)]; simp [go_sem]
  have j3 : w1.cell? ⟨w.heap.size + 1, 3, none⟩ = some (.slice none 0 0) := by rw [hcell _ _ (by omega)]; simp [go_sem]
  have f0 : ∀ o, w1.frozen? ⟨w.heap.size, o, none⟩ = false := fun o => by rw [hfz _ _ (by omega)]; simp [go_sem]
  have f1 : ∀ o, w1.frozen? ⟨w.heap.size + 1, o, none⟩ = false := fun o => by rw [hfz _ _ (by omega)]; simp [go_sem]
  have hb1 : Below w.heap.size w w1 := hb0.trans ((Below.refl _ _).grown hgr1 (by simp; omega) (fun q hq => by simp [Value.ownBlock] at hq))
  have HB : Hid (∀ b, w.heap.size ≤ b → b < w.heap.size + 2 → some b ≠ (Value.slice a3 ns.length c3).ownBlock) := hide (fun b h1 h2 h => by have := (hown1.lt b h.symm).1; omega)
  have HW := hide hown1
  clear hgr1 hcell hfz hown1 HR HO hb0
  go_wp2
  refine bodyPost_ret (v := .agg #[.int .i64 md, .int .i64 st, .bool pv, .slice a3 ns.length c3]) (by simp only [results, Try.results43]; simp [go_sem, k0, k1, k2, k3, j0, j1, j2, j3]) rfl ⟨_, rfl, ?_, ?_⟩
  · refine own_base (base := w.heap.size + 2) ?_ (by omega)
    repeat' (first | with_reducible exact HW.out | with_reducible refine own_setCell ?_ ?_ | exact HB.out _ (by omega) (by omega))
  · exact (by repeat' (first | with_reducible exact Below.refl _ _ | with_reducible assumption | with_reducible refine Below.drew ?_ | with_reducible refine Below.alloc ?_ ?_ _ | with_reducible refine Below.setCell ?_ ?_ _ | (simp; done) | (simp; omega) | omega))

set_option maxHeartbeats 1000000 in
theorem l4Copy_calls (md st : Int) (pv : Bool) (ns : List Int) (v : Value) (w : World) (hn : ns.length ≤ 1048576) (h1 : ReadAt .i64 w v ns) :
    Calls Try.prog 47 #[.agg #[.int .i64 md, .int .i64 st, .bool pv, v]] w fun e w' => ∃ v', e = .returned (.agg #[.int .i64 md, .int .i64 st, .bool pv, v']) ∧ w'.ownsRow w.heap.size 2 1 v' ns.length (intsV ns) ∧ Below w.heap.size w w' := by
  obtain ⟨i0, hi, hz0, hz1, hz2⟩ := info_parts info_ints
  have h1' := h1
  obtain ⟨a1, c1, rfl, _⟩ := h1'
  have hb0 : Below w.heap.size w (((w.alloc (.cells #[.int .i64 md, .int .i64 st, .bool pv, .slice a1 ns.length c1] 27)).alloc (.cells #[.int .i64 0, .int .i64 0, .bool false, .slice none 0 0] 27)).alloc (.cells #[] 2)) := (by repeat' (first | with_reducible exact Below.refl _ _ | with_reducible assumption | with_reducible refine Below.drew ?_ | with_reducible refine Below.alloc ?_ ?_ _ | with_reducible refine Below.setCell ?_ ?_ _ | (simp; done) | (simp; omega) | omega))
  have HO : (((w.alloc (.cells #[.int .i64 md, .int .i64 st, .bool pv, .slice a1 ns.length c1] 27)).alloc (.cells #[.int .i64 0, .int .i64 0, .bool false, .slice none 0 0] 27)).alloc (.cells #[] 2)).ownsRow (w.heap.size + 2) 2 1 (.slice (some ⟨w.heap.size + 2, 0, none⟩) 0 0) 0 (intsV []) := by have h := World.ownsRow_lit (base := w.heap.size + 2) (e := 2) (size := 1) ((w.alloc (.cells #[.int .i64 md, .int .i64 st, .bool pv, .slice a1 ns.length c1] 27)).alloc (.cells #[.int .i64 0, .int .i64 0, .bool false, .slice none 0 0] 27)) #[] 0 (by simp) (by simp) rfl; simpa [intsV] using h
  have HR := h1.below hb0
  go_enter Try.func47, Try.ntmps47
  go_wp2_with (at_builtin; refine wpList_append_ints _ rfl (.tmp 3) (.tmp 5) 22 rfl (w.heap.size + 2) 2 i0 (.int .i64 0) 8 Try.underlying22 hi hz0 hz1 hz2 rfl (.slice (some ⟨w.heap.size + 2, 0, none⟩) 0 0) 0 [] rfl HO a1 ns ns.length c1 rfl rfl HR (by unfold maxLen; omega) (by omega) (by simp; try omega) ?_)
  intro v' w1 hown1 hgr1
  replace hown1 : w1.ownsRow (w.heap.size + 2) 2 1 v' ns.length (intsV ns) := by simpa using hown1
  obtain ⟨a3, c3, rfl⟩ := own_form hown1
  have hs1 : w.heap.size + 2 ≤ w1.heap.size := by have := hgr1.size; simp at this; omega
  have hcell : ∀ b o, b < w.heap.size + 2 → w1.cell? ⟨b, o, none⟩ = (((w.alloc (.cells #[.int .i64 md, .int .i64 st, .bool pv, .slice a1 ns.length c1] 27)).alloc (.cells #[.int .i64 0, .int .i64 0, .bool false, .slice none 0 0] 27)).alloc (.cells #[] 2)).cell? ⟨b, o, none⟩ := fun b o hb => World.cell?_of_block (w := (((w.alloc (.cells #[.int .i64 md, .int .i64 st, .bool pv, .slice a1 ns.length c1] 27)).alloc (.cells #[.int .i64 0, .int .i64 0, .bool false, .slice none 0 0] 27)).alloc (.cells #[] 2))) (a := ⟨b, o, none⟩) (hgr1.block b (by simp; omega) (by simp [Value.ownBlock]; omega))
  have hfz : ∀ b o, b < w.heap.size + 2 → w1.frozen? ⟨b, o, none⟩ = (((w.alloc (.cells #[.int .i64 md, .int .i64 st, .bool pv, .slice a1 ns.length c1] 27)).alloc (.cells #[.int .i64 0, .int .i64 0, .bool false, .slice none 0 0] 27)).alloc (.cells #[] 2)).frozen? ⟨b, o, none⟩ := fun b o hb => World.frozen?_of_block (w := (((w.alloc (.cells #[.int .i64 md, .int .i64 st, .bool pv, .slice a1 ns.length c1] 27)).alloc (.cells #[.int .i64 0, .int .i64 0, .bool false, .slice none 0 0] 27)).alloc (.cells #[] 2))) (a := ⟨b, o, none⟩) (hgr1.block b (by simp; omega) (by simp [Value.ownBlock]; omega))
  have k0 : w1.cell? ⟨w.heap.size, 0, none⟩ = some (.int .i64 md) := by rw [hcell _ _ (by omega)]; simp [go_sem]
  have k1 : w1.cell? ⟨w.heap.size, 1, none⟩ = some (.int .i64 st) := by rw [hcell _ _ (by omega)]; simp [go_sem]
  have k2 : w1.cell? ⟨w.heap.size, 2, none⟩ = some (.bool pv) := by rw [hcell _ _ (by omega)]; simp [go_sem]
  have k3 : w1.cell? ⟨w.heap.size, 3, none⟩ = some (.slice a1 ns.length c1) := by rw [hcell _ _ (by omega)]; simp [go_sem]
  have j0 : w1.cell? ⟨w.heap.size + 1, 0, none⟩ = some (.int .i64 0) := by rw [hcell _ _ (by omega)]; simp [go_sem]
  have j1 : w1.cell? ⟨w.heap.size + 1, 1, none⟩ = some (.int .i64 0) := by rw [hcell _ _ (by omega)]; simp [go_sem]
  have j2 : w1.cell? ⟨w.heap.size + 1, 2, none⟩ = some (.bool false) := by rw [hcell _ _ (by omega)]; simp [go_sem]
  have j3 : w1.cell? ⟨w.heap.size + 1, 3, none⟩ = some (.slice none 0 0) := by rw [hcell _ _ (by omega)]; simp [go_sem]
  have f0 : ∀ o, w1.frozen? ⟨w.heap.size, o, none⟩ = false := fun o => by rw [hfz _ _ (by omega)]; simp [go_sem]
  have f1 : ∀ o, w1.frozen? ⟨w.heap.size + 1, o, none⟩ = false := fun o => by rw [hfz _ _ (by omega)]; simp [go_sem]
  have hb1 : Below w.heap.size w w1 := hb0.trans ((Below.refl _ _).grown hgr1 (by simp; omega) (fun q hq => by simp [Value.ownBlock] at hq; omega))
  have HB : Hid (∀ b, w.heap.size ≤ b → b < w.heap.size + 2 → some b ≠ (Value.slice a3 ns.length c3).ownBlock) := hide (fun b h1 h2 h => by have := (hown1.lt b h.symm).1; omega)
  have HW := hide hown1
  clear hgr1 hcell hfz hown1 HR HO hb0
  go_wp2
  refine bodyPost_ret (v := .agg #[.int .i64 md, .int .i64 st, .bool pv, .slice a3 ns.length c3]) (by simp only [results, Try.results47]; simp [go_sem, k0, k1, k2, k3, j0, j1, j2, j3]) rfl ⟨_, rfl, ?_, ?_⟩
  · refine own_base (base := w.heap.size + 2) ?_ (by omega)
    repeat' (first | with_reducible exact HW.out | with_reducible refine own_setCell ?_ ?_ | exact HB.out _ (by omega) (by omega))
  · exact (by repeat' (first | with_reducible exact Below.refl _ _ | with_reducible assumption | with_reducible refine Below.drew ?_ | with_reducible refine Below.alloc ?_ ?_ _ | with_reducible refine Below.setCell ?_ ?_ _ | (simp; done) | (simp; omega) | omega))

end Go.Proofs.Ytaljegjflkebcaa
