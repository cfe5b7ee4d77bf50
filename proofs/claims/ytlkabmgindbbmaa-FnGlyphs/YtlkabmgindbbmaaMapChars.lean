/-
  The characters of a font's map, sorted: (glyphMap).chars, walked.
-/
import Derived.Test.YtlkabmgindbbmaaRows
import Derived.Test.YtlkabmgindbbmaaMapMem
import Derived.Test.YtlkabmgindbbmaaSortLay
import Derived.WalkKit
import Derived.ProofKit
import Derived.OpenShut
import Derived.Below
import Derived.OwnWalk
import Derived.WalkSpells
import Derived.Maps.RangeWalk
import Derived.Sort.OwnSortedInts
import Derived.Laws.OwnMore
namespace Go.Proofs.Ytlkabmgindbbmaa
set_option maxRecDepth 20000
open Go.ChangeShapes Go.WideShapes Go.ChangeAt Go.RowKit Go.Maps
set_option linter.unusedVariables false
set_option linter.unusedSimpArgs false

theorem info_i64 : (Try.prog.info? 2).map (fun i => (i.zero, i.size, i.bytes)) = some (some (.int .i64 0), 1, 8) := by kernel_rfl
theorem sort_none (p : Option Addr) (cap : Nat) (w : World) : Calls Try.prog 73 #[.slice p 0 cap] w fun e w' => e = .returned (.tuple #[]) ∧ w' = w := AnyM.slices_Sort_int_none srt p cap w
def ckV (x : Int) : Value := .agg #[.int .i64 x]
theorem invK (key : Value) (kl : Lit) (h : keyOf Try.prog 98 key = some kl) : ∃ x, key = ckV x := by obtain ⟨x, hx, _⟩ := keyOf_inv h; exact ⟨x, hx⟩
theorem invV (v : Value) (y : DataW Unit × List MemPlace) (h : plainElem Try.prog 2 v = some y) : ∃ c, v = Value.int .i64 c := by obtain ⟨c, hc, _⟩ := plainElem_int_inv Try.underlying2 h; exact ⟨c, hc⟩

set_option maxHeartbeats 1000000 in
theorem chars_calls (b n : Nat) (ps : List (Int × Int)) (w : World) (hn : n ≤ 100) (hm : MapAt w b n ps) (hwf : ∀ p ∈ ps, wf64 p.1) :
    Calls Try.prog 64 #[.map (some b)] w fun e w' => ∃ x, e = .returned x ∧ IntsAt .i64 w.heap.size w'.heap.size w' x (ps.map (·.1)) ∧ Below w.heap.size w w' := by
  obtain ⟨D, hown, htl⟩ := hm
  have hbw := hown.lt
  have hlen : ps.length ≤ n := by have := hown.size_le; rw [htl.size] at this; exact this
  have HW := hide hwf
  have HT := hide htl
  clear hwf htl
  obtain ⟨i0, hi, hz0, hz1, hz2⟩ := info_parts info_i64
  go_enter Try.func64, Try.ntmps64
  go_wp2_with (at_range; refine wpList_range_own _ rfl _ 95 rfl 98 2 key_law Try.underlying95 _ b n D rfl hown ?_; intro w0 hrg0 hg0 hs0)
  go_frame
  have hb0 : Below w.heap.size w w0 := (Below.refl _ _).grown hg0 (Nat.le_refl _) (fun k hk => by cases hk)
  have HS0 := hide hs0
  clear hs0 hg0
  go_loopw [3] (fun o wr => ∃ left cnt ks, wr.ranges Try.prog 98 (plainElem Try.prog 2) b w.heap.size n D left cnt ∧ Met D left ks ∧ wr.ownsRow (w.heap.size + 1) 2 1 o ks.length (ks.map (Value.int .i64)) ∧ Below w.heap.size w wr ∧ w.heap.size + 1 ≤ wr.heap.size) (fun _ wr => wr.rangeLeft b w.heap.size)
  case atStart => exact ⟨_, _, [], hrg0, Met.start D, World.ownsRow_nil _ _ _ _, hb0, by have := HS0.out; omega⟩
  case round =>
    obtain ⟨left, cnt, ks, hrg, hmet, hrow, hb, hsz⟩ := hrel
    have hkl : ks.length ≤ n := Nat.le_trans (hmet.length HT.out) hlen
    go_wp2_with (at_next; refine wpList_next_ranges _ rfl _ rfl 98 key_law (plainElem Try.prog 2) ckV (Value.int .i64) invK invV b w.heap.size n D _ _ rfl hrg ?done ?more)
    case done =>
      intro _ hl0
      have hsorted := hide (hmet.sorted HT.out hl0 HW.out)
      clear hrg hmet hrg0
      rcases hrow.2 with ⟨rfl, h0⟩ | ⟨g, cap, cur, rfl, hbase, hg, h1, h2, h3, h4⟩
      · obtain rfl : ks = [] := List.length_eq_zero_iff.1 h0
        have hnil : ps.map (·.1) = [] := by rw [← hsorted.out]; simp
        have HN := hide hnil
        clear hnil hrow
        go_wp2_with (go_at_call 73; refine (sort_none _ _ _).mono ?_; rintro e w' ⟨rfl, hw'⟩; rw [hw']; clear hw' w')
        go_ret
        exact ⟨_, rfl, by rw [HN.out]; exact IntsAt.nil _ _ _ _ _ _, hb⟩
      · have hH := holds_of_blockI (ss := ks) hg (by simpa using h4)
        have hgl : g < wr.heap.size := (Array.getElem?_eq_some_iff.1 hg).1
        have hown2 := fun (m : Nat) (os : Array Obj) => ownsRow_sortedI (n := m) (os := os) (ts := ks.mergeSort fun x y => decide (x ≤ y)) (ss := ks) (by simp) hbase hg h1 h2 h3
        have hgr := fun (m : Nat) (os : Array Obj) => grownBy_sortedI (w := wr) (g := g) (n := m) (os := os) (ks.mergeSort fun x y => decide (x ≤ y)).toArray
        clear hg h1 h2 h3 h4 hrow
        go_wp2_with (go_at_call 73; refine (sort_calls g 0 cap ks wr hH hgl (by omega)).mono ?_)
        rintro e w' ⟨rfl, m, os, rfl⟩
        have hown3 := hown2 m os
        have hb3 := hb.grown (hgr m os) (by omega) (fun k hk => by injection hk with hk; omega)
        clear hown2 hgr hH
        generalize hW : Sort.grow _ _ = W3 at *
        clear hW
        rw [hsorted.out] at hown3
        have hln : ks.length = (ps.map (·.1)).length := by rw [← hsorted.out]; simp
        have hx : IntsAt .i64 w.heap.size W3.heap.size W3 (.slice (some ⟨g, 0, none⟩) ks.length cap) (ps.map (·.1)) := (own_ints hown3 (Nat.le_refl _)).mono (by omega) (Nat.le_refl _)
        clear hln hown3
        go_wp2
        go_ret
        exact ⟨_, rfl, hx, hb3⟩
    case more =>
      intro x c kl yd yp w2 cnt2 hkey hlk hv hat hrg2 hlt hg2 hs2 hen
      obtain ⟨x', ex, rfl, hwx⟩ := keyOf_inv hkey
      obtain rfl : x = x' := by simpa [ckV] using ex
      have hmet2 := hide (hmet.step hwx hlk hat)
      have hkl2 : ks.length + 1 ≤ n := by have := hmet2.out.length HT.out; simp at this; omega
      have hrow2 := hrow.kept hg2 (.inr (Ne.symm (row_ne_iter hrow hrg)))
      have hb2 := hb.grown hg2 hb.size (fun k hk => by injection hk with hk; omega)
      have hsz2 : w.heap.size + 1 ≤ w2.heap.size := by omega
      have hrow3 := (hrow2.alloc (.cells #[.int .i64 x] 98)).alloc (.cells #[.int .i64 x] 2)
      have hcn : cnt2 < cnt := hlt
      have HL := hide hrg.left_eq
      clear ex hkey hlk hv hat hs2 hmet hrow hg2 hrg hrg0 hown hb0 hb
      simp only [ckV] at hen ⊢
      go_wp2_with (at_builtin; refine wpList_append_own _ rfl (.tmp 11) (.tmp 14) 28 rfl (w.heap.size + 1) 2 i0 (.int .i64 0) 1 8 Try.underlying28 hi hz0 hz1 hz2 rfl (by decide) _ _ _ rfl hrow3 ⟨w2.heap.size + 1, 0, none⟩ 1 1 [.int .i64 x] rfl rfl (new_row_at (by simp) rfl) (ints_one_cell .i64 [x]) (by unfold maxLen; omega) (by omega) (by simp; omega) ?_)
      intro v' w3 hown3 hgrow3 _
      have hrg3 := ((hrg2.alloc (.cells #[.int .i64 x] 98)).alloc (.cells #[.int .i64 x] 2)).kept hgrow3 (row_ne_low hrow3 (by omega)) (row_ne_low hrow3 (by omega))
      have hb3 : Below w.heap.size w w3 := ((hb2.alloc (by omega) _).alloc (by simp; omega) _).grown hgrow3 (by simp; omega) (fun k hk => by have := (hrow3.lt k hk).1; omega)
      have hsz3 : w.heap.size + 1 ≤ w3.heap.size := by have := hgrow3.size; simp at this; omega
      clear hgrow3 hrow3 hrow2 hrg2 hb2
      go_wp2
      go_roundw
      case rel => exact ⟨_, _, ks ++ [x], hrg3, hmet2.out, by simpa using hown3, hb3, hsz3⟩
      case measure => rw [hrg3.left_eq, HL.out]; exact hcn

end Go.Proofs.Ytlkabmgindbbmaa
