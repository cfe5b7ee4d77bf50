/-
  The pairs of a font but for that of a character: spec.l2Less, walked.
-/
import Derived.Test.YtlkabmgindbbmaaRows
import Derived.Test.YtlkabmgindbbmaaPairMem
import Derived.WalkKit
import Derived.ProofKit
import Derived.OpenShut
import Derived.Below
import Derived.OwnWalk
import Derived.WalkSpells
import Derived.Laws.OwnMore
namespace Go.Proofs.Ytlkabmgindbbmaa
set_option maxRecDepth 20000
open Go.ChangeShapes Go.WideShapes Go.ChangeAt Go.RowKit
set_option linter.unusedVariables false
set_option linter.unusedSimpArgs false

theorem without_hit {ps : List (Int × Int)} {k : Nat} {c : Int} (hk : k < ps.length) (hc : (ps.getD k (0, 0)).1 = c) : without (ps.take (k + 1)) c = without (ps.take k) c := by
  rw [getD_at hk] at hc
  unfold without
  rw [List.take_succ_eq_append_getElem hk, List.filter_append, List.filter_cons_of_neg (by simp [hc]), List.filter_nil, List.append_nil]
theorem without_miss {ps : List (Int × Int)} {k : Nat} {c : Int} (hk : k < ps.length) (hc : (ps.getD k (0, 0)).1 ≠ c) : without (ps.take (k + 1)) c = without (ps.take k) c ++ [((ps.getD k (0, 0)).1, (ps.getD k (0, 0)).2)] := by
  rw [getD_at hk] at hc ⊢
  unfold without
  rw [List.take_succ_eq_append_getElem hk, List.filter_append, List.filter_cons_of_pos (by simp [hc]), List.filter_nil]
theorem without_le (ps : List (Int × Int)) (c : Int) : (without ps c).length ≤ ps.length := List.length_filter_le _ _
theorem info_pair3 : (Try.prog.info? 52).map (fun i => (i.zero, i.size, i.bytes)) = some (some (.agg #[.int .i64 0, .int .i64 0]), 2, 16) := by kernel_rfl

set_option maxHeartbeats 1000000 in
theorem l2Less_owns (fb : Int) (ps : List (Int × Int)) (c : Int) (v : Value) (b : Nat) (w : World) (hn : ps.length ≤ 1048576) (h1 : PRead w v ps) (k0 : w.cell? ⟨b, 0, none⟩ = some (.int .i64 fb)) (k1 : w.cell? ⟨b, 1, none⟩ = some v) :
    Calls Try.prog 62 #[.pointer (some ⟨b, 0, none⟩), .int .i64 c] w fun e w' => ∃ x, e = .returned x ∧ w'.ownsRow w.heap.size 52 2 x (without ps c).length (pvs (without ps c)) ∧ Below w.heap.size w w' := by
  obtain ⟨a1, c1, rfl, h1⟩ := h1
  have H1 := hide h1
  have K1 := hide k1
  clear h1 k1 k0
  obtain ⟨i0, hi, hz0, hz1, hz2⟩ := info_parts info_pair3
  go_enter Try.func62, Try.ntmps62
  go_wp2_with fail
  go_loopw [5, 6] (fun o i wr => ∃ k : Nat, k ≤ ps.length ∧ i = .int .i64 k ∧ wr.ownsRow w.heap.size 52 2 o (without (ps.take k) c).length (pvs (without (ps.take k) c)) ∧ Below w.heap.size w wr) (fun _ i _ => ps.length - (intOf i).toNat)
  case atStart =>
    refine ⟨0, Nat.zero_le _, rfl, ?_, (by repeat' (first | with_reducible exact Below.refl _ _ | with_reducible assumption | with_reducible refine Below.drew ?_ | with_reducible refine Below.alloc ?_ ?_ _ | with_reducible refine Below.setCell ?_ ?_ _ | (simp; done) | (simp; omega) | omega))⟩
    have h := World.ownsRow_lit (base := w.heap.size) (e := 52) (size := 2) w #[] 0 (by simp) (by simp) rfl
    simpa [without, pvs] using h
  case round =>
    obtain ⟨k, hkk, rfl, hown, hb⟩ := hrel
    have k1 := cellb hb K1.out
    by_cases hlt : k < ps.length
    · have hpos : ps ≠ [] := by intro h; rw [h] at hlt; simp at hlt
      rcases H1.out with h1 | ⟨b1, o1, rfl, h1⟩
      · exact absurd h1 hpos
      obtain ⟨g1, g2⟩ := h1 k hlt
      replace g1 := cellb hb g1
      replace g2 := cellb hb g2
      have hltI : (k : Int) < (ps.length : Int) := by omega
      have HH := hide (without_hit (c := c) hlt)
      have HM := hide (without_miss (c := c) hlt)
      have hle : (without (ps.take k) c).length ≤ k := Nat.le_trans (without_le _ _) (List.length_take_le _ _)
      clear h1 hpos H1
      generalize (ps.getD k (0, 0)).1 = pc at *
      generalize (ps.getD k (0, 0)).2 = pg at *
      by_cases he : pc = c
      · subst he
        have hne : (pc != pc) = false := by simp
        have E1 := hide (HH.out rfl)
        clear HH HM
        go_wp2
        go_roundw
        case rel => exact ⟨k + 1, by omega, by go_num, by rw [E1.out]; exact hown, hb⟩
        case measure => simp [intOf]; omega
      · have hne : (pc != c) = true := by simpa using he
        have E1 := hide (HM.out he)
        have hown2 := hown.alloc (.cells #[.int .i64 pc, .int .i64 pg] 52)
        clear HH HM
        go_wp2_with (at_builtin; refine wpList_append_own _ rfl (.tmp 27) (.tmp 35) 48 rfl w.heap.size 52 i0 (.agg #[.int .i64 0, .int .i64 0]) 2 16 Try.underlying48 hi hz0 hz1 hz2 rfl (by decide) _ _ _ rfl hown2 ⟨wr.heap.size, 0, none⟩ 1 1 (pvs [(pc, pg)]) rfl rfl (new_row_at rfl rfl) (pvs_one _) (by unfold maxLen; omega) (by omega) (by simp; have := hb.size; omega) ?_)
        intro o' w3 hown3 hgrow3 _
        have hb3 : Below w.heap.size w w3 := (hb.alloc hb.size _).grown hgrow3 (by simp; have := hb.size; omega) (fun q hq => (hown2.lt q hq).1)
        clear hgrow3 hown2 hown
        go_wp2
        go_roundw
        case rel =>
          refine ⟨k + 1, by omega, by go_num, ?_, hb3⟩
          rw [E1.out, List.length_append, pvs_append]
          exact hown3
        case measure => simp [intOf]; omega
    · have hk' : k = ps.length := by omega
      subst hk'
      rw [List.take_length] at hown
      have hge : ¬ ((ps.length : Int) < (ps.length : Int)) := by omega
      go_wp2
      go_ret
      exact ⟨_, rfl, hown, hb⟩

theorem l2Less_calls (fb : Int) (ps : List (Int × Int)) (c : Int) (v : Value) (b : Nat) (w : World) (hn : ps.length ≤ 1048576) (h1 : PRead w v ps) (k0 : w.cell? ⟨b, 0, none⟩ = some (.int .i64 fb)) (k1 : w.cell? ⟨b, 1, none⟩ = some v) :
    Calls Try.prog 62 #[.pointer (some ⟨b, 0, none⟩), .int .i64 c] w fun e w' => ∃ x, e = .returned x ∧ PairsAt w.heap.size w'.heap.size w' x (without ps c) ∧ Below w.heap.size w w' :=
  (l2Less_owns fb ps c v b w hn h1 k0 k1).mono fun e w' ⟨x, he, hx, hb⟩ => ⟨x, he, own_pairs hx (Nat.le_refl _), hb⟩

end Go.Proofs.Ytlkabmgindbbmaa
