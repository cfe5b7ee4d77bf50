/-
  The map of a font's pairs: glyphsOf, walked.
-/
import Derived.Test.YtlkabmgindbbmaaRows
import Derived.Test.YtlkabmgindbbmaaMapMem
import Derived.WalkKit
import Derived.ProofKit
import Derived.OpenShut
import Derived.Below
import Derived.OwnWalk
import Derived.WalkSpells
namespace Go.Proofs.Ytlkabmgindbbmaa
set_option maxRecDepth 20000
open Go.ChangeShapes Go.WideShapes Go.ChangeAt Go.RowKit Go.Maps
set_option linter.unusedVariables false
set_option linter.unusedSimpArgs false

theorem prB_wf {p : Int × Int} (h : prB p = true) : wf64 p.1 ∧ wf64 p.2 := by
  obtain ⟨h0, h1, h2, h3⟩ := prB_bounds h
  exact ⟨wf_small (by omega) (by omega), wf_small (by omega) (by omega)⟩

set_option maxHeartbeats 1000000 in
theorem glyphsOf_calls (fb : Int) (ps : List (Int × Int)) (v : Value) (w : World) (hs : Sorted ps) (hok : ∀ p ∈ ps, prB p = true) (hl : ps.length ≤ 20) (h1 : PRead w v ps) :
    Calls Try.prog 58 #[.agg #[.int .i64 fb, v]] w fun e w' => ∃ b, e = .returned (.map (some b)) ∧ w.heap.size ≤ b ∧ MapAt w' b ps.length ps ∧ Below w.heap.size w w' := by
  obtain ⟨a1, c1, rfl, h1⟩ := h1
  have H1 := hide h1
  have HS := hide hs
  have HO := hide hok
  clear h1 hs hok
  have hmm := @run_makeMap Try.prog
  go_enter Try.func58, Try.ntmps58
  go_wp2_with fail
  clear hmm
  go_loopw [10] (fun i wr => ∃ k : Nat, k ≤ ps.length ∧ i = .int .i64 k ∧ MapAt wr (w.heap.size + 1) k (ps.take k) ∧ Below (w.heap.size + 1) (w.alloc (.cells #[.int .i64 fb, .slice a1 ps.length c1] 50)) wr) (fun i _ => ps.length - (intOf i).toNat)
  case atStart =>
    refine ⟨0, Nat.zero_le _, rfl, ⟨.map [], ?_, Tells.nil⟩, (by repeat' (first | with_reducible exact Below.refl _ _ | with_reducible assumption | with_reducible refine Below.drew ?_ | with_reducible refine Below.alloc ?_ ?_ _ | with_reducible refine Below.setCell ?_ ?_ _ | (simp; done) | (simp; omega) | omega))⟩
    have := World.ownsMap_made (H := Unit) (w.alloc (.cells #[.int .i64 fb, .slice a1 ps.length c1] 50)) Try.prog 98 (plainElem Try.prog 2)
    simpa using this
  case round =>
    obtain ⟨k, hkk, rfl, ⟨D, hown, htl⟩, hb⟩ := hrel
    have hbw : Below w.heap.size w wr := ((Below.refl _ _).alloc (Nat.le_refl _) _).trans (hb.mono (by omega))
    have hsz : w.heap.size + 1 < wr.heap.size := hown.lt
    by_cases hlt : k < ps.length
    · have hpos : ps ≠ [] := by intro h; rw [h] at hlt; simp at hlt
      rcases H1.out with h1 | ⟨b1, o1, rfl, h1⟩
      · exact absurd h1 hpos
      obtain ⟨g1, g2⟩ := h1 k hlt
      replace g1 := cellb hbw g1
      replace g2 := cellb hbw g2
      have hltI : (k : Int) < (ps.length : Int) := by omega
      have hp : prB (ps.getD k (0, 0)) = true := by rw [getD_at hlt]; exact HO.out _ (List.getElem_mem hlt)
      have hwf := prB_wf hp
      have HP := hide (put_next HS.out hlt)
      have htd := hown.tidy key_law
      have hnew := hide (htl.put htd hwf.1)
      clear h1 hpos H1 hp htl htd
      generalize ps.getD k (0, 0) = p at *
      obtain ⟨c, g⟩ := p
      simp only at g1 g2 hwf hnew
      have hkey := keyOf_ck hwf.1
      have hel : plainElem (H := Unit) Try.prog 2 (.int .i64 g) = some (.lit (.int .i64 g), []) := plainElem_int Try.underlying2 hwf.2
      have hown2 := hown.alloc (.cells #[.int .i64 c, .int .i64 g] 52)
      go_wp2_with (at_mapUpdate; refine wpList_mapUpdate_own _ rfl _ _ _ 95 rfl 98 2 key_law Try.underlying95 _ (w.heap.size + 1) k _ rfl hown2 (by unfold maxLen; omega) _ _ _ rfl rfl hkey _ [] hel ?_)
      intro w1 hown1 hgrow1
      have hb1 : Below (w.heap.size + 1) (w.alloc (.cells #[.int .i64 fb, .slice (some ⟨b1, o1, none⟩) ps.length c1] 50)) w1 :=
        (hb.alloc (by omega) _).grown hgrow1 (by simp; omega) (fun q hq => by injection hq with hq; omega)
      clear hgrow1 hown2 hown hb hbw
      go_wp2
      go_roundw
      case rel => exact ⟨k + 1, by omega, by go_num, ⟨_, hown1, by rw [← HP.out]; exact hnew.out⟩, hb1⟩
      case measure => simp [intOf]; omega
    · have hk' : k = ps.length := by omega
      subst hk'
      have hge : ¬ ((ps.length : Int) < (ps.length : Int)) := by omega
      go_wp2
      go_ret
      exact ⟨_, rfl, by omega, ⟨D, hown, by rw [List.take_length] at htl; exact htl⟩, hbw⟩

end Go.Proofs.Ytlkabmgindbbmaa
