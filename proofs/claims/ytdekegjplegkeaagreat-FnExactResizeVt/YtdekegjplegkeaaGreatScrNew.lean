/-
  A new screen: NewScreen of the program; l5New, l5Bad, NewScreen of the model.
-/
import Derived.Test.YtdekegjplegkeaaGreatScrMark
import Derived.Test.YtdekegjplegkeaaGreatTabFns
import Derived.Test.YtdekegjplegkeaaGreatNewFns
namespace Go.Proofs.YtdekegjplegkeaaGreat
set_option maxRecDepth 20000
open Go.ChangeShapes Go.WideShapes Go.ChangeAt Go.RowKit
set_option linter.unusedVariables false
set_option linter.unusedSimpArgs false
set_option maxRecDepth 20000

def newScr (r wd : Int) : Scr := { scr0 with r := r, wd := wd, cs := mkL (r * wd).toNat (fun _ => (32, 0)), bot := r - 1, auto := true, tabs := tabsL wd.toNat stopB, sets := [1, 1] }
/-- What a function of the screen answers: a code, and the screen beside it. -/
structure SRes where
  code : Int
  s : Scr
def sbad (c : Int) : SRes := ⟨c, scr0⟩
def newSRes (r wd : Int) : SRes := if sizeB r wd = true then ⟨0, newScr r wd⟩ else sbad 3
theorem sown_zero (lo hi : Nat) (hlh : lo ≤ hi) (w : World) : SOwn lo hi w (.slice none 0 0) (.slice none 0 0) (.slice none 0 0) (.slice none 0 0) scr0 :=
  ⟨lo, lo, lo, lo, lo, lo, by omega, by omega, by omega, by omega, by omega, by omega, by omega, by omega, by omega, GOwn.nil _ _ _ (Nat.le_refl _), BoolsAt.nil _ _ _ _ _, IntsAt.nil _ _ _ _ _ _⟩
def NILS : Value := .slice none 0 0

set_option maxHeartbeats 1000000 in
theorem l5Bad_calls (c : Int) (w : World) : Calls Tryz.prog 44 #[.int .i64 c] w fun e w' => e = .returned (.agg (resA c scr0 (.slice none 0 0) (.slice none 0 0) (.slice none 0 0) (.slice none 0 0))) ∧ Below w.heap.size w w' := by
  have bel0 : Below w.heap.size w (w.alloc (.cells #[.int .i64 0, .int .i64 0, .int .i64 0, .slice none 0 0, .slice none 0 0, .int .i64 0, .int .i64 0, .bool false, .int .i64 0, .int .i64 0, .int .i64 0, .bool false, .bool false, .bool false, .slice none 0 0, .int .i64 0, .int .i64 0, .int .i64 0, .slice none 0 0, .int .i64 0, .int .i64 0] 39)) := (Below.refl _ w).alloc (Nat.le_refl _) _
  have hR : Blk (w.alloc (.cells #[.int .i64 0, .int .i64 0, .int .i64 0, .slice none 0 0, .slice none 0 0, .int .i64 0, .int .i64 0, .bool false, .int .i64 0, .int .i64 0, .int .i64 0, .bool false, .bool false, .bool false, .slice none 0 0, .int .i64 0, .int .i64 0, .int .i64 0, .slice none 0 0, .int .i64 0, .int .i64 0] 39)) w.heap.size (resA 0 scr0 (.slice none 0 0) (.slice none 0 0) (.slice none 0 0) (.slice none 0 0)) := Blk.new w _ _
  go_enter Tryz.func44, Tryz.ntmps44
  go_wp2_with (first
    | (refine wpList_build_at rfl 39 _ rfl (resA c scr0 (.slice none 0 0) (.slice none 0 0) (.slice none 0 0) (.slice none 0 0)) (by first | rfl | kernel_rfl) ?_; (try simp only [Act.put, List.setIfInBounds_toArray, List.set_cons_zero, List.set_cons_succ]))
    | (refine wpList_store_blk rfl _ _ _ rfl w.heap.size 0 (resA 0 scr0 (.slice none 0 0) (.slice none 0 0) (.slice none 0 0) (.slice none 0 0)) (resA c scr0 (.slice none 0 0) (.slice none 0 0) (.slice none 0 0) (.slice none 0 0)) (.agg (resA c scr0 (.slice none 0 0) (.slice none 0 0) (.slice none 0 0) (.slice none 0 0))) rfl rfl hR rfl (by kernel_rfl) rfl rfl ?_; (try simp only [Act.put, List.setIfInBounds_toArray, List.set_cons_zero, List.set_cons_succ]); clear hR; intro w9 hR hu))
  refine bodyPost_ret (results_blk hR _ _ rfl rfl Tryz.underlying39 rfl (by kernel_rfl)) rfl ⟨rfl, bel0.trans (hu.below (Nat.le_refl _))⟩
theorem sets_lit (w : World) (t : TypeId) : IntsAt .i64 w.heap.size (w.heap.size + 1) (w.alloc (.cells #[.int .i64 1, .int .i64 1] t)) (.slice (some ⟨w.heap.size, 0, none⟩) 2 2) [1, 1] := by
  refine ⟨_, _, rfl, .inr ⟨w.heap.size, 0, rfl, Nat.le_refl _, Nat.lt_succ_self _, fun i hi => ?_⟩⟩
  have hi' : i < 2 := by simpa using hi
  have hB := Blk.new w #[.int .i64 1, .int .i64 1] t
  refine ⟨?_, hB.froz _⟩
  rw [hB.cells, Nat.zero_add]
  match i, hi' with
  | 0, _ => rfl
  | 1, _ => rfl
set_option maxHeartbeats 2000000 in
theorem l5New_calls (r wd : Int) (hz : sizeB r wd = true) (w : World) : Calls Tryz.prog 151 #[.int .i64 r, .int .i64 wd] w fun e w' => ∃ u1 u2 u3 u4, e = .returned (.agg (scrA (newScr r wd) u1 u2 u3 u4)) ∧ SOwn w.heap.size w'.heap.size w' u1 u2 u3 u4 (newScr r wd) ∧ Below w.heap.size w w' := by
  obtain ⟨s1, s2, s3, s4, s5, s6⟩ := size_mul hz
  have hwr : IntKind.i64.wrap (r - 1) = r - 1 := wrap_small (by omega) (by omega)
  obtain ⟨n, hn⟩ : ∃ n : Nat, r * wd = (n : Int) := ⟨(r * wd).toNat, by omega⟩
  obtain ⟨k, rfl⟩ : ∃ k : Nat, wd = (k : Int) := ⟨wd.toNat, by omega⟩
  have HN := hide hn
  have n0 : 0 < n := by omega
  have n1 : n ≤ 1048576 := by omega
  clear hn s5 s6
  have bel0 : Below w.heap.size w (w.alloc (.cells #[.int .i64 0, .int .i64 0, .slice none 0 0, .slice none 0 0, .int .i64 0, .int .i64 0, .bool false, .int .i64 0, .int .i64 0, .int .i64 0, .bool false, .bool false, .bool false, .slice none 0 0, .int .i64 0, .int .i64 0, .int .i64 0, .slice none 0 0, .int .i64 0, .int .i64 0] 37)) := (Below.refl _ w).alloc (Nat.le_refl _) _
  have hR : Blk (w.alloc (.cells #[.int .i64 0, .int .i64 0, .slice none 0 0, .slice none 0 0, .int .i64 0, .int .i64 0, .bool false, .int .i64 0, .int .i64 0, .int .i64 0, .bool false, .bool false, .bool false, .slice none 0 0, .int .i64 0, .int .i64 0, .int .i64 0, .slice none 0 0, .int .i64 0, .int .i64 0] 37)) w.heap.size (scrA scr0 (.slice none 0 0) (.slice none 0 0) (.slice none 0 0) (.slice none 0 0)) := Blk.new w _ _
  have z0 : (w.alloc (.cells #[.int .i64 0, .int .i64 0, .slice none 0 0, .slice none 0 0, .int .i64 0, .int .i64 0, .bool false, .int .i64 0, .int .i64 0, .int .i64 0, .bool false, .bool false, .bool false, .slice none 0 0, .int .i64 0, .int .i64 0, .int .i64 0, .slice none 0 0, .int .i64 0, .int .i64 0] 37)).heap.size = w.heap.size + 1 := by simp
  go_enter Tryz.func151, Tryz.ntmps151
  go_wp2_with fail
  refine (l3New_calls r k n HN.out n0 n1 _).mono ?_
  rintro e w1 ⟨b, cap, rfl, hcap, hb1, hb2, hrow, hb⟩
  have z1 : w.heap.size + 1 ≤ w1.heap.size := by have := hb.size; omega
  replace hR := hR.belowb hb
  have bel1 := bel0.trans (hb.mono bel0.size)
  have HRow := hide hrow
  have hb1' : w.heap.size + 1 ≤ b := by omega
  clear hb hrow bel0 z0 hb1
  go_wp2_with fail
  refine (l5Tabs_calls 0 k (by omega) (by omega) _).mono ?_
  rintro e w2 ⟨u, rfl, hu, hb⟩
  obtain ⟨a3, c3, rfl⟩ := own_formT hu
  have z2 : w1.heap.size ≤ w2.heap.size := hb.size
  replace hR := hR.belowb hb
  have bel2 := bel1.trans (hb.mono bel1.size)
  have HT : BoolsAt w1.heap.size w2.heap.size w2 (.slice a3 (k - 0) c3) (tabsL (k - 0) (fun i => stopB (0 + i))) := own_bools hu (Nat.le_refl _)
  rw [Nat.sub_zero] at HT ⊢
  have HP : PairsAt (w.heap.size + 1) w1.heap.size w2 (.slice (some ⟨b, 0, none⟩) n cap) (mkL n (fun _ => (32, 0))) := (PairsAt.of_row HRow.out hb1' hb2).below hb (Nat.le_refl _)
  have HR3 : Blk (w2.alloc (.cells #[.int .i64 1, .int .i64 1] 2)) w.heap.size (scrA scr0 (.slice none 0 0) (.slice none 0 0) (.slice none 0 0) (.slice none 0 0)) := hR.alloc _
  have HTT := hide HT
  have HPP := hide HP
  clear hb bel1 HT HP HRow hu
  go_wp2_with (first
    | (refine wpList_build_at rfl 37 _ rfl (scrA (newScr r k) (.slice (some ⟨b, 0, none⟩) n cap) (.slice none 0 0) (.slice a3 k c3) (.slice (some ⟨w2.heap.size, 0, none⟩) 2 2)) (by first | rfl | kernel_rfl) ?_; (try simp only [Act.put, List.setIfInBounds_toArray, List.set_cons_zero, List.set_cons_succ]))
    | (refine wpList_store_blk rfl _ _ _ rfl w.heap.size 0 (scrA scr0 (.slice none 0 0) (.slice none 0 0) (.slice none 0 0) (.slice none 0 0)) (scrA (newScr r k) (.slice (some ⟨b, 0, none⟩) n cap) (.slice none 0 0) (.slice a3 k c3) (.slice (some ⟨w2.heap.size, 0, none⟩) 2 2)) (.agg (scrA (newScr r k) (.slice (some ⟨b, 0, none⟩) n cap) (.slice none 0 0) (.slice a3 k c3) (.slice (some ⟨w2.heap.size, 0, none⟩) 2 2))) rfl rfl HR3 rfl (by kernel_rfl) rfl rfl ?_; (try simp only [Act.put, List.setIfInBounds_toArray, List.set_cons_zero, List.set_cons_succ]); clear hR HR3; intro w9 hR hu))
  have hz9 : w9.heap.size = w2.heap.size + 1 := by have := hu.size; simpa using this
  have hblk : ∀ q, q ≠ w.heap.size → w9.heap[q]? = (w2.alloc (.cells #[.int .i64 1, .int .i64 1] 2)).heap[q]? := fun q hq => hu.block q hq
  refine bodyPost_ret (results_blk hR _ _ rfl rfl Tryz.underlying37 rfl (by kernel_rfl)) rfl ⟨_, _, _, _, rfl, ?_, ?_⟩
  · have e1 : (r * (k : Int)).toNat = n := by rw [HN.out]; simp
    refine ⟨w.heap.size + 1, w1.heap.size, w1.heap.size, w2.heap.size, w2.heap.size, w2.heap.size + 1, by omega, by omega, by omega, by omega, by omega, by omega, by omega, by omega, by omega, ?_, ?_, ?_⟩
    · have h := HPP.out.of_blocks (w' := w9) (fun q q1 q2 => (hblk q (by omega)).trans (Below.heap_alloc _ _ _ (by omega)))
      show GOwn _ _ _ _ _ (mkL (r * (k : Int)).toNat (fun _ => (32, 0))) []
      rw [e1]
      exact GOwn.of (l2 := w1.heap.size) (h2 := w1.heap.size) h (PairsAt.nil _ _ _ _ _) (Nat.le_refl _) (Nat.le_refl _) (by omega) (Nat.le_refl _) (.inl (Nat.le_refl _))
    · have h := HTT.out.of_blocks (w' := w9) (fun q q1 q2 => (hblk q (by omega)).trans (Below.heap_alloc _ _ _ (by omega)))
      show BoolsAt _ _ _ _ (tabsL (k : Int).toNat stopB)
      rw [show (k : Int).toNat = k from by simp]
      exact boolsAt_congr h (fun i _ => by rw [Nat.zero_add])
    · exact (sets_lit w2 2).of_blocks (fun q q1 q2 => hblk q (by omega))
  · exact (bel2.trans ((Below.refl _ w2).alloc (by omega) _)).trans (hu.below (Nat.le_refl _))
end Go.Proofs.YtdekegjplegkeaaGreat
