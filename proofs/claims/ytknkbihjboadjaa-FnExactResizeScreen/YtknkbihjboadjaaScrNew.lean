/-
  A new screen: NewScreen of the program; l5New, l5Bad, NewScreen of the model.
-/
import Derived.Test.YtknkbihjboadjaaScrMark
import Derived.Test.YtknkbihjboadjaaTabFns
import Derived.Test.YtknkbihjboadjaaNewFns
namespace Go.Proofs.Ytknkbihjboadjaa
set_option maxRecDepth 20000
open Go.ChangeShapes Go.WideShapes Go.ChangeAt Go.RowKit
set_option linter.unusedVariables false
set_option linter.unusedSimpArgs false
set_option maxRecDepth 20000

def newScr (r wd : Int) : Scr := { scr0 with r := r, wd := wd, cs := mkL (r * wd).toNat (fun _ => (32, 0)), bot := r - 1, auto := true, tabs := tabsL wd.toNat stopB, sets := [1, 1] }
/-- What a function of the screen answers: a code, and the screen beside it. -/
structure SRes where
  code : Int
  s : Scr
def sbad (c : Int) : SRes := ⟨c, scr0⟩
def newSRes (r wd : Int) : SRes := if sizeB r wd = true then ⟨0, newScr r wd⟩ else sbad 3
theorem sown_zero (lo hi : Nat) (hlh : lo ≤ hi) (w : World) : SOwn lo hi w (.slice none 0 0) (.slice none 0 0) (.slice none 0 0) (.slice none 0 0) scr0 :=
  ⟨lo, lo, lo, lo, lo, lo, by omega, by omega, by omega, by omega, by omega, by omega, by omega, by omega, by omega, GOwn.nil _ _ _ (Nat.le_refl _), BoolsAt.nil _ _ _ _ _, IntsAt.nil _ _ _ _ _ _⟩
def NILS : Value := .slice none 0 0

set_option maxHeartbeats 1000000 in
theorem l5Bad_calls (c : Int) (w : World) : Calls Try.prog 27 #[.int .i64 c] w fun e w' => e = .returned (.agg (resA c scr0 (.slice none 0 0) (.slice none 0 0) (.slice none 0 0) (.slice none 0 0))) ∧ Below w.heap.size w w' := by
  have bel0 : Below w.heap.size w (w.alloc (.cells #[.int .i64 0, .int .i64 0, .int .i64 0, .slice none 0 0, .slice none 0 0, .int .i64 0, .int .i64 0, .bool false, .int .i64 0, .int .i64 0, .int .i64 0, .bool false, .bool false, .bool false, .slice none 0 0, .int .i64 0, .int .i64 0, .int .i64 0, .slice none 0 0, .int .i64 0, .int .i64 0] 36)) := (Below.refl _ w).alloc (Nat.le_refl _) _
  have hR : Blk (w.alloc (.cells #[.int .i64 0, .int .i64 0, .int .i64 0, .slice none 0 0, .slice none 0 0, .int .i64 0, .int .i64 0, .bool false, .int .i64 0, .int .i64 0, .int .i64 0, .bool false, .bool false, .bool false, .slice none 0 0, .int .i64 0, .int .i64 0, .int .i64 0, .slice none 0 0, .int .i64 0, .int .i64 0] 36)) w.heap.size (resA 0 scr0 (.slice none 0 0) (.slice none 0 0) (.slice none 0 0) (.slice none 0 0)) := Blk.new w _ _
  go_enter Try.func27, Try.ntmps27
  go_wp2_with (first
    | (refine wpList_build_at rfl 36 _ rfl (resA c scr0 (.slice none 0 0) (.slice none 0 0) (.slice none 0 0) (.slice none 0 0)) (by first | rfl | kernel_rfl) ?_; (try simp only [Act.put, List.setIfInBounds_toArray, List.set_cons_zero, List.set_cons_succ]))
    | (refine wpList_store_blk rfl _ _ _ rfl w.heap.size 0 (resA 0 scr0 (.slice none 0 0) (.slice none 0 0) (.slice none 0 0) (.slice none 0 0)) (resA c scr0 (.slice none 0 0) (.slice none 0 0) (.slice none 0 0) (.slice none 0 0)) (.agg (resA c scr0 (.slice none 0 0) (.slice none 0 0) (.slice none 0 0) (.slice none 0 0))) rfl rfl hR rfl (by kernel_rfl) rfl rfl ?_; (try simp only [Act.put, List.setIfInBounds_toArray, List.set_cons_zero, List.set_cons_succ]); clear hR; intro w9 hR hu))
  refine bodyPost_ret (results_blk hR _ _ rfl rfl Try.underlying36 rfl (by kernel_rfl)) rfl ⟨rfl, bel0.trans (hu.below (Nat.le_refl _))⟩
theorem sets_lit (w : World) (t : TypeId) : IntsAt .i64 w.heap.size (w.heap.size + 1) (w.alloc (.cells #[.int .i64 1, .int .i64 1] t)) (.slice (some ⟨w.heap.size, 0, none⟩) 2 2) [1, 1] := by
  refine ⟨_, _, rfl, .inr ⟨w.heap.size, 0, rfl, Nat.le_refl _, Nat.lt_succ_self _, fun i hi => ?_⟩⟩
  have hi' : i < 2 := by simpa using hi
  have hB := Blk.new w #[.int .i64 1, .int .i64 1] t
  refine ⟨?_, hB.froz _⟩
  rw [hB.cells, Nat.zero_add]
  match i, hi' with
  | 0, _ => rfl
  | 1, _ => rfl
end Go.Proofs.Ytknkbihjboadjaa
