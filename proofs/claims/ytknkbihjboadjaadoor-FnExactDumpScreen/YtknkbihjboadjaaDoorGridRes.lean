/-
  What a function of chapter 3 answers: a code and a grid (GRes); lists told by what stands at each place (mkL).
-/
import Derived.Test.YtknkbihjboadjaaDoorGridFaults
import Derived.Test.YtknkbihjboadjaaDoorGridMem
import Derived.Test.YtknkbihjboadjaaDoorCopyFns3
namespace Go.Proofs.YtknkbihjboadjaaDoor
set_option maxRecDepth 20000
open Go.ChangeShapes Go.WideShapes Go.ChangeAt Go.RowKit
set_option linter.unusedVariables false
set_option linter.unusedSimpArgs false

def mkL (n : Nat) (f : Nat → Int × Int) : List (Int × Int) := (List.range n).map f
theorem mkL_length (n : Nat) (f : Nat → Int × Int) : (mkL n f).length = n := by simp [mkL]
theorem mkL_get (n : Nat) (f : Nat → Int × Int) (i : Nat) (h : i < n) : (mkL n f).getD i (0, 0) = f i := by simp [mkL, List.getD_eq_getElem?_getD, h]
theorem mkL_congr {n : Nat} {f g : Nat → Int × Int} (h : ∀ i, i < n → f i = g i) : mkL n f = mkL n g := by
  unfold mkL
  exact List.map_congr_left (fun i hi => h i (List.mem_range.1 hi))
theorem mkL_self (cs : List (Int × Int)) : mkL cs.length (fun i => cs.getD i (0, 0)) = cs := by
  apply List.ext_getElem?
  intro i
  simp only [mkL, List.getElem?_map, List.getElem?_range]
  by_cases h : i < cs.length
  · simp [h, List.getD_eq_getElem?_getD]
  · simp [h]
theorem PairsAt.of_row {lo hi b off n cap : Nat} {w : World} {f : Nat → Int × Int} (h : Row w b off n f) (h1 : lo ≤ b) (h2 : b < hi) : PairsAt lo hi w (.slice (some ⟨b, off, none⟩) n cap) (mkL n f) := by
  refine ⟨_, _, by rw [mkL_length], .inr ⟨b, off, rfl, h1, h2, fun i hi => ?_⟩⟩
  rw [mkL_length] at hi
  rw [mkL_get _ _ _ hi]
  exact h i hi

structure GRes where
  code : Int
  rows : Int
  wd : Int
  cs : List (Int × Int)
  bs : List (Int × Int)
def gbad (c : Int) : GRes := ⟨c, 0, 0, [], []⟩
def gres (r wd : Int) (cs bs : List (Int × Int)) (ok : Bool) (R : GRes) : GRes := if gridCode r wd cs bs = 0 then (if ok = true then R else gbad 3) else gbad (gridCode r wd cs bs)
theorem gres_fault {r wd : Int} {cs bs : List (Int × Int)} {ok : Bool} {R : GRes} (h : ¬ gridCode r wd cs bs = 0) : gres r wd cs bs ok R = gbad (gridCode r wd cs bs) := by unfold gres; rw [if_neg h]
theorem gres_bad {r wd : Int} {cs bs : List (Int × Int)} {ok : Bool} {R : GRes} (h : gridCode r wd cs bs = 0) (h1 : ok = false) : gres r wd cs bs ok R = gbad 3 := by unfold gres; rw [if_pos h, if_neg (by rw [h1]; simp)]
theorem gres_ok {r wd : Int} {cs bs : List (Int × Int)} {ok : Bool} {R : GRes} (h : gridCode r wd cs bs = 0) (h1 : ok = true) : gres r wd cs bs ok R = R := by unfold gres; rw [if_pos h, if_pos h1]

/-- The sizes of a grid without a fault, as naturals. -/
theorem GFine.nats {r wd : Int} {cs bs : List (Int × Int)} (h : GFine r wd cs bs) : ∃ R W : Nat, r = R ∧ wd = W ∧ 1 ≤ R ∧ R ≤ 6 ∧ 2 ≤ W ∧ W ≤ 12 ∧ cs.length = R * W ∧ bs.length ≤ 5 * W ∧ bs.length % W = 0 ∧ 0 < cs.length ∧ cs.length ≤ 72 ∧ bs.length ≤ 60 := by
  obtain ⟨s1, s2, s3, s4, s5, s6⟩ := size_mul h.size
  obtain ⟨R, rfl⟩ : ∃ R : Nat, r = R := ⟨r.toNat, by omega⟩
  obtain ⟨W, rfl⟩ : ∃ W : Nat, wd = W := ⟨wd.toNat, by omega⟩
  have hc := h.cells
  have hb := h.back
  have hr := h.rest
  have e : cs.length = R * W := by rw [← Int.natCast_mul] at hc; exact Int.ofNat.inj hc
  have e2 : R * W ≤ 6 * W := Nat.mul_le_mul_right W (by omega)
  have e3 : 1 * W ≤ R * W := Nat.mul_le_mul_right W (by omega)
  refine ⟨R, W, rfl, rfl, by omega, by omega, by omega, by omega, e, by omega, ?_, by omega, by omega, by omega⟩
  have := Int.natCast_emod bs.length W
  omega
theorem rows_back {R W : Nat} (h : 0 < W) : ((R * W : Nat) : Int) / (W : Int) = R := by
  rw [Int.natCast_mul]
  exact Int.mul_ediv_cancel _ (by omega)

theorem GFine.short {r wd : Int} {cs bs : List (Int × Int)} (h : GFine r wd cs bs) : 1 ≤ wd ∧ wd ≤ 1000 ∧ Hid ((cs.length : Int) / wd = r) ∧ 0 < cs.length ∧ cs.length ≤ 72 ∧ bs.length ≤ 60 := by
  obtain ⟨R, W, rfl, rfl, n1, n2, n3, n4, n5, n6, n7, n8, n9, n10⟩ := h.nats
  exact ⟨by omega, by omega, (by rw [n5]; exact rows_back (by omega) : _ = _), n8, n9, n10⟩
theorem gres_len {r wd : Int} {cs bs : List (Int × Int)} {ok : Bool} {R : GRes} (h : GFine r wd cs bs → R.cs.length ≤ 72 ∧ R.bs.length ≤ 60) : (gres r wd cs bs ok R).cs.length ≤ 72 ∧ (gres r wd cs bs ok R).bs.length ≤ 60 := by
  by_cases hG : gridCode r wd cs bs = 0
  · cases ok with
    | true => rw [gres_ok hG rfl]; exact h (gfine_of_code hG)
    | false => rw [gres_bad hG rfl]; exact ⟨by simp [gbad], by simp [gbad]⟩
  · rw [gres_fault hG]; exact ⟨by simp [gbad], by simp [gbad]⟩
/-- What a result holds: its two lists, behind the stores into the result's own box. -/
theorem gown_of {w w' : World} {base m bx n cx : Nat} {F : Nat → Int × Int} {y : Value} {bs : List (Int × Int)} {e : TypeId} (hr : Row w bx 0 n F) (h1 : base ≤ bx) (h2 : bx < m) (ho : w.ownsRow m e 2 y bs.length (pvs bs)) (hm : m ≤ w.heap.size) (hb : base ≤ m)
    (hs : w.heap.size ≤ w'.heap.size) (hk : ∀ k, k < w.heap.size → w'.heap[k]? = w.heap[k]? ∨ k < base) (hbm : bx < w.heap.size) : GOwn base w'.heap.size w' (.slice (some ⟨bx, 0, none⟩) n cx) y (mkL n F) bs := by
  have p1 : PairsAt base m w (.slice (some ⟨bx, 0, none⟩) n cx) (mkL n F) := PairsAt.of_row hr h1 h2
  have p2 : PairsAt m w.heap.size w y bs := own_pairs ho (Nat.le_refl _)
  refine ((GOwn.of (lo := base) (hi := w.heap.size) p1 p2 (Nat.le_refl _) hm hb (Nat.le_refl _) (.inl (Nat.le_refl _))).of_blocks (fun i h1 h2 => ?_)).mono (Nat.le_refl _) hs
  rcases hk i h2 with h | h
  · exact h
  · omega

end Go.Proofs.YtknkbihjboadjaaDoor
