/-
  For every screen and every int64 the law FnExactRowBytes returns true: impl.RowBytes answers at each screen and each number what the model's RowBytes answers, code and bytes; its bytes are memory of its own, and it turns no argument (the law itself passes screens of more than 1048576 cells, tab stops and tables together by). The library's table of powers of ten (internal/strconv) reads as its text lays it: the card ties that.
-/
import Derived.Test.YtknkbihjboadjaaDoorRows
import Derived.Test.YtknkbihjboadjaaDoorScrMem
import Derived.Test.YtknkbihjboadjaaDoorGridOpen
import Derived.WalkKit
import Derived.ProofKit
import Derived.OpenShut
import Derived.Below
import Derived.ChangeSlices
import Derived.Deep.Grids
import Derived.Lib.SmallJoins
import Derived.Test.YtknkbihjboadjaaDoorScrFns
import Derived.Test.YtknkbihjboadjaaDoorCards
import Derived.Test.YtknkbihjboadjaaDoorTie
import Derived.Test.YtknkbihjboadjaaDoorRowBytes
import Derived.Test.YtknkbihjboadjaaDoorScrFull
import Derived.Deep.RegionHeld
import Derived.ShutString
import Derived.ChangeOld
import Derived.LaidMore
import Derived.LaidLaws
import Derived.LaidSub
import Derived.Lib.LaidTab
import Derived.Stop.Joined
import Derived.SevenTiedAt
/- A screen that came in, opened: its numbers and its lists. -/
namespace Go.Proofs.YtknkbihjboadjaaDoor
set_option maxRecDepth 20000
open Go.ChangeShapes Go.WideShapes Go.ChangeAt Go.RowKit Go.Joins Go.Deep
set_option linter.unusedVariables false
set_option linter.unusedSimpArgs false

theorem scr_int1 : Tryd.prog.cellsOf 2 = 1 := by kernel_rfl
theorem scr_bool1 : Tryd.prog.cellsOf 4 = 1 := by kernel_rfl
theorem scr_cells20 : Tryd.prog.cellsOf 28 = 20 := by kernel_rfl
theorem scr_grid4 : Tryd.prog.cellsOf 24 = 4 := by kernel_rfl
theorem scr_sl1 : Tryd.prog.cellsOf 25 = 1 := by kernel_rfl
theorem scr_sl2 : Tryd.prog.cellsOf 26 = 1 := by kernel_rfl
theorem array20 {α : Type} {cs : Array α} (h : cs.size = 20) : ∃ c0 c1 c2 c3 c4 c5 c6 c7 c8 c9 c10 c11 c12 c13 c14 c15 c16 c17 c18 c19, cs = #[c0, c1, c2, c3, c4, c5, c6, c7, c8, c9, c10, c11, c12, c13, c14, c15, c16, c17, c18, c19] := by
  obtain ⟨l⟩ := cs
  match l, h with
  | [c0, c1, c2, c3, c4, c5, c6, c7, c8, c9, c10, c11, c12, c13, c14, c15, c16, c17, c18, c19], _ => exact ⟨c0, c1, c2, c3, c4, c5, c6, c7, c8, c9, c10, c11, c12, c13, c14, c15, c16, c17, c18, c19, rfl⟩

theorem scr_ints {H : Type} {enc : TypeId × Value → H} {W : World} {m0 : Nat} {x : Value} {y : DataW H × List MemPlace}
    (h : DataW.trod enc Tryd.prog W 0 (fun _ => true) true m0 26 [x] = some y) : ∃ ns : List Int, ReadAt .i64 W x ns ∧ ns.length ≤ maxLen := by
  rcases open_ints Tryd.underlying26 Tryd.underlying2 scr_int1 h with ⟨hcs, _⟩ | ⟨a, l, c, zs, hcs, _, hl, hm, hz, _, hcell, hwz⟩
  · simp at hcs
    subst hcs
    exact ⟨[], ReadAt.nil _ _ _ _, by simp⟩
  · simp at hcs
    subst hcs
    exact read_take (by simpa using hz) hl hm hcell
theorem scr_bools {H : Type} {enc : TypeId × Value → H} {W : World} {m0 : Nat} {x : Value} {y : DataW H × List MemPlace}
    (h : DataW.trod enc Tryd.prog W 0 (fun _ => true) true m0 25 [x] = some y) : ∃ ns : List Bool, BRead W x ns ∧ ns.length ≤ maxLen := by
  rcases open_bools Tryd.underlying25 Tryd.underlying4 scr_bool1 h with ⟨hcs, _⟩ | ⟨a, l, c, B, hcs, _, hl, hm, _, hcell⟩
  · simp at hcs
    subst hcs
    exact ⟨[], BRead.nil _ _ _, by simp⟩
  · simp at hcs
    subst hcs
    have hz : ((List.range c).map B).length = c := by simp
    refine bread_take (zs := (List.range c).map B) hz hl hm (fun i hi => ?_)
    rw [hz] at hi
    rw [hcell i hi]
    simp [List.getD_eq_getElem?_getD, hi]

set_option maxRecDepth 100000 in
set_option maxHeartbeats 2000000 in
theorem open_screen {H : Type} {enc : TypeId × Value → H} {W : World} {base : Nat} {v : Value} {d : DataW H} {p : List MemPlace}
    (hv : Value.okWide Tryd.prog W .any base 28 v) (h : DataW.Trod enc Tryd.prog W 0 (fun _ => true) true 28 v d p) :
    ∃ (s : Scr) (v1 v2 v3 v4 : Value), v = .agg (scrA s v1 v2 v3 v4) ∧ SRead W s v1 v2 v3 v4 ∧ s.cs.length ≤ maxLen ∧ s.bs.length ≤ maxLen ∧ s.tabs.length ≤ maxLen ∧ s.sets.length ≤ maxLen := by
  obtain ⟨cs, rfl, hsz⟩ := okWide_struct Tryd.underlying28 hv
  obtain ⟨c0, c1, c2, c3, c4, c5, c6, c7, c8, c9, c10, c11, c12, c13, c14, c15, c16, c17, c18, c19, rfl⟩ := array20 (hsz.trans scr_cells20)
  obtain ⟨fuel, hf⟩ := h
  obtain ⟨xs, n, _, _, hl, hlen, hf⟩ := DataW.trod_struct Tryd.underlying28 hf
  have hlen' : xs.length = 17 := hlen
  have f0 : DataW.trod enc Tryd.prog W 0 (fun _ => true) true n 24 [c0, c1, c2, c3] = some (xs[0]'(by omega)) := by
    have g : DataW.trod enc Tryd.prog W 0 (fun _ => true) true n 24 ((([c0, c1, c2, c3, c4, c5, c6, c7, c8, c9, c10, c11, c12, c13, c14, c15, c16, c17, c18, c19] : List Value).drop 0).take (Tryd.prog.cellsOf 24)) = xs[0]? := hf 0 _ rfl
    rw [scr_grid4, List.getElem?_eq_getElem (by omega)] at g
    exact g
  have f1 : DataW.trod enc Tryd.prog W 0 (fun _ => true) true n 2 [c4] = some (xs[1]'(by omega)) := by
    have g : DataW.trod enc Tryd.prog W 0 (fun _ => true) true n 2 ((([c0, c1, c2, c3, c4, c5, c6, c7, c8, c9, c10, c11, c12, c13, c14, c15, c16, c17, c18, c19] : List Value).drop 4).take (Tryd.prog.cellsOf 2)) = xs[1]? := hf 1 _ rfl
    rw [scr_int1, List.getElem?_eq_getElem (by omega)] at g
    exact g
  have f2 : DataW.trod enc Tryd.prog W 0 (fun _ => true) true n 2 [c5] = some (xs[2]'(by omega)) := by
    have g : DataW.trod enc Tryd.prog W 0 (fun _ => true) true n 2 ((([c0, c1, c2, c3, c4, c5, c6, c7, c8, c9, c10, c11, c12, c13, c14, c15, c16, c17, c18, c19] : List Value).drop 5).take (Tryd.prog.cellsOf 2)) = xs[2]? := hf 2 _ rfl
    rw [scr_int1, List.getElem?_eq_getElem (by omega)] at g
    exact g
  have f3 : DataW.trod enc Tryd.prog W 0 (fun _ => true) true n 4 [c6] = some (xs[3]'(by omega)) := by
    have g : DataW.trod enc Tryd.prog W 0 (fun _ => true) true n 4 ((([c0, c1, c2, c3, c4, c5, c6, c7, c8, c9, c10, c11, c12, c13, c14, c15, c16, c17, c18, c19] : List Value).drop 6).take (Tryd.prog.cellsOf 4)) = xs[3]? := hf 3 _ rfl
    rw [scr_bool1, List.getElem?_eq_getElem (by omega)] at g
    exact g
  have f4 : DataW.trod enc Tryd.prog W 0 (fun _ => true) true n 2 [c7] = some (xs[4]'(by omega)) := by
    have g : DataW.trod enc Tryd.prog W 0 (fun _ => true) true n 2 ((([c0, c1, c2, c3, c4, c5, c6, c7, c8, c9, c10, c11, c12, c13, c14, c15, c16, c17, c18, c19] : List Value).drop 7).take (Tryd.prog.cellsOf 2)) = xs[4]? := hf 4 _ rfl
    rw [scr_int1, List.getElem?_eq_getElem (by omega)] at g
    exact g
  have f5 : DataW.trod enc Tryd.prog W 0 (fun _ => true) true n 2 [c8] = some (xs[5]'(by omega)) := by
    have g : DataW.trod enc Tryd.prog W 0 (fun _ => true) true n 2 ((([c0, c1, c2, c3, c4, c5, c6, c7, c8, c9, c10, c11, c12, c13, c14, c15, c16, c17, c18, c19] : List Value).drop 8).take (Tryd.prog.cellsOf 2)) = xs[5]? := hf 5 _ rfl
    rw [scr_int1, List.getElem?_eq_getElem (by omega)] at g
    exact g
  have f6 : DataW.trod enc Tryd.prog W 0 (fun _ => true) true n 2 [c9] = some (xs[6]'(by omega)) := by
    have g : DataW.trod enc Tryd.prog W 0 (fun _ => true) true n 2 ((([c0, c1, c2, c3, c4, c5, c6, c7, c8, c9, c10, c11, c12, c13, c14, c15, c16, c17, c18, c19] : List Value).drop 9).take (Tryd.prog.cellsOf 2)) = xs[6]? := hf 6 _ rfl
    rw [scr_int1, List.getElem?_eq_getElem (by omega)] at g
    exact g
  have f7 : DataW.trod enc Tryd.prog W 0 (fun _ => true) true n 4 [c10] = some (xs[7]'(by omega)) := by
    have g : DataW.trod enc Tryd.prog W 0 (fun _ => true) true n 4 ((([c0, c1, c2, c3, c4, c5, c6, c7, c8, c9, c10, c11, c12, c13, c14, c15, c16, c17, c18, c19] : List Value).drop 10).take (Tryd.prog.cellsOf 4)) = xs[7]? := hf 7 _ rfl
    rw [scr_bool1, List.getElem?_eq_getElem (by omega)] at g
    exact g
  have f8 : DataW.trod enc Tryd.prog W 0 (fun _ => true) true n 4 [c11] = some (xs[8]'(by omega)) := by
    have g : DataW.trod enc Tryd.prog W 0 (fun _ => true) true n 4 ((([c0, c1, c2, c3, c4, c5, c6, c7, c8, c9, c10, c11, c12, c13, c14, c15, c16, c17, c18, c19] : List Value).drop 11).take (Tryd.prog.cellsOf 4)) = xs[8]? := hf 8 _ rfl
    rw [scr_bool1, List.getElem?_eq_getElem (by omega)] at g
    exact g
  have f9 : DataW.trod enc Tryd.prog W 0 (fun _ => true) true n 4 [c12] = some (xs[9]'(by omega)) := by
    have g : DataW.trod enc Tryd.prog W 0 (fun _ => true) true n 4 ((([c0, c1, c2, c3, c4, c5, c6, c7, c8, c9, c10, c11, c12, c13, c14, c15, c16, c17, c18, c19] : List Value).drop 12).take (Tryd.prog.cellsOf 4)) = xs[9]? := hf 9 _ rfl
    rw [scr_bool1, List.getElem?_eq_getElem (by omega)] at g
    exact g
  have f10 : DataW.trod enc Tryd.prog W 0 (fun _ => true) true n 25 [c13] = some (xs[10]'(by omega)) := by
    have g : DataW.trod enc Tryd.prog W 0 (fun _ => true) true n 25 ((([c0, c1, c2, c3, c4, c5, c6, c7, c8, c9, c10, c11, c12, c13, c14, c15, c16, c17, c18, c19] : List Value).drop 13).take (Tryd.prog.cellsOf 25)) = xs[10]? := hf 10 _ rfl
    rw [scr_sl1, List.getElem?_eq_getElem (by omega)] at g
    exact g
  have f11 : DataW.trod enc Tryd.prog W 0 (fun _ => true) true n 2 [c14] = some (xs[11]'(by omega)) := by
    have g : DataW.trod enc Tryd.prog W 0 (fun _ => true) true n 2 ((([c0, c1, c2, c3, c4, c5, c6, c7, c8, c9, c10, c11, c12, c13, c14, c15, c16, c17, c18, c19] : List Value).drop 14).take (Tryd.prog.cellsOf 2)) = xs[11]? := hf 11 _ rfl
    rw [scr_int1, List.getElem?_eq_getElem (by omega)] at g
    exact g
  have f12 : DataW.trod enc Tryd.prog W 0 (fun _ => true) true n 2 [c15] = some (xs[12]'(by omega)) := by
    have g : DataW.trod enc Tryd.prog W 0 (fun _ => true) true n 2 ((([c0, c1, c2, c3, c4, c5, c6, c7, c8, c9, c10, c11, c12, c13, c14, c15, c16, c17, c18, c19] : List Value).drop 15).take (Tryd.prog.cellsOf 2)) = xs[12]? := hf 12 _ rfl
    rw [scr_int1, List.getElem?_eq_getElem (by omega)] at g
    exact g
  have f13 : DataW.trod enc Tryd.prog W 0 (fun _ => true) true n 2 [c16] = some (xs[13]'(by omega)) := by
    have g : DataW.trod enc Tryd.prog W 0 (fun _ => true) true n 2 ((([c0, c1, c2, c3, c4, c5, c6, c7, c8, c9, c10, c11, c12, c13, c14, c15, c16, c17, c18, c19] : List Value).drop 16).take (Tryd.prog.cellsOf 2)) = xs[13]? := hf 13 _ rfl
    rw [scr_int1, List.getElem?_eq_getElem (by omega)] at g
    exact g
  have f14 : DataW.trod enc Tryd.prog W 0 (fun _ => true) true n 26 [c17] = some (xs[14]'(by omega)) := by
    have g : DataW.trod enc Tryd.prog W 0 (fun _ => true) true n 26 ((([c0, c1, c2, c3, c4, c5, c6, c7, c8, c9, c10, c11, c12, c13, c14, c15, c16, c17, c18, c19] : List Value).drop 17).take (Tryd.prog.cellsOf 26)) = xs[14]? := hf 14 _ rfl
    rw [scr_sl2, List.getElem?_eq_getElem (by omega)] at g
    exact g
  have f15 : DataW.trod enc Tryd.prog W 0 (fun _ => true) true n 2 [c18] = some (xs[15]'(by omega)) := by
    have g : DataW.trod enc Tryd.prog W 0 (fun _ => true) true n 2 ((([c0, c1, c2, c3, c4, c5, c6, c7, c8, c9, c10, c11, c12, c13, c14, c15, c16, c17, c18, c19] : List Value).drop 18).take (Tryd.prog.cellsOf 2)) = xs[15]? := hf 15 _ rfl
    rw [scr_int1, List.getElem?_eq_getElem (by omega)] at g
    exact g
  have f16 : DataW.trod enc Tryd.prog W 0 (fun _ => true) true n 2 [c19] = some (xs[16]'(by omega)) := by
    have g : DataW.trod enc Tryd.prog W 0 (fun _ => true) true n 2 ((([c0, c1, c2, c3, c4, c5, c6, c7, c8, c9, c10, c11, c12, c13, c14, c15, c16, c17, c18, c19] : List Value).drop 19).take (Tryd.prog.cellsOf 2)) = xs[16]? := hf 16 _ rfl
    rw [scr_int1, List.getElem?_eq_getElem (by omega)] at g
    exact g
  clear hf
  have f0' : ∃ (r wd : Int) (cs bs : List (Int × Int)), c0 = .int .i64 r ∧ c1 = .int .i64 wd ∧ PRead W c2 cs ∧ PRead W c3 bs ∧ cs.length ≤ maxLen ∧ bs.length ≤ maxLen := by
    obtain ⟨y0, y1, y2, y3, m, _, _, g0, g1, g2, g3⟩ := trod_struct4 Tryd.underlying24 f0
    rw [int_cells1] at g0 g1
    obtain ⟨r, e0, _, _⟩ := DataW.trod_int Tryd.underlying2 g0
    obtain ⟨wd, e1, _, _⟩ := DataW.trod_int Tryd.underlying2 g1
    simp at e0 e1
    subst e0 e1
    rw [show Tryd.prog.cellsOf 22 = 1 from by kernel_rfl] at g2 g3
    obtain ⟨cs, q2, q2'⟩ := open_cells g2
    obtain ⟨bs, q3, q3'⟩ := open_cells g3
    exact ⟨r, wd, cs, bs, rfl, rfl, q2, q3, q2', q3'⟩
  obtain ⟨r, wd, cs, bs, rfl, rfl, h1, h2, h1', h2'⟩ := f0'
  obtain ⟨z4, e4, _, _⟩ := DataW.trod_int Tryd.underlying2 f1
  simp at e4
  subst e4
  obtain ⟨z5, e5, _, _⟩ := DataW.trod_int Tryd.underlying2 f2
  simp at e5
  subst e5
  obtain ⟨z6, e6, _⟩ := DataW.trod_bool Tryd.underlying4 f3
  simp at e6
  subst e6
  obtain ⟨z7, e7, _, _⟩ := DataW.trod_int Tryd.underlying2 f4
  simp at e7
  subst e7
  obtain ⟨z8, e8, _, _⟩ := DataW.trod_int Tryd.underlying2 f5
  simp at e8
  subst e8
  obtain ⟨z9, e9, _, _⟩ := DataW.trod_int Tryd.underlying2 f6
  simp at e9
  subst e9
  obtain ⟨z10, e10, _⟩ := DataW.trod_bool Tryd.underlying4 f7
  simp at e10
  subst e10
  obtain ⟨z11, e11, _⟩ := DataW.trod_bool Tryd.underlying4 f8
  simp at e11
  subst e11
  obtain ⟨z12, e12, _⟩ := DataW.trod_bool Tryd.underlying4 f9
  simp at e12
  subst e12
  obtain ⟨tabs, h3, h3'⟩ := scr_bools f10
  obtain ⟨z14, e14, _, _⟩ := DataW.trod_int Tryd.underlying2 f11
  simp at e14
  subst e14
  obtain ⟨z15, e15, _, _⟩ := DataW.trod_int Tryd.underlying2 f12
  simp at e15
  subst e15
  obtain ⟨z16, e16, _, _⟩ := DataW.trod_int Tryd.underlying2 f13
  simp at e16
  subst e16
  obtain ⟨sets, h4, h4'⟩ := scr_ints f14
  obtain ⟨z18, e18, _, _⟩ := DataW.trod_int Tryd.underlying2 f15
  simp at e18
  subst e18
  obtain ⟨z19, e19, _, _⟩ := DataW.trod_int Tryd.underlying2 f16
  simp at e19
  subst e19
  exact ⟨{ r := r, wd := wd, cs := cs, bs := bs, tabs := tabs, sets := sets, y := z4, x := z5, wrap := z6, attr := z7, top := z8, bot := z9, org := z10, auto := z11, ins := z12, ky := z14, kx := z15, ka := z16, sh := z18, bells := z19 }, c2, c3, c13, c17, rfl, ⟨h1, h2, h3, h4⟩, h1', h2', h3', h4'⟩

end Go.Proofs.YtknkbihjboadjaaDoor

/- The laws' marks on screens: markBoolS, heldBoolS, markScreen, heldScreen; eqScreenResult, markScreenResult, heldScreenResult. -/
namespace Go.Proofs.YtknkbihjboadjaaDoor
set_option maxRecDepth 20000
open Go.ChangeShapes Go.WideShapes Go.ChangeAt Go.RowKit
set_option linter.unusedVariables false
set_option linter.unusedSimpArgs false
set_option maxRecDepth 20000

/-- The twenty-one cells of what a function of the screen answers. -/
def resA (c : Int) (s : Scr) (v1 v2 v3 v4 : Value) : Array Value := #[.int .i64 c, .int .i64 s.r, .int .i64 s.wd, v1, v2, .int .i64 s.y, .int .i64 s.x, .bool s.wrap, .int .i64 s.attr, .int .i64 s.top, .int .i64 s.bot, .bool s.org, .bool s.auto, .bool s.ins, v3, .int .i64 s.ky, .int .i64 s.kx, .int .i64 s.ka, v4, .int .i64 s.sh, .int .i64 s.bells]
theorem resA_0 (c : Int) (s : Scr) (v1 v2 v3 v4 : Value) : (resA c s v1 v2 v3 v4)[0]? = some (.int .i64 c) := rfl
theorem scr_ret {a b : Int} (h : a = b) : Ending.returned (.int .i64 a) = .returned (.int .i64 b) := by rw [h]
set_option maxHeartbeats 400000 in
theorem markBools_calls (xs : List Bool) (k0 : Int) (lo hi : Nat) (v : Value) (w : World) (hn : xs.length ≤ 1000000000) (hk : 0 ≤ k0) (hk0 : k0 ≤ 1000000000) (h1 : BoolsAt lo hi w v xs) :
    Calls Tryd.prog 40 #[v, .int .i64 k0] w fun e w' => e = .returned (.int .i64 (k0 + xs.length)) ∧ BoolsAt lo hi w' v (marksT k0 xs.length) ∧ Within lo hi w w' := by
  obtain ⟨a1, c1, rfl, h1⟩ := h1
  by_cases hnil : xs = []
  · subst hnil
    go_enter Tryd.func40, Tryd.ntmps40
    go_wp2
    go_loop [1, 5] (fun t i => t = .int .i64 k0 ∧ i = .int .i64 0) (fun _ i => 0)
    case atStart => exact ⟨rfl, rfl⟩
    case round =>
      obtain ⟨rfl, rfl⟩ := hrel
      go_wp2
      go_ret
      exact ⟨rfl, BoolsAt.nil _ _ _ _ _, Within.refl _ _ _⟩
  · rcases h1 with h1 | ⟨b, off, rfl, hl, hh, h1⟩
    · exact absurd h1 hnil
    go_enter Tryd.func40, Tryd.ntmps40
    go_wp2
    go_loopw [1, 5] (fun t i wr => ∃ k : Nat, k ≤ xs.length ∧ i = .int .i64 k ∧ t = .int .i64 (k0 + k) ∧ Within lo hi w wr ∧
        (∀ j, j < xs.length → wr.frozen? ⟨b, off + j, none⟩ = false) ∧ (∀ j, j < xs.length → ∃ u, wr.cell? ⟨b, off + j, none⟩ = some u) ∧ ∀ j, j < k → wr.cell? ⟨b, off + j, none⟩ = some (.bool (mk3 (k0 + j)))) (fun _ i _ => xs.length - (intOf i).toNat)
    case atStart => exact ⟨0, Nat.zero_le _, rfl, by simp, Within.refl _ _ _, fun j hj => (h1 j hj).2, fun j hj => ⟨_, (h1 j hj).1⟩, fun j hj => by omega⟩
    case round =>
      obtain ⟨k, hkk, rfl, rfl, hw, hf, hu, hc⟩ := hrel
      by_cases hlt : k < xs.length
      · have f1 := hf k hlt
        obtain ⟨u, g1⟩ := hu k hlt
        have hltI : (k : Int) < (xs.length : Int) := by omega
        have HF : Hid (∀ j, j < xs.length → wr.frozen? ⟨b, off + j, none⟩ = false) := hf
        have HU : Hid (∀ j, j < xs.length → ∃ u, wr.cell? ⟨b, off + j, none⟩ = some u) := hu
        have HC : Hid (∀ j, j < k → wr.cell? ⟨b, off + j, none⟩ = some (.bool (mk3 (k0 + j)))) := hc
        clear hf hu hc h1
        have hm3 : (((k0 + (k : Int)) % 3) == 0) = mk3 (k0 + k) := by unfold mk3; rw [Bool.eq_iff_iff]; simp
        go_wp2
        go_roundw
        case rel =>
          refine ⟨k + 1, by omega, by go_num, by go_num, hw.setCell hl hh _, fun j hj => ?_, fun j hj => ?_, fun j hj => ?_⟩
          · rw [World.frozen?_setCell]; exact HF.out j hj
          · by_cases e : j = k
            · subst e; exact ⟨_, World.cell?_setCell_same _ _ _ g1⟩
            · obtain ⟨u', hu'⟩ := HU.out j hj
              exact ⟨u', by rw [World.cell?_setCell_other _ _ _ _ (addr_ne (by omega))]; exact hu'⟩
          · by_cases e : j = k
            · subst e; rw [World.cell?_setCell_same _ _ _ g1]
            · rw [World.cell?_setCell_other _ _ _ _ (addr_ne (by omega))]; exact HC.out j (by omega)
        case measure => simp [intOf]; omega
      · have hk' : k = xs.length := by omega
        subst hk'
        go_wp2
        go_ret
        refine ⟨rfl, ⟨_, _, by rw [marksT_length], .inr ⟨b, off, rfl, hl, hh, fun i hi => ?_⟩⟩, hw⟩
        rw [marksT_length] at hi
        rw [marksT_get _ _ _ hi]
        exact ⟨hc i hi, hf i hi⟩

/-- A screen whose lists bear marks from k on; how many marks. -/
def mkScr (k : Int) (s : Scr) : Scr := { s with cs := marksP k s.cs.length, bs := marksP (k + 2 * s.cs.length) s.bs.length, tabs := marksT (k + 2 * s.cs.length + 2 * s.bs.length) s.tabs.length, sets := marks (k + 2 * s.cs.length + 2 * s.bs.length + s.tabs.length) s.sets.length }
def cntS (s : Scr) : Int := 2 * s.cs.length + 2 * s.bs.length + s.tabs.length + s.sets.length
theorem mkScr_cells (k : Int) (s : Scr) (v1 v2 v3 v4 : Value) : scrA (mkScr k s) v1 v2 v3 v4 = scrA s v1 v2 v3 v4 := rfl
theorem mkScr_res (c k : Int) (s : Scr) (v1 v2 v3 v4 : Value) : resA c (mkScr k s) v1 v2 v3 v4 = resA c s v1 v2 v3 v4 := rfl
theorem cntS_mk (k : Int) (s : Scr) : cntS (mkScr k s) = cntS s := by simp [cntS, mkScr, marksP_length, marksT_length, marks_length]

set_option maxHeartbeats 2000000 in
theorem markScreen_calls (s : Scr) (k0 : Int) (lo hi : Nat) (v1 v2 v3 v4 : Value) (w : World) (hn1 : s.cs.length ≤ 1048576) (hn2 : s.bs.length ≤ 1048576) (hn3 : s.tabs.length ≤ 1048576) (hn4 : s.sets.length ≤ 1048576) (hk : 0 ≤ k0) (hk0 : k0 ≤ 1000) (hh : hi ≤ w.heap.size) (h : SOwn lo hi w v1 v2 v3 v4 s) :
    Calls Tryd.prog 12 #[.agg (scrA s v1 v2 v3 v4), .int .i64 k0] w fun e w' => e = .returned (.int .i64 (k0 + cntS s)) ∧ SOwn lo hi w' v1 v2 v3 v4 (mkScr k0 s) ∧ Within lo hi w w' := by
  have e0 := scrA_0 s v1 v2 v3 v4
  have e1 := scrA_1 s v1 v2 v3 v4
  have e2 := scrA_2 s v1 v2 v3 v4
  have e3 := scrA_3 s v1 v2 v3 v4
  have e13 := scrA_13 s v1 v2 v3 v4
  have e17 := scrA_17 s v1 v2 v3 v4
  obtain ⟨l1, h1, l2, h2, l3, h3, a1, a2, a3, a4, a5, a6, a7, a8, a9, hG, hT, hI⟩ := h.ex
  have HH := hide (And.intro a7 (And.intro a8 a9))
  clear a7 a8 a9 h
  have hb0 : Below w.heap.size w (w.alloc (.cells (scrA s v1 v2 v3 v4) 38)) := (Below.refl _ w).alloc (Nat.le_refl _) _
  have hA := Blk.new w (scrA s v1 v2 v3 v4) 38
  go_enter Tryd.func12, Tryd.ntmps12
  go_wp2_with fail
  refine (markGrid_calls s.r s.wd s.cs s.bs k0 l1 h1 _ _ _ hn1 hn2 hk hk0 (by simp; omega) (hG.of_blocks (fun k k1 k2 => hb0.block k (by omega)))).mono ?_
  rintro e w1 ⟨rfl, hG1, hw1⟩
  have hs1 : w.heap.size + 1 ≤ w1.heap.size := by have := hw1.size; simp at this; omega
  have hA1 := hA.within hw1 (by omega)
  have hT1 := (hT.below hb0 (by omega)).within hw1 (by simp; omega) (by have := HH.out; omega)
  have hI1 := (hI.below hb0 (by omega)).within hw1 (by simp; omega) (by have := HH.out; omega)
  have cA := hA1.cells
  clear hA hG hT hI
  go_wp2_with fail
  refine (markBools_calls s.tabs (k0 + 2 * s.cs.length + 2 * s.bs.length) l2 h2 _ _ (by omega) (by omega) (by omega) hT1).mono ?_
  rintro e w2 ⟨rfl, hT2, hw2⟩
  have hs2 : w1.heap.size ≤ w2.heap.size := hw2.size
  have hA2 := hA1.within hw2 (by omega)
  have hG2 := hG1.of_blocks (fun k k1 k2 => hw2.block k (by omega) (by have := HH.out; omega))
  have hI2 := hI1.within hw2 (by omega) (by have := HH.out; omega)
  clear cA
  have cA := hA2.cells
  clear hA1 hG1 hI1 hT1
  go_wp2_with fail
  refine (markInts_calls s.sets (k0 + 2 * s.cs.length + 2 * s.bs.length + s.tabs.length) l3 h3 _ _ (by omega) (by omega) (by omega) hI2).mono ?_
  rintro e w3 ⟨rfl, hI3, hw3⟩
  have hG3 := hG2.of_blocks (fun k k1 k2 => hw3.block k (by omega) (by have := HH.out; omega))
  have hT3 := hT2.within hw3 (by omega) (by have := HH.out; omega)
  go_wp2
  go_ret
  refine ⟨scr_ret (by unfold cntS; omega), ⟨l1, h1, l2, h2, l3, h3, a1, a2, a3, a4, a5, a6, HH.out.1, HH.out.2.1, HH.out.2.2, hG3, hT3, hI3⟩, ?_⟩
  exact (Within.of_below hb0 (Nat.le_refl _)).trans ((within_mono hw1 (by omega) (by omega)).trans ((within_mono hw2 (by omega) (by omega)).trans (within_mono hw3 (by omega) (by omega))))

end Go.Proofs.YtknkbihjboadjaaDoor

namespace Go.Proofs.YtknkbihjboadjaaDoor
set_option maxRecDepth 20000
open Go.ChangeShapes Go.WideShapes Go.ChangeAt Go.RowKit Go.Joins
set_option linter.unusedVariables false
set_option linter.unusedSimpArgs false

set_option maxRecDepth 20000
theorem run_execLoad {P : Program} {ρ : Operand → Value} {op : Oper} {w : World} (ty : TypeId) (x : Operand) (ho : op.op = .load ty x) (g off : Nat) (hx : ρ x = .pointer (some ⟨g, off, none⟩)) (v : Value) (h : (loadVar ty ⟨g, off, none⟩).run P w = .ok v w) :
    (execOp ρ op).run P w = .ok (Next.value v) w := by
  unfold execOp
  simp only [ho, hx, Instr.loadAt, Instr.sureAddr, Sem.run_bind, Sem.run_pure, Result.andThen_ok, h]
theorem scr_one {w : World} {v1 v2 v3 v4 : Value} {s : Scr} (h : SRead w s v1 v2 v3 v4) : (Value.agg (scrA s v1 v2 v3 v4)).cells.toList.all (·.oneCell') = true := by
  obtain ⟨a1, c1, a2, c2, a3, c3, a4, c4, rfl, rfl, rfl, rfl⟩ := h.forms
  rfl
theorem bytes_one {w : World} {v : Value} {xs : List Int} {c : Int} (h : ReadAt .u8 w v xs) : (Value.agg #[.int .i64 c, v]).cells.toList.all (·.oneCell') = true := by
  obtain ⟨a, cap, rfl, _⟩ := h
  rfl
theorem rbBytes_len (s : Scr) (y : Int) : (rbBytes s y).length ≤ 300 := by
  unfold rbBytes
  split
  · rename_i hc
    split
    · rename_i hy
      have hyr : 0 ≤ y ∧ y ≤ s.r - 1 := of_decide_eq_true hy
      exact rowL_len (gfine_of_code (grid_of_scr hc)) hyr.1 (by omega)
    · simp
  · simp
theorem rb_spec {c : Int} {xs : List Int} {s : Scr} {y : Int} (hC : rbCode s y = c) (hS : rbBytes s y = xs) (v1 v2 v3 v4 : Value) (w : World) (hn1 : s.cs.length ≤ 1048576) (hn2 : s.bs.length ≤ 1048576) (hn3 : s.tabs.length ≤ 1048576) (hn4 : s.sets.length ≤ 1048576) (k1 : Capped v1) (h : SRead w s v1 v2 v3 v4) :
    Calls Tryd.prog 17 #[.agg (scrA s v1 v2 v3 v4), .int .i64 y] w fun e w' => ∃ v, e = .returned (.agg #[.int .i64 c, v]) ∧ IntsAt .u8 w.heap.size w'.heap.size w' v xs ∧ Below w.heap.size w w' := by
  subst hC hS
  exact specRowBytes_calls s v1 v2 v3 v4 y w hn1 hn2 hn3 hn4 k1 h
theorem rb_impl {c : Int} {xs : List Int} {s : Scr} {y : Int} (hC : rbCode s y = c) (hS : rbBytes s y = xs) (v1 v2 v3 v4 : Value) (w : World) (hn1 : s.cs.length ≤ 1048576) (hn2 : s.bs.length ≤ 1048576) (hn3 : s.tabs.length ≤ 1048576) (hn4 : s.sets.length ≤ 1048576) (htab : TabAt w.heap.size w) (h : SRead w s v1 v2 v3 v4) :
    Calls Tryd.prog 18 #[.agg (scrA s v1 v2 v3 v4), .int .i64 y] w fun e w' => ∃ v, e = .returned (.agg #[.int .i64 c, v]) ∧ IntsAt .u8 w.heap.size w'.heap.size w' v xs ∧ Below w.heap.size w w' := by
  subst hC hS
  exact implRowBytes_calls s v1 v2 v3 v4 y w hn1 hn2 hn3 hn4 htab h
set_option maxRecDepth 20000 in
set_option maxHeartbeats 8000000 in
theorem lawRB_walk (s : Scr) (v1 v2 v3 v4 : Value) (y : Int) (w : World) (htab : Lib.TabIs Tryd.prog w "internal/strconv.uint64pow10" .u64 Lib.pow10Tab) (hrs : SRead w s v1 v2 v3 v4) (hms1 : s.cs.length ≤ maxLen) (hms2 : s.bs.length ≤ maxLen) (hms3 : s.tabs.length ≤ maxLen) (hms4 : s.sets.length ≤ maxLen) :
    Calls Tryd.prog 5 #[.agg (scrA s v1 v2 v3 v4), .int .i64 y] w fun e w' => e = .returned (.bool true) ∧ Below w.heap.size w w' := by
  by_cases hsum0 : (s.cs.length : Int) + s.bs.length + s.tabs.length + s.sets.length ≤ 1048576
  · skip
    have HT : Hid (TabAt w.heap.size w) := Lib.tabBelow_of_tabIs htab
    obtain ⟨c, hC⟩ : ∃ c, rbCode s y = c := ⟨_, rfl⟩
    obtain ⟨xs, hS⟩ : ∃ l, rbBytes s y = l := ⟨_, rfl⟩
    have hxl := rbBytes_len s y
    rw [hS] at hxl
    have HC := hide hC
    have HS := hide hS
    clear hC hS
    have hne : ∀ y : Int, (y != y) = false := fun y => by simp
    have hgS : ¬ (1 + (xs.length : Int) < 0) := by omega
    have hgs : ¬ (1 + cntS s < 0) := by unfold cntS; omega
    have HRs := hide hrs
    have q0 : Below w.heap.size w (w.alloc (.cells (scrA s v1 v2 v3 v4) 28)) := (by repeat' (first | with_reducible exact Below.refl _ _ | with_reducible assumption | with_reducible refine Below.drew ?_ | with_reducible refine Below.alloc ?_ ?_ _ | with_reducible refine Below.setCell ?_ ?_ _ | (simp; done) | (simp; omega) | omega))
    have hAs := Blk.new w (scrA s v1 v2 v3 v4) 28
    go_enter Tryd.func5, Tryd.ntmps5
    go_wp2_with (first | fail | (refine wpList_load_at rfl 28 _ rfl (w.heap.size) 0 rfl _ (scrA s v1 v2 v3 v4) hAs rfl _ Tryd.underlying28 rfl (by kernel_rfl) ?_; (try simp only [Act.put, List.setIfInBounds_toArray, List.set_cons_zero, List.set_cons_succ])))
    go_at_call 6
    refine (szScreen_calls s v1 v2 v3 v4 1048576 (by omega) (by omega) _ (hrs.below q0) hms1 hms2 hms3 hms4).mono ?_
    rintro e w1 ⟨rfl, hb⟩
    replace hAs := hAs.belowb hb
    have z0 : w.heap.size + 1 ≤ w1.heap.size := by have := hb.size; simp at this; omega
    have b1 : Below w.heap.size w w1 := q0.trans (hb.mono q0.size)
    clear hb q0
    replace hrs := hrs.below b1
    rw [if_pos hsum0]
    have hge0 : ¬ ((1048576 - s.cs.length - s.bs.length - s.tabs.length - s.sets.length) < 0) := by omega
    have hns1 : s.cs.length ≤ 1048576 := by omega
    have hns2 : s.bs.length ≤ 1048576 := by omega
    have hns3 : s.tabs.length ≤ 1048576 := by omega
    have hns4 : s.sets.length ≤ 1048576 := by omega
    go_wp2_with (first | fail | (refine wpList_load_at rfl 28 _ rfl (w.heap.size) 0 rfl _ (scrA s v1 v2 v3 v4) hAs rfl _ Tryd.underlying28 rfl (by kernel_rfl) ?_; (try simp only [Act.put, List.setIfInBounds_toArray, List.set_cons_zero, List.set_cons_succ])))
    go_at_call 8
    refine (toScreen_full s v1 v2 v3 v4 _ hns1 hns2 hns3 hns4 hrs).mono ?_
    rintro e w2 ⟨p1, p2, p3, p4, rfl, k1, k2, k3, hp, hb⟩
    have z2 : w1.heap.size ≤ w2.heap.size := hb.size
    replace hAs := hAs.belowb hb
    replace hrs := hrs.below hb
    have b2 : Below w.heap.size w w2 := b1.trans (hb.mono (by omega))
    clear hb b1
    go_wp2_with fail
    go_at_call 17
    refine (rb_spec HC.out HS.out _ _ _ _ _ hns1 hns2 hns3 hns4 k1 hp.read).mono ?_
    rintro e w3 ⟨j1, rfl, hj, hb⟩
    have z3 : w2.heap.size ≤ w3.heap.size := hb.size
    replace hAs := hAs.belowb hb
    replace hrs := hrs.below hb
    replace hp := hp.below hb (by omega)
    have b3 : Below w.heap.size w w3 := b2.trans (hb.mono (by omega))
    clear hb b2
    clear hp
    go_wp2_with (first | fail | (refine wpList_load_at rfl 28 _ rfl (w.heap.size) 0 rfl _ (scrA s v1 v2 v3 v4) hAs rfl _ Tryd.underlying28 rfl (by kernel_rfl) ?_; (try simp only [Act.put, List.setIfInBounds_toArray, List.set_cons_zero, List.set_cons_succ])) | (refine wpList_store_blk rfl _ _ _ rfl (w3.heap.size) 0 #[.int .i64 0, .slice none 0 0] #[.int .i64 c, j1] (.agg #[.int .i64 c, j1]) rfl rfl (Blk.new w3 _ _) rfl (by kernel_rfl) (bytes_one hj.read) rfl ?_; (try simp only [Act.put, List.setIfInBounds_toArray, List.set_cons_zero, List.set_cons_succ]); intro w4 hJ hu; have hb : Below w3.heap.size w3 w4 := ((Below.refl _ w3).alloc (Nat.le_refl _) _).trans (hu.below (Nat.le_refl _)); have z4 : w3.heap.size + 1 = w4.heap.size := (by have := hu.size; simp at this; omega); clear hu; replace hAs := hAs.belowb hb) | (refine wpList_load_at rfl 32 _ rfl (w3.heap.size) 0 rfl _ #[.int .i64 c, j1] hJ rfl _ Tryd.underlying32 rfl (by kernel_rfl) ?_; (try simp only [Act.put, List.setIfInBounds_toArray, List.set_cons_zero, List.set_cons_succ])))
    replace hrs := hrs.below hb
    replace hj := hj.below hb (by omega)
    have b4 : Below w.heap.size w w4 := b3.trans (hb.mono (by omega))
    clear hb b3
    go_wp2_with (first | fail | (refine wpList_load_at rfl 28 _ rfl (w.heap.size) 0 rfl _ (scrA s v1 v2 v3 v4) hAs rfl _ Tryd.underlying28 rfl (by kernel_rfl) ?_; (try simp only [Act.put, List.setIfInBounds_toArray, List.set_cons_zero, List.set_cons_succ])) | (refine wpList_load_at rfl 32 _ rfl (w3.heap.size) 0 rfl _ #[.int .i64 c, j1] hJ rfl _ Tryd.underlying32 rfl (by kernel_rfl) ?_; (try simp only [Act.put, List.setIfInBounds_toArray, List.set_cons_zero, List.set_cons_succ])))
    go_at_call 8
    refine (toScreen_calls s v1 v2 v3 v4 _ hns1 hns2 hns3 hns4 hrs).mono ?_
    rintro e w5 ⟨q1, q2, q3, q4, rfl, hq, hb⟩
    have z5 : w4.heap.size ≤ w5.heap.size := hb.size
    replace hAs := hAs.belowb hb
    replace hJ := hJ.belowb hb
    replace hrs := hrs.below hb
    replace hj := hj.below hb (by omega)
    have b5 : Below w.heap.size w w5 := b4.trans (hb.mono (by omega))
    clear hb b4
    go_wp2_with (first | fail | (refine wpList_load_at rfl 28 _ rfl (w.heap.size) 0 rfl _ (scrA s v1 v2 v3 v4) hAs rfl _ Tryd.underlying28 rfl (by kernel_rfl) ?_; (try simp only [Act.put, List.setIfInBounds_toArray, List.set_cons_zero, List.set_cons_succ])) | (refine wpList_load_at rfl 32 _ rfl (w3.heap.size) 0 rfl _ #[.int .i64 c, j1] hJ rfl _ Tryd.underlying32 rfl (by kernel_rfl) ?_; (try simp only [Act.put, List.setIfInBounds_toArray, List.set_cons_zero, List.set_cons_succ])) | (refine wpList_store_blk rfl _ _ _ rfl (w5.heap.size) 0 (scrA scr0 (.slice none 0 0) (.slice none 0 0) (.slice none 0 0) (.slice none 0 0)) (scrA s q1 q2 q3 q4) (.agg (scrA s q1 q2 q3 q4)) rfl rfl (Blk.new w5 _ _) rfl (by kernel_rfl) (scr_one hq.read) rfl ?_; (try simp only [Act.put, List.setIfInBounds_toArray, List.set_cons_zero, List.set_cons_succ]); intro w6 hX hu; have hb : Below w5.heap.size w5 w6 := ((Below.refl _ w5).alloc (Nat.le_refl _) _).trans (hu.below (Nat.le_refl _)); have z6 : w5.heap.size + 1 = w6.heap.size := (by have := hu.size; simp at this; omega); clear hu; replace hAs := hAs.belowb hb; replace hJ := hJ.belowb hb) | (refine wpList_load_at rfl 38 _ rfl (w5.heap.size) 0 rfl _ (scrA s q1 q2 q3 q4) hX rfl _ Tryd.underlying38 rfl (by kernel_rfl) ?_; (try simp only [Act.put, List.setIfInBounds_toArray, List.set_cons_zero, List.set_cons_succ])))
    replace hrs := hrs.below hb
    replace hj := hj.below hb (by omega)
    replace hq := hq.below hb (by omega)
    have b6 : Below w.heap.size w w6 := b5.trans (hb.mono (by omega))
    clear hb b5
    go_wp2_with (first | fail | (refine wpList_load_at rfl 28 _ rfl (w.heap.size) 0 rfl _ (scrA s v1 v2 v3 v4) hAs rfl _ Tryd.underlying28 rfl (by kernel_rfl) ?_; (try simp only [Act.put, List.setIfInBounds_toArray, List.set_cons_zero, List.set_cons_succ])) | (refine wpList_load_at rfl 32 _ rfl (w3.heap.size) 0 rfl _ #[.int .i64 c, j1] hJ rfl _ Tryd.underlying32 rfl (by kernel_rfl) ?_; (try simp only [Act.put, List.setIfInBounds_toArray, List.set_cons_zero, List.set_cons_succ])) | (refine wpList_load_at rfl 38 _ rfl (w5.heap.size) 0 rfl _ (scrA s q1 q2 q3 q4) hX rfl _ Tryd.underlying38 rfl (by kernel_rfl) ?_; (try simp only [Act.put, List.setIfInBounds_toArray, List.set_cons_zero, List.set_cons_succ])))
    go_at_call 18
    refine (rb_impl HC.out HS.out _ _ _ _ _ hns1 hns2 hns3 hns4 (TabAt.upto HT.out b6 (by omega)) hq.read).mono ?_
    rintro e w7 ⟨g1, rfl, hg, hb⟩
    have z7 : w6.heap.size ≤ w7.heap.size := hb.size
    replace hAs := hAs.belowb hb
    replace hJ := hJ.belowb hb
    replace hX := hX.belowb hb
    replace hrs := hrs.below hb
    replace hj := hj.below hb (by omega)
    replace hq := hq.below hb (by omega)
    have b7 : Below w.heap.size w w7 := b6.trans (hb.mono (by omega))
    clear hb b6
    go_wp2_with (first | fail | (refine wpList_load_at rfl 28 _ rfl (w.heap.size) 0 rfl _ (scrA s v1 v2 v3 v4) hAs rfl _ Tryd.underlying28 rfl (by kernel_rfl) ?_; (try simp only [Act.put, List.setIfInBounds_toArray, List.set_cons_zero, List.set_cons_succ])) | (refine wpList_load_at rfl 32 _ rfl (w3.heap.size) 0 rfl _ #[.int .i64 c, j1] hJ rfl _ Tryd.underlying32 rfl (by kernel_rfl) ?_; (try simp only [Act.put, List.setIfInBounds_toArray, List.set_cons_zero, List.set_cons_succ])) | (refine wpList_load_at rfl 38 _ rfl (w5.heap.size) 0 rfl _ (scrA s q1 q2 q3 q4) hX rfl _ Tryd.underlying38 rfl (by kernel_rfl) ?_; (try simp only [Act.put, List.setIfInBounds_toArray, List.set_cons_zero, List.set_cons_succ])) | (refine wpList_store_blk rfl _ _ _ rfl (w7.heap.size) 0 #[.int .i64 0, .slice none 0 0] #[.int .i64 c, g1] (.agg #[.int .i64 c, g1]) rfl rfl (Blk.new w7 _ _) rfl (by kernel_rfl) (bytes_one hg.read) rfl ?_; (try simp only [Act.put, List.setIfInBounds_toArray, List.set_cons_zero, List.set_cons_succ]); intro w8 hG hu; have hb : Below w7.heap.size w7 w8 := ((Below.refl _ w7).alloc (Nat.le_refl _) _).trans (hu.below (Nat.le_refl _)); have z8 : w7.heap.size + 1 = w8.heap.size := (by have := hu.size; simp at this; omega); clear hu; replace hAs := hAs.belowb hb; replace hJ := hJ.belowb hb; replace hX := hX.belowb hb) | (refine wpList_load_at rfl 32 _ rfl (w7.heap.size) 0 rfl _ #[.int .i64 c, g1] hG rfl _ Tryd.underlying32 rfl (by kernel_rfl) ?_; (try simp only [Act.put, List.setIfInBounds_toArray, List.set_cons_zero, List.set_cons_succ])))
    replace hrs := hrs.below hb
    replace hj := hj.below hb (by omega)
    replace hq := hq.below hb (by omega)
    replace hg := hg.below hb (by omega)
    have b8 : Below w.heap.size w w8 := b7.trans (hb.mono (by omega))
    clear hb b7
    go_at_call 10
    refine (eqBytesResult_calls c xs _ _ _ (by omega) hg.read hj.read).mono ?_
    rintro e w9 ⟨rfl, hb⟩
    have z9 : w8.heap.size ≤ w9.heap.size := hb.size
    replace hAs := hAs.belowb hb
    replace hJ := hJ.belowb hb
    replace hX := hX.belowb hb
    replace hG := hG.belowb hb
    replace hrs := hrs.below hb
    replace hj := hj.below hb (by omega)
    replace hq := hq.below hb (by omega)
    replace hg := hg.below hb (by omega)
    have b9 : Below w.heap.size w w9 := b8.trans (hb.mono (by omega))
    clear hb b8
    go_wp2_with fail
    have hd : Below w9.heap.size w9 w9.drew := Below.drew (Below.refl _ _)
    have ra := hrs.below hd
    have rx := hq.read.below hd
    refine wp_region_held_drew (S := (fun w' => Below w9.heap.size w9 w' ∧ Blk w' (w.heap.size) (scrA s v1 v2 v3 v4) ∧ Blk w' (w5.heap.size) (scrA s q1 q2 q3 q4))) (by kernel_rfl) ?_ (fun hHeld => ?_)
    · (try dsimp only); exact ⟨hd, hAs, hX⟩
    refine wpAnyH_take (i := 0) (oi := ⟨_, _, _, _, _, _⟩) (v := .agg (scrA s q1 q2 q3 q4)) rfl (by kernel_rfl) (by kernel_rfl) (by kernel_rfl) (fun _ _ _ h => h) (Or.inl ⟨by rfl, ?_⟩) hHeld ?_
    · intro w hSw
      (try dsimp only at hSw)
      have hx := run_loadVar_at (P := Tryd.prog) (o := 0) (ty := 38) (vs := (scrA s q1 q2 q3 q4)) hSw.2.2 rfl Tryd.underlying38 rfl (by kernel_rfl)
      exact run_execLoad _ _ rfl _ _ rfl _ hx
    try simp only [Act.put, List.setIfInBounds_toArray, List.set_cons_zero, List.set_cons_succ]
    refine wpAnyH_take (i := 1) (oi := ⟨_, _, _, _, _, _⟩) (v := .agg (scrA s v1 v2 v3 v4)) rfl (by kernel_rfl) (by kernel_rfl) (by kernel_rfl) (fun _ _ _ h => h) (Or.inl ⟨by rfl, ?_⟩) hHeld ?_
    · intro w hSw
      (try dsimp only at hSw)
      have hx := run_loadVar_at (P := Tryd.prog) (o := 0) (ty := 28) (vs := (scrA s v1 v2 v3 v4)) hSw.2.1 rfl Tryd.underlying28 rfl (by kernel_rfl)
      exact run_execLoad _ _ rfl _ _ rfl _ hx
    try simp only [Act.put, List.setIfInBounds_toArray, List.set_cons_zero, List.set_cons_succ]
    refine wpAnyH_ready (rs := [2]) (by kernel_rfl) (by simp) ?_
    refine AllReadyH.cons (o := ⟨_, _, _, _, _, _⟩) rfl (fun K hK => ?_) AllReadyH.nil
    go_simp
    go_at_call 8
    refine (toScreen_calls s v1 v2 v3 v4 _ hns1 hns2 hns3 hns4 ra).mono ?_
    rintro e y10_1 ⟨y1, y2, y3, y4, rfl, hya, hb1⟩
    have r1 := hya.read
    replace rx := rx.below hb1
    clear hya
    try go_wp2_with fail
    refine hK.out _ _ ?_ ?_
    · (try dsimp only); exact ⟨hHeld.1.trans (hb1.mono hHeld.1.size), hHeld.2.1.belowb hb1, hHeld.2.2.belowb hb1⟩
    clear hHeld hK K
    intro hHeld
    try simp only [Act.put, List.setIfInBounds_toArray, List.set_cons_zero, List.set_cons_succ]
    refine wpAnyH_ready (rs := [3]) (by kernel_rfl) (by simp) ?_
    refine AllReadyH.cons (o := ⟨_, _, _, _, _, _⟩) rfl (fun K hK => ?_) AllReadyH.nil
    go_simp
    go_at_call 11
    refine (eqScreen_calls s _ _ _ _ _ _ _ _ _ hns1 hns2 hns3 hns4 rx r1).mono ?_
    rintro e w10 ⟨rfl, hb3⟩
    try go_wp2_with fail
    refine hK.out _ _ ?_ ?_
    · (try dsimp only); exact ⟨hHeld.1.trans (hb3.mono hHeld.1.size), hHeld.2.1.belowb hb3, hHeld.2.2.belowb hb3⟩
    clear hHeld hK K
    intro hHeld
    try simp only [Act.put, List.setIfInBounds_toArray, List.set_cons_zero, List.set_cons_succ]
    refine wpAnyH_take (i := 4) (oi := ⟨_, _, _, _, _, _⟩) (v := ?_) rfl (by kernel_rfl) (by kernel_rfl) (by kernel_rfl) (fun _ _ _ h => h) (Or.inl ⟨by rfl, ?_⟩) hHeld ?_
    rotate_left
    · (intro w hSw; (try dsimp only at hSw); go_simp; try (with_reducible rfl))
    try simp only [Act.put, List.setIfInBounds_toArray, List.set_cons_zero, List.set_cons_succ]
    refine wpAnyH_done (by kernel_rfl) ?_ _
    have hb := hHeld.1
    clear hHeld ra rx r1 hb1 hb3 hd
    have z10 : w9.heap.size ≤ w10.heap.size := hb.size
    replace hAs := hAs.belowb hb
    replace hJ := hJ.belowb hb
    replace hX := hX.belowb hb
    replace hG := hG.belowb hb
    replace hrs := hrs.below hb
    replace hj := hj.below hb (by omega)
    replace hq := hq.below hb (by omega)
    replace hg := hg.below hb (by omega)
    have b10 : Below w.heap.size w w10 := b9.trans (hb.mono (by omega))
    clear hb b9
    go_wp2_with (first | fail | (refine wpList_load_at rfl 28 _ rfl (w.heap.size) 0 rfl _ (scrA s v1 v2 v3 v4) hAs rfl _ Tryd.underlying28 rfl (by kernel_rfl) ?_; (try simp only [Act.put, List.setIfInBounds_toArray, List.set_cons_zero, List.set_cons_succ])) | (refine wpList_load_at rfl 32 _ rfl (w3.heap.size) 0 rfl _ #[.int .i64 c, j1] hJ rfl _ Tryd.underlying32 rfl (by kernel_rfl) ?_; (try simp only [Act.put, List.setIfInBounds_toArray, List.set_cons_zero, List.set_cons_succ])) | (refine wpList_load_at rfl 38 _ rfl (w5.heap.size) 0 rfl _ (scrA s q1 q2 q3 q4) hX rfl _ Tryd.underlying38 rfl (by kernel_rfl) ?_; (try simp only [Act.put, List.setIfInBounds_toArray, List.set_cons_zero, List.set_cons_succ])) | (refine wpList_load_at rfl 32 _ rfl (w7.heap.size) 0 rfl _ #[.int .i64 c, g1] hG rfl _ Tryd.underlying32 rfl (by kernel_rfl) ?_; (try simp only [Act.put, List.setIfInBounds_toArray, List.set_cons_zero, List.set_cons_succ])))
    go_at_call 12
    refine (markScreen_calls s 1 w4.heap.size w5.heap.size _ _ _ _ _ hns1 hns2 hns3 hns4 (by omega) (by omega) (by omega) hq).mono ?_
    rintro e w11 ⟨rfl, hm, hb⟩
    have z11 : w10.heap.size ≤ w11.heap.size := hb.size
    replace hAs := hAs.within hb (by omega)
    replace hJ := hJ.within hb (by omega)
    replace hX := hX.within hb (by omega)
    replace hG := hG.within hb (by omega)
    replace hj := hj.within hb (by omega) (by omega)
    replace hg := hg.within hb (by omega) (by omega)
    have b11 : Below w.heap.size w w11 := b10.trans (hb.below (by omega) (by omega))
    clear hb hq b10
    replace hrs := HRs.out.below b11
    clear hm
    go_wp2_with (first | fail | (refine wpList_load_at rfl 28 _ rfl (w.heap.size) 0 rfl _ (scrA s v1 v2 v3 v4) hAs rfl _ Tryd.underlying28 rfl (by kernel_rfl) ?_; (try simp only [Act.put, List.setIfInBounds_toArray, List.set_cons_zero, List.set_cons_succ])) | (refine wpList_load_at rfl 32 _ rfl (w3.heap.size) 0 rfl _ #[.int .i64 c, j1] hJ rfl _ Tryd.underlying32 rfl (by kernel_rfl) ?_; (try simp only [Act.put, List.setIfInBounds_toArray, List.set_cons_zero, List.set_cons_succ])) | (refine wpList_load_at rfl 38 _ rfl (w5.heap.size) 0 rfl _ (scrA s q1 q2 q3 q4) hX rfl _ Tryd.underlying38 rfl (by kernel_rfl) ?_; (try simp only [Act.put, List.setIfInBounds_toArray, List.set_cons_zero, List.set_cons_succ])) | (refine wpList_load_at rfl 32 _ rfl (w7.heap.size) 0 rfl _ #[.int .i64 c, g1] hG rfl _ Tryd.underlying32 rfl (by kernel_rfl) ?_; (try simp only [Act.put, List.setIfInBounds_toArray, List.set_cons_zero, List.set_cons_succ])))
    go_at_call 10
    refine (eqBytesResult_calls c xs _ _ _ (by omega) hg.read hj.read).mono ?_
    rintro e w12 ⟨rfl, hb⟩
    have z12 : w11.heap.size ≤ w12.heap.size := hb.size
    replace hAs := hAs.belowb hb
    replace hJ := hJ.belowb hb
    replace hX := hX.belowb hb
    replace hG := hG.belowb hb
    replace hrs := hrs.below hb
    replace hj := hj.below hb (by omega)
    replace hg := hg.below hb (by omega)
    have b12 : Below w.heap.size w w12 := b11.trans (hb.mono (by omega))
    clear hb b11
    go_wp2_with (first | fail | (refine wpList_load_at rfl 28 _ rfl (w.heap.size) 0 rfl _ (scrA s v1 v2 v3 v4) hAs rfl _ Tryd.underlying28 rfl (by kernel_rfl) ?_; (try simp only [Act.put, List.setIfInBounds_toArray, List.set_cons_zero, List.set_cons_succ])) | (refine wpList_load_at rfl 32 _ rfl (w3.heap.size) 0 rfl _ #[.int .i64 c, j1] hJ rfl _ Tryd.underlying32 rfl (by kernel_rfl) ?_; (try simp only [Act.put, List.setIfInBounds_toArray, List.set_cons_zero, List.set_cons_succ])) | (refine wpList_load_at rfl 38 _ rfl (w5.heap.size) 0 rfl _ (scrA s q1 q2 q3 q4) hX rfl _ Tryd.underlying38 rfl (by kernel_rfl) ?_; (try simp only [Act.put, List.setIfInBounds_toArray, List.set_cons_zero, List.set_cons_succ])) | (refine wpList_load_at rfl 32 _ rfl (w7.heap.size) 0 rfl _ #[.int .i64 c, g1] hG rfl _ Tryd.underlying32 rfl (by kernel_rfl) ?_; (try simp only [Act.put, List.setIfInBounds_toArray, List.set_cons_zero, List.set_cons_succ])))
    go_at_call 13
    refine (markBytesResult_calls c xs 1 w6.heap.size w7.heap.size _ _ (by omega) (by omega) (by omega) (by omega) hg).mono ?_
    rintro e w13 ⟨rfl, hm, hb⟩
    have z13 : w12.heap.size ≤ w13.heap.size := hb.size
    replace hAs := hAs.within hb (by omega)
    replace hJ := hJ.within hb (by omega)
    replace hX := hX.within hb (by omega)
    replace hG := hG.within hb (by omega)
    replace hj := hj.within hb (by omega) (by omega)
    have b13 : Below w.heap.size w w13 := b12.trans (hb.below (by omega) (by omega))
    clear hb hg b12
    replace hrs := HRs.out.below b13
    have hg := hm
    clear hm
    go_wp2_with (first | fail | (refine wpList_load_at rfl 28 _ rfl (w.heap.size) 0 rfl _ (scrA s v1 v2 v3 v4) hAs rfl _ Tryd.underlying28 rfl (by kernel_rfl) ?_; (try simp only [Act.put, List.setIfInBounds_toArray, List.set_cons_zero, List.set_cons_succ])) | (refine wpList_load_at rfl 32 _ rfl (w3.heap.size) 0 rfl _ #[.int .i64 c, j1] hJ rfl _ Tryd.underlying32 rfl (by kernel_rfl) ?_; (try simp only [Act.put, List.setIfInBounds_toArray, List.set_cons_zero, List.set_cons_succ])) | (refine wpList_load_at rfl 38 _ rfl (w5.heap.size) 0 rfl _ (scrA s q1 q2 q3 q4) hX rfl _ Tryd.underlying38 rfl (by kernel_rfl) ?_; (try simp only [Act.put, List.setIfInBounds_toArray, List.set_cons_zero, List.set_cons_succ])) | (refine wpList_load_at rfl 32 _ rfl (w7.heap.size) 0 rfl _ #[.int .i64 c, g1] hG rfl _ Tryd.underlying32 rfl (by kernel_rfl) ?_; (try simp only [Act.put, List.setIfInBounds_toArray, List.set_cons_zero, List.set_cons_succ])))
    go_at_call 14
    refine (heldBytesResult_calls c (marksB 1 xs.length) 1 _ _ (by rw [marksB_length]; omega) (by omega) (by omega) hg.read (marksB_at 1 _)).mono ?_
    rintro e w14 ⟨rfl, hb⟩
    have z14 : w13.heap.size ≤ w14.heap.size := hb.size
    replace hAs := hAs.belowb hb
    replace hJ := hJ.belowb hb
    replace hX := hX.belowb hb
    replace hG := hG.belowb hb
    replace hrs := hrs.below hb
    replace hj := hj.below hb (by omega)
    replace hg := hg.below hb (by omega)
    have b14 : Below w.heap.size w w14 := b13.trans (hb.mono (by omega))
    clear hb b13
    rw [marksB_length]
    go_wp2_with (first | fail | (refine wpList_load_at rfl 28 _ rfl (w.heap.size) 0 rfl _ (scrA s v1 v2 v3 v4) hAs rfl _ Tryd.underlying28 rfl (by kernel_rfl) ?_; (try simp only [Act.put, List.setIfInBounds_toArray, List.set_cons_zero, List.set_cons_succ])) | (refine wpList_load_at rfl 32 _ rfl (w3.heap.size) 0 rfl _ #[.int .i64 c, j1] hJ rfl _ Tryd.underlying32 rfl (by kernel_rfl) ?_; (try simp only [Act.put, List.setIfInBounds_toArray, List.set_cons_zero, List.set_cons_succ])) | (refine wpList_load_at rfl 38 _ rfl (w5.heap.size) 0 rfl _ (scrA s q1 q2 q3 q4) hX rfl _ Tryd.underlying38 rfl (by kernel_rfl) ?_; (try simp only [Act.put, List.setIfInBounds_toArray, List.set_cons_zero, List.set_cons_succ])) | (refine wpList_load_at rfl 32 _ rfl (w7.heap.size) 0 rfl _ #[.int .i64 c, g1] hG rfl _ Tryd.underlying32 rfl (by kernel_rfl) ?_; (try simp only [Act.put, List.setIfInBounds_toArray, List.set_cons_zero, List.set_cons_succ])))
    go_at_call 8
    refine (toScreen_calls s v1 v2 v3 v4 _ hns1 hns2 hns3 hns4 hrs).mono ?_
    rintro e w15 ⟨y1, y2, y3, y4, rfl, hq', hb⟩
    have z15 : w14.heap.size ≤ w15.heap.size := hb.size
    replace hAs := hAs.belowb hb
    replace hJ := hJ.belowb hb
    replace hX := hX.belowb hb
    replace hG := hG.belowb hb
    replace hrs := hrs.below hb
    replace hj := hj.below hb (by omega)
    replace hg := hg.below hb (by omega)
    have b15 : Below w.heap.size w w15 := b14.trans (hb.mono (by omega))
    clear hb b14
    go_wp2_with fail
    go_at_call 18
    refine (rb_impl HC.out HS.out _ _ _ _ _ hns1 hns2 hns3 hns4 (TabAt.upto HT.out b15 (by omega)) hq'.read).mono ?_
    rintro e w16 ⟨u1, rfl, hu, hb⟩
    have z16 : w15.heap.size ≤ w16.heap.size := hb.size
    replace hAs := hAs.belowb hb
    replace hJ := hJ.belowb hb
    replace hX := hX.belowb hb
    replace hG := hG.belowb hb
    replace hrs := hrs.below hb
    replace hj := hj.below hb (by omega)
    replace hg := hg.below hb (by omega)
    replace hq' := hq'.below hb (by omega)
    have b16 : Below w.heap.size w w16 := b15.trans (hb.mono (by omega))
    clear hb b15
    clear hq'
    go_wp2_with (first | fail | (refine wpList_load_at rfl 28 _ rfl (w.heap.size) 0 rfl _ (scrA s v1 v2 v3 v4) hAs rfl _ Tryd.underlying28 rfl (by kernel_rfl) ?_; (try simp only [Act.put, List.setIfInBounds_toArray, List.set_cons_zero, List.set_cons_succ])) | (refine wpList_load_at rfl 32 _ rfl (w3.heap.size) 0 rfl _ #[.int .i64 c, j1] hJ rfl _ Tryd.underlying32 rfl (by kernel_rfl) ?_; (try simp only [Act.put, List.setIfInBounds_toArray, List.set_cons_zero, List.set_cons_succ])) | (refine wpList_load_at rfl 38 _ rfl (w5.heap.size) 0 rfl _ (scrA s q1 q2 q3 q4) hX rfl _ Tryd.underlying38 rfl (by kernel_rfl) ?_; (try simp only [Act.put, List.setIfInBounds_toArray, List.set_cons_zero, List.set_cons_succ])) | (refine wpList_load_at rfl 32 _ rfl (w7.heap.size) 0 rfl _ #[.int .i64 c, g1] hG rfl _ Tryd.underlying32 rfl (by kernel_rfl) ?_; (try simp only [Act.put, List.setIfInBounds_toArray, List.set_cons_zero, List.set_cons_succ])) | (refine wpList_store_blk rfl _ _ _ rfl (w16.heap.size) 0 #[.int .i64 0, .slice none 0 0] #[.int .i64 c, u1] (.agg #[.int .i64 c, u1]) rfl rfl (Blk.new w16 _ _) rfl (by kernel_rfl) (bytes_one hu.read) rfl ?_; (try simp only [Act.put, List.setIfInBounds_toArray, List.set_cons_zero, List.set_cons_succ]); intro w17 hU hu; have hb : Below w16.heap.size w16 w17 := ((Below.refl _ w16).alloc (Nat.le_refl _) _).trans (hu.below (Nat.le_refl _)); have z17 : w16.heap.size + 1 = w17.heap.size := (by have := hu.size; simp at this; omega); clear hu; replace hAs := hAs.belowb hb; replace hJ := hJ.belowb hb; replace hX := hX.belowb hb; replace hG := hG.belowb hb) | (refine wpList_load_at rfl 32 _ rfl (w16.heap.size) 0 rfl _ #[.int .i64 c, u1] hU rfl _ Tryd.underlying32 rfl (by kernel_rfl) ?_; (try simp only [Act.put, List.setIfInBounds_toArray, List.set_cons_zero, List.set_cons_succ])))
    replace hrs := hrs.below hb
    replace hj := hj.below hb (by omega)
    replace hg := hg.below hb (by omega)
    replace hu := hu.below hb (by omega)
    have b17 : Below w.heap.size w w17 := b16.trans (hb.mono (by omega))
    clear hb b16
    go_at_call 10
    refine (eqBytesResult_calls c xs _ _ _ (by omega) hu.read hj.read).mono ?_
    rintro e w18 ⟨rfl, hb⟩
    have z18 : w17.heap.size ≤ w18.heap.size := hb.size
    replace hAs := hAs.belowb hb
    replace hJ := hJ.belowb hb
    replace hX := hX.belowb hb
    replace hG := hG.belowb hb
    replace hU := hU.belowb hb
    replace hrs := hrs.below hb
    replace hj := hj.below hb (by omega)
    replace hg := hg.below hb (by omega)
    replace hu := hu.below hb (by omega)
    have b18 : Below w.heap.size w w18 := b17.trans (hb.mono (by omega))
    clear hb b17
    go_wp2_with (first | fail | (refine wpList_load_at rfl 28 _ rfl (w.heap.size) 0 rfl _ (scrA s v1 v2 v3 v4) hAs rfl _ Tryd.underlying28 rfl (by kernel_rfl) ?_; (try simp only [Act.put, List.setIfInBounds_toArray, List.set_cons_zero, List.set_cons_succ])) | (refine wpList_load_at rfl 32 _ rfl (w3.heap.size) 0 rfl _ #[.int .i64 c, j1] hJ rfl _ Tryd.underlying32 rfl (by kernel_rfl) ?_; (try simp only [Act.put, List.setIfInBounds_toArray, List.set_cons_zero, List.set_cons_succ])) | (refine wpList_load_at rfl 38 _ rfl (w5.heap.size) 0 rfl _ (scrA s q1 q2 q3 q4) hX rfl _ Tryd.underlying38 rfl (by kernel_rfl) ?_; (try simp only [Act.put, List.setIfInBounds_toArray, List.set_cons_zero, List.set_cons_succ])) | (refine wpList_load_at rfl 32 _ rfl (w7.heap.size) 0 rfl _ #[.int .i64 c, g1] hG rfl _ Tryd.underlying32 rfl (by kernel_rfl) ?_; (try simp only [Act.put, List.setIfInBounds_toArray, List.set_cons_zero, List.set_cons_succ])) | (refine wpList_load_at rfl 32 _ rfl (w16.heap.size) 0 rfl _ #[.int .i64 c, u1] hU rfl _ Tryd.underlying32 rfl (by kernel_rfl) ?_; (try simp only [Act.put, List.setIfInBounds_toArray, List.set_cons_zero, List.set_cons_succ])))
    go_at_call 14
    refine (heldBytesResult_calls c (marksB 1 xs.length) 1 _ _ (by rw [marksB_length]; omega) (by omega) (by omega) hg.read (marksB_at 1 _)).mono ?_
    rintro e w19 ⟨rfl, hb⟩
    have z19 : w18.heap.size ≤ w19.heap.size := hb.size
    replace hAs := hAs.belowb hb
    replace hJ := hJ.belowb hb
    replace hX := hX.belowb hb
    replace hG := hG.belowb hb
    replace hU := hU.belowb hb
    replace hrs := hrs.below hb
    replace hj := hj.below hb (by omega)
    replace hg := hg.below hb (by omega)
    replace hu := hu.below hb (by omega)
    have b19 : Below w.heap.size w w19 := b18.trans (hb.mono (by omega))
    clear hb b18
    rw [marksB_length]
    go_wp2
    go_ret
    exact ⟨rfl, b19⟩
  · have q0 : Below w.heap.size w (w.alloc (.cells (scrA s v1 v2 v3 v4) 28)) := (by repeat' (first | with_reducible exact Below.refl _ _ | with_reducible assumption | with_reducible refine Below.drew ?_ | with_reducible refine Below.alloc ?_ ?_ _ | with_reducible refine Below.setCell ?_ ?_ _ | (simp; done) | (simp; omega) | omega))
    have hAs := Blk.new w (scrA s v1 v2 v3 v4) 28
    go_enter Tryd.func5, Tryd.ntmps5
    go_wp2_with (first | fail | (refine wpList_load_at rfl 28 _ rfl (w.heap.size) 0 rfl _ (scrA s v1 v2 v3 v4) hAs rfl _ Tryd.underlying28 rfl (by kernel_rfl) ?_; (try simp only [Act.put, List.setIfInBounds_toArray, List.set_cons_zero, List.set_cons_succ])))
    go_at_call 6
    refine (szScreen_calls s v1 v2 v3 v4 1048576 (by omega) (by omega) _ (hrs.below q0) hms1 hms2 hms3 hms4).mono ?_
    rintro e w1 ⟨rfl, hb⟩
    replace hAs := hAs.belowb hb
    have b1 : Below w.heap.size w w1 := q0.trans (hb.mono q0.size)
    clear hb q0
    rw [if_neg (by omega)]
    go_wp2
    go_ret
    exact ⟨rfl, b1⟩

theorem lawRB_laid : laidOutB Tryd.prog = true := by kernel_rfl
theorem lawRB_own : ownKnob Tryd.prog.godebug = none := by kernel_rfl
def lawRB_laidlist : List (String × DataW Unit) := [("math/bits.deBruijn32tab", Rows.laid_math_bits_deBruijn32tab), ("math/bits.deBruijn64tab", Rows.laid_math_bits_deBruijn64tab), ("internal/strconv.uint64pow10", Rows.laid_internal_strconv_uint64pow10)]
theorem lawRB_door (os : Os) (args : Array Value) : laidMetH Tryd.prog lawRB_laidlist ((World.doorLaid Tryd.prog 24 os).forCall (fun _ _ => 0) ⟨#[], args, []⟩).memory :=
  laidMetH_of_parts3 (fuel := 8) (laidMet_of_run' 8 (by kernel_rfl) (by kernel_rfl)) (by kernel_rfl) (by kernel_rfl)
theorem lawRB_tab {W : World} (h : laidMetH Tryd.prog lawRB_laidlist W) : Lib.TabIs Tryd.prog W "internal/strconv.uint64pow10" .u64 Lib.pow10Tab := by
  rw [MakeChecks.laidMetH_plain _ _ _ (by kernel_rfl)] at h
  have h2 := laidMet.filter (fun x => x.1 == "internal/strconv.uint64pow10") h
  have e2 : lawRB_laidlist.filter (fun x => x.1 == "internal/strconv.uint64pow10") = [("internal/strconv.uint64pow10", Rows.laid_internal_strconv_uint64pow10)] := by kernel_rfl
  rw [e2] at h2
  have e : (Rows.laid_internal_strconv_uint64pow10 : DataW Unit) = Lib.tabData .u64 Lib.pow10Tab := by kernel_rfl
  rw [e] at h2
  exact Lib.tabIs_of_head (g := 0) (by kernel_rfl) (by kernel_rfl) Tryd.underlying122 Tryd.underlying112 (by kernel_rfl) (by kernel_rfl) h2
set_option maxRecDepth 100000 in
theorem lawRB_lifted (os : Os) (started : os.Started) (H : Type) (enc : TypeId × Value → H) :
    ReturnsInHanded {} Tryd.checked os 5 .any (fun w args => (Rows.fnExactRowBytesSpec.pre enc Tryd.prog Tryd.f5 [] false w args ∧ laidMetH Tryd.prog lawRB_laidlist w) ∧ sizedMet enc Tryd.prog Tryd.f5 (OpenSpec.ofChange Rows.fnExactRowBytesSpec) false w args)
      (Rows.fnExactRowBytesSpec.post enc Tryd.prog Tryd.f5 false true false false) := by
  refine returnsInHanded_of_change_and (C := Tryd.checked) (X := fun w _ => laidMetH Tryd.prog lawRB_laidlist w) (fun _ _ _ hh h => h.of_heap hh) lawRB_own started (by kernel_rfl) Tryd.func5
    (ChangeSpec.witness_shaped (enc := enc) (C := Tryd.checked) (os := os) (X := fun w _ => laidMetH Tryd.prog lawRB_laidlist w) false (World.doorLaid Tryd.prog 24 os) #[.agg #[.int .i64 0, .int .i64 0, .slice none 0 0, .slice none 0 0, .int .i64 0, .int .i64 0, .bool false, .int .i64 0, .int .i64 0, .int .i64 0, .bool false, .bool false, .bool false, .slice none 0 0, .int .i64 0, .int .i64 0, .int .i64 0, .slice none 0 0, .int .i64 0, .int .i64 0], .int .i64 0] 8 rfl (World.shaped_of_RefB (by kernel_rfl) (by kernel_rfl)) (by kernel_rfl) (by kernel_rfl) (by kernel_rfl) (lawRB_door os _)) ?_
  intro W base args ds gs before hval0 hW _ _ hL _
  have hval : ∀ (j : Nat) t v, Tryd.f5.params[j]? = some t → args[j]? = some v → Value.okWide Tryd.prog W .any base t v := hval0
  have hW' := hW
  obtain ⟨p, q, hA0, hV, rfl, hfz, hnd⟩ := hW
  have hA : DataW.TrodAll enc Tryd.prog W 0 (fun _ => true) true Tryd.f5.params.toList args.toList ds p := hA0
  rw [Tryd.params5] at hA hval
  obtain ⟨z0, z1, d0, d1, p0, p1, rfl, rfl, rfl, h0, h1⟩ := trodAll_two hA
  obtain ⟨rfl, rfl⟩ := trodVars_none hV
  have k0 := h0
  have lt0 : ∀ x ∈ p0, x.block < W.heap.size := by obtain ⟨m, hm⟩ := k0; exact DataW.trod_lt m _ _ _ hm
  obtain ⟨s, v1, v2, v3, v4, rfl, hrs, hms1, hms2, hms3, hms4⟩ := open_screen (hval 0 28 z0 rfl rfl) h0
  obtain ⟨y, rfl, rfl, rfl, wi0⟩ := open_int Tryd.underlying2 (hval 1 2 z1 rfl rfl) h1
  have htab := lawRB_tab hL
  clear hA0 hval0

  refine (lawRB_walk s v1 v2 v3 v4 y W htab hrs hms1 hms2 hms3 hms4).mono fun e W' ⟨he, bel⟩ => ?_
  subst he
  exact ⟨_, rfl, _, _, _, [], _, [], hW', trodAll_mk1 (shut_bool Tryd.underlying4 _), trodAll_mk2 (Below.trod lawRB_laid (by kernel_rfl) (of_decide_eq_true (by kernel_rfl)) k0 bel lt0) (shut_int Tryd.underlying2 wi0), rfl, bel.frame _, fun h => by cases h⟩

theorem lawRB_over : Rows.FnExactRowBytesSaid :=
  OpenClaim.holds_of_wide 5 Tryd.f5 rfl rfl rfl rfl rfl rfl rfl ⟨rfl, rfl, rfl, rfl, rfl⟩ rfl rfl rfl rfl rfl (by kernel_rfl) Tryd.func5 (by kernel_rfl)
    (of_decide_eq_true (by kernel_rfl)) (by unfold Func.isWrapper; first | (rw [if_pos (by decide +kernel)]; kernel_rfl) | (rw [if_neg (by decide +kernel)]; exact ⟨rfl, rfl⟩))
    (fun os started H enc _ => lawRB_lifted os started H enc)

theorem lawRB_proved : Rows.FnExactRowBytesCardSaid :=
  Claim7.holds_tied_plain_at .later [] [.data, .data, .data] true (true, "a45b8beb966be5ad85e744dab25897072155b8021963785b99f6f8e5f096f33c") false
    lawRB_over (fun _ h => by cases h) (by kernel_rfl) (fun _ h => by cases h) fnExactRowBytes_row_tie rfl ⟨rfl, rfl⟩ (by kernel_rfl) rfl
    (fun f fn hf hfn => by
      obtain rfl : f = 5 := Option.some.inj ((show Tryd.prog.funcNamed Rows.fnExactRowBytesRow.func = some 5 by kernel_rfl).symm.trans hf) |>.symm
      obtain rfl : fn = Tryd.f5 := (Option.some.inj (Tryd.func5.symm.trans hfn)).symm
      exact ⟨by kernel_rfl, fun j t ht => by
        rw [Tryd.params5] at ht
        have hm : t ∈ [28, 2] := by simpa using Array.mem_of_getElem? ht
        have hall : ([28, 2].all fun u => !Tryd.prog.wantsStandIn u) = true := by kernel_rfl
        exact (show Tryd.prog.wantsStandIn t = false by simpa using List.all_eq_true.1 hall t hm)⟩)
    (by kernel_rfl)
#print axioms lawRB_proved
end Go.Proofs.YtknkbihjboadjaaDoor
