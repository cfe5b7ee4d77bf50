/-
  A terminal in memory: its fields (VtS), its cells (vtA), what is read of its lists (VRead), what a call owns of them (VOwn).
-/
import Derived.Test.YtdekegjplegkeaaGreatScrFns
import Derived.Test.YtdekegjplegkeaaGreatSegMem
namespace Go.Proofs.YtdekegjplegkeaaGreat
set_option maxRecDepth 20000
open Go.ChangeShapes Go.WideShapes Go.ChangeAt Go.RowKit
set_option linter.unusedVariables false
set_option linter.unusedSimpArgs false
set_option maxRecDepth 20000

structure VtS where
  l : Int
  lo : Int
  v : Int
  md : Int
  st : Int
  pv : Bool
  ns : List Int
  s : Scr
def vt0 : VtS := ⟨0, 0, 0, 0, 0, false, [], scr0⟩
/-- The cells of the terminal t, with these slices. -/
def vtA (t : VtS) (u v1 v2 v3 v4 : Value) : Array Value := #[.int .i64 t.l, .int .i64 t.lo, .int .i64 t.v, .int .i64 t.md, .int .i64 t.st, .bool t.pv, u, .int .i64 t.s.r, .int .i64 t.s.wd, v1, v2, .int .i64 t.s.y, .int .i64 t.s.x, .bool t.s.wrap, .int .i64 t.s.attr, .int .i64 t.s.top, .int .i64 t.s.bot, .bool t.s.org, .bool t.s.auto, .bool t.s.ins, v3, .int .i64 t.s.ky, .int .i64 t.s.kx, .int .i64 t.s.ka, v4, .int .i64 t.s.sh, .int .i64 t.s.bells]
def decA (t : VtS) : Array Value := #[.int .i64 t.l, .int .i64 t.lo, .int .i64 t.v]
def parA (t : VtS) (u : Value) : Array Value := #[.int .i64 t.md, .int .i64 t.st, .bool t.pv, u]
theorem vtA_dec (t : VtS) (u v1 v2 v3 v4 : Value) : ((vtA t u v1 v2 v3 v4).toList.drop 0).take (decA t).size = (decA t).toList := rfl
theorem vtA_par (t : VtS) (u v1 v2 v3 v4 : Value) : ((vtA t u v1 v2 v3 v4).toList.drop 3).take (parA t u).size = (parA t u).toList := rfl
theorem vtA_scr (t : VtS) (u v1 v2 v3 v4 : Value) : ((vtA t u v1 v2 v3 v4).toList.drop 7).take (scrA t.s v1 v2 v3 v4).size = (scrA t.s v1 v2 v3 v4).toList := rfl
theorem vtA_0 (t : VtS) (u v1 v2 v3 v4 : Value) : (vtA t u v1 v2 v3 v4)[0]? = some (.int .i64 t.l) := rfl
theorem vtA_1 (t : VtS) (u v1 v2 v3 v4 : Value) : (vtA t u v1 v2 v3 v4)[1]? = some (.int .i64 t.lo) := rfl
theorem vtA_2 (t : VtS) (u v1 v2 v3 v4 : Value) : (vtA t u v1 v2 v3 v4)[2]? = some (.int .i64 t.v) := rfl
theorem vtA_3 (t : VtS) (u v1 v2 v3 v4 : Value) : (vtA t u v1 v2 v3 v4)[3]? = some (.int .i64 t.md) := rfl
theorem vtA_4 (t : VtS) (u v1 v2 v3 v4 : Value) : (vtA t u v1 v2 v3 v4)[4]? = some (.int .i64 t.st) := rfl
theorem vtA_5 (t : VtS) (u v1 v2 v3 v4 : Value) : (vtA t u v1 v2 v3 v4)[5]? = some (.bool t.pv) := rfl
theorem vtA_6 (t : VtS) (u v1 v2 v3 v4 : Value) : (vtA t u v1 v2 v3 v4)[6]? = some (u) := rfl
theorem vtA_7 (t : VtS) (u v1 v2 v3 v4 : Value) : (vtA t u v1 v2 v3 v4)[7]? = some (.int .i64 t.s.r) := rfl
theorem vtA_8 (t : VtS) (u v1 v2 v3 v4 : Value) : (vtA t u v1 v2 v3 v4)[8]? = some (.int .i64 t.s.wd) := rfl
theorem vtA_9 (t : VtS) (u v1 v2 v3 v4 : Value) : (vtA t u v1 v2 v3 v4)[9]? = some (v1) := rfl
theorem vtA_10 (t : VtS) (u v1 v2 v3 v4 : Value) : (vtA t u v1 v2 v3 v4)[10]? = some (v2) := rfl
theorem vtA_11 (t : VtS) (u v1 v2 v3 v4 : Value) : (vtA t u v1 v2 v3 v4)[11]? = some (.int .i64 t.s.y) := rfl
theorem vtA_12 (t : VtS) (u v1 v2 v3 v4 : Value) : (vtA t u v1 v2 v3 v4)[12]? = some (.int .i64 t.s.x) := rfl
theorem vtA_13 (t : VtS) (u v1 v2 v3 v4 : Value) : (vtA t u v1 v2 v3 v4)[13]? = some (.bool t.s.wrap) := rfl
theorem vtA_14 (t : VtS) (u v1 v2 v3 v4 : Value) : (vtA t u v1 v2 v3 v4)[14]? = some (.int .i64 t.s.attr) := rfl
theorem vtA_15 (t : VtS) (u v1 v2 v3 v4 : Value) : (vtA t u v1 v2 v3 v4)[15]? = some (.int .i64 t.s.top) := rfl
theorem vtA_16 (t : VtS) (u v1 v2 v3 v4 : Value) : (vtA t u v1 v2 v3 v4)[16]? = some (.int .i64 t.s.bot) := rfl
theorem vtA_17 (t : VtS) (u v1 v2 v3 v4 : Value) : (vtA t u v1 v2 v3 v4)[17]? = some (.bool t.s.org) := rfl
theorem vtA_18 (t : VtS) (u v1 v2 v3 v4 : Value) : (vtA t u v1 v2 v3 v4)[18]? = some (.bool t.s.auto) := rfl
theorem vtA_19 (t : VtS) (u v1 v2 v3 v4 : Value) : (vtA t u v1 v2 v3 v4)[19]? = some (.bool t.s.ins) := rfl
theorem vtA_20 (t : VtS) (u v1 v2 v3 v4 : Value) : (vtA t u v1 v2 v3 v4)[20]? = some (v3) := rfl
theorem vtA_21 (t : VtS) (u v1 v2 v3 v4 : Value) : (vtA t u v1 v2 v3 v4)[21]? = some (.int .i64 t.s.ky) := rfl
theorem vtA_22 (t : VtS) (u v1 v2 v3 v4 : Value) : (vtA t u v1 v2 v3 v4)[22]? = some (.int .i64 t.s.kx) := rfl
theorem vtA_23 (t : VtS) (u v1 v2 v3 v4 : Value) : (vtA t u v1 v2 v3 v4)[23]? = some (.int .i64 t.s.ka) := rfl
theorem vtA_24 (t : VtS) (u v1 v2 v3 v4 : Value) : (vtA t u v1 v2 v3 v4)[24]? = some (v4) := rfl
theorem vtA_25 (t : VtS) (u v1 v2 v3 v4 : Value) : (vtA t u v1 v2 v3 v4)[25]? = some (.int .i64 t.s.sh) := rfl
theorem vtA_26 (t : VtS) (u v1 v2 v3 v4 : Value) : (vtA t u v1 v2 v3 v4)[26]? = some (.int .i64 t.s.bells) := rfl
/-- What is read of a terminal's lists. -/
structure VRead (w : World) (t : VtS) (u v1 v2 v3 v4 : Value) : Prop where
  p : ReadAt .i64 w u t.ns
  s : SRead w t.s v1 v2 v3 v4
theorem VRead.below {w w' : World} {t : VtS} {u v1 v2 v3 v4 : Value} (h : VRead w t u v1 v2 v3 v4) (hb : Below w.heap.size w w') : VRead w' t u v1 v2 v3 v4 := ⟨h.p.below hb, h.s.below hb⟩
/-- .. and what a call owns of them: apart, within the blocks lo to hi - 1. -/
structure VOwn (lo hi : Nat) (w : World) (u v1 v2 v3 v4 : Value) (t : VtS) : Prop where
  ex : ∃ l1 h1 l2 h2, lo ≤ l1 ∧ h1 ≤ hi ∧ lo ≤ l2 ∧ h2 ≤ hi ∧ (h1 ≤ l2 ∨ h2 ≤ l1) ∧ IntsAt .i64 l1 h1 w u t.ns ∧ SOwn l2 h2 w v1 v2 v3 v4 t.s
theorem VOwn.read {lo hi : Nat} {w : World} {u v1 v2 v3 v4 : Value} {t : VtS} (h : VOwn lo hi w u v1 v2 v3 v4 t) : VRead w t u v1 v2 v3 v4 := by
  obtain ⟨l1, h1, l2, h2, _, _, _, _, _, p, s⟩ := h.ex
  exact ⟨p.read, s.read⟩
theorem VOwn.mono {lo hi lo' hi' : Nat} {w : World} {u v1 v2 v3 v4 : Value} {t : VtS} (h : VOwn lo hi w u v1 v2 v3 v4 t) (g1 : lo' ≤ lo) (g2 : hi ≤ hi') : VOwn lo' hi' w u v1 v2 v3 v4 t := by
  obtain ⟨l1, h1, l2, h2, a1, a2, a3, a4, a5, p, s⟩ := h.ex
  exact ⟨l1, h1, l2, h2, by omega, by omega, by omega, by omega, a5, p, s⟩
theorem VOwn.of_blocks {lo hi : Nat} {w w' : World} {u v1 v2 v3 v4 : Value} {t : VtS} (h : VOwn lo hi w u v1 v2 v3 v4 t) (hb : ∀ i, lo ≤ i → i < hi → w'.heap[i]? = w.heap[i]?) : VOwn lo hi w' u v1 v2 v3 v4 t := by
  obtain ⟨l1, h1, l2, h2, a1, a2, a3, a4, a5, p, s⟩ := h.ex
  exact ⟨l1, h1, l2, h2, a1, a2, a3, a4, a5, p.of_blocks fun k k1 k2 => hb k (by omega) (by omega), s.of_blocks fun k k1 k2 => hb k (by omega) (by omega)⟩
theorem VOwn.below {lo hi B : Nat} {w w' : World} {u v1 v2 v3 v4 : Value} {t : VtS} (h : VOwn lo hi w u v1 v2 v3 v4 t) (hb : Below B w w') (hB : hi ≤ B) : VOwn lo hi w' u v1 v2 v3 v4 t := h.of_blocks fun i _ h2 => hb.block i (by omega)
theorem VOwn.within {lo hi lo' hi' : Nat} {w w' : World} {u v1 v2 v3 v4 : Value} {t : VtS} (h : VOwn lo hi w u v1 v2 v3 v4 t) (hb : Within lo' hi' w w') (hw : hi ≤ w.heap.size) (hB : hi ≤ lo' ∨ hi' ≤ lo) : VOwn lo hi w' u v1 v2 v3 v4 t := h.of_blocks fun i h1 h2 => hb.block i (by omega) (by omega)
theorem VRead.forms {w : World} {t : VtS} {u v1 v2 v3 v4 : Value} (h : VRead w t u v1 v2 v3 v4) : ∃ a0 c0 a1 c1 a2 c2 a3 c3 a4 c4, u = .slice a0 t.ns.length c0 ∧ v1 = .slice a1 t.s.cs.length c1 ∧ v2 = .slice a2 t.s.bs.length c2 ∧ v3 = .slice a3 t.s.tabs.length c3 ∧ v4 = .slice a4 t.s.sets.length c4 := by
  obtain ⟨a0, c0, e0, _⟩ := h.p
  obtain ⟨a1, c1, a2, c2, a3, c3, a4, c4, e1, e2, e3, e4⟩ := h.s.forms
  exact ⟨a0, c0, a1, c1, a2, c2, a3, c3, a4, c4, e0, e1, e2, e3, e4⟩
theorem vt_one {w : World} {t : VtS} {u v1 v2 v3 v4 : Value} (h : VRead w t u v1 v2 v3 v4) : (Value.agg (vtA t u v1 v2 v3 v4)).cells.toList.all (·.oneCell') = true := by
  obtain ⟨a0, c0, a1, c1, a2, c2, a3, c3, a4, c4, rfl, rfl, rfl, rfl, rfl⟩ := h.forms
  rfl
end Go.Proofs.YtdekegjplegkeaaGreat
