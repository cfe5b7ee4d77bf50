/-
  A screen in memory: its fields (Scr), its twenty cells (scrA), what is read of its lists (SRead), what a call owns of them (SOwn).
-/
import Derived.Test.YtknkbihjboadjaaDoorGridMem
import Derived.Test.YtknkbihjboadjaaDoorBoolMem
import Derived.Test.YtknkbihjboadjaaDoorBlk
namespace Go.Proofs.YtknkbihjboadjaaDoor
set_option maxRecDepth 20000
open Go.ChangeShapes Go.WideShapes Go.ChangeAt Go.RowKit
set_option linter.unusedVariables false
set_option linter.unusedSimpArgs false

structure Scr where
  r : Int
  wd : Int
  cs : List (Int × Int)
  bs : List (Int × Int)
  y : Int
  x : Int
  wrap : Bool
  attr : Int
  top : Int
  bot : Int
  org : Bool
  auto : Bool
  ins : Bool
  tabs : List Bool
  ky : Int
  kx : Int
  ka : Int
  sets : List Int
  sh : Int
  bells : Int

/-- The twenty cells of the screen s, with these slices. -/
def scrA (s : Scr) (v1 v2 v3 v4 : Value) : Array Value := #[.int .i64 s.r, .int .i64 s.wd, v1, v2, .int .i64 s.y, .int .i64 s.x, .bool s.wrap, .int .i64 s.attr, .int .i64 s.top, .int .i64 s.bot, .bool s.org, .bool s.auto, .bool s.ins, v3, .int .i64 s.ky, .int .i64 s.kx, .int .i64 s.ka, v4, .int .i64 s.sh, .int .i64 s.bells]
theorem scrA_size (s : Scr) (v1 v2 v3 v4 : Value) : (scrA s v1 v2 v3 v4).size = 20 := rfl
theorem scrA_0 (s : Scr) (v1 v2 v3 v4 : Value) : (scrA s v1 v2 v3 v4)[0]? = some (.int .i64 s.r) := rfl
theorem scrA_1 (s : Scr) (v1 v2 v3 v4 : Value) : (scrA s v1 v2 v3 v4)[1]? = some (.int .i64 s.wd) := rfl
theorem scrA_2 (s : Scr) (v1 v2 v3 v4 : Value) : (scrA s v1 v2 v3 v4)[2]? = some (v1) := rfl
theorem scrA_3 (s : Scr) (v1 v2 v3 v4 : Value) : (scrA s v1 v2 v3 v4)[3]? = some (v2) := rfl
theorem scrA_4 (s : Scr) (v1 v2 v3 v4 : Value) : (scrA s v1 v2 v3 v4)[4]? = some (.int .i64 s.y) := rfl
theorem scrA_5 (s : Scr) (v1 v2 v3 v4 : Value) : (scrA s v1 v2 v3 v4)[5]? = some (.int .i64 s.x) := rfl
theorem scrA_6 (s : Scr) (v1 v2 v3 v4 : Value) : (scrA s v1 v2 v3 v4)[6]? = some (.bool s.wrap) := rfl
theorem scrA_7 (s : Scr) (v1 v2 v3 v4 : Value) : (scrA s v1 v2 v3 v4)[7]? = some (.int .i64 s.attr) := rfl
theorem scrA_8 (s : Scr) (v1 v2 v3 v4 : Value) : (scrA s v1 v2 v3 v4)[8]? = some (.int .i64 s.top) := rfl
theorem scrA_9 (s : Scr) (v1 v2 v3 v4 : Value) : (scrA s v1 v2 v3 v4)[9]? = some (.int .i64 s.bot) := rfl
theorem scrA_10 (s : Scr) (v1 v2 v3 v4 : Value) : (scrA s v1 v2 v3 v4)[10]? = some (.bool s.org) := rfl
theorem scrA_11 (s : Scr) (v1 v2 v3 v4 : Value) : (scrA s v1 v2 v3 v4)[11]? = some (.bool s.auto) := rfl
theorem scrA_12 (s : Scr) (v1 v2 v3 v4 : Value) : (scrA s v1 v2 v3 v4)[12]? = some (.bool s.ins) := rfl
theorem scrA_13 (s : Scr) (v1 v2 v3 v4 : Value) : (scrA s v1 v2 v3 v4)[13]? = some (v3) := rfl
theorem scrA_14 (s : Scr) (v1 v2 v3 v4 : Value) : (scrA s v1 v2 v3 v4)[14]? = some (.int .i64 s.ky) := rfl
theorem scrA_15 (s : Scr) (v1 v2 v3 v4 : Value) : (scrA s v1 v2 v3 v4)[15]? = some (.int .i64 s.kx) := rfl
theorem scrA_16 (s : Scr) (v1 v2 v3 v4 : Value) : (scrA s v1 v2 v3 v4)[16]? = some (.int .i64 s.ka) := rfl
theorem scrA_17 (s : Scr) (v1 v2 v3 v4 : Value) : (scrA s v1 v2 v3 v4)[17]? = some (v4) := rfl
theorem scrA_18 (s : Scr) (v1 v2 v3 v4 : Value) : (scrA s v1 v2 v3 v4)[18]? = some (.int .i64 s.sh) := rfl
theorem scrA_19 (s : Scr) (v1 v2 v3 v4 : Value) : (scrA s v1 v2 v3 v4)[19]? = some (.int .i64 s.bells) := rfl
/-- What is read of a screen's lists. -/
structure SRead (w : World) (s : Scr) (v1 v2 v3 v4 : Value) : Prop where
  g1 : PRead w v1 s.cs
  g2 : PRead w v2 s.bs
  g3 : BRead w v3 s.tabs
  g4 : ReadAt .i64 w v4 s.sets
theorem SRead.below {w w' : World} {s : Scr} {v1 v2 v3 v4 : Value} (h : SRead w s v1 v2 v3 v4) (hb : Below w.heap.size w w') : SRead w' s v1 v2 v3 v4 := ⟨h.g1.below hb, h.g2.below hb, h.g3.below hb, h.g4.below hb⟩
theorem SRead.forms {w : World} {s : Scr} {v1 v2 v3 v4 : Value} (h : SRead w s v1 v2 v3 v4) : ∃ a1 c1 a2 c2 a3 c3 a4 c4, v1 = .slice a1 s.cs.length c1 ∧ v2 = .slice a2 s.bs.length c2 ∧ v3 = .slice a3 s.tabs.length c3 ∧ v4 = .slice a4 s.sets.length c4 := by
  obtain ⟨a1, c1, h1, _⟩ := h.g1
  obtain ⟨a2, c2, h2, _⟩ := h.g2
  obtain ⟨a3, c3, h3, _⟩ := h.g3
  obtain ⟨a4, c4, h4, _⟩ := h.g4
  exact ⟨a1, c1, a2, c2, a3, c3, a4, c4, h1, h2, h3, h4⟩
/-- .. and what a call owns of them: apart, within the blocks lo to hi - 1. -/
structure SOwn (lo hi : Nat) (w : World) (v1 v2 v3 v4 : Value) (s : Scr) : Prop where
  ex : ∃ l1 h1 l2 h2 l3 h3, lo ≤ l1 ∧ h1 ≤ hi ∧ lo ≤ l2 ∧ h2 ≤ hi ∧ lo ≤ l3 ∧ h3 ≤ hi ∧ (h1 ≤ l2 ∨ h2 ≤ l1) ∧ (h1 ≤ l3 ∨ h3 ≤ l1) ∧ (h2 ≤ l3 ∨ h3 ≤ l2) ∧
    GOwn l1 h1 w v1 v2 s.cs s.bs ∧ BoolsAt l2 h2 w v3 s.tabs ∧ IntsAt .i64 l3 h3 w v4 s.sets
theorem SOwn.read {lo hi : Nat} {w : World} {v1 v2 v3 v4 : Value} {s : Scr} (h : SOwn lo hi w v1 v2 v3 v4 s) : SRead w s v1 v2 v3 v4 := by
  obtain ⟨l1, h1, l2, h2, l3, h3, _, _, _, _, _, _, _, _, _, g, t, i⟩ := h.ex
  exact ⟨g.read1, g.read2, t.read, i.read⟩
theorem SOwn.mono {lo hi lo' hi' : Nat} {w : World} {v1 v2 v3 v4 : Value} {s : Scr} (h : SOwn lo hi w v1 v2 v3 v4 s) (g1 : lo' ≤ lo) (g2 : hi ≤ hi') : SOwn lo' hi' w v1 v2 v3 v4 s := by
  obtain ⟨l1, h1, l2, h2, l3, h3, a1, a2, a3, a4, a5, a6, a7, a8, a9, g, t, i⟩ := h.ex
  exact ⟨l1, h1, l2, h2, l3, h3, by omega, by omega, by omega, by omega, by omega, by omega, a7, a8, a9, g, t, i⟩
theorem SOwn.of_blocks {lo hi : Nat} {w w' : World} {v1 v2 v3 v4 : Value} {s : Scr} (h : SOwn lo hi w v1 v2 v3 v4 s) (hb : ∀ i, lo ≤ i → i < hi → w'.heap[i]? = w.heap[i]?) : SOwn lo hi w' v1 v2 v3 v4 s := by
  obtain ⟨l1, h1, l2, h2, l3, h3, a1, a2, a3, a4, a5, a6, a7, a8, a9, g, t, i⟩ := h.ex
  exact ⟨l1, h1, l2, h2, l3, h3, a1, a2, a3, a4, a5, a6, a7, a8, a9, g.of_blocks fun k k1 k2 => hb k (by omega) (by omega), t.of_blocks fun k k1 k2 => hb k (by omega) (by omega), i.of_blocks fun k k1 k2 => hb k (by omega) (by omega)⟩
theorem SOwn.below {lo hi B : Nat} {w w' : World} {v1 v2 v3 v4 : Value} {s : Scr} (h : SOwn lo hi w v1 v2 v3 v4 s) (hb : Below B w w') (hB : hi ≤ B) : SOwn lo hi w' v1 v2 v3 v4 s :=
  h.of_blocks fun i _ h2 => hb.block i (by omega)
theorem SOwn.within {lo hi lo' hi' : Nat} {w w' : World} {v1 v2 v3 v4 : Value} {s : Scr} (h : SOwn lo hi w v1 v2 v3 v4 s) (hb : Within lo' hi' w w') (hw : hi ≤ w.heap.size) (hB : hi ≤ lo' ∨ hi' ≤ lo) : SOwn lo hi w' v1 v2 v3 v4 s :=
  h.of_blocks fun i h1 h2 => hb.block i (by omega) (by omega)
theorem SOwn.forms {lo hi : Nat} {w : World} {v1 v2 v3 v4 : Value} {s : Scr} (h : SOwn lo hi w v1 v2 v3 v4 s) : ∃ a1 c1 a2 c2 a3 c3 a4 c4, v1 = .slice a1 s.cs.length c1 ∧ v2 = .slice a2 s.bs.length c2 ∧ v3 = .slice a3 s.tabs.length c3 ∧ v4 = .slice a4 s.sets.length c4 := h.read.forms

end Go.Proofs.YtknkbihjboadjaaDoor
