/-
  What is drawn: l1Pick, l1Chance, l1Source, walked.
-/
import Derived.Test.YtcfechnkgefhcaaDoorRows
import Derived.Test.YtcfechnkgefhcaaDoorDraws
import Derived.Test.YtcfechnkgefhcaaDoorGrow
namespace Go.Proofs.YtcfechnkgefhcaaDoor
set_option maxRecDepth 20000
open Go.ChangeShapes Go.WideShapes Go.ChangeAt Go.RowKit
set_option linter.unusedVariables false
set_option linter.unusedSimpArgs false

theorem Within.cellx {lo hi : Nat} {w w' : World} (h : Within lo hi w w') {b o : Nat} {u : Value} (hb : b < lo ∨ hi ≤ b) (hc : w.cell? ⟨b, o, none⟩ = some u) : w'.cell? ⟨b, o, none⟩ = some u := h.cell (lt_of_cell hc) hb hc

theorem new_ints {w : World} {k : IntKind} {C : Array Value} {t : TypeId} {xs : List Int} (hC : C.toList = xs.map (Value.int k)) : ∀ i, i < xs.length → (w.alloc (.cells C t)).cell? ⟨w.heap.size, i, none⟩ = some (.int k (xs.getD i 0)) := by
  intro i hi
  rw [World.cell?_alloc_mark, ← Array.getElem?_toList, hC]
  simp [hi]
theorem own_within {w w' : World} {base n size lo hi : Nat} {e : TypeId} {v : Value} {xs : List Value} (h : w.ownsRow base e size v n xs) (hw : Within lo hi w w') (hb : hi ≤ base) : w'.ownsRow base e size v n xs :=
  own_block h fun k hk => hw.block k (h.lt k hk).2 (.inr (by have := (h.lt k hk).1; omega))
theorem Within.grow {w W W' : World} {B : Nat} {o o' : Value} (h : Within B (B + 1) w W) (hg : GrowTo W W' o o') (ho : ∀ k, o.ownBlock = some k → w.heap.size ≤ k) : Within B (B + 1) w W' :=
  ⟨hg.grown.os.trans h.os, hg.grown.tape.trans h.tape, hg.grown.output.trans h.output, Nat.le_trans h.size hg.grown.size, fun k hk hne => (hg.block (Nat.lt_of_lt_of_le hk h.size) (fun e => by have := ho k e.symm; omega)).trans (h.block k hk hne)⟩
theorem Within.alloc {w W : World} {lo hi : Nat} (h : Within lo hi w W) (o : Obj) : Within lo hi w (W.alloc o) := h.trans (Within.of_below (B := W.heap.size) ((Below.refl _ _).alloc (Nat.le_refl _) o) (Nat.le_refl _))
theorem Src.grow {w0 w w' : World} {B : Nat} {code : Value} {p : Int} {o o' : Value} (h : Src w0 w B code p) (hg : GrowTo w w' o o') (hne : some B ≠ o.ownBlock) (ho : ∀ k, o.ownBlock = some k → w0.heap.size ≤ k) : Src w0 w' B code p :=
  h.keep (hg.block h.lt hne) ⟨hg.grown.os.trans h.old.os, hg.grown.tape.trans h.old.tape, hg.grown.output.trans h.old.output, Nat.le_trans h.old.size hg.grown.size, fun k hk => (hg.block (Nat.lt_of_lt_of_le hk h.old.size) (fun e => by have := ho k e.symm; omega)).trans (h.old.block k hk)⟩
theorem Src.alloc {w0 w : World} {B : Nat} {code : Value} {p : Int} (h : Src w0 w B code p) (o : Obj) : Src w0 (w.alloc o) B code p := h.below ((Below.refl _ _).alloc (Nat.le_refl _) o)

set_option maxHeartbeats 1000000 in
theorem l1Pick_calls (zs xs : List Int) (a : Option Addr) (cap B g m c : Nat) (p : Int) (w0 w : World) (hv : ReadAt .u8 w0 (.slice a zs.length cap) zs) (hz : ∀ z ∈ zs, 0 ≤ z ∧ z ≤ 255) (hlen : zs.length ≤ 1048576) (hs : Src w0 w B (.slice a zs.length cap) p) (hp0 : 0 ≤ p) (hp1 : p ≤ 1000000) (hm : m = xs.length) (hx0 : 1 ≤ m) (hx1 : m ≤ 100) (hg : g < B ∨ B + 1 ≤ g) (hx : ∀ i, i < xs.length → w.cell? ⟨g, i, none⟩ = some (.int .i64 (xs.getD i 0))) :
    Calls Tryd.prog 40 #[.pointer (some ⟨B, 0, none⟩), .slice (some ⟨g, 0, none⟩) m c] w fun e w' => ∃ x, e = .returned (.int .i64 x) ∧ x ∈ xs ∧ Src w0 w' B (.slice a zs.length cap) (p + 1) ∧ Within B (B + 1) w w' := by
  have HX := hide hx
  have HZ := hide hz
  have HM := hide hm
  clear hx hz hm
  go_enter Tryd.func40, Tryd.ntmps40
  go_wp2_with fail
  refine (l1Next_calls zs a cap B p (m : Int) w0 _ hv HZ.out hlen hs hp0 hp1 (by omega) (by omega)).mono ?_
  rintro e w1 ⟨r, rfl, hr0, hr1, hs1, hw1⟩
  obtain ⟨n, rfl⟩ := Int.eq_ofNat_of_zero_le hr0
  have hnm : n < m := by omega
  have hn : n < xs.length := by have := HM.out; omega
  have g0 := hw1.cellx hg (HX.out n hn)
  have hm := hide (getD_mem (zs := xs) hn)
  generalize xs.getD n 0 = x at *
  clear hs HX hn
  go_wp2
  go_ret
  exact ⟨x, rfl, hm.out, hs1, hw1⟩

set_option maxHeartbeats 1000000 in
theorem l1Source_calls (v : Value) (w : World) (n cap : Nat) (a : Option Addr) :
    Calls Tryd.prog 38 #[.slice a n cap] w fun e w' => e = .returned (.pointer (some ⟨w.heap.size, 0, none⟩)) ∧ w' = w.alloc (.cells #[.slice a n cap, .int .i64 0] 101) := by
  go_enter Tryd.func38, Tryd.ntmps38
  go_wp2
  go_ret
  exact ⟨rfl, rfl⟩

set_option maxHeartbeats 1000000 in
theorem l1Chance_calls (zs : List Int) (a : Option Addr) (cap B : Nat) (p n : Int) (w0 w : World) (hv : ReadAt .u8 w0 (.slice a zs.length cap) zs) (hz : ∀ z ∈ zs, 0 ≤ z ∧ z ≤ 255) (hlen : zs.length ≤ 1048576) (hs : Src w0 w B (.slice a zs.length cap) p) (hp0 : 0 ≤ p) (hp1 : p ≤ 1000000) (hn0 : 1 ≤ n) (hn1 : n ≤ 1000) :
    Calls Tryd.prog 53 #[.pointer (some ⟨B, 0, none⟩), .int .i64 n] w fun e w' => ∃ r : Bool, e = .returned (.bool r) ∧ Src w0 w' B (.slice a zs.length cap) (p + 1) ∧ Within B (B + 1) w w' := by
  go_enter Tryd.func53, Tryd.ntmps53
  go_wp2_with fail
  refine (l1Next_calls zs a cap B p n w0 _ hv hz hlen hs hp0 hp1 hn0 hn1).mono ?_
  rintro e w1 ⟨r, rfl, hr0, hr1, hs1, hw1⟩
  go_wp2
  go_ret
  exact ⟨_, rfl, hs1, hw1⟩

end Go.Proofs.YtcfechnkgefhcaaDoor
