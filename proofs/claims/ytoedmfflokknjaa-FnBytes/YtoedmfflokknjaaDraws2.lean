/-
  What is drawn: l1Pick, l1Chance, l1Some, l1Chars, l1Source, walked.
-/
import Derived.Test.YtoedmfflokknjaaRows
import Derived.Test.YtoedmfflokknjaaDraws
import Derived.Test.YtoedmfflokknjaaGrow
import Derived.Test.YtoedmfflokknjaaStepImpl
import Derived.Test.YtoedmfflokknjaaEncAll
namespace Go.Proofs.Ytoedmfflokknjaa
open Go.ChangeShapes Go.WideShapes Go.ChangeAt Go.RowKit
set_option linter.unusedVariables false
set_option linter.unusedSimpArgs false

theorem Within.cellx {lo hi : Nat} {w w' : World} (h : Within lo hi w w') {b o : Nat} {u : Value} (hb : b < lo ∨ hi ≤ b) (hc : w.cell? ⟨b, o, none⟩ = some u) : w'.cell? ⟨b, o, none⟩ = some u := h.cell (lt_of_cell hc) hb hc

theorem new_ints {w : World} {k : IntKind} {C : Array Value} {t : TypeId} {xs : List Int} (hC : C.toList = xs.map (Value.int k)) : ∀ i, i < xs.length → (w.alloc (.cells C t)).cell? ⟨w.heap.size, i, none⟩ = some (.int k (xs.getD i 0)) := by
  intro i hi
  rw [World.cell?_alloc_mark, ← Array.getElem?_toList, hC]
  simp [hi]
theorem own_within {w w' : World} {base n size lo hi : Nat} {e : TypeId} {v : Value} {xs : List Value} (h : w.ownsRow base e size v n xs) (hw : Within lo hi w w') (hb : hi ≤ base) : w'.ownsRow base e size v n xs :=
  own_block h fun k hk => hw.block k (h.lt k hk).2 (.inr (by have := (h.lt k hk).1; omega))
theorem Within.grow {w W W' : World} {B : Nat} {o o' : Value} (h : Within B (B + 1) w W) (hg : GrowTo W W' o o') (ho : ∀ k, o.ownBlock = some k → w.heap.size ≤ k) : Within B (B + 1) w W' :=
  ⟨hg.grown.os.trans h.os, hg.grown.tape.trans h.tape, hg.grown.output.trans h.output, Nat.le_trans h.size hg.grown.size, fun k hk hne => (hg.block (Nat.lt_of_lt_of_le hk h.size) (fun e => by have := ho k e.symm; omega)).trans (h.block k hk hne)⟩
theorem Within.alloc {w W : World} {lo hi : Nat} (h : Within lo hi w W) (o : Obj) : Within lo hi w (W.alloc o) := h.trans (Within.of_below (B := W.heap.size) ((Below.refl _ _).alloc (Nat.le_refl _) o) (Nat.le_refl _))
theorem Src.grow {w0 w w' : World} {B : Nat} {code : Value} {p : Int} {o o' : Value} (h : Src w0 w B code p) (hg : GrowTo w w' o o') (hne : some B ≠ o.ownBlock) (ho : ∀ k, o.ownBlock = some k → w0.heap.size ≤ k) : Src w0 w' B code p :=
  h.keep (hg.block h.lt hne) ⟨hg.grown.os.trans h.old.os, hg.grown.tape.trans h.old.tape, hg.grown.output.trans h.old.output, Nat.le_trans h.old.size hg.grown.size, fun k hk => (hg.block (Nat.lt_of_lt_of_le hk h.old.size) (fun e => by have := ho k e.symm; omega)).trans (h.old.block k hk)⟩
theorem Src.alloc {w0 w : World} {B : Nat} {code : Value} {p : Int} (h : Src w0 w B code p) (o : Obj) : Src w0 (w.alloc o) B code p := h.below ((Below.refl _ _).alloc (Nat.le_refl _) o)

set_option maxHeartbeats 1000000 in
theorem l1Pick_calls (zs xs : List Int) (a : Option Addr) (cap B g m c : Nat) (p : Int) (w0 w : World) (hv : ReadAt .u8 w0 (.slice a zs.length cap) zs) (hz : ∀ z ∈ zs, 0 ≤ z ∧ z ≤ 255) (hlen : zs.length ≤ 1048576) (hs : Src w0 w B (.slice a zs.length cap) p) (hp0 : 0 ≤ p) (hp1 : p ≤ 1000000) (hm : m = xs.length) (hx0 : 1 ≤ m) (hx1 : m ≤ 100) (hg : g < B ∨ B + 1 ≤ g) (hx : ∀ i, i < xs.length → w.cell? ⟨g, i, none⟩ = some (.int .i64 (xs.getD i 0))) :
    Calls Try.prog 35 #[.pointer (some ⟨B, 0, none⟩), .slice (some ⟨g, 0, none⟩) m c] w fun e w' => ∃ x, e = .returned (.int .i64 x) ∧ x ∈ xs ∧ Src w0 w' B (.slice a zs.length cap) (p + 1) ∧ Within B (B + 1) w w' := by
  have HX := hide hx
  have HZ := hide hz
  have HM := hide hm
  clear hx hz hm
  go_enter Try.func35, Try.ntmps35
  go_wp2_with fail
  refine (l1Next_calls zs a cap B p (m : Int) w0 _ hv HZ.out hlen hs hp0 hp1 (by omega) (by omega)).mono ?_
  rintro e w1 ⟨r, rfl, hr0, hr1, hs1, hw1⟩
  obtain ⟨n, rfl⟩ := Int.eq_ofNat_of_zero_le hr0
  have hnm : n < m := by omega
  have hn : n < xs.length := by have := HM.out; omega
  have g0 := hw1.cellx hg (HX.out n hn)
  have hm := hide (getD_mem (zs := xs) hn)
  generalize xs.getD n 0 = x at *
  clear hs HX hn
  go_wp2
  go_ret
  exact ⟨x, rfl, hm.out, hs1, hw1⟩

set_option maxHeartbeats 1000000 in
theorem l1Source_calls (v : Value) (w : World) (n cap : Nat) (a : Option Addr) :
    Calls Try.prog 24 #[.slice a n cap] w fun e w' => e = .returned (.pointer (some ⟨w.heap.size, 0, none⟩)) ∧ w' = w.alloc (.cells #[.slice a n cap, .int .i64 0] 72) := by
  go_enter Try.func24, Try.ntmps24
  go_wp2
  go_ret
  exact ⟨rfl, rfl⟩

set_option maxHeartbeats 1000000 in
theorem l1Chance_calls (zs : List Int) (a : Option Addr) (cap B : Nat) (p n : Int) (w0 w : World) (hv : ReadAt .u8 w0 (.slice a zs.length cap) zs) (hz : ∀ z ∈ zs, 0 ≤ z ∧ z ≤ 255) (hlen : zs.length ≤ 1048576) (hs : Src w0 w B (.slice a zs.length cap) p) (hp0 : 0 ≤ p) (hp1 : p ≤ 1000000) (hn0 : 1 ≤ n) (hn1 : n ≤ 1000) :
    Calls Try.prog 26 #[.pointer (some ⟨B, 0, none⟩), .int .i64 n] w fun e w' => ∃ r : Bool, e = .returned (.bool r) ∧ Src w0 w' B (.slice a zs.length cap) (p + 1) ∧ Within B (B + 1) w w' := by
  go_enter Try.func26, Try.ntmps26
  go_wp2_with fail
  refine (l1Next_calls zs a cap B p n w0 _ hv hz hlen hs hp0 hp1 hn0 hn1).mono ?_
  rintro e w1 ⟨r, rfl, hr0, hr1, hs1, hw1⟩
  go_wp2
  go_ret
  exact ⟨_, rfl, hs1, hw1⟩

set_option maxHeartbeats 2000000 in
theorem l1Some_owns (zs : List Int) (a : Option Addr) (cap B : Nat) (p : Int) (n : Nat) (w0 w : World) (hv : ReadAt .u8 w0 (.slice a zs.length cap) zs) (hz : ∀ z ∈ zs, 0 ≤ z ∧ z ≤ 255) (hlen : zs.length ≤ 1048576) (hs : Src w0 w B (.slice a zs.length cap) p) (hp0 : 0 ≤ p) (hp1 : p ≤ 900000) (hn : n ≤ 1000) :
    Calls Try.prog 27 #[.pointer (some ⟨B, 0, none⟩), .int .i64 n] w fun e w' => ∃ v ys, e = .returned v ∧ ys.length = n ∧ (∀ y ∈ ys, 0 ≤ y ∧ y ≤ 255) ∧ w'.ownsRow w.heap.size 5 1 v n (byteVs ys) ∧ Src w0 w' B (.slice a zs.length cap) (p + 2 * n) ∧ Within B (B + 1) w w' := by
  have HZ := hide hz
  clear hz
  obtain ⟨i0, hi, hz0, hz1, hz2⟩ := info_parts info_u8
  have hBlt := hs.lt
  have HS := hide hs
  clear hs
  go_enter Try.func27, Try.ntmps27
  go_wp2
  go_loopw [1, 5] (fun t o wr => ∃ (k : Nat) (ys : List Int), k ≤ n ∧ t = .int .i64 k ∧ ys.length = n - k ∧ Hid (∀ y ∈ ys, 0 ≤ y ∧ y ≤ 255) ∧ wr.ownsRow w.heap.size 5 1 o (n - k) (byteVs ys) ∧ Src w0 wr B (.slice a zs.length cap) (p + 2 * (n - k)) ∧ Within B (B + 1) w wr) (fun t _ _ => (intOf t).toNat)
  case atStart =>
    refine ⟨n, [], Nat.le_refl _, rfl, by simp, fun y h => by simp at h, ?_, ?_, ?_⟩
    · have h := World.ownsRow_lit (base := w.heap.size) (e := 5) (size := 1) w #[] 0 (Nat.le_refl _) (by simp) rfl
      simpa [byteVs] using h
    · have h := HS.out.below (w' := w.alloc (.cells #[] 5)) (by repeat' (first | with_reducible exact Below.refl _ _ | with_reducible assumption | with_reducible refine Below.drew ?_ | with_reducible refine Below.alloc ?_ ?_ _ | with_reducible refine Below.setCell ?_ ?_ _ | (simp; done) | (simp; omega) | omega))
      simpa using h
    · exact Within.of_below (B := w.heap.size) (by repeat' (first | with_reducible exact Below.refl _ _ | with_reducible assumption | with_reducible refine Below.drew ?_ | with_reducible refine Below.alloc ?_ ?_ _ | with_reducible refine Below.setCell ?_ ?_ _ | (simp; done) | (simp; omega) | omega)) (Nat.le_refl _)
  case round =>
    obtain ⟨k, ys, hkn, rfl, hyl, hys, hown, hsr, hwr⟩ := hrel
    by_cases hk : 0 < k
    · obtain ⟨j, rfl⟩ : ∃ j, k = j + 1 := ⟨k - 1, by omega⟩
      have hkI : (0 : Int) < ((j + 1 : Nat) : Int) := by omega
      have hBw0 := HS.out.hB
      clear HS
      go_wp2_with fail
      refine (l1Next_calls zs a cap B _ 256 w0 _ hv HZ.out hlen hsr (by omega) (by omega) (by omega) (by omega)).mono ?_
      rintro e w1 ⟨r, rfl, hr0, hr1, hs1, hw1⟩
      have own1 := own_within hown hw1 (by omega)
      have x1 := hwr.trans hw1
      clear hsr hw1 hown hwr
      go_wp2_with fail
      refine (l1Pick_calls zs [97, 98, r, 27, 91, 10, 195, 164] a cap B w1.heap.size 8 8 _ w0 _ hv HZ.out hlen (hs1.alloc _) (by omega) (by omega) rfl (by omega) (by omega) (.inr hs1.lt) (new_ints rfl)).mono ?_
      rintro e w2 ⟨x, rfl, hx, hs2, hw2⟩
      have own2 := own_within (own1.alloc _) hw2 (by omega)
      have x2 := (x1.alloc _).trans hw2
      have hx256 : 0 ≤ x % 256 ∧ x % 256 ≤ 255 := by omega
      have hsz : w.heap.size ≤ w2.heap.size := x2.size
      clear hs1 own1 x1 hw2 hx
      go_wp2_with (at_builtin; refine wpList_append_grow _ rfl (.tmp 11) (.tmp 18) 22 rfl w.heap.size 5 i0 (.int .u8 0) 1 1 Try.underlying22 hi hz0 hz1 hz2 rfl (by decide) _ _ _ rfl (own2.alloc _) ⟨w2.heap.size, 0, none⟩ 1 1 (byteVs [x % 256]) rfl rfl (new_row_at rfl rfl) (ints_one_cell _ _) (by unfold maxLen; omega) (by omega) (by simp; omega) ?_)
      intro o' w4 hown4 hgrow
      have hs4 := (hs2.alloc _).grow hgrow (fun h => by have := (own2.lt _ h.symm).1; omega) (fun q hq => by have := (own2.lt q hq).1; omega)
      have x4 := (x2.alloc _).grow hgrow (fun q hq => (own2.lt q hq).1)
      clear hs2 own2 x2 hgrow
      go_wp2
      go_roundw
      case rel =>
        refine ⟨j, ys ++ [x % 256], by omega, by go_num, ?_, ?_, ?_, ?_, x4⟩
        · rw [List.length_append, hyl]; simp; omega
        · intro y hy
          rcases List.mem_append.1 hy with h | h
          · exact hys.out y h
          · simp at h; subst h; exact hx256
        · rw [byteVs_append, show n - j = n - (j + 1) + 1 from by omega]; exact hown4
        · rw [show p + 2 * ((n : Int) - (j : Int)) = p + 2 * ((n : Int) - ((j + 1 : Nat) : Int)) + 1 + 1 from by omega]; exact hs4
      case measure => simp [intOf]
    · have hk0 : k = 0 := by omega
      subst hk0
      go_wp2
      go_ret
      refine ⟨_, ys, rfl, by omega, hys.out, by simpa using hown, ?_, hwr⟩
      simpa using hsr

theorem l1Some_calls (zs : List Int) (a : Option Addr) (cap B : Nat) (p : Int) (n : Nat) (w0 w : World) (hv : ReadAt .u8 w0 (.slice a zs.length cap) zs) (hz : ∀ z ∈ zs, 0 ≤ z ∧ z ≤ 255) (hlen : zs.length ≤ 1048576) (hs : Src w0 w B (.slice a zs.length cap) p) (hp0 : 0 ≤ p) (hp1 : p ≤ 900000) (hn : n ≤ 1000) :
    Calls Try.prog 27 #[.pointer (some ⟨B, 0, none⟩), .int .i64 n] w fun e w' => ∃ v ys, e = .returned v ∧ ys.length = n ∧ (∀ y ∈ ys, 0 ≤ y ∧ y ≤ 255) ∧ IntsAt .u8 w.heap.size w'.heap.size w' v ys ∧ Src w0 w' B (.slice a zs.length cap) (p + 2 * n) ∧ Within B (B + 1) w w' :=
  (l1Some_owns zs a cap B p n w0 w hv hz hlen hs hp0 hp1 hn).mono fun e w' ⟨v, ys, he, hl, hb, ho, hs', hw⟩ => ⟨v, ys, he, hl, hb, own_ints ho (Nat.le_refl _), hs', hw⟩

end Go.Proofs.Ytoedmfflokknjaa
