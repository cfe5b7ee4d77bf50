/-
  What is drawn from the bytes of a code: l1Next, l1Pick, walked: a draw answers some number in its bounds; the source alone turns.
-/
import Derived.Test.YtcfechnkgefhcaaDoorRows
import Derived.Test.YtcfechnkgefhcaaDoorMem
import Derived.WalkKit
import Derived.ProofKit
import Derived.OpenShut
import Derived.Below
import Derived.OwnWalk
import Derived.WalkSpells
import Derived.Deep.QuietTactic
import Derived.BigQuiet
namespace Go.Proofs.YtcfechnkgefhcaaDoor
set_option maxRecDepth 20000
open Go.ChangeShapes Go.WideShapes Go.ChangeAt Go.RowKit
set_option linter.unusedVariables false
set_option linter.unusedSimpArgs false

/-- A source lies at block B: the code's slice, and how far it was read. Nothing that was there in w0 has turned. -/
structure Src (w0 w : World) (B : Nat) (code : Value) (p : Int) : Prop where
  c0 : w.cell? ⟨B, 0, none⟩ = some code
  c1 : w.cell? ⟨B, 1, none⟩ = some (.int .i64 p)
  fz : ∀ o, w.frozen? ⟨B, o, none⟩ = false
  old : Below w0.heap.size w0 w
  hB : w0.heap.size ≤ B

theorem Src.lt {w0 w : World} {B : Nat} {code : Value} {p : Int} (h : Src w0 w B code p) : B < w.heap.size := lt_of_cell h.c0
theorem Src.below {w0 w w' : World} {B : Nat} {code : Value} {p : Int} (h : Src w0 w B code p) (hb : Below w.heap.size w w') : Src w0 w' B code p :=
  ⟨cellb hb h.c0, cellb hb h.c1, fun o => by rw [hb.frozen (p := ⟨B, o, none⟩) h.lt]; exact h.fz o, h.old.trans (hb.mono (by have := h.lt; have := h.hB; omega)), h.hB⟩
theorem Src.keep {w0 w w' : World} {B : Nat} {code : Value} {p : Int} (h : Src w0 w B code p) (hb : w'.heap[B]? = w.heap[B]?) (ho : Below w0.heap.size w0 w') : Src w0 w' B code p :=
  ⟨(World.cell?_of_block (w := w) (a := ⟨B, 0, none⟩) hb).trans h.c0, (World.cell?_of_block (w := w) (a := ⟨B, 1, none⟩) hb).trans h.c1, fun o => (World.frozen?_of_block (w := w) (a := ⟨B, o, none⟩) hb).trans (h.fz o), ho, h.hB⟩
theorem Src.stored {w0 w : World} {B : Nat} {code : Value} {p q : Int} (h : Src w0 w B code p) : Src w0 (w.setCell ⟨B, 1, none⟩ (.int .i64 q)) B code q :=
  ⟨by rw [World.cell?_setCell_other _ _ _ _ (addr_ne (by omega))]; exact h.c0, World.cell?_setCell_same _ _ _ h.c1, fun o => by rw [World.frozen?_setCell]; exact h.fz o, h.old.setCell h.hB _, h.hB⟩
theorem Src.drewN {w0 w : World} {B : Nat} {code : Value} {p : Int} (h : Src w0 w B code p) (n : Nat) : Src w0 (w.drewN n) B code p := ⟨h.c0, h.c1, h.fz, below_drewN h.old n, h.hB⟩

theorem getD_mem {zs : List Int} {i : Nat} (h : i < zs.length) : zs.getD i 0 ∈ zs := by simp [h]

set_option maxHeartbeats 1000000 in
theorem l1Next_calls (zs : List Int) (a : Option Addr) (cap B : Nat) (p n : Int) (w0 w : World) (hv : ReadAt .u8 w0 (.slice a zs.length cap) zs) (hz : ∀ z ∈ zs, 0 ≤ z ∧ z ≤ 255) (hlen : zs.length ≤ 1048576) (hs : Src w0 w B (.slice a zs.length cap) p) (hp0 : 0 ≤ p) (hp1 : p ≤ 1000000) (hn0 : 1 ≤ n) (hn1 : n ≤ 1000) :
    Calls Tryd.prog 41 #[.pointer (some ⟨B, 0, none⟩), .int .i64 n] w fun e w' => ∃ r, e = .returned (.int .i64 r) ∧ 0 ≤ r ∧ r < n ∧ Src w0 w' B (.slice a zs.length cap) (p + 1) ∧ Within B (B + 1) w w' := by
  have c0 := hs.c0
  have c1 := hs.c1
  have fz := hs.fz 1
  have hW : Within B (B + 1) w (w.setCell ⟨B, 1, none⟩ (.int .i64 (p + 1))) := (Within.refl B (B + 1) w).setCell (p := ⟨B, 1, none⟩) (Nat.le_refl B) (Nat.lt_succ_self B) _
  have hS := hs.stored (q := p + 1)
  by_cases hk : zs.length = 0
  · have hk0 : ((zs.length : Int) == 0) = true := by rw [beq_iff_eq]; omega
    go_enter Tryd.func41, Tryd.ntmps41
    go_wp2
    go_ret
    exact ⟨_, rfl, Int.emod_nonneg _ (by omega), Int.emod_lt_of_pos _ (by omega), hS, hW⟩
  · have hk0 : ((zs.length : Int) == 0) = false := beq_eq_false_iff_ne.2 (by omega)
    have hkp : (0 : Int) < (zs.length : Int) := by omega
    have i0 : 0 ≤ p % (zs.length : Int) := Int.emod_nonneg _ (by omega)
    have i1 : p % (zs.length : Int) < (zs.length : Int) := Int.emod_lt_of_pos _ hkp
    have j0 : 0 ≤ (p + 1) % (zs.length : Int) := Int.emod_nonneg _ (by omega)
    have j1 : (p + 1) % (zs.length : Int) < (zs.length : Int) := Int.emod_lt_of_pos _ hkp
    have q0 : 0 ≤ p / (zs.length : Int) := Int.ediv_nonneg hp0 (by omega)
    have q1 : p / (zs.length : Int) ≤ p := Int.ediv_le_self _ hp0
    obtain ⟨b1, o1, rfl, g0⟩ := hv.spot (p % (zs.length : Int)).toNat (by omega)
    obtain ⟨b2, o2, e2, g1⟩ := hv.spot ((p + 1) % (zs.length : Int)).toNat (by omega)
    injection e2 with e2
    injection e2 with e3 e4
    subst e3 e4
    have hlt1 := lt_of_cell g0
    have bz := hz (zs.getD (p % (zs.length : Int)).toNat 0) (getD_mem (by omega))
    have bz2 := hz (zs.getD ((p + 1) % (zs.length : Int)).toNat 0) (getD_mem (by omega))
    generalize zs.getD (p % (zs.length : Int)).toNat 0 = z1 at *
    generalize zs.getD ((p + 1) % (zs.length : Int)).toNat 0 = z2 at *
    obtain ⟨bz0, bz1⟩ := bz
    obtain ⟨by0, by1⟩ := bz2
    have hne : b1 ≠ B := by have := hs.hB; omega
    replace g0 := cellb hs.old g0
    replace g1 := cellb hs.old g1
    have g0' : (w.setCell ⟨B, 1, none⟩ (.int .i64 (p + 1))).cell? ⟨b1, o1 + (p % (zs.length : Int)).toNat, none⟩ = some (.int .u8 z1) := by rw [World.cell?_setCell_other _ _ _ _ (addr_ne (by omega))]; exact g0
    have g1' : (w.setCell ⟨B, 1, none⟩ (.int .i64 (p + 1))).cell? ⟨b1, o1 + ((p + 1) % (zs.length : Int)).toNat, none⟩ = some (.int .u8 z2) := by rw [World.cell?_setCell_other _ _ _ _ (addr_ne (by omega))]; exact g1
    clear hz hv
    have HS := hide hS
    have HW := hide hW
    clear hS hW
    by_cases hn : 200 < n
    · go_enter Tryd.func41, Tryd.ntmps41
      go_wp2_with fail
      have k0 := HS.out.c0
      have k1 := HS.out.c1
      clear c0 c1 fz g0 g1 hs
      generalize (w.setCell ⟨B, 1, none⟩ (.int .i64 (p + 1))) = W1 at *
      go_quiet (fail)
      go_wp2_with fail
      have HS2 := hide (HS.out.drewN nq)
      have HW2 := hide (HW.out.draws nq)
      have m0 : (W1.drewN nq).cell? ⟨B, 0, none⟩ = _ := k0
      have m1 : (W1.drewN nq).cell? ⟨b1, o1 + ((p + 1) % (zs.length : Int)).toNat, none⟩ = _ := g1'
      clear HS HW k0 k1 g0' g1'
      generalize W1.drewN nq = W2 at *
      clear nq
      go_quiet (fail)
      go_wp2
      go_ret
      refine ⟨_, rfl, ?_, ?_, HS2.out.drewN _, HW2.out.draws _⟩
      · exact Int.emod_nonneg _ (by omega)
      · exact Int.emod_lt_of_pos _ (by omega)
    · go_enter Tryd.func41, Tryd.ntmps41
      go_wp2_with fail
      have k0 := HS.out.c0
      have k1 := HS.out.c1
      clear c0 c1 fz g0 g1 hs
      generalize (w.setCell ⟨B, 1, none⟩ (.int .i64 (p + 1))) = W1 at *
      go_quiet (fail)
      go_wp2
      go_ret
      refine ⟨_, rfl, ?_, ?_, HS.out.drewN _, HW.out.draws _⟩
      · exact Int.emod_nonneg _ (by omega)
      · exact Int.emod_lt_of_pos _ (by omega)

end Go.Proofs.YtcfechnkgefhcaaDoor
