/-
  What many bytes do to a decoder: the plain functions; impl.DecodeMany, walked.
-/
import Derived.Test.YtoedmfflokknjaaRows
import Derived.Test.YtoedmfflokknjaaStepRes2
namespace Go.Proofs.Ytoedmfflokknjaa
open Go.ChangeShapes Go.WideShapes Go.ChangeAt Go.RowKit
set_option linter.unusedVariables false
set_option linter.unusedSimpArgs false

/-- One byte more: what was told, and the decoder. -/
def run1 (s : List Int × Int × Int × Int) (b : Int) : List Int × Int × Int × Int := (s.1 ++ stepT s.2.1 s.2.2.1 s.2.2.2 b, stepL s.2.1 s.2.2.1 s.2.2.2 b, stepLo s.2.1 s.2.2.1 s.2.2.2 b, stepV s.2.1 s.2.2.1 s.2.2.2 b)
/-- .. behind the first k bytes. -/
def runTo (l lo v : Int) (zs : List Int) (k : Nat) : List Int × Int × Int × Int := (zs.take k).foldl run1 ([], l, lo, v)
def rT (l lo v : Int) (zs : List Int) (k : Nat) : List Int := (runTo l lo v zs k).1
def rL (l lo v : Int) (zs : List Int) (k : Nat) : Int := (runTo l lo v zs k).2.1
def rLo (l lo v : Int) (zs : List Int) (k : Nat) : Int := (runTo l lo v zs k).2.2.1
def rV (l lo v : Int) (zs : List Int) (k : Nat) : Int := (runTo l lo v zs k).2.2.2

theorem take_snoc_z (zs : List Int) (k : Nat) (h : k < zs.length) : zs.take (k + 1) = zs.take k ++ [zs.getD k 0] := by
  rw [List.take_succ_eq_append_getElem h]
  simp [h]
theorem runTo_succ (l lo v : Int) (zs : List Int) (k : Nat) (h : k < zs.length) : runTo l lo v zs (k + 1) = run1 (runTo l lo v zs k) (zs.getD k 0) := by
  unfold runTo; rw [take_snoc_z zs k h, List.foldl_append]; rfl
theorem rT_succ (l lo v : Int) (zs : List Int) (k : Nat) (h : k < zs.length) : rT l lo v zs (k + 1) = rT l lo v zs k ++ stepT (rL l lo v zs k) (rLo l lo v zs k) (rV l lo v zs k) (zs.getD k 0) := by unfold rT; rw [runTo_succ l lo v zs k h]; rfl
theorem rL_succ (l lo v : Int) (zs : List Int) (k : Nat) (h : k < zs.length) : rL l lo v zs (k + 1) = stepL (rL l lo v zs k) (rLo l lo v zs k) (rV l lo v zs k) (zs.getD k 0) := by unfold rL; rw [runTo_succ l lo v zs k h]; rfl
theorem rLo_succ (l lo v : Int) (zs : List Int) (k : Nat) (h : k < zs.length) : rLo l lo v zs (k + 1) = stepLo (rL l lo v zs k) (rLo l lo v zs k) (rV l lo v zs k) (zs.getD k 0) := by unfold rLo; rw [runTo_succ l lo v zs k h]; rfl
theorem rV_succ (l lo v : Int) (zs : List Int) (k : Nat) (h : k < zs.length) : rV l lo v zs (k + 1) = stepV (rL l lo v zs k) (rLo l lo v zs k) (rV l lo v zs k) (zs.getD k 0) := by unfold rV; rw [runTo_succ l lo v zs k h]; rfl

theorem getD_bounds {zs : List Int} (hz : ∀ z ∈ zs, 0 ≤ z ∧ z ≤ 255) (k : Nat) (h : k < zs.length) : 0 ≤ zs.getD k 0 ∧ zs.getD k 0 ≤ 255 := hz _ (by simp [h])
theorem run_fault (l lo v : Int) (zs : List Int) (hd : dfault l lo v = 0) (hz : ∀ z ∈ zs, 0 ≤ z ∧ z ≤ 255) : ∀ k, k ≤ zs.length → dfault (rL l lo v zs k) (rLo l lo v zs k) (rV l lo v zs k) = 0 ∧ (rT l lo v zs k).length ≤ 2 * k := by
  intro k
  induction k with
  | zero => intro _; exact ⟨hd, by simp [rT, runTo]⟩
  | succ k ih =>
    intro hk
    have h := ih (by omega)
    have hb := getD_bounds hz k (by omega)
    rw [rT_succ _ _ _ _ _ (by omega), rL_succ _ _ _ _ _ (by omega), rLo_succ _ _ _ _ _ (by omega), rV_succ _ _ _ _ _ (by omega)]
    refine ⟨step_fault _ _ _ _ h.1 hb.1 hb.2, ?_⟩
    have := stepT_length (rL l lo v zs k) (rLo l lo v zs k) (rV l lo v zs k) (zs.getD k 0)
    simp only [List.length_append]
    omega

/-- What DecodeMany answers. -/
def dmCode (l lo v : Int) (zs : List Int) : Int := if dfault l lo v = 0 then (if 2000 < zs.length then 2 else 0) else 3
def dmT (l lo v : Int) (zs : List Int) : List Int := if dmCode l lo v zs = 0 then rT l lo v zs zs.length else []
def dmL (l lo v : Int) (zs : List Int) : Int := if dmCode l lo v zs = 0 then rL l lo v zs zs.length else 0
def dmLo (l lo v : Int) (zs : List Int) : Int := if dmCode l lo v zs = 0 then rLo l lo v zs zs.length else 0
def dmV (l lo v : Int) (zs : List Int) : Int := if dmCode l lo v zs = 0 then rV l lo v zs zs.length else 0
theorem dmT_length (l lo v : Int) (zs : List Int) (hz : ∀ z ∈ zs, 0 ≤ z ∧ z ≤ 255) : (dmT l lo v zs).length ≤ 4000 := by
  unfold dmT
  split
  · rename_i h
    have hd : dfault l lo v = 0 := by
      unfold dmCode at h
      split at h
      · assumption
      · cases h
    have hl : zs.length ≤ 2000 := by
      unfold dmCode at h
      rw [if_pos hd] at h
      split at h
      · cases h
      · omega
    have := (run_fault l lo v zs hd hz zs.length (Nat.le_refl _)).2
    omega
  · simp

/-- Three cells in a row, stored. -/
theorem set3 {w : World} {B o : Nat} {x y z u0 u1 u2 : Value} (k0 : w.cell? ⟨B, o, none⟩ = some u0) (k1 : w.cell? ⟨B, o + 1, none⟩ = some u1) (k2 : w.cell? ⟨B, o + 2, none⟩ = some u2) :
    (((w.setCell ⟨B, o, none⟩ x).setCell ⟨B, o + 1, none⟩ y).setCell ⟨B, o + 2, none⟩ z).cell? ⟨B, o, none⟩ = some x ∧ (((w.setCell ⟨B, o, none⟩ x).setCell ⟨B, o + 1, none⟩ y).setCell ⟨B, o + 2, none⟩ z).cell? ⟨B, o + 1, none⟩ = some y ∧ (((w.setCell ⟨B, o, none⟩ x).setCell ⟨B, o + 1, none⟩ y).setCell ⟨B, o + 2, none⟩ z).cell? ⟨B, o + 2, none⟩ = some z := by
  refine ⟨?_, ?_, ?_⟩
  · rw [World.cell?_setCell_other _ _ _ _ (addr_ne (by omega)), World.cell?_setCell_other _ _ _ _ (addr_ne (by omega))]
    exact World.cell?_setCell_same _ _ _ k0
  · rw [World.cell?_setCell_other _ _ _ _ (addr_ne (by omega))]
    refine World.cell?_setCell_same (u := u1) _ _ _ ?_
    rw [World.cell?_setCell_other _ _ _ _ (addr_ne (by omega))]
    exact k1
  · refine World.cell?_setCell_same (u := u2) _ _ _ ?_
    rw [World.cell?_setCell_other _ _ _ _ (addr_ne (by omega)), World.cell?_setCell_other _ _ _ _ (addr_ne (by omega))]
    exact k2

set_option maxHeartbeats 2000000 in
theorem implMany_ok (l lo v : Int) (zs : List Int) (y : Value) (w : World) (hf : dfault l lo v = 0) (hz : ∀ z ∈ zs, 0 ≤ z ∧ z ≤ 255) (hn : zs.length ≤ 2000) (hy : ReadAt .u8 w y zs) :
    Calls Try.prog 7 #[.agg #[.int .i64 l, .int .i64 lo, .int .i64 v], y] w fun e w' => ∃ x, e = .returned (.agg #[.int .i64 0, x, .int .i64 (rL l lo v zs zs.length), .int .i64 (rLo l lo v zs zs.length), .int .i64 (rV l lo v zs zs.length)]) ∧ IntsAt .i64 w.heap.size w'.heap.size w' x (rT l lo v zs zs.length) ∧ Below w.heap.size w w' := by
  obtain ⟨p0, p1, p2, p3, p4, p5⟩ := dfault_pos l lo v hf
  have HZ := hide hz
  clear hz
  have hy' := hy
  obtain ⟨ay, cy, rfl, hyr⟩ := hy'
  clear hyr
  have hle : ¬ ((2000 : Int) < (zs.length : Int)) := by omega
  go_enter Try.func7, Try.ntmps7
  go_wp2_with fail
  refine (implFault_calls l lo v _).mono ?_
  rintro e w1 ⟨rfl, hb1⟩
  rw [hf]
  have z1 : w.heap.size + 2 ≤ w1.heap.size := by have := hb1.size; simp at this; omega
  have q1 : Below w.heap.size w w1 := ((by repeat' (first | with_reducible exact Below.refl _ _ | with_reducible assumption | with_reducible refine Below.drew ?_ | with_reducible refine Below.alloc ?_ ?_ _ | with_reducible refine Below.setCell ?_ ?_ _ | (simp; done) | (simp; omega) | omega)) : Below w.heap.size w _).trans (hb1.mono (by simp; try omega))
  have d0 : w1.cell? ⟨w.heap.size, 0, none⟩ = some (.int .i64 l) := cellb hb1 (by simp)
  have d1 : w1.cell? ⟨w.heap.size, 1, none⟩ = some (.int .i64 lo) := cellb hb1 (by simp)
  have d2 : w1.cell? ⟨w.heap.size, 2, none⟩ = some (.int .i64 v) := cellb hb1 (by simp)
  have f0 : w1.cell? ⟨w.heap.size + 1, 0, none⟩ = some (.int .i64 0) := cellb hb1 (by simp)
  have f1 : w1.cell? ⟨w.heap.size + 1, 1, none⟩ = some (.slice none 0 0) := cellb hb1 (by simp)
  have f2 : w1.cell? ⟨w.heap.size + 1, 2, none⟩ = some (.int .i64 0) := cellb hb1 (by simp)
  have f3 : w1.cell? ⟨w.heap.size + 1, 3, none⟩ = some (.int .i64 0) := cellb hb1 (by simp)
  have f4 : w1.cell? ⟨w.heap.size + 1, 4, none⟩ = some (.int .i64 0) := cellb hb1 (by simp)
  have f5 : ∀ o, w1.frozen? ⟨w.heap.size + 1, o, none⟩ = false := fun o => by rw [hb1.frozen (p := ⟨w.heap.size + 1, o, none⟩) (by simp)]; simp
  clear hb1
  go_wp2_with fail
  refine (stateOf_calls l lo v _ p0 (by omega) p2 (by omega) p4 (by omega)).mono ?_
  rintro e w2 ⟨rfl, hb2⟩
  have z2 : w.heap.size + 2 ≤ w2.heap.size := by have := hb2.size; omega
  have q2 : Below w.heap.size w w2 := q1.trans (hb2.mono (by omega))
  replace f0 := cellb hb2 f0
  replace f1 := cellb hb2 f1
  replace f2 := cellb hb2 f2
  replace f3 := cellb hb2 f3
  replace f4 := cellb hb2 f4
  replace f5 : ∀ o, w2.frozen? ⟨w.heap.size + 1, o, none⟩ = false := fun o => by rw [hb2.frozen (p := ⟨w.heap.size + 1, o, none⟩) (by simp; omega)]; exact f5 o
  clear hb2 q1 z1 d0 d1 d2 p0 p1 p2 p3 p4 p5
  have HF := hide hf
  clear hf
  go_wp2_with fail
  go_loopw [7, 24] (fun t i wr => ∃ k : Nat, k ≤ zs.length ∧ i = .int .i64 k ∧ wr.ownsRow (w2.heap.size + 1) 2 1 t (rT l lo v zs k).length (intVs (rT l lo v zs k)) ∧ Below w2.heap.size w2 wr ∧ w2.heap.size < wr.heap.size ∧
      wr.cell? ⟨w2.heap.size, 0, none⟩ = some (.int .u32 (rL l lo v zs k)) ∧ wr.cell? ⟨w2.heap.size, 1, none⟩ = some (.int .u32 (rLo l lo v zs k)) ∧ wr.cell? ⟨w2.heap.size, 2, none⟩ = some (.int .u32 (rV l lo v zs k)) ∧ ∀ o, wr.frozen? ⟨w2.heap.size, o, none⟩ = false) (fun _ i _ => zs.length - (intOf i).toNat)
  case atStart => exact ⟨0, Nat.zero_le _, rfl, World.ownsRow_nil _ _ _ _, (Below.refl _ _).alloc (Nat.le_refl _) _, by simp, by simp [rL, runTo], by simp [rLo, runTo], by simp [rV, runTo], fun o => by simp⟩
  case round =>
    obtain ⟨k, hkk, rfl, hown, hb, hsz, c0, c1, c2, c3⟩ := hrel
    obtain ⟨hfk, hlk⟩ := run_fault l lo v zs HF.out HZ.out k hkk
    by_cases hlt : k < zs.length
    · have hltI : (k : Int) < (zs.length : Int) := by omega
      obtain ⟨b1, o1, rfl, g00⟩ := hy.spot k hlt
      have g0 := cellb hb (cellb q2 g00)
      obtain ⟨hb0, hb255⟩ := getD_bounds HZ.out k hlt
      have eT := hide (rT_succ l lo v zs k hlt)
      have eL := hide (rL_succ l lo v zs k hlt)
      have eLo := hide (rLo_succ l lo v zs k hlt)
      have eV := hide (rV_succ l lo v zs k hlt)
      clear g00 hy q2
      generalize zs.getD k 0 = z at *
      have HFK := hide hfk
      clear hfk
      go_wp2_with fail
      refine (hear_calls (rL l lo v zs k) (rLo l lo v zs k) (rV l lo v zs k) z (w2.heap.size + 1) _ _ _ _ HFK.out hb0 hb255 (by omega) hsz hown).mono ?_
      rintro e w4 ⟨t', rfl, hown', hgrow⟩
      have hne : some w2.heap.size ≠ Value.ownBlock _ := fun h => by have := (hown.lt _ h.symm).1; omega
      have k0 : w4.cell? ⟨w2.heap.size, 0, none⟩ = some (.int .u32 (rL l lo v zs k)) := (hgrow.cell hsz hne).trans c0
      have k1 : w4.cell? ⟨w2.heap.size, 1, none⟩ = some (.int .u32 (rLo l lo v zs k)) := (hgrow.cell hsz hne).trans c1
      have k2 : w4.cell? ⟨w2.heap.size, 2, none⟩ = some (.int .u32 (rV l lo v zs k)) := (hgrow.cell hsz hne).trans c2
      have k3 : ∀ o, w4.frozen? ⟨w2.heap.size, o, none⟩ = false := fun o => (hgrow.frozen hsz hne).trans (c3 o)
      have hb4 : Below w2.heap.size w2 w4 := hb.trans ((hgrow.below (base := w2.heap.size + 1) hsz hown.lt).mono (by omega))
      have hsz4 : w2.heap.size < w4.heap.size := Nat.lt_of_lt_of_le hsz hgrow.grown.size
      have hne' := hide (hgrow.apart (b := w2.heap.size) hsz hne)
      clear hgrow hne c0 c1 c2 c3 hown
      go_wp2
      go_roundw
      case rel =>
        refine ⟨k + 1, by omega, by go_num, ?_, ((hb4.setCell (Nat.le_refl _) _).setCell (Nat.le_refl _) _).setCell (Nat.le_refl _) _, by simpa [World.setCell] using hsz4, ?_, ?_, ?_, fun o => by simpa using k3 o⟩
        · rw [eT.out, List.length_append, intVs_append]
          exact own_setCell (own_setCell (own_setCell hown' hne'.out) hne'.out) hne'.out
        · rw [eL.out]; exact (set3 (o := 0) k0 k1 k2).1
        · rw [eLo.out]; exact (set3 (o := 0) k0 k1 k2).2.1
        · rw [eV.out]; exact (set3 (o := 0) k0 k1 k2).2.2
      case measure => simp [intOf]; omega
    · have hk' : k = zs.length := by omega
      obtain ⟨s0, s1, s2, s3, s4, s5⟩ := dfault_pos _ _ _ hfk
      have hge : ¬ ((k : Int) < (zs.length : Int)) := by omega
      have hx : IntsAt .i64 (w2.heap.size + 1) wr.heap.size wr _ (rT l lo v zs k) := own_ints hown (Nat.le_refl _)
      obtain ⟨a, cap, hv, hx'⟩ := hx
      have hx : IntsAt .i64 (w2.heap.size + 1) wr.heap.size wr (.slice a (rT l lo v zs k).length cap) (rT l lo v zs k) := ⟨a, cap, rfl, hx'⟩
      rw [hv]
      clear hx' hown hfk hlk hv
      replace f0 := cellb hb f0
      replace f1 := cellb hb f1
      replace f2 := cellb hb f2
      replace f3 := cellb hb f3
      replace f4 := cellb hb f4
      replace f5 : ∀ o, wr.frozen? ⟨w.heap.size + 1, o, none⟩ = false := fun o => by rw [hb.frozen (p := ⟨w.heap.size + 1, o, none⟩) (by simp; omega)]; exact f5 o
      have q3 : Below w.heap.size w wr := q2.trans (hb.mono (by omega))
      have HK := hide hk'
      clear hk' hy q2
      go_wp2_with fail
      refine (decoder_calls (rL l lo v zs k) (rLo l lo v zs k) (rV l lo v zs k) _ s0 (by omega) s2 (by omega) s4 (by omega)).mono ?_
      rintro e w5 ⟨rfl, r5⟩
      have z5 : wr.heap.size ≤ w5.heap.size := r5.size
      have q5 : Below w.heap.size w w5 := q3.trans (r5.mono (by omega))
      replace f0 := cellb r5 f0
      replace f1 := cellb r5 f1
      replace f2 := cellb r5 f2
      replace f3 := cellb r5 f3
      replace f4 := cellb r5 f4
      replace f5 : ∀ o, w5.frozen? ⟨w.heap.size + 1, o, none⟩ = false := fun o => by rw [r5.frozen (p := ⟨w.heap.size + 1, o, none⟩) (by simp; omega)]; exact f5 o
      replace hx := hx.below r5 (Nat.le_refl _)
      clear r5 q3 c0 c1 c2 c3 hb
      go_wp2
      have hk' := HK.out
      subst hk'
      refine bodyPost_ret (v := .agg #[.int .i64 0, .slice a (rT l lo v zs zs.length).length cap, .int .i64 (rL l lo v zs zs.length), .int .i64 (rLo l lo v zs zs.length), .int .i64 (rV l lo v zs zs.length)]) (by simp [results, Try.results7, go_sem, f0, f1, f2, f3, f4]) rfl ⟨_, rfl, ?_, (by repeat' (first | with_reducible exact Below.refl _ _ | with_reducible assumption | with_reducible refine Below.drew ?_ | with_reducible refine Below.alloc ?_ ?_ _ | with_reducible refine Below.setCell ?_ ?_ _ | (simp; done) | (simp; omega) | omega))⟩
      refine hx.of_blocks ?_ |>.mono (by omega) (by simp; omega)
      intro i hi hi2
      simp only [World.setCell, Array.getElem?_modify]
      repeat rw [if_neg (by omega)]

end Go.Proofs.Ytoedmfflokknjaa
