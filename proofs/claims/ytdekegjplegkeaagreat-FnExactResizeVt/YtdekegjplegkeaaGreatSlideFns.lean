/-
  impl.slide, walked: towards the last place (by less than all, by all or more), towards the first one (by none, by less than all, by all or more).
-/
import Derived.Test.YtdekegjplegkeaaGreatSheetFns
namespace Go.Proofs.YtdekegjplegkeaaGreat
set_option maxRecDepth 20000
open Go.ChangeShapes Go.WideShapes Go.ChangeAt Go.RowKit
set_option linter.unusedVariables false
set_option linter.unusedSimpArgs false
set_option maxRecDepth 20000

theorem cell_size2 : (Tryz.prog.info? 193).map (·.size) = some 2 := by kernel_rfl

/-- What a list holds that was slid by n places towards its first one. -/
def slideF (L : Nat) (n : Int) (f : Nat → Int × Int) (bl : Int × Int) (j : Nat) : Int × Int := if 0 ≤ (j : Int) + n ∧ (j : Int) + n < L then f ((j : Int) + n).toNat else bl

set_option maxHeartbeats 1000000 in
theorem slide_neg (b off L cap : Nat) (m : Nat) (f : Nat → Int × Int) (c g : Int) (w : World) (hc : L ≤ cap) (hr : Row w b off L f) (hb : b < w.heap.size) (hL : L ≤ 1048576) (hL0 : 0 < L) (hm : 0 < m) (hmL : m < L) :
    Calls Tryz.prog 229 #[.slice (some ⟨b, off, none⟩) L cap, .int .i64 (-(m : Int)), .agg #[.int .i64 c, .int .i64 g]] w fun e w' => (∃ u, e = .returned u) ∧ Row w' b off L (slideF L (-(m : Int)) f (c, g)) ∧ Touch b off (off + L * 2) w w' := by
  have hb1 : Below w.heap.size w (w.alloc (.cells #[.int .i64 c, .int .i64 g] 193)) := (Below.refl _ _).alloc (Nat.le_refl _) _
  have hR1 := hr.below hb1 hb
  have HT1 : Hid (Touch b off (off + L * 2) w (w.alloc (.cells #[.int .i64 c, .int .i64 g] 193))) := Touch.of_below hb1 (Nat.le_refl _) hb
  clear hr
  have x1 : ¬ (L : Int) < -(m : Int) := by omega
  have x2 : (m : Int) < (L : Int) := by omega
  have x3 : -(L : Int) < -(m : Int) := by omega
  have x4 : (0 : Int) < (m : Int) := by omega
  have x5 : m ≤ cap := by omega
  have x6 : (m : Int) ≤ (cap : Int) := by omega
  have x7 : IntKind.i64.wrap (m : Int) = (m : Int) := wrap_small (by omega) (by omega)
  have x8 : (0 : Int) ≤ (m : Int) := by omega
  obtain ⟨w2, hrun, hrow, ht⟩ := run_copy2 (P := Tryz.prog) (w.alloc (.cells #[.int .i64 c, .int .i64 g] 193)) 33 33 3 193 Tryz.underlying33 cell_size2
    (some ⟨b, off + m * 2, none⟩) (some ⟨b, off, none⟩) (L - m) (cap - m) L cap (L - m) (by show L - m = min L (L - m); omega) b (off + m * 2) (fun i => f (m + i)) (hR1.sub m (L - m) (by omega)) (fun _ => rfl) b off f (fun i hi => hR1.read i (by omega)) (fun _ => rfl)
  have hR2 := hR1.join (k := m) (m := L - m) (ht.mono (Nat.le_refl _) (by omega)) hrow (by omega)
  clear hrow
  have B0 : w2.cell? ⟨w.heap.size, 0, none⟩ = some (.int .i64 c) := ht.cellAt (by simp) (by omega)
  have B1 : w2.cell? ⟨w.heap.size, 1, none⟩ = some (.int .i64 g) := ht.cellAt (by simp) (by omega)
  have hs2 : w.heap.size + 1 ≤ w2.heap.size := by have := ht.size; simp at this; omega
  have H2 := hide hR2
  have HT := hide ht
  clear hR1 hR2 ht
  go_enter Tryz.func229, Tryz.ntmps229
  go_wp2_with fail
  go_region_held3 (fun w' => w'.cell? ⟨w.heap.size, 0, none⟩ = some (.int .i64 c) ∧ w'.cell? ⟨w.heap.size, 1, none⟩ = some (.int .i64 g))
    (first
      | exact ⟨B0, B1⟩
      | exact ⟨ht3.cellAt B0 (by omega), ht3.cellAt B1 (by omega)⟩)
    (first
      | (go_at_call 236; refine (fill_calls b off m cap _ _ c g w2.drew ⟨by omega, _, rfl, fun _ => rfl⟩ (fun i hi => H2.out i (by omega)) (by show b < w2.heap.size; omega) (by omega)).mono ?_; rintro e w3 ⟨⟨u3, rfl⟩, hr3, ht3⟩))
  have HR3 := hide hr3
  have HT3 := hide ht3
  clear hr3 ht3
  go_wp2
  refine bodyPost_ret (results_none rfl _ _ _) rfl ?_
  refine ⟨⟨_, rfl⟩, ?_, HT1.out.trans ((HT.out.mono (by omega) (by omega)).trans ((Touch.refl _ _ _ _).drew.trans (HT3.out.mono (by omega) (by omega))))⟩
  refine (Row.join (k := 0) (m := m) (w := w2.drew) (H2.out) (by simpa using HT3.out) (by simpa using HR3.out) (by omega)).congr (fun i hi => ?_)
  unfold slideF
  repeat' split
  all_goals first | rfl | omega | (congr 1; omega)

set_option maxHeartbeats 1000000 in
theorem slide_negallA (b off L : Nat) (n : Int) (f : Nat → Int × Int) (c g : Int) (w : World) (hc : L ≤ L) (hr : Row w b off L f) (hb : b < w.heap.size) (hL : L ≤ 1048576) (hL0 : 0 < L) (hn0 : n < 0) (hnL : n ≤ -(L : Int))  :
    Calls Tryz.prog 229 #[.slice (some ⟨b, off, none⟩) L L, .int .i64 n, .agg #[.int .i64 c, .int .i64 g]] w fun e w' => (∃ u, e = .returned u) ∧ Row w' b off L (slideF L n f (c, g)) ∧ Touch b off (off + L * 2) w w' := by
  have hb1 : Below w.heap.size w (w.alloc (.cells #[.int .i64 c, .int .i64 g] 193)) := (Below.refl _ _).alloc (Nat.le_refl _) _
  have hR1 := hr.below hb1 hb
  have HT1 : Hid (Touch b off (off + L * 2) w (w.alloc (.cells #[.int .i64 c, .int .i64 g] 193))) := Touch.of_below hb1 (Nat.le_refl _) hb
  clear hr
  have x1 : ¬ (L : Int) < n := by omega
  have x2 : ¬ -(L : Int) < n := by omega
  have x3 : (0 : Int) < (L : Int) := by omega
  have x5 : L ≤ L := by omega
  have x6 : (L : Int) ≤ (L : Int) := by omega
  have x7 : IntKind.i64.wrap (L : Int) = (L : Int) := wrap_small (by omega) (by omega)
  have x8 : (0 : Int) ≤ (L : Int) := by omega
  have x9 : -(L : Int) < 0 := by omega
  obtain ⟨w2, hrun, ht, hR2⟩ : ∃ w2, (∀ a k, (Builtin.copy_ #[33, 33] 3 #[.slice a 0 k, .slice (some ⟨b, off, none⟩) L L]).run Tryz.prog (w.alloc (.cells #[.int .i64 c, .int .i64 g] 193)) = .ok (goInt 0) w2) ∧ Touch b off (off + L * 2) (w.alloc (.cells #[.int .i64 c, .int .i64 g] 193)) w2 ∧ Row w2 b off L f := ⟨_, fun a k => run_copy2_none _ _ _ _ _ _ _ _ _ _ _ Tryz.underlying33 cell_size2 (by show min L 0 = 0; omega), Touch.refl _ _ _ _, hR1⟩
  have B0 : w2.cell? ⟨w.heap.size, 0, none⟩ = some (.int .i64 c) := ht.cellAt (by simp) (by omega)
  have B1 : w2.cell? ⟨w.heap.size, 1, none⟩ = some (.int .i64 g) := ht.cellAt (by simp) (by omega)
  have hs2 : w.heap.size + 1 ≤ w2.heap.size := by have := ht.size; simp at this; omega
  have H2 := hide hR2
  have HT := hide ht
  clear hR1 hR2 ht
  go_enter Tryz.func229, Tryz.ntmps229
  go_wp2_with fail
  go_region_held3 (fun w' => w'.cell? ⟨w.heap.size, 0, none⟩ = some (.int .i64 c) ∧ w'.cell? ⟨w.heap.size, 1, none⟩ = some (.int .i64 g))
    (first
      | exact ⟨B0, B1⟩
      | exact ⟨ht3.cellAt B0 (by omega), ht3.cellAt B1 (by omega)⟩)
    (first
      | (go_at_call 236; refine (fill_calls b off L L _ _ c g w2.drew ⟨by omega, _, rfl, fun _ => rfl⟩ H2.out (by show b < w2.heap.size; omega) (by omega)).mono ?_; rintro e w3 ⟨⟨u3, rfl⟩, hr3, ht3⟩))
  have HR3 := hide hr3
  have HT3 := hide ht3
  clear hr3 ht3
  go_wp2
  refine bodyPost_ret (results_none rfl _ _ _) rfl ?_
  refine ⟨⟨_, rfl⟩, ?_, HT1.out.trans ((HT.out.mono (by omega) (by omega)).trans ((Touch.refl _ _ _ _).drew.trans (HT3.out.mono (by omega) (by omega))))⟩
  refine HR3.out.congr (fun i hi => ?_)
  unfold slideF
  repeat' split
  all_goals first | rfl | omega | (congr 1; omega)

set_option maxHeartbeats 1000000 in
theorem slide_negallB (b off L cap : Nat) (n : Int) (f : Nat → Int × Int) (c g : Int) (w : World) (hc : L ≤ cap) (hr : Row w b off L f) (hb : b < w.heap.size) (hL : L ≤ 1048576) (hL0 : 0 < L) (hn0 : n < 0) (hnL : n ≤ -(L : Int)) (hcap : ¬ cap = L) :
    Calls Tryz.prog 229 #[.slice (some ⟨b, off, none⟩) L cap, .int .i64 n, .agg #[.int .i64 c, .int .i64 g]] w fun e w' => (∃ u, e = .returned u) ∧ Row w' b off L (slideF L n f (c, g)) ∧ Touch b off (off + L * 2) w w' := by
  have hb1 : Below w.heap.size w (w.alloc (.cells #[.int .i64 c, .int .i64 g] 193)) := (Below.refl _ _).alloc (Nat.le_refl _) _
  have hR1 := hr.below hb1 hb
  have HT1 : Hid (Touch b off (off + L * 2) w (w.alloc (.cells #[.int .i64 c, .int .i64 g] 193))) := Touch.of_below hb1 (Nat.le_refl _) hb
  clear hr
  have hcap' : ¬ L = cap := fun h => hcap h.symm
  have x1 : ¬ (L : Int) < n := by omega
  have x2 : ¬ -(L : Int) < n := by omega
  have x3 : (0 : Int) < (L : Int) := by omega
  have x5 : L ≤ cap := by omega
  have x6 : (L : Int) ≤ (cap : Int) := by omega
  have x7 : IntKind.i64.wrap (L : Int) = (L : Int) := wrap_small (by omega) (by omega)
  have x8 : (0 : Int) ≤ (L : Int) := by omega
  have x9 : -(L : Int) < 0 := by omega
  obtain ⟨w2, hrun, ht, hR2⟩ : ∃ w2, (∀ a k, (Builtin.copy_ #[33, 33] 3 #[.slice a 0 k, .slice (some ⟨b, off, none⟩) L cap]).run Tryz.prog (w.alloc (.cells #[.int .i64 c, .int .i64 g] 193)) = .ok (goInt 0) w2) ∧ Touch b off (off + L * 2) (w.alloc (.cells #[.int .i64 c, .int .i64 g] 193)) w2 ∧ Row w2 b off L f := ⟨_, fun a k => run_copy2_none _ _ _ _ _ _ _ _ _ _ _ Tryz.underlying33 cell_size2 (by show min L 0 = 0; omega), Touch.refl _ _ _ _, hR1⟩
  have B0 : w2.cell? ⟨w.heap.size, 0, none⟩ = some (.int .i64 c) := ht.cellAt (by simp) (by omega)
  have B1 : w2.cell? ⟨w.heap.size, 1, none⟩ = some (.int .i64 g) := ht.cellAt (by simp) (by omega)
  have hs2 : w.heap.size + 1 ≤ w2.heap.size := by have := ht.size; simp at this; omega
  have H2 := hide hR2
  have HT := hide ht
  clear hR1 hR2 ht
  go_enter Tryz.func229, Tryz.ntmps229
  go_wp2_with fail
  go_region_held3 (fun w' => w'.cell? ⟨w.heap.size, 0, none⟩ = some (.int .i64 c) ∧ w'.cell? ⟨w.heap.size, 1, none⟩ = some (.int .i64 g))
    (first
      | exact ⟨B0, B1⟩
      | exact ⟨ht3.cellAt B0 (by omega), ht3.cellAt B1 (by omega)⟩)
    (first
      | (go_at_call 236; refine (fill_calls b off L cap _ _ c g w2.drew ⟨by omega, _, rfl, fun _ => rfl⟩ H2.out (by show b < w2.heap.size; omega) (by omega)).mono ?_; rintro e w3 ⟨⟨u3, rfl⟩, hr3, ht3⟩))
  have HR3 := hide hr3
  have HT3 := hide ht3
  clear hr3 ht3
  go_wp2
  refine bodyPost_ret (results_none rfl _ _ _) rfl ?_
  refine ⟨⟨_, rfl⟩, ?_, HT1.out.trans ((HT.out.mono (by omega) (by omega)).trans ((Touch.refl _ _ _ _).drew.trans (HT3.out.mono (by omega) (by omega))))⟩
  refine HR3.out.congr (fun i hi => ?_)
  unfold slideF
  repeat' split
  all_goals first | rfl | omega | (congr 1; omega)

set_option maxHeartbeats 1000000 in
theorem slide_posallA (b off L : Nat) (n : Int) (f : Nat → Int × Int) (c g : Int) (w : World) (hc : L ≤ L) (hr : Row w b off L f) (hb : b < w.heap.size) (hL : L ≤ 1048576) (hL0 : 0 < L) (hnL : (L : Int) ≤ n)  :
    Calls Tryz.prog 229 #[.slice (some ⟨b, off, none⟩) L L, .int .i64 n, .agg #[.int .i64 c, .int .i64 g]] w fun e w' => (∃ u, e = .returned u) ∧ Row w' b off L (slideF L n f (c, g)) ∧ Touch b off (off + L * 2) w w' := by
  have hb1 : Below w.heap.size w (w.alloc (.cells #[.int .i64 c, .int .i64 g] 193)) := (Below.refl _ _).alloc (Nat.le_refl _) _
  have hR1 := hr.below hb1 hb
  have HT1 : Hid (Touch b off (off + L * 2) w (w.alloc (.cells #[.int .i64 c, .int .i64 g] 193))) := Touch.of_below hb1 (Nat.le_refl _) hb
  clear hr
  have x1 : ¬ (n : Int) ≤ 0 := by omega
  have x2 : -(L : Int) < (L : Int) := by omega
  have x3 : (0 : Int) < (L : Int) := by omega
  have x5 : L ≤ L := by omega
  have x6 : (L : Int) ≤ (L : Int) := by omega
  have x7 : IntKind.i64.wrap (0 : Int) = (0 : Int) := wrap_small (by omega) (by omega)
  have x8 : (0 : Int) ≤ (L : Int) := by omega
  have x9 : ¬ (L : Int) < 0 := by omega
  have x10 : (if (L : Int) < n then (L : Int) else n) = (L : Int) := by split <;> omega
  have x11 : -(L : Int) < n := by omega
  have x12 : ¬ L = 0 := by omega
  obtain ⟨w2, hrun, ht, hR2⟩ : ∃ w2, (∀ a k, (Builtin.copy_ #[33, 33] 3 #[.slice (some ⟨b, off, none⟩) L L, .slice a 0 k]).run Tryz.prog (w.alloc (.cells #[.int .i64 c, .int .i64 g] 193)) = .ok (goInt 0) w2) ∧ Touch b off (off + L * 2) (w.alloc (.cells #[.int .i64 c, .int .i64 g] 193)) w2 ∧ Row w2 b off L f := ⟨_, fun a k => run_copy2_none _ _ _ _ _ _ _ _ _ _ _ Tryz.underlying33 cell_size2 (by show min 0 L = 0; omega), Touch.refl _ _ _ _, hR1⟩
  have B0 : w2.cell? ⟨w.heap.size, 0, none⟩ = some (.int .i64 c) := ht.cellAt (by simp) (by omega)
  have B1 : w2.cell? ⟨w.heap.size, 1, none⟩ = some (.int .i64 g) := ht.cellAt (by simp) (by omega)
  have hs2 : w.heap.size + 1 ≤ w2.heap.size := by have := ht.size; simp at this; omega
  have H2 := hide hR2
  have HT := hide ht
  clear hR1 hR2 ht
  go_enter Tryz.func229, Tryz.ntmps229
  go_wp2_with fail
  go_region_held3 (fun w' => w'.cell? ⟨w.heap.size, 0, none⟩ = some (.int .i64 c) ∧ w'.cell? ⟨w.heap.size, 1, none⟩ = some (.int .i64 g))
    (first
      | exact ⟨B0, B1⟩
      | exact ⟨ht3.cellAt B0 (by omega), ht3.cellAt B1 (by omega)⟩)
    (first
      | (go_at_call 236; refine (fill_calls b off L L _ _ c g w2.drew ⟨by omega, _, rfl, fun _ => rfl⟩ H2.out (by show b < w2.heap.size; omega) (by omega)).mono ?_; rintro e w3 ⟨⟨u3, rfl⟩, hr3, ht3⟩))
  have HR3 := hide hr3
  have HT3 := hide ht3
  clear hr3 ht3
  go_wp2
  go_end0
  refine ⟨⟨_, rfl⟩, ?_, HT1.out.trans ((HT.out.mono (by omega) (by omega)).trans ((Touch.refl _ _ _ _).drew.trans (HT3.out.mono (by omega) (by omega))))⟩
  refine HR3.out.congr (fun i hi => ?_)
  unfold slideF
  repeat' split
  all_goals first | rfl | omega | (congr 1; omega)

set_option maxHeartbeats 1000000 in
theorem slide_posallB (b off L cap : Nat) (n : Int) (f : Nat → Int × Int) (c g : Int) (w : World) (hc : L ≤ cap) (hr : Row w b off L f) (hb : b < w.heap.size) (hL : L ≤ 1048576) (hL0 : 0 < L) (hnL : (L : Int) ≤ n) (hcap : ¬ cap = L) :
    Calls Tryz.prog 229 #[.slice (some ⟨b, off, none⟩) L cap, .int .i64 n, .agg #[.int .i64 c, .int .i64 g]] w fun e w' => (∃ u, e = .returned u) ∧ Row w' b off L (slideF L n f (c, g)) ∧ Touch b off (off + L * 2) w w' := by
  have hb1 : Below w.heap.size w (w.alloc (.cells #[.int .i64 c, .int .i64 g] 193)) := (Below.refl _ _).alloc (Nat.le_refl _) _
  have hR1 := hr.below hb1 hb
  have HT1 : Hid (Touch b off (off + L * 2) w (w.alloc (.cells #[.int .i64 c, .int .i64 g] 193))) := Touch.of_below hb1 (Nat.le_refl _) hb
  clear hr
  have hcap' : ¬ L = cap := fun h => hcap h.symm
  have x1 : ¬ (n : Int) ≤ 0 := by omega
  have x2 : -(L : Int) < (L : Int) := by omega
  have x3 : (0 : Int) < (L : Int) := by omega
  have x5 : L ≤ cap := by omega
  have x6 : (L : Int) ≤ (cap : Int) := by omega
  have x7 : IntKind.i64.wrap (0 : Int) = (0 : Int) := wrap_small (by omega) (by omega)
  have x8 : (0 : Int) ≤ (L : Int) := by omega
  have x9 : ¬ (L : Int) < 0 := by omega
  have x10 : (if (L : Int) < n then (L : Int) else n) = (L : Int) := by split <;> omega
  have x11 : -(L : Int) < n := by omega
  have x12 : ¬ cap = 0 := by omega
  obtain ⟨w2, hrun, ht, hR2⟩ : ∃ w2, (∀ a k, (Builtin.copy_ #[33, 33] 3 #[.slice (some ⟨b, off, none⟩) L cap, .slice a 0 k]).run Tryz.prog (w.alloc (.cells #[.int .i64 c, .int .i64 g] 193)) = .ok (goInt 0) w2) ∧ Touch b off (off + L * 2) (w.alloc (.cells #[.int .i64 c, .int .i64 g] 193)) w2 ∧ Row w2 b off L f := ⟨_, fun a k => run_copy2_none _ _ _ _ _ _ _ _ _ _ _ Tryz.underlying33 cell_size2 (by show min 0 L = 0; omega), Touch.refl _ _ _ _, hR1⟩
  have B0 : w2.cell? ⟨w.heap.size, 0, none⟩ = some (.int .i64 c) := ht.cellAt (by simp) (by omega)
  have B1 : w2.cell? ⟨w.heap.size, 1, none⟩ = some (.int .i64 g) := ht.cellAt (by simp) (by omega)
  have hs2 : w.heap.size + 1 ≤ w2.heap.size := by have := ht.size; simp at this; omega
  have H2 := hide hR2
  have HT := hide ht
  clear hR1 hR2 ht
  go_enter Tryz.func229, Tryz.ntmps229
  go_wp2_with fail
  go_region_held3 (fun w' => w'.cell? ⟨w.heap.size, 0, none⟩ = some (.int .i64 c) ∧ w'.cell? ⟨w.heap.size, 1, none⟩ = some (.int .i64 g))
    (first
      | exact ⟨B0, B1⟩
      | exact ⟨ht3.cellAt B0 (by omega), ht3.cellAt B1 (by omega)⟩)
    (first
      | (go_at_call 236; refine (fill_calls b off L cap _ _ c g w2.drew ⟨by omega, _, rfl, fun _ => rfl⟩ H2.out (by show b < w2.heap.size; omega) (by omega)).mono ?_; rintro e w3 ⟨⟨u3, rfl⟩, hr3, ht3⟩))
  have HR3 := hide hr3
  have HT3 := hide ht3
  clear hr3 ht3
  go_wp2
  go_end0
  refine ⟨⟨_, rfl⟩, ?_, HT1.out.trans ((HT.out.mono (by omega) (by omega)).trans ((Touch.refl _ _ _ _).drew.trans (HT3.out.mono (by omega) (by omega))))⟩
  refine HR3.out.congr (fun i hi => ?_)
  unfold slideF
  repeat' split
  all_goals first | rfl | omega | (congr 1; omega)

set_option maxHeartbeats 1000000 in
theorem slide_pos (b off L cap : Nat) (m k : Nat) (f : Nat → Int × Int) (c g : Int) (w : World) (hc : L ≤ cap) (hr : Row w b off L f) (hb : b < w.heap.size) (hL : L ≤ 1048576) (hL0 : 0 < L) (hm : 0 < m) (hmL : m < L) (hkm : k + m = L) :
    Calls Tryz.prog 229 #[.slice (some ⟨b, off, none⟩) L cap, .int .i64 (m : Int), .agg #[.int .i64 c, .int .i64 g]] w fun e w' => (∃ u, e = .returned u) ∧ Row w' b off L (slideF L (m : Int) f (c, g)) ∧ Touch b off (off + L * 2) w w' := by
  have hb1 : Below w.heap.size w (w.alloc (.cells #[.int .i64 c, .int .i64 g] 193)) := (Below.refl _ _).alloc (Nat.le_refl _) _
  have hR1 := hr.below hb1 hb
  have HT1 : Hid (Touch b off (off + L * 2) w (w.alloc (.cells #[.int .i64 c, .int .i64 g] 193))) := Touch.of_below hb1 (Nat.le_refl _) hb
  clear hr
  have x1 : ¬ (L : Int) < (m : Int) := by omega
  have x2 : (m : Int) < (L : Int) := by omega
  have x3 : -(L : Int) < (m : Int) := by omega
  have x4 : ¬ (m : Int) < 0 := by omega
  have x5 : m ≤ L := by omega
  have x6 : (m : Int) ≤ (L : Int) := by omega
  have y1 : (L : Int) - (m : Int) = (k : Int) := by omega
  have x7 : IntKind.i64.wrap (k : Int) = (k : Int) := wrap_small (by omega) (by omega)
  have x8 : (0 : Int) ≤ (k : Int) := by omega
  have x9 : (k : Int) ≤ (L : Int) := by omega
  have x10 : k ≤ L := by omega
  have x11 : ¬ cap = k := by omega
  have x12 : ¬ k = cap := by omega
  have x13 : ¬ cap = m := by omega
  have x14 : ¬ m = cap := by omega
  have x15 : (L : Int) ≤ (cap : Int) := by omega
  obtain ⟨w2, hrun, hrow, ht⟩ := run_copy2 (P := Tryz.prog) (w.alloc (.cells #[.int .i64 c, .int .i64 g] 193)) 33 33 3 193 Tryz.underlying33 cell_size2
    (some ⟨b, off, none⟩) (some ⟨b, off + m * 2, none⟩) L cap (L - m) (cap - m) (L - m) (by show L - m = min (L - m) L; omega) b off f hR1 (fun _ => rfl) b (off + m * 2) (fun i => f (m + i)) (hR1.sub m (L - m) (by omega)).read (fun _ => rfl)
  have hR2 := hrow
  clear hrow
  have HK := hide hkm
  clear hkm
  have B0 : w2.cell? ⟨w.heap.size, 0, none⟩ = some (.int .i64 c) := ht.cellAt (by simp) (by omega)
  have B1 : w2.cell? ⟨w.heap.size, 1, none⟩ = some (.int .i64 g) := ht.cellAt (by simp) (by omega)
  have hs2 : w.heap.size + 1 ≤ w2.heap.size := by have := ht.size; simp at this; omega
  have H2 := hide hR2
  have HT := hide ht
  clear hR1 hR2 ht
  go_enter Tryz.func229, Tryz.ntmps229
  go_wp2_with fail
  go_region_held3 (fun w' => w'.cell? ⟨w.heap.size, 0, none⟩ = some (.int .i64 c) ∧ w'.cell? ⟨w.heap.size, 1, none⟩ = some (.int .i64 g))
    (first
      | exact ⟨B0, B1⟩
      | exact ⟨ht3.cellAt B0 (by omega), ht3.cellAt B1 (by omega)⟩)
    (first
      | (go_at_call 236; refine (fill_calls b (off + k * 2) (L - k) (cap - k) _ _ c g w2.drew ⟨by omega, _, rfl, fun _ => rfl⟩ (Row.sub (w := w2.drew) H2.out k (L - k) (by omega)) (by show b < w2.heap.size; omega) (by omega)).mono ?_; rintro e w3 ⟨⟨u3, rfl⟩, hr3, ht3⟩))
  have HR3 := hide hr3
  have HT3 := hide ht3
  clear hr3 ht3
  go_wp2
  go_end0
  refine ⟨⟨_, rfl⟩, ?_, HT1.out.trans ((HT.out.mono (by omega) (by omega)).trans ((Touch.refl _ _ _ _).drew.trans (HT3.out.mono (by omega) (by omega))))⟩
  have hkm := HK.out
  refine (Row.join (k := k) (m := L - k) (w := w2.drew) (H2.out) (HT3.out.mono (Nat.le_refl _) (by omega)) HR3.out (by omega)).congr (fun i hi => ?_)
  unfold slideF
  repeat' split
  all_goals first | rfl | omega | (congr 1; omega)

set_option maxHeartbeats 1000000 in
theorem slide_zeroA (b off L : Nat)  (f : Nat → Int × Int) (c g : Int) (w : World) (hc : L ≤ L) (hr : Row w b off L f) (hb : b < w.heap.size) (hL : L ≤ 1048576) (hL0 : 0 < L)  :
    Calls Tryz.prog 229 #[.slice (some ⟨b, off, none⟩) L L, .int .i64 0, .agg #[.int .i64 c, .int .i64 g]] w fun e w' => (∃ u, e = .returned u) ∧ Row w' b off L (slideF L 0 f (c, g)) ∧ Touch b off (off + L * 2) w w' := by
  have hb1 : Below w.heap.size w (w.alloc (.cells #[.int .i64 c, .int .i64 g] 193)) := (Below.refl _ _).alloc (Nat.le_refl _) _
  have hR1 := hr.below hb1 hb
  have HT1 : Hid (Touch b off (off + L * 2) w (w.alloc (.cells #[.int .i64 c, .int .i64 g] 193))) := Touch.of_below hb1 (Nat.le_refl _) hb
  clear hr
  have x1 : ¬ (L : Int) < 0 := by omega
  have x2 : -(L : Int) < 0 := by omega
  have x3 : (0 : Int) < (L : Int) := by omega
  have x5 : L ≤ L := by omega
  have x6 : (L : Int) ≤ (L : Int) := by omega
  have x7 : IntKind.i64.wrap (L : Int) = (L : Int) := wrap_small (by omega) (by omega)
  have x8 : (0 : Int) ≤ (L : Int) := by omega
  have x12 : ¬ L = 0 := by omega
  obtain ⟨w2, hrun, hrow, ht⟩ := run_copy2 (P := Tryz.prog) (w.alloc (.cells #[.int .i64 c, .int .i64 g] 193)) 33 33 3 193 Tryz.underlying33 cell_size2
    (some ⟨b, off, none⟩) (some ⟨b, off, none⟩) L L L L L (by show L = min L L; omega) b off f hR1 (fun _ => rfl) b off f hR1.read (fun _ => rfl)
  have hR2 := hrow
  clear hrow
  have B0 : w2.cell? ⟨w.heap.size, 0, none⟩ = some (.int .i64 c) := ht.cellAt (by simp) (by omega)
  have B1 : w2.cell? ⟨w.heap.size, 1, none⟩ = some (.int .i64 g) := ht.cellAt (by simp) (by omega)
  have hs2 : w.heap.size + 1 ≤ w2.heap.size := by have := ht.size; simp at this; omega
  have H2 := hide hR2
  have HT := hide ht
  clear hR1 hR2 ht
  go_enter Tryz.func229, Tryz.ntmps229
  go_wp2_with fail
  go_region_held3 (fun w' => w'.cell? ⟨w.heap.size, 0, none⟩ = some (.int .i64 c) ∧ w'.cell? ⟨w.heap.size, 1, none⟩ = some (.int .i64 g))
    (first
      | exact ⟨B0, B1⟩
      | exact ⟨ht3.cellAt B0 (by omega), ht3.cellAt B1 (by omega)⟩)
    (first
      | (go_at_call 236; refine (fill_calls b off 0 _ _ (fun _ => (0, 0)) c g w2.drew ⟨Nat.zero_le _, _, rfl, fun h => by omega⟩ (fun i hi => by omega) (by show b < w2.heap.size; omega) (by omega)).mono ?_; rintro e w3 ⟨⟨u3, rfl⟩, hr3, ht3⟩))
  have HR3 := hide hr3
  have HT3 := hide ht3
  clear hr3 ht3
  go_wp2
  go_end0
  refine ⟨⟨_, rfl⟩, ?_, HT1.out.trans ((HT.out.mono (by omega) (by omega)).trans ((Touch.refl _ _ _ _).drew.trans (HT3.out.mono (by omega) (by omega))))⟩
  refine (Row.touch (w := w2.drew) H2.out HT3.out (by omega)).congr (fun i hi => ?_)
  unfold slideF
  repeat' split
  all_goals first | rfl | omega | (congr 1; omega)

set_option maxHeartbeats 1000000 in
theorem slide_zeroB (b off L cap : Nat)  (f : Nat → Int × Int) (c g : Int) (w : World) (hc : L ≤ cap) (hr : Row w b off L f) (hb : b < w.heap.size) (hL : L ≤ 1048576) (hL0 : 0 < L) (hcap : ¬ cap = L) :
    Calls Tryz.prog 229 #[.slice (some ⟨b, off, none⟩) L cap, .int .i64 0, .agg #[.int .i64 c, .int .i64 g]] w fun e w' => (∃ u, e = .returned u) ∧ Row w' b off L (slideF L 0 f (c, g)) ∧ Touch b off (off + L * 2) w w' := by
  have hb1 : Below w.heap.size w (w.alloc (.cells #[.int .i64 c, .int .i64 g] 193)) := (Below.refl _ _).alloc (Nat.le_refl _) _
  have hR1 := hr.below hb1 hb
  have HT1 : Hid (Touch b off (off + L * 2) w (w.alloc (.cells #[.int .i64 c, .int .i64 g] 193))) := Touch.of_below hb1 (Nat.le_refl _) hb
  clear hr
  have hcap' : ¬ L = cap := fun h => hcap h.symm
  have x1 : ¬ (L : Int) < 0 := by omega
  have x2 : -(L : Int) < 0 := by omega
  have x3 : (0 : Int) < (L : Int) := by omega
  have x5 : L ≤ cap := by omega
  have x6 : (L : Int) ≤ (cap : Int) := by omega
  have x7 : IntKind.i64.wrap (L : Int) = (L : Int) := wrap_small (by omega) (by omega)
  have x8 : (0 : Int) ≤ (L : Int) := by omega
  have x12 : ¬ cap = 0 := by omega
  obtain ⟨w2, hrun, hrow, ht⟩ := run_copy2 (P := Tryz.prog) (w.alloc (.cells #[.int .i64 c, .int .i64 g] 193)) 33 33 3 193 Tryz.underlying33 cell_size2
    (some ⟨b, off, none⟩) (some ⟨b, off, none⟩) L cap L cap L (by show L = min L L; omega) b off f hR1 (fun _ => rfl) b off f hR1.read (fun _ => rfl)
  have hR2 := hrow
  clear hrow
  have B0 : w2.cell? ⟨w.heap.size, 0, none⟩ = some (.int .i64 c) := ht.cellAt (by simp) (by omega)
  have B1 : w2.cell? ⟨w.heap.size, 1, none⟩ = some (.int .i64 g) := ht.cellAt (by simp) (by omega)
  have hs2 : w.heap.size + 1 ≤ w2.heap.size := by have := ht.size; simp at this; omega
  have H2 := hide hR2
  have HT := hide ht
  clear hR1 hR2 ht
  go_enter Tryz.func229, Tryz.ntmps229
  go_wp2_with fail
  go_region_held3 (fun w' => w'.cell? ⟨w.heap.size, 0, none⟩ = some (.int .i64 c) ∧ w'.cell? ⟨w.heap.size, 1, none⟩ = some (.int .i64 g))
    (first
      | exact ⟨B0, B1⟩
      | exact ⟨ht3.cellAt B0 (by omega), ht3.cellAt B1 (by omega)⟩)
    (first
      | (go_at_call 236; refine (fill_calls b off 0 _ _ (fun _ => (0, 0)) c g w2.drew ⟨Nat.zero_le _, _, rfl, fun h => by omega⟩ (fun i hi => by omega) (by show b < w2.heap.size; omega) (by omega)).mono ?_; rintro e w3 ⟨⟨u3, rfl⟩, hr3, ht3⟩))
  have HR3 := hide hr3
  have HT3 := hide ht3
  clear hr3 ht3
  go_wp2
  go_end0
  refine ⟨⟨_, rfl⟩, ?_, HT1.out.trans ((HT.out.mono (by omega) (by omega)).trans ((Touch.refl _ _ _ _).drew.trans (HT3.out.mono (by omega) (by omega))))⟩
  refine (Row.touch (w := w2.drew) H2.out HT3.out (by omega)).congr (fun i hi => ?_)
  unfold slideF
  repeat' split
  all_goals first | rfl | omega | (congr 1; omega)

theorem slide_calls (b off L cap : Nat) (v : Value) (f : Nat → Int × Int) (n c g : Int) (w : World) (hv : SlAt v b off L cap) (hr : Row w b off L f) (hb : b < w.heap.size) (hL : L ≤ 1048576) (hL0 : 0 < L) :
    Calls Tryz.prog 229 #[v, .int .i64 n, .agg #[.int .i64 c, .int .i64 g]] w fun e w' => (∃ u, e = .returned u) ∧ Row w' b off L (slideF L n f (c, g)) ∧ Touch b off (off + L * 2) w w' := by
  obtain ⟨hc, a, rfl, ha⟩ := hv
  obtain rfl := ha hL0
  by_cases h0 : n < 0
  · by_cases h1 : n ≤ -(L : Int)
    · by_cases hcap : cap = L
      · subst hcap; exact slide_negallA b off cap n f c g w hc hr hb hL hL0 h0 h1
      · exact slide_negallB b off L cap n f c g w hc hr hb hL hL0 h0 h1 hcap
    · obtain ⟨m, rfl⟩ : ∃ m : Nat, n = -(m : Int) := ⟨(-n).toNat, by omega⟩
      exact slide_neg b off L cap m f c g w hc hr hb hL hL0 (by omega) (by omega)
  · by_cases h1 : (L : Int) ≤ n
    · by_cases hcap : cap = L
      · subst hcap; exact slide_posallA b off cap n f c g w hc hr hb hL hL0 h1
      · exact slide_posallB b off L cap n f c g w hc hr hb hL hL0 h1 hcap
    · obtain ⟨m, rfl⟩ : ∃ m : Nat, n = (m : Int) := ⟨n.toNat, by omega⟩
      by_cases hm : m = 0
      · subst hm
        by_cases hcap : cap = L
        · subst hcap; exact slide_zeroA b off cap f c g w hc hr hb hL hL0
        · exact slide_zeroB b off L cap f c g w hc hr hb hL hL0 hcap
      · exact slide_pos b off L cap m (L - m) f c g w hc hr hb hL hL0 (by omega) (by omega) (by omega)

end Go.Proofs.YtdekegjplegkeaaGreat
