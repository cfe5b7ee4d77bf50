/-
  What the model's RowText answers: l3RowOf (of a grid that is a part of a block), l5Text, RowText.
-/
import Derived.Test.YtknkbihjboadjaaRowText
import Derived.Test.YtknkbihjboadjaaSegMem
import Derived.Test.YtknkbihjboadjaaRowFns3
import Derived.Test.YtknkbihjboadjaaCapped
import Derived.Test.YtknkbihjboadjaaGrow
import Derived.Test.YtknkbihjboadjaaOffScr
namespace Go.Proofs.Ytknkbihjboadjaa
set_option maxRecDepth 20000
open Go.ChangeShapes Go.WideShapes Go.ChangeAt Go.RowKit
set_option linter.unusedVariables false
set_option linter.unusedSimpArgs false
set_option maxRecDepth 20000

set_option maxHeartbeats 2000000 in
theorem l3RowOf_o (pb ob bx off n cx k m u : Nat) (y wd : Int) (f : Nat → Int × Int) (w : World) (c1 : w.cell? ⟨pb, ob + 1, none⟩ = some (.int .i64 wd)) (c2 : w.cell? ⟨pb, ob + 2, none⟩ = some (.slice (some ⟨bx, off, none⟩) n cx)) (hr : RowR w bx off n f) (hc : n ≤ cx)
    (hk : y * wd = (k : Int)) (hm : wd = (m : Int)) (hu : u = k + m) (hun : u ≤ n) (hn : n ≤ 1048576) (hm0 : 0 < m) (y0 : 0 ≤ y) (y1 : y ≤ 1000) :
    Calls Try.prog 75 #[.pointer (some ⟨pb, ob, none⟩), .int .i64 y] w fun e w' => ∃ v, e = .returned v ∧ w'.ownsRow w.heap.size 99 2 v m (pvs (mkL m (fun i => f (k + i)))) ∧ Below w.heap.size w w' := by
  obtain ⟨i0, hi, hz0, hz1, hz2⟩ := info_parts info_cell
  have e1 : IntKind.i64.wrap (y * wd) = (k : Int) := by rw [hk]; exact wrap_small (by omega) (by omega)
  have e2 : IntKind.i64.wrap ((y + 1) * wd) = (u : Int) := by rw [Int.add_mul, hk, hm]; rw [show (k : Int) + 1 * (m : Int) = (u : Int) by omega]; exact wrap_small (by omega) (by omega)
  have e3 : IntKind.i64.wrap (y + 1) = y + 1 := wrap_small (by omega) (by omega)
  have e4 : u ≤ cx := by omega
  have e5 : (k : Int) ≤ (u : Int) := by omega
  have e6 : (u : Int) ≤ (cx : Int) := by omega
  have e7 : ¬ cx = k := by omega
  have e8 : ¬ k = cx := by omega
  have e9 : k ≤ u := by omega
  have HK := hide hk
  have HM := hide hm
  have HU := hide hu
  clear hk hm
  have hpr : PRead (w.drew.alloc (.cells #[] 99)) (.slice (some ⟨bx, off + k * 2, none⟩) (u - k) (cx - k)) (mkL (u - k) (fun i => f (k + i))) := by
    have h := (hr.sub k (u - k) (by omega)).below (B := w.heap.size) (w' := w.drew.alloc (.cells #[] 99)) (by repeat' (first | with_reducible exact Below.refl _ _ | with_reducible assumption | with_reducible refine Below.drew ?_ | with_reducible refine Below.alloc ?_ ?_ _ | with_reducible refine Below.setCell ?_ ?_ _ | (simp; done) | (simp; omega) | omega)) (hr.lt (by omega))
    exact pread_of_row h
  clear hu hr
  go_enter Try.func75, Try.ntmps75
  go_wp2_with fail
  have hlit : (w.drew.alloc (.cells #[] 99)).ownsRow w.heap.size 99 2 (.slice (some ⟨w.heap.size, 0, none⟩) 0 0) 0 (pvs []) := World.ownsRow_lit (base := w.heap.size) (e := 99) (size := 2) w.drew #[] 0 (Nat.le_refl _) (by simp) rfl
  have hba : Below w.heap.size w (w.alloc (.cells #[] 99)) := (by repeat' (first | with_reducible exact Below.refl _ _ | with_reducible assumption | with_reducible refine Below.drew ?_ | with_reducible refine Below.alloc ?_ ?_ _ | with_reducible refine Below.setCell ?_ ?_ _ | (simp; done) | (simp; omega) | omega))
  have K1 := cellb hba c1
  have K2 := cellb hba c2
  refine wp_region_held_drew (S := (fun w' => w'.cell? ⟨pb, ob + 1, none⟩ = some (.int .i64 wd) ∧ w'.cell? ⟨pb, ob + 2, none⟩ = some (.slice (some ⟨bx, off, none⟩) n cx))) (by kernel_rfl) ?_ (fun hHeld => ?_)
  · (try dsimp only); exact ⟨c1, c2⟩
  refine wpAnyH_take (i := 1) (oi := ⟨_, _, _, _, _, _⟩) (v := ?_) rfl (by kernel_rfl) (by kernel_rfl) (by kernel_rfl) (fun _ _ _ h => h) (Or.inl ⟨by rfl, ?_⟩) hHeld ?_
  rotate_left
  · (intro w hSw; (try dsimp only at hSw); go_simp; try (with_reducible rfl))
  try simp only [Act.put, List.setIfInBounds_toArray, List.set_cons_zero, List.set_cons_succ]
  refine wpAnyH_take (i := 2) (oi := ⟨_, _, _, _, _, _⟩) (v := ?_) rfl (by kernel_rfl) (by kernel_rfl) (by kernel_rfl) (fun _ _ _ h => h) (Or.inl ⟨by rfl, ?_⟩) hHeld ?_
  rotate_left
  · (intro w hSw; (try dsimp only at hSw); go_simp; try (with_reducible rfl))
  try simp only [Act.put, List.setIfInBounds_toArray, List.set_cons_zero, List.set_cons_succ]
  refine wpAnyH_take (i := 3) (oi := ⟨_, _, _, _, _, _⟩) (v := ?_) rfl (by kernel_rfl) (by kernel_rfl) (by kernel_rfl) (fun _ _ _ h => h) (Or.inl ⟨by rfl, ?_⟩) hHeld ?_
  rotate_left
  · (intro w hSw; (try dsimp only at hSw); go_simp; try (with_reducible rfl))
  try simp only [Act.put, List.setIfInBounds_toArray, List.set_cons_zero, List.set_cons_succ]
  refine wpAnyH_take (i := 4) (oi := ⟨_, _, _, _, _, _⟩) (v := ?_) rfl (by kernel_rfl) (by kernel_rfl) (by kernel_rfl) (fun _ _ _ h => h) (Or.inl ⟨by rfl, ?_⟩) hHeld ?_
  rotate_left
  · (intro w hSw; (try dsimp only at hSw); go_simp; try (with_reducible rfl))
  try simp only [Act.put, List.setIfInBounds_toArray, List.set_cons_zero, List.set_cons_succ]
  refine wpAnyH_take (i := 5) (oi := ⟨_, _, _, _, _, _⟩) (v := ?_) rfl (by kernel_rfl) (by kernel_rfl) (by kernel_rfl) (fun _ _ _ h => h) (Or.inl ⟨by rfl, ?_⟩) hHeld ?_
  rotate_left
  · (intro w hSw; (try dsimp only at hSw); go_simp; try (with_reducible rfl))
  try simp only [Act.put, List.setIfInBounds_toArray, List.set_cons_zero, List.set_cons_succ]
  refine wpAnyH_take (i := 6) (oi := ⟨_, _, _, _, _, _⟩) (v := ?_) rfl (by kernel_rfl) (by kernel_rfl) (by kernel_rfl) (fun _ _ _ h => h) (Or.inl ⟨by rfl, ?_⟩) hHeld ?_
  rotate_left
  · (intro w hSw; (try dsimp only at hSw); go_simp; try (with_reducible rfl))
  try simp only [Act.put, List.setIfInBounds_toArray, List.set_cons_zero, List.set_cons_succ]
  refine wpAnyH_take (i := 7) (oi := ⟨_, _, _, _, _, _⟩) (v := ?_) rfl (by kernel_rfl) (by kernel_rfl) (by kernel_rfl) (fun _ _ _ h => h) (Or.inl ⟨by rfl, ?_⟩) hHeld ?_
  rotate_left
  · (intro w hSw; (try dsimp only at hSw); go_simp; try (with_reducible rfl))
  try simp only [Act.put, List.setIfInBounds_toArray, List.set_cons_zero, List.set_cons_succ]
  refine wpAnyH_take (i := 8) (oi := ⟨_, _, _, _, _, _⟩) (v := ?_) rfl (by kernel_rfl) (by kernel_rfl) (by kernel_rfl) (fun _ _ _ h => h) (Or.inl ⟨by rfl, ?_⟩) hHeld ?_
  rotate_left
  · (intro w hSw; (try dsimp only at hSw); go_simp; try (with_reducible rfl))
  try simp only [Act.put, List.setIfInBounds_toArray, List.set_cons_zero, List.set_cons_succ]
  refine wpAnyH_take (i := 9) (oi := ⟨_, _, _, _, _, _⟩) (v := ?_) rfl (by kernel_rfl) (by kernel_rfl) (by kernel_rfl) (fun _ _ _ h => h) (Or.inl ⟨by rfl, ?_⟩) hHeld ?_
  rotate_left
  · (intro w hSw; (try dsimp only at hSw); go_simp; try (with_reducible rfl))
  try simp only [Act.put, List.setIfInBounds_toArray, List.set_cons_zero, List.set_cons_succ]
  refine wpAnyH_take (i := 10) (oi := ⟨_, _, _, _, _, _⟩) (v := ?_) rfl (by kernel_rfl) (by kernel_rfl) (by kernel_rfl) (fun _ _ _ h => h) (Or.inl ⟨by rfl, ?_⟩) hHeld ?_
  rotate_left
  · (intro w hSw; (try dsimp only at hSw); go_simp; try (with_reducible rfl))
  try simp only [Act.put, List.setIfInBounds_toArray, List.set_cons_zero, List.set_cons_succ]
  refine wpAnyH_take (i := 11) (oi := ⟨_, _, _, _, _, _⟩) (v := ?_) rfl (by kernel_rfl) (by kernel_rfl) (by kernel_rfl) (fun _ _ _ h => h) (Or.inl ⟨by rfl, ?_⟩) hHeld ?_
  rotate_left
  · (intro w hSw; (try dsimp only at hSw); go_simp; try (with_reducible rfl))
  try simp only [Act.put, List.setIfInBounds_toArray, List.set_cons_zero, List.set_cons_succ]
  refine wpAnyH_take (i := 12) (oi := ⟨_, _, _, _, _, _⟩) (v := ?_) rfl (by kernel_rfl) (by kernel_rfl) (by kernel_rfl) (fun _ _ _ h => h) (Or.inl ⟨by rfl, ?_⟩) hHeld ?_
  rotate_left
  · (intro w hSw; (try dsimp only at hSw); go_simp; try (with_reducible rfl))
  try simp only [Act.put, List.setIfInBounds_toArray, List.set_cons_zero, List.set_cons_succ]
  refine wpAnyH_take (i := 13) (oi := ⟨_, _, _, _, _, _⟩) (v := ?_) rfl (by kernel_rfl) (by kernel_rfl) (by kernel_rfl) (fun _ _ _ h => h) (Or.inl ⟨by rfl, ?_⟩) hHeld ?_
  rotate_left
  · (intro w hSw; (try dsimp only at hSw); go_simp; try (with_reducible rfl))
  try simp only [Act.put, List.setIfInBounds_toArray, List.set_cons_zero, List.set_cons_succ]
  refine wpAnyH_take (i := 14) (oi := ⟨_, _, _, _, _, _⟩) (v := ?_) rfl (by kernel_rfl) (by kernel_rfl) (by kernel_rfl) (fun _ _ _ h => h) (Or.inl ⟨by rfl, ?_⟩) hHeld ?_
  rotate_left
  · (intro w hSw; (try dsimp only at hSw); go_simp; try (with_reducible rfl))
  try simp only [Act.put, List.setIfInBounds_toArray, List.set_cons_zero, List.set_cons_succ]
  refine wpAnyH_take (i := 15) (oi := ⟨_, _, _, _, _, _⟩) (v := ?_) rfl (by kernel_rfl) (by kernel_rfl) (by kernel_rfl) (fun _ _ _ h => h) (Or.inl ⟨by rfl, ?_⟩) hHeld ?_
  rotate_left
  · (intro w hSw; (try dsimp only at hSw); go_simp; try (with_reducible rfl))
  try simp only [Act.put, List.setIfInBounds_toArray, List.set_cons_zero, List.set_cons_succ]
  refine wpAnyH_take (i := 16) (oi := ⟨_, _, _, _, _, _⟩) (v := ?_) rfl (by kernel_rfl) (by kernel_rfl) (by kernel_rfl) (fun _ _ _ h => h) (Or.inl ⟨by rfl, ?_⟩) hHeld ?_
  rotate_left
  · (intro w hSw; (try dsimp only at hSw); go_simp; try (with_reducible rfl))
  try simp only [Act.put, List.setIfInBounds_toArray, List.set_cons_zero, List.set_cons_succ]
  refine wpAnyH_take (i := 17) (oi := ⟨_, _, _, _, _, _⟩) (v := ?_) rfl (by kernel_rfl) (by kernel_rfl) (by kernel_rfl) (fun _ _ _ h => h) (Or.inl ⟨by rfl, ?_⟩) hHeld ?_
  rotate_left
  · (intro w hSw; (try dsimp only at hSw); go_simp; try (with_reducible rfl))
  try simp only [Act.put, List.setIfInBounds_toArray, List.set_cons_zero, List.set_cons_succ]
  refine wpAnyH_take (i := 18) (oi := ⟨_, _, _, _, _, _⟩) (v := ?_) rfl (by kernel_rfl) (by kernel_rfl) (by kernel_rfl) (fun _ _ _ h => h) (Or.inl ⟨by rfl, ?_⟩) hHeld ?_
  rotate_left
  · (intro w hSw; (try dsimp only at hSw); go_simp; try (with_reducible rfl))
  try simp only [Act.put, List.setIfInBounds_toArray, List.set_cons_zero, List.set_cons_succ]
  refine wpAnyH_ready (rs := [0]) (by kernel_rfl) (by simp) ?_
  refine (AllReadyH.cons (o := ⟨_, _, _, _, _, _⟩) rfl (fun K hK => ?_) AllReadyH.nil)
  go_simp
  refine hK.out _ _ ?_ ?_
  · (try dsimp only); exact ⟨K1, K2⟩
  clear hHeld hK K
  intro hHeld
  try simp only [Act.put, List.setIfInBounds_toArray, List.set_cons_zero, List.set_cons_succ]
  refine wpAnyH_ready (rs := [19]) (by kernel_rfl) (by simp) ?_
  refine (AllReadyH.cons (o := ⟨_, _, _, _, _, _⟩) rfl (fun K hK => ?_) AllReadyH.nil)
  refine step_append_pread rfl (.tmp 5) (.tmp 23) 30 rfl w.heap.size 99 i0 (.agg #[.int .i64 0, .int .i64 0]) 16 Try.underlying30 hi hz0 hz1 hz2 rfl _ 0 [] rfl hlit (some ⟨bx, off + k * 2, none⟩) (mkL (u - k) (fun i => f (k + i))) (u - k) (cx - k) rfl (by rw [mkL_length]) hpr (by unfold maxLen; omega) (by omega) (by show w.heap.size ≤ (w.drew.alloc _).heap.size; simp) ?_
  intro v w1 hown1 hgr1
  have hb1 : Below w.heap.size w w1 := (((below_drewN (Below.refl _ _) 1).alloc (Nat.le_refl _) _) : Below w.heap.size w (w.drew.alloc (.cells #[] 99))).grown hgr1 (by show w.heap.size ≤ (w.drew.alloc _).heap.size; simp) (fun q hq => (hlit.lt q hq).1)
  replace K1 := cellb hb1 c1
  replace K2 := cellb hb1 c2
  try simp only [List.nil_append, Nat.zero_add] at hown1
  obtain ⟨av, cv, rfl, hvc⟩ := own_room2 hown1
  have HO := hide hown1
  clear hown1 hgr1
  refine hK.out _ _ ?_ ?_
  · (try dsimp only); exact ⟨K1, K2⟩
  clear hHeld hK K
  intro hHeld
  try simp only [Act.put, List.setIfInBounds_toArray, List.set_cons_zero, List.set_cons_succ]
  refine wpAnyH_take (i := 20) (oi := ⟨_, _, _, _, _, _⟩) (v := ?_) rfl (by kernel_rfl) (by kernel_rfl) (by kernel_rfl) (fun _ _ _ h => h) (Or.inl ⟨by rfl, ?_⟩) hHeld ?_
  rotate_left
  · (intro w hSw; (try dsimp only at hSw); go_simp; try (with_reducible rfl))
  try simp only [Act.put, List.setIfInBounds_toArray, List.set_cons_zero, List.set_cons_succ]
  refine wpAnyH_done (by kernel_rfl) ?_ _
  go_wp2
  go_ret
  have hm' : u - k = m := by have := HU.out; omega
  refine ⟨.slice av (u - k) cv, rfl, ?_, hb1⟩
  have h := HO.out
  rw [hm'] at h ⊢
  exact h

set_option maxHeartbeats 4000000 in
theorem l5Text_o (s : Scr) (v1 v2 v3 v4 : Value) (y : Int) (b ob : Nat) (w : World) (hc : scrCode s = 0) (hy : rowOk s y = true) (hB : Seg w b ob (scrA s v1 v2 v3 v4)) (hcap : Capped v1) (h1 : PRead w v1 s.cs) :
    Calls Try.prog 51 #[.pointer (some ⟨b, ob, none⟩), .int .i64 y] w fun e w' => e = .returned (.string (strOfNums ((rowChars s y).flatMap encL))) ∧ Below w.heap.size w w' := by
  have hF := gfine_of_code (grid_of_scr hc)
  have hyr : 0 ≤ y ∧ y ≤ s.r - 1 := of_decide_eq_true hy
  obtain ⟨R, m, eR, eW, n1, n2, n3, n4, n5, n6, n7, n8, n9, n10⟩ := hF.nats
  obtain ⟨Y, rfl⟩ : ∃ Y : Nat, y = (Y : Int) := ⟨y.toNat, by omega⟩
  have hk : (Y : Int) * s.wd = ((Y * m : Nat) : Int) := by rw [eW, ← Int.natCast_mul]
  have hkm : Y * m + m ≤ s.cs.length := by rw [n5]; have := Nat.mul_le_mul_right m (show Y + 1 ≤ R by omega); rw [Nat.add_mul, Nat.one_mul] at this; exact this
  obtain ⟨cl, hcl⟩ : ∃ l, rowChars s (Y : Int) = l := ⟨_, rfl⟩
  have hlen : cl.length = m := by rw [← hcl, rowChars_length, eW]; simp
  have hget : ∀ i, i < m → cl.getD i 0 = (s.cs.getD (Y * m + i) (0, 0)).1 := by
    intro i hi
    rw [← hcl, rowChars_get _ _ _ (by rw [eW]; simpa using hi), show ((Y : Int) * s.wd).toNat = Y * m by rw [hk]; exact Int.toNat_natCast _]
  have hbd : ∀ i, i < m → 0 ≤ cl.getD i 0 ∧ cl.getD i 0 ≤ 65535 := fun i hi => by rw [hget i hi]; exact cell_of_fine hF _ (by omega)
  rw [hcl]
  obtain ⟨a1, c1, rfl, hrd⟩ := h1
  have hcc : s.cs.length ≤ c1 := hcap _ _ _ rfl
  rcases hrd with hrd | ⟨bx, ox, rfl, hrd⟩
  · rw [hrd] at n8; simp at n8
  have hB' := hB.alloc (.cells #[] 5)
  have bl : Below w.heap.size w (w.alloc (.cells #[] 5)) := (Below.refl _ w).alloc (Nat.le_refl _) _
  have hrr : RowR (w.alloc (.cells #[] 5)) bx ox s.cs.length (fun i => s.cs.getD i (0, 0)) := fun i hi => ⟨cellb bl (hrd i hi).1, cellb bl (hrd i hi).2⟩
  have HL := hide hlen
  have HG : Hid (∀ i, i < m → cl.getD i 0 = (s.cs.getD (Y * m + i) (0, 0)).1) := hget
  have HB : Hid (∀ i, i < m → 0 ≤ cl.getD i 0 ∧ cl.getD i 0 ≤ 65535) := hbd
  have HK := hide hk
  have HE := hide eW
  have hY5 : (Y : Int) ≤ 5 := by omega
  obtain ⟨i0, hi, hzz0, hzz1, hzz2⟩ := info_parts info_u8
  clear hlen hget hbd hcl hF n5 hy eR eW hk hrd hcap
  go_enter Try.func51, Try.ntmps51
  go_wp2_with fail
  refine (l3RowOf_o b ob bx ox s.cs.length c1 (Y * m) m (Y * m + m) (Y : Int) s.wd _ _ (hB'.at 1 (scrA_1 s _ _ _ _)) (hB'.at 2 (scrA_2 s _ _ _ _)) hrr hcc HK.out HE.out rfl hkm (by omega) (by omega) (by omega) (by omega)).mono ?_
  rintro e w2 ⟨vr, rfl, hor, hb2⟩
  have z0 : (w.alloc (.cells #[] 5)).heap.size = w.heap.size + 1 := by simp
  have z2 : w.heap.size + 1 ≤ w2.heap.size := by have := hb2.size; rw [z0] at this; exact this
  have hlit : (w.alloc (.cells #[] 5)).ownsRow w.heap.size 5 1 (.slice (some ⟨w.heap.size, 0, none⟩) 0 0) 0 (byteVs (encTo cl 0)) := by have h := World.ownsRow_lit (base := w.heap.size) (e := 5) (size := 1) w #[] 0 (by simp) (by simp) rfl; simpa [encTo, byteVs] using h
  have hlit2 := own_below hlit hb2
  have bel2 : Below w.heap.size w w2 := bl.trans (hb2.mono bl.size)
  obtain ⟨br, cr, rfl, hcr, _, hbr1, hbr2, hrow⟩ := own_row hor (by omega)
  have HC1 : Hid (∀ i, i < m → w2.cell? ⟨br, i * 2, none⟩ = some (.int .i64 (cl.getD i 0)) ∧ ∃ g, w2.cell? ⟨br, i * 2 + 1, none⟩ = some (.int .i64 g)) := by
    intro i hi
    have hr := hrow i hi
    dsimp only at hr
    rw [mkL_get _ _ _ hi, Nat.zero_add] at hr
    rw [HG.out i hi]
    exact ⟨hr.1.1, _, hr.1.2⟩
  rw [z0] at hbr1
  clear hlit bl hrr hor hrow hB' hB hb2
  go_wp2_with fail
  go_loopw [5, 7] (fun o i wr => ∃ j : Nat, j ≤ m ∧ i = .int .i64 j ∧ wr.ownsRow w.heap.size 5 1 o (encTo cl j).length (byteVs (encTo cl j)) ∧ Below w.heap.size w wr ∧ w2.heap.size ≤ wr.heap.size ∧ Hid (∀ i, i < m → wr.cell? ⟨br, i * 2, none⟩ = some (.int .i64 (cl.getD i 0)) ∧ ∃ g, wr.cell? ⟨br, i * 2 + 1, none⟩ = some (.int .i64 g)) ∧ (∀ q, o.ownBlock = some q → q ≠ br)) (fun _ i _ => m - (intOf i).toNat)
  case atStart => exact ⟨0, Nat.zero_le _, rfl, hlit2, bel2, Nat.le_refl _, HC1, fun q hq => by simp [Value.ownBlock] at hq; omega⟩
  case round =>
    obtain ⟨j, hjm, rfl, hown, hbr, zz, HCr, hap⟩ := hrel
    by_cases hlt : j < m
    · have hltI : (j : Int) < (m : Int) := by omega
      obtain ⟨hz0, hz1⟩ := HB.out j hlt
      obtain ⟨g1, gg, g2⟩ := HCr.out j hlt
      have hlen2 := encTo_length cl j
      have hsu := hide (encTo_succ cl j (by rw [HL.out]; exact hlt))
      have hel := encL_length (cl.getD j 0)
      have OW := hide hown
      have BR := hide hbr
      have HAP := hide hap
      clear hown hbr hap
      generalize cl.getD j 0 = z at *
      go_wp2_with fail
      refine (l1Encode_calls z _ hz0 hz1).mono ?_
      rintro e w3 ⟨x, rfl, hx, hb3⟩
      have hown2 := own_below OW.out hb3
      obtain ⟨ax, cx, rfl, hx⟩ := hx
      rcases hx with hx | ⟨bz, oz, rfl, _, _, hx⟩
      · exact absurd hx (encL_ne z)
      have hnw := hide (ints_news (fun i hi => (hx i hi).1))
      have hs3 : wr.heap.size ≤ w3.heap.size := hb3.size
      have hb4 := BR.out.trans (hb3.mono (by omega))
      have HC3 : Hid (∀ i, i < m → w3.cell? ⟨br, i * 2, none⟩ = some (.int .i64 (cl.getD i 0)) ∧ ∃ g, w3.cell? ⟨br, i * 2 + 1, none⟩ = some (.int .i64 g)) := fun i hi => by
        obtain ⟨q1, q2, q3⟩ := HCr.out i hi
        exact ⟨cellb hb3 q1, q2, cellb hb3 q3⟩
      have OW2 := hide hown2
      clear hx hb3 HCr OW BR g1 g2
      go_wp2_with (at_builtin; refine wpList_append_grow _ rfl (.tmp 20) (.tmp 26) 96 rfl w.heap.size 5 i0 (.int .u8 0) 1 1 Try.underlying96 hi hzz0 hzz1 hzz2 rfl (by decide) _ _ _ rfl OW2.out ⟨bz, oz, none⟩ (encL z).length cx (byteVs (encL z)) rfl (by simp [byteVs]) hnw.out (ints_one_cell _ _) (by unfold maxLen; omega) (by omega) (by omega) ?_)
      intro o' w4 hown' hgr
      have hb5 : Below w.heap.size w w4 := hb4.trans (hgr.below (by omega) (fun q hq => OW2.out.lt q hq))
      have HC4 : Hid (∀ i, i < m → w4.cell? ⟨br, i * 2, none⟩ = some (.int .i64 (cl.getD i 0)) ∧ ∃ g, w4.cell? ⟨br, i * 2 + 1, none⟩ = some (.int .i64 g)) := fun i hi => by
        obtain ⟨q1, q2, q3⟩ := HC3.out i hi
        exact ⟨(hgr.cell (by omega) (fun e => HAP.out br e.symm rfl)).trans q1, q2, (hgr.cell (by omega) (fun e => HAP.out br e.symm rfl)).trans q3⟩
      have hap4 : ∀ q, o'.ownBlock = some q → q ≠ br := by
        intro q hq
        rcases hgr.spot with e | ⟨q', e, hq'⟩
        · exact HAP.out q (e.symm.trans hq)
        · rw [hq] at e
          injection e with e
          omega
      have hs4 : w3.heap.size ≤ w4.heap.size := hgr.grown.size
      have HP4 := hide hap4
      clear hgr OW2 HC3 hap4
      go_wp2
      go_roundw
      case rel =>
        refine ⟨j + 1, by omega, by go_num, ?_, hb5, by omega, HC4, HP4.out⟩
        rw [hsu.out, List.length_append, byteVs_append]
        exact hown'
      case measure => simp [intOf]; omega
    · obtain rfl : j = m := by omega
      have hge : ¬ ((j : Int) < (j : Int)) := by omega
      have hx : IntsAt .u8 w.heap.size wr.heap.size wr _ (encTo cl j) := own_ints hown (Nat.le_refl _)
      have hE : encTo cl j = cl.flatMap encL := by unfold encTo; rw [List.take_of_length_le (by rw [HL.out]; omega)]
      have hne : encTo cl j ≠ [] := by
        rw [hE]
        have h0 : cl ≠ [] := by intro e; have := HL.out; rw [e] at this; simp at this; omega
        obtain ⟨z, zs, rfl⟩ := List.exists_cons_of_ne_nil h0
        rw [List.flatMap_cons]
        intro e
        exact encL_ne z (List.append_eq_nil_iff.1 e).1
      obtain ⟨a9, cap9, rfl, hx⟩ := hx
      rcases hx with hx | ⟨b9, o9, rfl, _, _, hcell⟩
      · exact absurd hx hne
      have hcv := run_convert_bytes_arg (P := Try.prog) wr 96 5 Try.underlying96 Try.underlying5 b9 o9 (encTo cl j).length cap9 (encTo cl j) rfl (fun i hi => (hcell i hi).1) 9 Try.underlying9
      have HE2 := hide hE
      clear hE hne hcell hown hap
      go_wp2
      go_ret
      exact ⟨by rw [HE2.out]; rfl, hbr⟩
set_option maxHeartbeats 4000000 in
theorem specRowText_calls (s : Scr) (v1 v2 v3 v4 : Value) (y : Int) (w : World) (hn1 : s.cs.length ≤ 1048576) (hn2 : s.bs.length ≤ 1048576) (hn3 : s.tabs.length ≤ 1048576) (hn4 : s.sets.length ≤ 1048576) (hcap : Capped v1) (h : SRead w s v1 v2 v3 v4) :
    Calls Try.prog 15 #[.agg (scrA s v1 v2 v3 v4), .int .i64 y] w fun e w' => e = .returned (.agg #[.int .i64 (rtCode s y), .string (rtText s y)]) ∧ Below w.heap.size w w' := by
  have bel0 : Below w.heap.size w ((w.alloc (.cells (scrA s v1 v2 v3 v4) 34)).alloc (.cells #[.int .i64 0, .string ⟨#[]⟩] 45)) := (by repeat' (first | with_reducible exact Below.refl _ _ | with_reducible assumption | with_reducible refine Below.drew ?_ | with_reducible refine Below.alloc ?_ ?_ _ | with_reducible refine Below.setCell ?_ ?_ _ | (simp; done) | (simp; omega) | omega))
  have hA := (Blk.new w (scrA s v1 v2 v3 v4) 34).alloc (.cells #[.int .i64 0, .string ⟨#[]⟩] 45)
  have hR := Blk.new_at (w := w.alloc (.cells (scrA s v1 v2 v3 v4) 34)) (b := w.heap.size + 1) (by simp) #[.int .i64 0, .string ⟨#[]⟩] 45
  unfold rtCode rtText
  by_cases hc : scrCode s = 0
  · rw [if_pos hc, if_pos hc]
    cases hy : rowOk s y with
    | false =>
      rw [if_neg (by simp), if_neg (by simp)]
      go_enter Try.func15, Try.ntmps15
      go_wp2_with fail
      go_at_call 26
      refine (l5Fault_o s v1 v2 v3 v4 w.heap.size 0 _ hn1 hn2 hn3 hn4 hA.seg (h.below bel0)).mono ?_
      rintro e w1 ⟨rfl, hb⟩
      replace hA := hA.belowb hb
      replace hR := hR.belowb hb
      have bel1 := bel0.trans (hb.mono bel0.size)
      have z1 : w.heap.size + 2 ≤ w1.heap.size := by have := hb.size; simp at this; omega
      clear hb bel0
      have cA := hA.cells
      have e0 := scrA_0 s v1 v2 v3 v4
      obtain ⟨s1, s2, s3, s4, s5, s6⟩ := size_mul (gfine_of_code (grid_of_scr hc)).size
      have hw : IntKind.i64.wrap (s.r - 1) = s.r - 1 := wrap_small (by omega) (by omega)
      rw [hc]
      have hy' : decide (0 ≤ y ∧ y ≤ s.r - 1) = false := hy
      go_wp2_with (first | (go_at_call 50; refine (l1In_calls _ _ _ _).mono ?_; rintro e w' ⟨rfl, hw'⟩; rw [hw', hy']; clear hw' w') | (refine wpList_build_at rfl 45 _ rfl #[.int .i64 3, .string ⟨#[]⟩] (by first | rfl | kernel_rfl) ?_; (try simp only [Act.put, List.setIfInBounds_toArray, List.set_cons_zero, List.set_cons_succ])) | (refine wpList_store_blk rfl _ _ _ rfl (w.heap.size + 1) 0 #[.int .i64 0, .string ⟨#[]⟩] #[.int .i64 3, .string ⟨#[]⟩] (.agg #[.int .i64 3, .string ⟨#[]⟩]) rfl rfl hR rfl (by kernel_rfl) rfl rfl ?_; (try simp only [Act.put, List.setIfInBounds_toArray, List.set_cons_zero, List.set_cons_succ]); clear hR; intro w9 hR hu))
      exact bodyPost_ret (results_blk hR _ _ rfl rfl Try.underlying45 rfl (by kernel_rfl)) rfl ⟨rfl, bel1.trans (hu.below (by omega))⟩
    | true =>
      rw [if_pos rfl, if_pos rfl]
      go_enter Try.func15, Try.ntmps15
      go_wp2_with fail
      go_at_call 26
      refine (l5Fault_o s v1 v2 v3 v4 w.heap.size 0 _ hn1 hn2 hn3 hn4 hA.seg (h.below bel0)).mono ?_
      rintro e w1 ⟨rfl, hb⟩
      replace hA := hA.belowb hb
      replace hR := hR.belowb hb
      have bel1 := bel0.trans (hb.mono bel0.size)
      have z1 : w.heap.size + 2 ≤ w1.heap.size := by have := hb.size; simp at this; omega
      clear hb bel0
      have cA := hA.cells
      have e0 := scrA_0 s v1 v2 v3 v4
      obtain ⟨s1, s2, s3, s4, s5, s6⟩ := size_mul (gfine_of_code (grid_of_scr hc)).size
      have hw : IntKind.i64.wrap (s.r - 1) = s.r - 1 := wrap_small (by omega) (by omega)
      rw [hc]
      have hy' : decide (0 ≤ y ∧ y ≤ s.r - 1) = true := hy
      go_wp2_with (first | fail | (go_at_call 50; refine (l1In_calls _ _ _ _).mono ?_; rintro e w' ⟨rfl, hw'⟩; rw [hw', hy']; clear hw' w'))
      go_at_call 51
      refine (l5Text_o s v1 v2 v3 v4 y w.heap.size 0 _ hc hy hA.seg hcap (h.g1.below bel1)).mono ?_
      rintro e w2 ⟨rfl, hb⟩
      replace hR := hR.belowb hb
      have bel2 := bel1.trans (hb.mono bel1.size)
      have z2 : w.heap.size + 2 ≤ w2.heap.size := by have := hb.size; omega
      clear hb
      go_wp2_with (first | (refine wpList_build_at rfl 45 _ rfl #[.int .i64 0, .string (strOfNums ((rowChars s y).flatMap encL))] (by first | rfl | kernel_rfl) ?_; (try simp only [Act.put, List.setIfInBounds_toArray, List.set_cons_zero, List.set_cons_succ])) | (refine wpList_store_blk rfl _ _ _ rfl (w.heap.size + 1) 0 #[.int .i64 0, .string ⟨#[]⟩] #[.int .i64 0, .string (strOfNums ((rowChars s y).flatMap encL))] (.agg #[.int .i64 0, .string (strOfNums ((rowChars s y).flatMap encL))]) rfl rfl hR rfl (by kernel_rfl) rfl rfl ?_; (try simp only [Act.put, List.setIfInBounds_toArray, List.set_cons_zero, List.set_cons_succ]); clear hR; intro w9 hR hu))
      exact bodyPost_ret (results_blk hR _ _ rfl rfl Try.underlying45 rfl (by kernel_rfl)) rfl ⟨rfl, bel2.trans (hu.below (by omega))⟩
  · rw [if_neg hc, if_neg hc]
    obtain ⟨code, hcd⟩ : ∃ c, scrCode s = c := ⟨_, rfl⟩
    rw [hcd]
    have hne : (code != 0) = true := by rw [← hcd]; simpa using hc
    have HC := hide hcd
    clear hc hcd
    go_enter Try.func15, Try.ntmps15
    go_wp2_with fail
    go_at_call 26
    refine (l5Fault_o s v1 v2 v3 v4 w.heap.size 0 _ hn1 hn2 hn3 hn4 hA.seg (h.below bel0)).mono ?_
    rintro e w1 ⟨rfl, hb⟩
    replace hA := hA.belowb hb
    replace hR := hR.belowb hb
    have bel1 := bel0.trans (hb.mono bel0.size)
    have z1 : w.heap.size + 2 ≤ w1.heap.size := by have := hb.size; simp at this; omega
    clear hb bel0
    have cA := hA.cells
    rw [HC.out]
    go_wp2_with (first | (refine wpList_build_at rfl 45 _ rfl #[.int .i64 code, .string ⟨#[]⟩] (by first | rfl | kernel_rfl) ?_; (try simp only [Act.put, List.setIfInBounds_toArray, List.set_cons_zero, List.set_cons_succ])) | (refine wpList_store_blk rfl _ _ _ rfl (w.heap.size + 1) 0 #[.int .i64 0, .string ⟨#[]⟩] #[.int .i64 code, .string ⟨#[]⟩] (.agg #[.int .i64 code, .string ⟨#[]⟩]) rfl rfl hR rfl (by kernel_rfl) rfl rfl ?_; (try simp only [Act.put, List.setIfInBounds_toArray, List.set_cons_zero, List.set_cons_succ]); clear hR; intro w9 hR hu))
    exact bodyPost_ret (results_blk hR _ _ rfl rfl Try.underlying45 rfl (by kernel_rfl)) rfl ⟨rfl, bel1.trans (hu.below (by omega))⟩
end Go.Proofs.Ytknkbihjboadjaa
