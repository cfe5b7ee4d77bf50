/-
  putRows of the program: rows as bytes, one behind the other.
-/
import Derived.Test.YtknkbihjboadjaaDoorRowDump
import Derived.Test.YtknkbihjboadjaaDoorSheetFns
namespace Go.Proofs.YtknkbihjboadjaaDoor
set_option maxRecDepth 20000
open Go.ChangeShapes Go.WideShapes Go.ChangeAt Go.RowKit
set_option linter.unusedVariables false
set_option linter.unusedSimpArgs false
set_option maxRecDepth 20000

theorem own_lower {w : World} {B B' n s : Nat} {e : TypeId} {v : Value} {xs : List Value} (h : w.ownsRow B e s v n xs) (hB : B' ≤ B) : w.ownsRow B' e s v n xs := by
  refine ⟨h.1, ?_⟩
  rcases h.2 with h | ⟨g, cap, cur, rfl, hb, rest⟩
  · exact .inl h
  · exact .inr ⟨g, cap, cur, rfl, by omega, rest⟩
/-- The bytes of N rows from row F on. -/
def rowsB (s : Scr) (F : Int) (N : Nat) : List Int := (List.range N).flatMap (fun (i : Nat) => rowL s (F + (i : Int)))
theorem rowsB_succ (s : Scr) (F : Int) (N : Nat) : rowsB s F (N + 1) = rowsB s F N ++ rowL s (F + (N : Int)) := by simp [rowsB, List.range_succ]
theorem rowL_len {s : Scr} (h : GFine s.r s.wd s.cs s.bs) {y : Int} (y0 : 0 ≤ y) (y1 : y < s.r) : (rowL s y).length ≤ 300 := by
  obtain ⟨R, m, eR, eW, n1, n2, n3, n4, n5, n6, n7, n8, n9, n10⟩ := h.nats
  obtain ⟨Y, rfl⟩ : ∃ Y : Nat, y = (Y : Int) := ⟨y.toNat, by omega⟩
  have hkm : Y * m + m ≤ s.cs.length := by rw [n5]; have := Nat.mul_le_mul_right m (show Y + 1 ≤ R by omega); rw [Nat.add_mul, Nat.one_mul] at this; exact this
  have hk : ((Y : Int) * s.wd).toNat = Y * m := by rw [eW, ← Int.natCast_mul]; exact Int.toNat_natCast _
  have hw : s.wd.toNat = m := by omega
  have hok : okCells (rowCells s (Y : Int)) := fun i hi => by
    rw [rowCells_length, hw] at hi
    rw [rowCells_get _ _ _ (by omega), hk]
    exact cellat_fine h _ (by omega)
  have h1 := rowTo_len hok s.wd.toNat (by rw [rowCells_length]; omega)
  have h2 := placeL_len (y := (Y : Int)) (x := 0) (by omega) (by omega)
  unfold rowL
  rw [List.length_append]
  omega
set_option maxHeartbeats 8000000 in
theorem putRows_calls (s : Scr) (F : Int) (N : Nat) (bx cap base : Nat) (w : World) (hF : GFine s.r s.wd s.cs s.bs) (hF0 : 0 ≤ F) (hFN : F + (N : Int) ≤ s.r) (hcap : s.cs.length ≤ cap) (hrow : RowR w bx 0 s.cs.length (fun i => s.cs.getD i (0, 0))) (htab : TabAt base w) (hbx : bx < w.heap.size) (hbase : base ≤ w.heap.size) :
    Calls Tryd.prog 29 #[.slice none 0 0, .agg #[.int .i64 s.wd, .slice (some ⟨bx, 0, none⟩) s.cs.length cap], .int .i64 F, .int .i64 N, .func (.func 31) #[] #[]] w fun e w' => ∃ v', e = .returned v' ∧ w'.ownsRow w.heap.size 5 1 v' (rowsB s F N).length ((rowsB s F N).map (Value.int .u8)) ∧ Below w.heap.size w w' := by
  obtain ⟨R, m, eR, eW, n1, n2, n3, n4, n5, n6, n7, n8, n9, n10⟩ := hF.nats
  have hA := Blk.new w #[.int .i64 s.wd, .slice (some ⟨bx, 0, none⟩) s.cs.length cap] 60
  have b0 : Below w.heap.size w (w.alloc (.cells #[.int .i64 s.wd, .slice (some ⟨bx, 0, none⟩) s.cs.length cap] 60)) := (Below.refl _ w).alloc (Nat.le_refl _) _
  have zA : w.heap.size + 1 ≤ (w.alloc (.cells #[.int .i64 s.wd, .slice (some ⟨bx, 0, none⟩) s.cs.length cap] 60)).heap.size := by simp
  obtain ⟨W, hW⟩ : ∃ W, Hid (w.alloc (.cells #[.int .i64 s.wd, .slice (some ⟨bx, 0, none⟩) s.cs.length cap] 60) = W) := ⟨_, hide rfl⟩
  have HRW := hide hrow
  have HFN := hide hFN
  have HE := hide eW
  have HR := hide eR
  have HT : Hid (TabAt (w.heap.size + 1) (w.alloc (.cells #[.int .i64 s.wd, .slice (some ⟨bx, 0, none⟩) s.cs.length cap] 60))) := hide (TabAt.upto htab (b0.mono hbase) (by omega))
  have hN6 : N ≤ 6 := by omega
  have hF6 : F ≤ 6 := by omega
  have HF := hide hF
  rw [hW.out] at hA b0 zA HT
  have HN5 := hide n5
  clear hrow hFN eW eR htab hF n5
  go_enter Tryd.func29, Tryd.ntmps29
  go_wp2
  rw [hW.out]
  go_loopw [0, 13] (fun o i wr => ∃ k : Nat, k ≤ N ∧ i = .int .i64 k ∧ Hid (wr.ownsRow (w.heap.size + 1) 5 1 o (rowsB s F k).length ((rowsB s F k).map (Value.int .u8)) ∧ (rowsB s F k).length ≤ 300 * k) ∧ Below (w.heap.size + 1) W wr) (fun _ i _ => N - (intOf i).toNat)
  case atStart => exact ⟨0, Nat.zero_le _, rfl, hide ⟨World.ownsRow_nil _ _ _ _, by simp [rowsB]⟩, Below.refl _ _⟩
  case round =>
    obtain ⟨k, hkN, rfl, hO, hb⟩ := hrel
    have hsz := hb.size
    by_cases hlt : k < N
    · have hltI : (k : Int) < (N : Int) := by omega
      have hAr := hA.below hb (by omega)
      have e1 : IntKind.i64.wrap (F + (k : Int)) = F + (k : Int) := wrap_small (by omega) (by omega)
      obtain ⟨Y, hY⟩ : ∃ Y : Nat, F + (k : Int) = (Y : Int) := ⟨(F + (k : Int)).toNat, by omega⟩
      have hYR : Y < R := by have := HFN.out; have := HR.out; omega
      have hk : (Y : Int) * s.wd = ((Y * m : Nat) : Int) := by rw [HE.out, ← Int.natCast_mul]
      have hkm : Y * m + m ≤ s.cs.length := by rw [HN5.out]; have := Nat.mul_le_mul_right m (show Y + 1 ≤ R by omega); rw [Nat.add_mul, Nat.one_mul] at this; exact this
      have hw : s.wd.toNat = m := by have := HE.out; omega
      have hkt : ((Y : Int) * s.wd).toNat = Y * m := by rw [hk]; exact Int.toNat_natCast _
      obtain ⟨hO1, hO2⟩ := hO.out
      have hrl := rowL_len HF.out (y := (Y : Int)) (by omega) (by have := HR.out; omega)
      have hok : okCells (rowCells s (Y : Int)) := fun i hi => by
        rw [rowCells_length, hw] at hi
        rw [rowCells_get _ _ _ (by omega), hkt]
        exact cellat_fine HF.out _ (by omega)
      have hsucc := rowsB_succ s F k
      rw [hY] at hsucc
      have e2 : IntKind.i64.wrap (F + (k : Int)) = (Y : Int) := e1.trans hY
      have HS := hide hsucc
      have HLL := hide hrl
      have HHW := hide hw
      have hlen : (rowCells s (Y : Int)).length = m := by rw [rowCells_length, hw]
      have hget : ∀ i, i < m → s.cs.getD (Y * m + i) (0, 0) = (rowCells s (Y : Int)).getD i (0, 0) := fun i hi => by rw [rowCells_get _ _ _ (by omega), hkt]
      have hrow3 : ∀ w3, Below wr.heap.size wr w3 → RowR w3 bx (0 + Y * m * 2) m (fun i => (rowCells s (Y : Int)).getD i (0, 0)) := fun w3 b3 => (((HRW.out.below ((b0.trans (hb.mono (by omega))).trans (b3.mono (by omega))) hbx).sub (Y * m) m hkm).congr (fun i hi => hget i hi))
      have HRR := hide hrow3
      have HOK := hide hok
      have HLN := hide hlen
      have HKK := hide hk
      have HYY := hide hY
      clear e1 hO hsucc hrl hw hkt hok hlen hget hrow3 hk hY
      go_wp2_with (first | fail | (refine wpList_load_at rfl 60 _ rfl (w.heap.size) 0 rfl _ #[.int .i64 s.wd, .slice (some ⟨bx, 0, none⟩) s.cs.length cap] hAr rfl _ Tryd.underlying60 rfl (by kernel_rfl) ?_; (try simp only [Act.put, List.setIfInBounds_toArray, List.set_cons_zero, List.set_cons_succ])))
      go_at_call 66
      refine (row_calls s.wd (Y : Int) bx 0 s.cs.length cap (Y * m) m _ ⟨hcap, _, rfl, fun _ => rfl⟩ HKK.out HE.out (by omega) (by omega) hkm (by omega) _).mono ?_
      rintro e w3 ⟨vr, rfl, hsl, hb3⟩
      obtain ⟨hmc, av, rfl, hav⟩ := hsl
      have hav' := hav (by omega)
      subst hav'
      have hrow3 := HRR.out w3 hb3
      rw [Nat.zero_add] at hrow3
      have hO3 := own_below hO1 hb3
      have z3 := hb3.size
      have b3 : Below (w.heap.size + 1) W w3 := hb.trans (hb3.mono (by omega))
      clear hb3 hav hO1 hAr
      go_wp2_with fail
      go_at_call 31
      refine (appendRow_calls (rowCells s (Y : Int)) m HLN.out HOK.out (Y : Int) (by omega) (by omega) bx (Y * m * 2) (cap - Y * m) (w.heap.size + 1) _ _ _ w3 (by omega) n4 (by omega) (by omega) hO3 (HT.out.on b3) hrow3 (by omega) hmc).mono ?_
      rintro e w4 ⟨v4, rfl, ho4, hb4⟩
      have b4 : Below (w.heap.size + 1) W w4 := b3.trans hb4
      have erow : placeL (Y : Int) 0 ++ rowTo (rowCells s (Y : Int)) m = rowL s (Y : Int) := by unfold rowL; rw [HHW.out]
      have HO4 : Hid (w4.ownsRow (w.heap.size + 1) 5 1 v4 (rowsB s F (k + 1)).length ((rowsB s F (k + 1)).map (Value.int .u8)) ∧ (rowsB s F (k + 1)).length ≤ 300 * (k + 1)) := by
        refine hide ?_
        rw [HS.out, List.length_append, List.map_append, ← erow]
        refine ⟨ho4, ?_⟩
        rw [erow]
        have := HLL.out
        omega
      clear ho4 hb4 hO3 hrow3 erow
      go_wp2
      go_roundw
      case rel => exact ⟨k + 1, by omega, by go_num, HO4, b4⟩
      case measure => simp [intOf]; omega
    · obtain rfl : k = N := by omega
      go_wp2
      go_ret
      exact ⟨_, rfl, own_lower hO.out.1 (by omega), b0.trans (hb.mono (by omega))⟩
end Go.Proofs.YtknkbihjboadjaaDoor
