/-
  What impl.RowText answers.
-/
import Derived.Test.YtknkbihjboadjaaScrFault2
import Derived.Test.YtknkbihjboadjaaEncAll
import Derived.Test.YtknkbihjboadjaaCopyFns3
import Derived.Test.YtknkbihjboadjaaGridRes
import Derived.Test.YtknkbihjboadjaaSheetFns
import Derived.Laws.BytesArg
namespace Go.Proofs.Ytknkbihjboadjaa
set_option maxRecDepth 20000
open Go.ChangeShapes Go.WideShapes Go.ChangeAt Go.RowKit
set_option linter.unusedVariables false
set_option linter.unusedSimpArgs false
set_option maxRecDepth 20000

/-- The characters of row y of a screen, their bytes; RowText's code and text. -/
def rowChars (s : Scr) (y : Int) : List Int := (List.range s.wd.toNat).map (fun i => (s.cs.getD ((y * s.wd).toNat + i) (0, 0)).1)
def rowOk (s : Scr) (y : Int) : Bool := decide (0 ≤ y ∧ y ≤ s.r - 1)
def rtCode (s : Scr) (y : Int) : Int := if scrCode s = 0 then (if rowOk s y = true then 0 else 3) else scrCode s
def rtText (s : Scr) (y : Int) : ByteArray := if scrCode s = 0 then (if rowOk s y = true then strOfNums ((rowChars s y).flatMap encL) else ⟨#[]⟩) else ⟨#[]⟩
theorem rowChars_length (s : Scr) (y : Int) : (rowChars s y).length = s.wd.toNat := by simp [rowChars]
theorem rowChars_get (s : Scr) (y : Int) (i : Nat) (h : i < s.wd.toNat) : (rowChars s y).getD i 0 = (s.cs.getD ((y * s.wd).toNat + i) (0, 0)).1 := by simp [rowChars, List.getD_eq_getElem?_getD, h]
theorem grid_of_scr {s : Scr} (h : scrCode s = 0) : gridCode s.r s.wd s.cs s.bs = 0 := by
  by_cases hg : gridCode s.r s.wd s.cs s.bs = 0
  · exact hg
  · rw [scr_grid hg] at h; exact absurd h hg
theorem cell_of_fine {r wd : Int} {cs bs : List (Int × Int)} (h : GFine r wd cs bs) (i : Nat) (hi : i < cs.length) : 0 ≤ (cs.getD i (0, 0)).1 ∧ (cs.getD i (0, 0)).1 ≤ 65535 := by
  have h1 := h.ok1
  unfold allC at h1
  rw [List.drop_zero, List.all_eq_true] at h1
  have h2 := h1 (cs.getD i (0, 0)) (by simp [List.getD_eq_getElem?_getD, hi])
  unfold cellB at h2
  simp only [Bool.and_eq_true] at h2
  exact chB_bounds h2.1
def grdR (s : Scr) (v1 v2 : Value) : Array Value := #[.int .i64 s.r, .int .i64 s.wd, v1, v2]
theorem scrA_grdR (s : Scr) (v1 v2 v3 v4 : Value) : ((scrA s v1 v2 v3 v4).toList.drop 0).take (grdR s v1 v2).size = (grdR s v1 v2).toList := rfl
set_option maxHeartbeats 4000000 in
theorem implRowText_calls (s : Scr) (v1 v2 v3 v4 : Value) (y : Int) (w : World) (hn1 : s.cs.length ≤ 1048576) (hn2 : s.bs.length ≤ 1048576) (hn3 : s.tabs.length ≤ 1048576) (hn4 : s.sets.length ≤ 1048576) (h : SRead w s v1 v2 v3 v4) :
    Calls Try.prog 16 #[.agg (scrA s v1 v2 v3 v4), .int .i64 y] w fun e w' => e = .returned (.agg #[.int .i64 (rtCode s y), .string (rtText s y)]) ∧ Below w.heap.size w w' := by
  have bel0 : Below w.heap.size w ((w.alloc (.cells (scrA s v1 v2 v3 v4) 34)).alloc (.cells #[.int .i64 0, .string ⟨#[]⟩] 45)) := (by repeat' (first | with_reducible exact Below.refl _ _ | with_reducible assumption | with_reducible refine Below.drew ?_ | with_reducible refine Below.alloc ?_ ?_ _ | with_reducible refine Below.setCell ?_ ?_ _ | (simp; done) | (simp; omega) | omega))
  have hA := (Blk.new w (scrA s v1 v2 v3 v4) 34).alloc (.cells #[.int .i64 0, .string ⟨#[]⟩] 45)
  have hR := Blk.new_at (w := w.alloc (.cells (scrA s v1 v2 v3 v4) 34)) (b := w.heap.size + 1) (by simp) #[.int .i64 0, .string ⟨#[]⟩] 45
  unfold rtCode rtText
  by_cases hc : scrCode s = 0
  · rw [if_pos hc, if_pos hc]
    cases hy : rowOk s y with
    | false =>
      rw [if_neg (by simp), if_neg (by simp)]
      go_enter Try.func16, Try.ntmps16
      go_wp2_with (first | fail | (refine wpList_load_at rfl 34 _ rfl (w.heap.size) 0 rfl _ (scrA s v1 v2 v3 v4) hA rfl _ Try.underlying34 rfl (by kernel_rfl) ?_; (try simp only [Act.put, List.setIfInBounds_toArray, List.set_cons_zero, List.set_cons_succ])))
      go_at_call 37
      refine (implScreenFault_calls s _ _ _ _ _ hn1 hn2 hn3 hn4 (h.below bel0)).mono ?_
      rintro e w1 ⟨rfl, hb⟩
      replace hA := hA.belowb hb
      replace hR := hR.belowb hb
      have bel1 := bel0.trans (hb.mono bel0.size)
      have z1 : w.heap.size + 2 ≤ w1.heap.size := by have := hb.size; simp at this; omega
      clear hb bel0
      have cA := hA.cells
      have e0 := scrA_0 s v1 v2 v3 v4
      obtain ⟨s1, s2, s3, s4, s5, s6⟩ := size_mul (gfine_of_code (grid_of_scr hc)).size
      have hw : IntKind.i64.wrap (s.r - 1) = s.r - 1 := wrap_small (by omega) (by omega)
      rw [hc]
      have hy' : decide (0 ≤ y ∧ y ≤ s.r - 1) = false := hy
      go_wp2_with (first | (go_at_call 52; refine (isFromTo_calls _ _ _ _).mono ?_; rintro e w' ⟨rfl, hw'⟩; rw [hw', hy']; clear hw' w') | (refine wpList_build_at rfl 45 _ rfl #[.int .i64 3, .string ⟨#[]⟩] (by first | rfl | kernel_rfl) ?_; (try simp only [Act.put, List.setIfInBounds_toArray, List.set_cons_zero, List.set_cons_succ])) | (refine wpList_store_blk rfl _ _ _ rfl (w.heap.size + 1) 0 #[.int .i64 0, .string ⟨#[]⟩] #[.int .i64 3, .string ⟨#[]⟩] (.agg #[.int .i64 3, .string ⟨#[]⟩]) rfl rfl hR rfl (by kernel_rfl) rfl rfl ?_; (try simp only [Act.put, List.setIfInBounds_toArray, List.set_cons_zero, List.set_cons_succ]); clear hR; intro w9 hR hu))
      exact bodyPost_ret (results_blk hR _ _ rfl rfl Try.underlying45 rfl (by kernel_rfl)) rfl ⟨rfl, bel1.trans (hu.below (by omega))⟩
    | true =>
      rw [if_pos rfl, if_pos rfl]
      have hF := gfine_of_code (grid_of_scr hc)
      obtain ⟨s1, s2, s3, s4, s5, s6⟩ := size_mul hF.size
      have hw : IntKind.i64.wrap (s.r - 1) = s.r - 1 := wrap_small (by omega) (by omega)
      have hy' : decide (0 ≤ y ∧ y ≤ s.r - 1) = true := hy
      have hyr : 0 ≤ y ∧ y ≤ s.r - 1 := of_decide_eq_true hy'
      obtain ⟨R, m, eR, eW, n1, n2, n3, n4, n5, n6, n7, n8, n9, n10⟩ := hF.nats
      obtain ⟨Y, rfl⟩ : ∃ Y : Nat, y = (Y : Int) := ⟨y.toNat, by omega⟩
      have hk : (Y : Int) * s.wd = ((Y * m : Nat) : Int) := by rw [eW, ← Int.natCast_mul]
      have hkm : Y * m + m ≤ s.cs.length := by rw [n5]; have := Nat.mul_le_mul_right m (show Y + 1 ≤ R by omega); rw [Nat.add_mul, Nat.one_mul] at this; exact this
      obtain ⟨cl, hcl⟩ : ∃ l, rowChars s (Y : Int) = l := ⟨_, rfl⟩
      have hlen : cl.length = m := by rw [← hcl, rowChars_length, eW]; simp
      have hget : ∀ i, i < m → cl.getD i 0 = (s.cs.getD (Y * m + i) (0, 0)).1 := by
        intro i hi
        rw [← hcl, rowChars_get _ _ _ (by rw [eW]; simpa using hi), show ((Y : Int) * s.wd).toNat = Y * m by rw [hk]; exact Int.toNat_natCast _]
      have hbd : ∀ i, i < m → 0 ≤ cl.getD i 0 ∧ cl.getD i 0 ≤ 65535 := fun i hi => by rw [hget i hi]; exact cell_of_fine hF _ (by omega)
      rw [hcl]
      go_enter Try.func16, Try.ntmps16
      go_wp2_with (first | fail | (refine wpList_load_at rfl 34 _ rfl (w.heap.size) 0 rfl _ (scrA s v1 v2 v3 v4) hA rfl _ Try.underlying34 rfl (by kernel_rfl) ?_; (try simp only [Act.put, List.setIfInBounds_toArray, List.set_cons_zero, List.set_cons_succ])))
      go_at_call 37
      refine (implScreenFault_calls s _ _ _ _ _ hn1 hn2 hn3 hn4 (h.below bel0)).mono ?_
      rintro e w1 ⟨rfl, hb⟩
      replace hA := hA.belowb hb
      replace hR := hR.belowb hb
      have bel1 := bel0.trans (hb.mono bel0.size)
      have z1 : w.heap.size + 2 ≤ w1.heap.size := by have := hb.size; simp at this; omega
      clear hb bel0
      have cA := hA.cells
      rw [hc]
      have HL := hide hlen
      have HG : Hid (∀ i, i < m → cl.getD i 0 = (s.cs.getD (Y * m + i) (0, 0)).1) := hget
      have HB : Hid (∀ i, i < m → 0 ≤ cl.getD i 0 ∧ cl.getD i 0 ≤ 65535) := hbd
      have HK := hide hk
      have HN := hide n5
      have HE := hide eW
      clear hlen hget hbd hcl hF n5 hy s5 s6 eR eW hk
      have e0 := scrA_0 s v1 v2 v3 v4
      go_wp2_with (first | fail | (go_at_call 52; refine (isFromTo_calls _ _ _ _).mono ?_; rintro e w' ⟨rfl, hw'⟩; rw [hw', hy']; clear hw' w') | (refine wpList_load_at rfl 32 _ rfl (w.heap.size) 0 rfl _ (grdR s v1 v2) hA (scrA_grdR s v1 v2 v3 v4) _ Try.underlying32 rfl (by kernel_rfl) ?_; (try simp only [Act.put, List.setIfInBounds_toArray, List.set_cons_zero, List.set_cons_succ])))
      go_at_call 53
      refine (sheetsOf_calls s.r s.wd s.cs s.bs _ _ _ hn1 hn2 (h.g1.below bel1) (h.g2.below bel1)).mono ?_
      rintro e w2 ⟨xx, yy, mm, rfl, hm1, hm2, hox, hlt, hoy, hb2⟩
      obtain ⟨bx, cap, rfl, hcap, _, hbx1, hbx2, hrow⟩ := own_row hox n8
      obtain ⟨ay, cy, rfl, _⟩ := own_room2 hoy
      replace hR := hR.belowb hb2
      have bel2 := bel1.trans (hb2.mono bel1.size)
      have z2 : w.heap.size + 2 ≤ w2.heap.size := by have := hb2.size; omega
      clear hb2 bel1 hA cA e0 hox hoy hlt hm1 hm2
      go_wp2_with fail
      go_at_call 54
      refine (row_calls s.wd Y bx 0 s.cs.length cap (Y * m) m _ ⟨hcap, _, rfl, fun _ => rfl⟩ HK.out HE.out (by omega) (by omega) hkm (by omega) _).mono ?_
      rintro e w3 ⟨vr, rfl, hsl, hb3⟩
      replace hb3 : Below w2.heap.size w2 w3 := by
        refine Below.trans ?_ (hb3.mono ?_)
        · exact (by repeat' (first | with_reducible exact Below.refl _ _ | with_reducible assumption | with_reducible refine Below.drew ?_ | with_reducible refine Below.alloc ?_ ?_ _ | with_reducible refine Below.setCell ?_ ?_ _ | (simp; done) | (simp; omega) | omega))
        · simp [World.setCell]; try omega
      replace hR := hR.belowb hb3
      have bel3 := bel2.trans (hb3.mono bel2.size)
      have z3 : w.heap.size + 2 ≤ w3.heap.size := by have := hb3.size; omega
      obtain ⟨hmc, av, rfl, hav⟩ := hsl
      have hav' := hav (by omega)
      subst hav'
      obtain ⟨of, hof⟩ : ∃ q, 0 + Y * m * 2 = q := ⟨_, rfl⟩
      have HC1 : Hid (∀ i, i < m → w3.cell? ⟨bx, of + i * 2, none⟩ = some (.int .i64 (cl.getD i 0)) ∧ ∃ g, w3.cell? ⟨bx, of + i * 2 + 1, none⟩ = some (.int .i64 g)) := by
        intro i hi
        have hr := hrow (Y * m + i) (by omega)
        rw [HG.out i hi, ← hof]
        refine ⟨?_, (s.cs.getD (Y * m + i) (0, 0)).2, ?_⟩
        · have := cellb hb3 hr.1.1; rw [show 0 + Y * m * 2 + i * 2 = 0 + (Y * m + i) * 2 by omega]; exact this
        · have := cellb hb3 hr.1.2; rw [show 0 + Y * m * 2 + i * 2 + 1 = 0 + (Y * m + i) * 2 + 1 by omega]; exact this
      rw [hof]
      clear hof hrow hb3 bel2 hav
      go_wp2_with fail
      go_loopw [8, 35] (fun o i wr => ∃ j : Nat, j ≤ m ∧ i = .int .i64 j ∧ wr.ownsRow w3.heap.size 5 1 o (encTo cl j).length (byteVs (encTo cl j)) ∧ Below w3.heap.size w3 wr) (fun _ i _ => m - (intOf i).toNat)
      case atStart => exact ⟨0, Nat.zero_le _, rfl, World.ownsRow_nil _ _ _ _, Below.refl _ _⟩
      case round =>
        obtain ⟨j, hjm, rfl, hown, hbr⟩ := hrel
        have z4 : w3.heap.size ≤ wr.heap.size := hbr.size
        replace hR := hR.below hbr (by omega)
        by_cases hlt : j < m
        · have hltI : (j : Int) < (m : Int) := by omega
          obtain ⟨hz0, hz1⟩ := HB.out j hlt
          obtain ⟨c1, gg, c2⟩ := HC1.out j hlt
          have g1 := cellb hbr c1
          have g2 := cellb hbr c2
          have hlen2 := encTo_length cl j
          have hsu := hide (encTo_succ cl j (by rw [HL.out]; exact hlt))
          have OW := hide hown
          have BR := hide hbr
          clear c1 c2 hown hbr
          generalize cl.getD j 0 = z at *
          go_wp2_with (go_at_call 55; refine (appendChar_calls z w3.heap.size _ _ _ _ hz0 hz1 (by omega) (by simp [World.setCell]; omega) (own_below OW.out (by repeat' (first | with_reducible exact Below.refl _ _ | with_reducible assumption | with_reducible refine Below.drew ?_ | with_reducible refine Below.alloc ?_ ?_ _ | with_reducible refine Below.setCell ?_ ?_ _ | (simp; done) | (simp; omega) | omega)))).mono ?_; rintro e w4 ⟨o', rfl, hown', hb'⟩)
          go_roundw
          case rel =>
            refine ⟨j + 1, by omega, by go_num, ?_, BR.out.trans ((show Below w3.heap.size wr _ from (by repeat' (first | with_reducible exact Below.refl _ _ | with_reducible assumption | with_reducible refine Below.drew ?_ | with_reducible refine Below.alloc ?_ ?_ _ | with_reducible refine Below.setCell ?_ ?_ _ | (simp; done) | (simp; omega) | omega))).trans hb')⟩
            rw [hsu.out, List.length_append, byteVs_append]
            exact hown'
          case measure => simp [intOf]; omega
        · obtain rfl : j = m := by omega
          have hge : ¬ ((j : Int) < (j : Int)) := by omega
          have hx : IntsAt .u8 w3.heap.size wr.heap.size wr _ (encTo cl j) := own_ints hown (Nat.le_refl _)
          have hE : encTo cl j = cl.flatMap encL := by unfold encTo; rw [List.take_of_length_le (by rw [HL.out]; omega)]
          have hne : encTo cl j ≠ [] := by
            rw [hE]
            have h0 : cl ≠ [] := by intro e; have := HL.out; rw [e] at this; simp at this; omega
            obtain ⟨z, zs, rfl⟩ := List.exists_cons_of_ne_nil h0
            rw [List.flatMap_cons]
            intro e
            exact encL_ne z (List.append_eq_nil_iff.1 e).1
          have bel4 := bel3.trans (hbr.mono bel3.size)
          obtain ⟨a9, cap9, rfl, hx⟩ := hx
          rcases hx with hx | ⟨b9, o9, rfl, _, _, hcell⟩
          · exact absurd hx hne
          have hcv := run_convert_bytes_arg (P := Try.prog) wr 96 5 Try.underlying96 Try.underlying5 b9 o9 (encTo cl j).length cap9 (encTo cl j) rfl (fun i hi => (hcell i hi).1) 9 Try.underlying9
          have HE2 := hide hE
          clear hE hne hcell hown hbr
          go_wp2_with (first | (refine wpList_build_at rfl 45 _ rfl #[.int .i64 0, .string (strOfNums (encTo cl j))] (by first | rfl | kernel_rfl) ?_; (try simp only [Act.put, List.setIfInBounds_toArray, List.set_cons_zero, List.set_cons_succ])) | (refine wpList_store_blk rfl _ _ _ rfl (w.heap.size + 1) 0 #[.int .i64 0, .string ⟨#[]⟩] #[.int .i64 0, .string (strOfNums (encTo cl j))] (.agg #[.int .i64 0, .string (strOfNums (encTo cl j))]) rfl rfl hR rfl (by kernel_rfl) rfl rfl ?_; (try simp only [Act.put, List.setIfInBounds_toArray, List.set_cons_zero, List.set_cons_succ]); clear hR; intro w9 hR hu))
          exact bodyPost_ret (results_blk hR _ _ rfl rfl Try.underlying45 rfl (by kernel_rfl)) rfl ⟨by rw [HE2.out], bel4.trans (hu.below (by omega))⟩
  · rw [if_neg hc, if_neg hc]
    obtain ⟨code, hcd⟩ : ∃ c, scrCode s = c := ⟨_, rfl⟩
    rw [hcd]
    have hne : (code != 0) = true := by rw [← hcd]; simpa using hc
    have HC := hide hcd
    clear hc hcd
    go_enter Try.func16, Try.ntmps16
    go_wp2_with (first | fail | (refine wpList_load_at rfl 34 _ rfl (w.heap.size) 0 rfl _ (scrA s v1 v2 v3 v4) hA rfl _ Try.underlying34 rfl (by kernel_rfl) ?_; (try simp only [Act.put, List.setIfInBounds_toArray, List.set_cons_zero, List.set_cons_succ])))
    go_at_call 37
    refine (implScreenFault_calls s _ _ _ _ _ hn1 hn2 hn3 hn4 (h.below bel0)).mono ?_
    rintro e w1 ⟨rfl, hb⟩
    replace hA := hA.belowb hb
    replace hR := hR.belowb hb
    have bel1 := bel0.trans (hb.mono bel0.size)
    have z1 : w.heap.size + 2 ≤ w1.heap.size := by have := hb.size; simp at this; omega
    clear hb bel0
    have cA := hA.cells
    rw [HC.out]
    go_wp2_with (first | (refine wpList_build_at rfl 45 _ rfl #[.int .i64 code, .string ⟨#[]⟩] (by first | rfl | kernel_rfl) ?_; (try simp only [Act.put, List.setIfInBounds_toArray, List.set_cons_zero, List.set_cons_succ])) | (refine wpList_store_blk rfl _ _ _ rfl (w.heap.size + 1) 0 #[.int .i64 0, .string ⟨#[]⟩] #[.int .i64 code, .string ⟨#[]⟩] (.agg #[.int .i64 code, .string ⟨#[]⟩]) rfl rfl hR rfl (by kernel_rfl) rfl rfl ?_; (try simp only [Act.put, List.setIfInBounds_toArray, List.set_cons_zero, List.set_cons_succ]); clear hR; intro w9 hR hu))
    exact bodyPost_ret (results_blk hR _ _ rfl rfl Try.underlying45 rfl (by kernel_rfl)) rfl ⟨rfl, bel1.trans (hu.below (by omega))⟩
end Go.Proofs.Ytknkbihjboadjaa
