/-
  A row of a screen as bytes: l7Row of the model; appendRow and putRows of the program.
-/
import Derived.Test.YtknkbihjboadjaaDoorAttrFns
import Derived.Test.YtknkbihjboadjaaDoorRowText2
namespace Go.Proofs.YtknkbihjboadjaaDoor
set_option maxRecDepth 20000
open Go.ChangeShapes Go.WideShapes Go.ChangeAt Go.RowKit
set_option linter.unusedVariables false
set_option linter.unusedSimpArgs false
set_option maxRecDepth 20000

/-- The cells of row y; the bytes of the first k of them. -/
def rowCells (s : Scr) (y : Int) : List (Int × Int) := (List.range s.wd.toNat).map (fun i => s.cs.getD ((y * s.wd).toNat + i) (0, 0))
def attrAt (cl : List (Int × Int)) (k : Nat) : List Int := if k = 0 ∨ ¬ (cl.getD k (0, 0)).2 = (cl.getD (k - 1) (0, 0)).2 then attrL (cl.getD k (0, 0)).2 else []
def rowTo (cl : List (Int × Int)) : Nat → List Int
  | 0 => []
  | k + 1 => rowTo cl k ++ (attrAt cl k ++ encL (cl.getD k (0, 0)).1)
def rowL (s : Scr) (y : Int) : List Int := placeL y 0 ++ rowTo (rowCells s y) s.wd.toNat
theorem rowCells_length (s : Scr) (y : Int) : (rowCells s y).length = s.wd.toNat := by simp [rowCells]
theorem rowCells_get (s : Scr) (y : Int) (i : Nat) (h : i < s.wd.toNat) : (rowCells s y).getD i (0, 0) = s.cs.getD ((y * s.wd).toNat + i) (0, 0) := by simp [rowCells, List.getD_eq_getElem?_getD, h]
theorem attrL_len {a : Int} (h0 : 0 ≤ a) (h1 : a ≤ 31) : (attrL a).length ≤ 20 := by
  have hd := dig_len (n := 30 + a % 8) (by omega)
  unfold attrL attrNs seqL
  cases boldB a <;> cases turnB a <;> simp [joinL, dig_0, dig_1, dig_7] <;> omega
theorem placeL_len {y x : Int} (h0 : y ≤ 99999) (h1 : x ≤ 99999) : (placeL y x).length ≤ 20 := by
  have hd := dig_len (n := y + 1) (by omega)
  have he := dig_len (n := x + 1) (by omega)
  unfold placeL seqL
  simp [joinL]
  omega
def okCells (cl : List (Int × Int)) : Prop := ∀ k, k < cl.length → (0 ≤ (cl.getD k (0, 0)).1 ∧ (cl.getD k (0, 0)).1 ≤ 65535) ∧ 0 ≤ (cl.getD k (0, 0)).2 ∧ (cl.getD k (0, 0)).2 ≤ 31
theorem rowTo_len {cl : List (Int × Int)} (h : okCells cl) : ∀ k, k ≤ cl.length → (rowTo cl k).length ≤ 23 * k
  | 0, _ => by simp [rowTo]
  | k + 1, hk => by
    have ih := rowTo_len h k (by omega)
    obtain ⟨_, a0, a1⟩ := h k (by omega)
    have h1 : (attrAt cl k).length ≤ 20 := by
      unfold attrAt
      split
      · exact attrL_len a0 a1
      · simp
    have h2 := encL_length (cl.getD k (0, 0)).1
    rw [rowTo, List.length_append, List.length_append]
    omega
theorem cellat_fine {r wd : Int} {cs bs : List (Int × Int)} (h : GFine r wd cs bs) (i : Nat) (hi : i < cs.length) : (0 ≤ (cs.getD i (0, 0)).1 ∧ (cs.getD i (0, 0)).1 ≤ 65535) ∧ 0 ≤ (cs.getD i (0, 0)).2 ∧ (cs.getD i (0, 0)).2 ≤ 31 := by
  have h1 := h.ok1
  unfold allC at h1
  rw [List.drop_zero, List.all_eq_true] at h1
  have h2 := h1 (cs.getD i (0, 0)) (by simp [List.getD_eq_getElem?_getD, hi])
  unfold cellB at h2
  simp only [Bool.and_eq_true] at h2
  refine ⟨chB_bounds h2.1, ?_⟩
  have h3 := h2.2
  unfold atB at h3
  simp at h3
  simpa using h3.2.2
theorem own_kept2 {w w' : World} {B n s : Nat} {e : TypeId} {v : Value} {xs : List Value} (h : w.ownsRow B e s v n xs) (hne : 5 ≠ e) (hk : Kept w w') : w'.ownsRow B e s v n xs := by
  refine ⟨h.1, ?_⟩
  rcases h.2 with h | ⟨g, cap, cur, rfl, hb, hg, rest⟩
  · exact .inl h
  · exact .inr ⟨g, cap, cur, rfl, hb, hk g _ hg (by simp) (fun c fz => by intro e; injection e with e1 e2; exact hne e2.symm), rest⟩
theorem OwnX.kind {w : World} {B n : Nat} {e : TypeId} {v : Value} {xs : List Value} (h : OwnX w B e v n xs) : ∀ g, v.ownBlock = some g → ∃ c fz, w.heap[g]? = some (.cells c e fz) := by
  intro g hg
  rcases h.2 with ⟨rfl, _⟩ | ⟨g', cap, cur, fz, rfl, _, hgg, _⟩
  · simp [Value.ownBlock] at hg
  · simp [Value.ownBlock] at hg
    subst hg
    exact ⟨cur, fz, hgg⟩
theorem attrAt_first {cl : List (Int × Int)} : attrAt cl 0 = attrL (cl.getD 0 (0, 0)).2 := by unfold attrAt; rw [if_pos (.inl rfl)]
theorem attrAt_new {cl : List (Int × Int)} {k : Nat} (h : ¬ (cl.getD k (0, 0)).2 = (cl.getD (k - 1) (0, 0)).2) : attrAt cl k = attrL (cl.getD k (0, 0)).2 := by unfold attrAt; rw [if_pos (.inr h)]
theorem attrAt_old {cl : List (Int × Int)} {k : Nat} (h0 : 0 < k) (h : (cl.getD k (0, 0)).2 = (cl.getD (k - 1) (0, 0)).2) : attrAt cl k = [] := by 
  unfold attrAt
  rw [if_neg]
  intro h1
  rcases h1 with h1 | h1
  · omega
  · exact h1 h
set_option maxHeartbeats 8000000 in
theorem l7Row_o (s : Scr) (v1 v2 v3 v4 : Value) (y : Int) (b ob : Nat) (w : World) (hc : scrCode s = 0) (hy : rowOk s y = true) (hB : Seg w b ob (scrA s v1 v2 v3 v4)) (hcap : Capped v1) (h1 : PRead w v1 s.cs) :
    Calls Tryd.prog 49 #[.pointer (some ⟨b, ob, none⟩), .int .i64 y] w fun e w' => ∃ v, e = .returned v ∧ OwnX w' w.heap.size 5 v (rowL s y).length ((rowL s y).map (Value.int .u8)) ∧ Below w.heap.size w w' := by
  have hF := gfine_of_code (grid_of_scr hc)
  have hyr : 0 ≤ y ∧ y ≤ s.r - 1 := of_decide_eq_true hy
  obtain ⟨R, m, eR, eW, n1, n2, n3, n4, n5, n6, n7, n8, n9, n10⟩ := hF.nats
  obtain ⟨Y, rfl⟩ : ∃ Y : Nat, y = (Y : Int) := ⟨y.toNat, by omega⟩
  have hk : (Y : Int) * s.wd = ((Y * m : Nat) : Int) := by rw [eW, ← Int.natCast_mul]
  have hkm : Y * m + m ≤ s.cs.length := by rw [n5]; have := Nat.mul_le_mul_right m (show Y + 1 ≤ R by omega); rw [Nat.add_mul, Nat.one_mul] at this; exact this
  obtain ⟨cl, hcl⟩ : ∃ l, rowCells s (Y : Int) = l := ⟨_, rfl⟩
  have hlen : cl.length = m := by rw [← hcl, rowCells_length, eW]; simp
  have hget : ∀ i, i < m → cl.getD i (0, 0) = s.cs.getD (Y * m + i) (0, 0) := by
    intro i hi
    rw [← hcl, rowCells_get _ _ _ (by rw [eW]; simpa using hi), show ((Y : Int) * s.wd).toNat = Y * m by rw [hk]; exact Int.toNat_natCast _]
  have hok : okCells cl := fun i hi => by rw [hget i (by omega)]; exact cellat_fine hF _ (by omega)
  have hrl : rowL s (Y : Int) = placeL (Y : Int) 0 ++ rowTo cl m := by unfold rowL; rw [hcl, eW]; simp
  rw [hrl]
  obtain ⟨i0, hi, hz0, hz1, hz2⟩ := info_parts info_u8s
  have hh1 := h1
  obtain ⟨a1, c1, rfl, hx1⟩ := hh1
  obtain ⟨bx, off, rfl, hxr⟩ : ∃ bx off, a1 = some ⟨bx, off, none⟩ ∧ RowR w bx off s.cs.length (fun i => s.cs.getD i (0, 0)) := by
    rcases hx1 with hx1 | ⟨bx, off, hx1, hx⟩
    · rw [hx1] at hkm; simp at hkm; omega
    · exact ⟨bx, off, hx1, hx⟩
  have hcc : s.cs.length ≤ c1 := hcap _ _ _ rfl
  have c0 := hB.at 1 (scrA_1 s _ v2 v3 v4)
  have c2 := hB.at 2 (scrA_2 s _ v2 v3 v4)
  have hpl := placeL_len (y := (Y : Int)) (x := 0) (by omega) (by omega)
  have hbl := hB.lt
  have hxl := hxr.lt (by omega)
  have HL := hide hlen
  have HOK := hide hok
  have HG : Hid (∀ i, i < m → cl.getD i (0, 0) = s.cs.getD (Y * m + i) (0, 0)) := hget
  have HRL := fun k (hk : k ≤ m) => rowTo_len hok k (by rw [hlen]; exact hk)
  have HRR := hide hxr
  have HKM := hide hk
  have HEW := hide eW
  have hm0 : 0 < m := by omega
  have hY : (Y : Int) ≤ 5 := by omega
  have hY0 : (0 : Int) ≤ (Y : Int) := by omega
  have hmle : Y * m + m ≤ 100 := by omega
  clear hcl hlen hget hok hrl h1 hx1 hxr hF hyr n5 n6 n7 n10 hcap hy hc eR eW hk
  go_enter Tryd.func49, Tryd.ntmps49
  go_wp2_with fail
  go_at_call 74
  refine (l7Place_calls (Y : Int) 0 _ (by omega) (by omega) (by omega) (by omega)).mono ?_
  rintro e w1 ⟨vp, rfl, oxp, hb1⟩
  obtain ⟨ap, cp, rfl⟩ := oxp.form
  replace c0 := cellb hb1 c0
  replace c2 := cellb hb1 c2
  have hz1' := hb1.size
  go_wp2_with fail
  go_at_call 75
  refine (l3RowOf_o b ob bx off s.cs.length c1 (Y * m) m (Y * m + m) (Y : Int) s.wd (fun i => s.cs.getD i (0, 0)) w1 c0 c2 (HRR.out.below hb1 (by omega)) hcc HKM.out HEW.out rfl hkm (by omega) hm0 (by omega) (by omega)).mono ?_
  rintro e w2 ⟨vr, rfl, hrow, hb2⟩
  obtain ⟨br, cr, rfl, _⟩ := own_row hrow hm0
  have HV := hide hrow
  have b2 := hb1.trans (hb2.mono hz1')
  have HO0 : Hid (OwnX w2 w.heap.size 5 (.slice ap (placeL (Y : Int) 0).length cp) ((placeL (Y : Int) 0).length + (rowTo cl 0).length) ((placeL (Y : Int) 0 ++ rowTo cl 0).map (Value.int .u8))) := by
    refine hide ?_
    simpa [rowTo] using oxp.belowb hb2
  clear hrow oxp hb1 hb2 c0 c2 HRR HKM
  go_wp2
  go_loopw [5, 7] (fun o i wr => ∃ k : Nat, k ≤ m ∧ i = .int .i64 k ∧ Hid (OwnX wr w.heap.size 5 o ((placeL (Y : Int) 0).length + (rowTo cl k).length) ((placeL (Y : Int) 0 ++ rowTo cl k).map (Value.int .u8))) ∧ Below w.heap.size w wr ∧ Kept w2 wr) (fun _ i _ => m - (intOf i).toNat)
  case atStart => exact ⟨0, Nat.zero_le _, rfl, HO0, b2, Lib.OthersKept.refl _ _ _⟩
  case round =>
    obtain ⟨k, hkm', rfl, hO, hb, hK⟩ := hrel
    have hsz := hb.size
    by_cases hlt : k < m
    · have hltI : (k : Int) < (m : Int) := by omega
      have hmk : ∀ i, i < m → (mkL m (fun i => s.cs.getD (Y * m + i) (0, 0))).getD i (0, 0) = cl.getD i (0, 0) := fun i hi => by rw [mkL_get _ _ _ hi, HG.out i hi]
      obtain ⟨zc, hzc⟩ : ∃ z, (cl.getD k (0, 0)).1 = z := ⟨_, rfl⟩
      obtain ⟨za, hza⟩ : ∃ z, (cl.getD k (0, 0)).2 = z := ⟨_, rfl⟩
      obtain ⟨⟨zc0, zc1⟩, za0, za1⟩ := HOK.out k (by rw [HL.out]; exact hlt)
      rw [hzc] at zc0 zc1
      rw [hza] at za0 za1
      have hV := own_kept2 HV.out (by decide) hK
      obtain ⟨b9, c9, e9, _, _, _, _, hrow2⟩ := own_row hV hm0
      injection e9 with e9 e10 e11
      injection e9 with e9
      injection e9 with e9
      subst e9 e11
      have gk : wr.cell? ⟨br, k * 2 + 1, none⟩ = some (.int .i64 za) := by
        have := (hrow2 k hlt).1.2
        simp only [hmk k hlt, hza, Nat.zero_add] at this
        exact this
      obtain ⟨P, hP⟩ : ∃ P, rowTo cl k = P := ⟨_, rfl⟩
      have hjs : rowTo cl (k + 1) = P ++ (attrAt cl k ++ encL zc) := by rw [rowTo, hP, hzc]
      have hpl2 := HRL k hkm'
      rw [hP] at hpl2
      have hO' := hO.out
      rw [hP] at hO'
      have hal := attrL_len za0 za1
      have hel := encL_length zc
      have gz : wr.cell? ⟨br, k * 2, none⟩ = some (.int .i64 zc) := by
        have := (hrow2 k hlt).1.1
        simp only [hmk k hlt, hzc, Nat.zero_add] at this
        exact this
      clear hO hP
      by_cases hk0 : k = 0
      · have HAT : attrAt cl k = attrL za := by rw [← hza]; subst hk0; exact attrAt_first
        have hk0I : ((k : Int) == 0) = true := by simp; omega
        clear hk0
        rw [HAT] at hjs
        have HS := hide hjs
        clear hjs HAT
        go_wp2_with fail
        refine wp_region_held_drew (S := (fun w' => w'.cell? ⟨br, k * 2 + 1, none⟩ = some (.int .i64 za))) (by kernel_rfl) ?_ (fun hHeld => ?_)
        · (try dsimp only); exact gk
        refine wpAnyH_take (i := 0) (oi := ⟨_, _, _, _, _, _⟩) (v := ?_) rfl (by kernel_rfl) (by kernel_rfl) (by kernel_rfl) (fun _ _ _ h => h) (Or.inl ⟨by rfl, ?_⟩) hHeld ?_
        rotate_left
        · (intro w hSw; (try dsimp only at hSw); go_simp; try (with_reducible rfl))
        try simp only [Act.put, List.setIfInBounds_toArray, List.set_cons_zero, List.set_cons_succ]
        refine wpAnyH_take (i := 1) (oi := ⟨_, _, _, _, _, _⟩) (v := ?_) rfl (by kernel_rfl) (by kernel_rfl) (by kernel_rfl) (fun _ _ _ h => h) (Or.inl ⟨by rfl, ?_⟩) hHeld ?_
        rotate_left
        · (intro w hSw; (try dsimp only at hSw); go_simp; try (with_reducible rfl))
        try simp only [Act.put, List.setIfInBounds_toArray, List.set_cons_zero, List.set_cons_succ]
        refine wpAnyH_take (i := 2) (oi := ⟨_, _, _, _, _, _⟩) (v := ?_) rfl (by kernel_rfl) (by kernel_rfl) (by kernel_rfl) (fun _ _ _ h => h) (Or.inl ⟨by rfl, ?_⟩) hHeld ?_
        rotate_left
        · (intro w hSw; (try dsimp only at hSw); go_simp; try (with_reducible rfl))
        try simp only [Act.put, List.setIfInBounds_toArray, List.set_cons_zero, List.set_cons_succ]
        refine wpAnyH_take (i := 3) (oi := ⟨_, _, _, _, _, _⟩) (v := undef) rfl (by kernel_rfl) (by kernel_rfl) (by kernel_rfl) (fun _ _ _ h => h) (Or.inr ⟨by rfl, rfl⟩) hHeld ?_
        try simp only [Act.put, List.setIfInBounds_toArray, List.set_cons_zero, List.set_cons_succ]
        refine wpAnyH_take (i := 4) (oi := ⟨_, _, _, _, _, _⟩) (v := undef) rfl (by kernel_rfl) (by kernel_rfl) (by kernel_rfl) (fun _ _ _ h => h) (Or.inr ⟨by rfl, rfl⟩) hHeld ?_
        try simp only [Act.put, List.setIfInBounds_toArray, List.set_cons_zero, List.set_cons_succ]
        refine wpAnyH_take (i := 5) (oi := ⟨_, _, _, _, _, _⟩) (v := undef) rfl (by kernel_rfl) (by kernel_rfl) (by kernel_rfl) (fun _ _ _ h => h) (Or.inr ⟨by rfl, rfl⟩) hHeld ?_
        try simp only [Act.put, List.setIfInBounds_toArray, List.set_cons_zero, List.set_cons_succ]
        refine wpAnyH_take (i := 6) (oi := ⟨_, _, _, _, _, _⟩) (v := undef) rfl (by kernel_rfl) (by kernel_rfl) (by kernel_rfl) (fun _ _ _ h => h) (Or.inr ⟨by rfl, rfl⟩) hHeld ?_
        try simp only [Act.put, List.setIfInBounds_toArray, List.set_cons_zero, List.set_cons_succ]
        refine wpAnyH_take (i := 7) (oi := ⟨_, _, _, _, _, _⟩) (v := undef) rfl (by kernel_rfl) (by kernel_rfl) (by kernel_rfl) (fun _ _ _ h => h) (Or.inr ⟨by rfl, rfl⟩) hHeld ?_
        try simp only [Act.put, List.setIfInBounds_toArray, List.set_cons_zero, List.set_cons_succ]
        refine wpAnyH_take (i := 8) (oi := ⟨_, _, _, _, _, _⟩) (v := undef) rfl (by kernel_rfl) (by kernel_rfl) (by kernel_rfl) (fun _ _ _ h => h) (Or.inr ⟨by rfl, rfl⟩) hHeld ?_
        try simp only [Act.put, List.setIfInBounds_toArray, List.set_cons_zero, List.set_cons_succ]
        refine wpAnyH_take (i := 9) (oi := ⟨_, _, _, _, _, _⟩) (v := undef) rfl (by kernel_rfl) (by kernel_rfl) (by kernel_rfl) (fun _ _ _ h => h) (Or.inr ⟨by rfl, rfl⟩) hHeld ?_
        try simp only [Act.put, List.setIfInBounds_toArray, List.set_cons_zero, List.set_cons_succ]
        refine wpAnyH_take (i := 10) (oi := ⟨_, _, _, _, _, _⟩) (v := undef) rfl (by kernel_rfl) (by kernel_rfl) (by kernel_rfl) (fun _ _ _ h => h) (Or.inr ⟨by rfl, rfl⟩) hHeld ?_
        try simp only [Act.put, List.setIfInBounds_toArray, List.set_cons_zero, List.set_cons_succ]
        refine wpAnyH_take (i := 11) (oi := ⟨_, _, _, _, _, _⟩) (v := undef) rfl (by kernel_rfl) (by kernel_rfl) (by kernel_rfl) (fun _ _ _ h => h) (Or.inr ⟨by rfl, rfl⟩) hHeld ?_
        try simp only [Act.put, List.setIfInBounds_toArray, List.set_cons_zero, List.set_cons_succ]
        refine wpAnyH_take (i := 12) (oi := ⟨_, _, _, _, _, _⟩) (v := undef) rfl (by kernel_rfl) (by kernel_rfl) (by kernel_rfl) (fun _ _ _ h => h) (Or.inr ⟨by rfl, rfl⟩) hHeld ?_
        try simp only [Act.put, List.setIfInBounds_toArray, List.set_cons_zero, List.set_cons_succ]
        refine wpAnyH_take (i := 13) (oi := ⟨_, _, _, _, _, _⟩) (v := undef) rfl (by kernel_rfl) (by kernel_rfl) (by kernel_rfl) (fun _ _ _ h => h) (Or.inr ⟨by rfl, rfl⟩) hHeld ?_
        try simp only [Act.put, List.setIfInBounds_toArray, List.set_cons_zero, List.set_cons_succ]
        refine wpAnyH_take (i := 14) (oi := ⟨_, _, _, _, _, _⟩) (v := undef) rfl (by kernel_rfl) (by kernel_rfl) (by kernel_rfl) (fun _ _ _ h => h) (Or.inr ⟨by rfl, rfl⟩) hHeld ?_
        try simp only [Act.put, List.setIfInBounds_toArray, List.set_cons_zero, List.set_cons_succ]
        refine wpAnyH_take (i := 15) (oi := ⟨_, _, _, _, _, _⟩) (v := ?_) rfl (by kernel_rfl) (by kernel_rfl) (by kernel_rfl) (fun _ _ _ h => h) (Or.inl ⟨by rfl, ?_⟩) hHeld ?_
        rotate_left
        · (intro w hSw; (try dsimp only at hSw); go_simp; try (with_reducible rfl))
        try simp only [Act.put, List.setIfInBounds_toArray, List.set_cons_zero, List.set_cons_succ]
        refine wpAnyH_done (by kernel_rfl) ?_ _
        clear hHeld
        go_wp2_with fail
        go_at_call 45
        refine (l7Attr_calls za _ za0 za1).mono ?_
        rintro e w3 ⟨v3, rfl, ox3, hb3'⟩
        have hb3 : Below wr.heap.size wr w3 := (Below.drew (Below.refl wr.heap.size wr)).trans hb3'
        clear hb3'
        obtain ⟨a3, c3, rfl⟩ := ox3.form
        have hr3 := ox3.ints.read
        have ho3 := hO'.belowb hb3
        have z3 := hb3.size
        have gz3 := cellb hb3 gz
        go_wp2_with (at_builtin; refine wpList_append_X _ rfl (.tmp 37) (.tmp 43) 30 rfl w.heap.size 5 .u8 i0 (.int .u8 0) 1 Tryd.underlying30 hi hz0 hz1 hz2 rfl _ _ _ rfl ho3 a3 (attrL za) _ c3 rfl rfl hr3 (by unfold maxLen; omega) (by omega) (by omega) ?_)
        intro v4 w4 ho4 hgr
        have k4 : Kept w2 w4 := (Lib.OthersKept.trans hK (kept_below hb3)).grown hgr ho3.kind
        have b4 : Below w.heap.size w w4 := (hb.trans (hb3.mono hsz)).grown hgr (by omega) (fun g hg => (ho3.lt g hg).1)
        clear hgr ho3 hr3 ox3 hb3 gz3
        have z4 := b4.size
        have hV4 := own_kept2 HV.out (by decide) k4
        obtain ⟨b8, c8, e8, _, _, _, _, hrow4⟩ := own_row hV4 hm0
        injection e8 with e8 e80 e81
        injection e8 with e8
        injection e8 with e8
        subst e8 e81
        have gz4 : w4.cell? ⟨br, k * 2, none⟩ = some (.int .i64 zc) := by
          have := (hrow4 k hlt).1.1
          simp only [hmk k hlt, hzc, Nat.zero_add] at this
          exact this
        clear hrow4 hV4
        go_wp2_with fail
        go_at_call 76
        refine (l1Encode_calls zc _ zc0 zc1).mono ?_
        rintro e w5 ⟨v5, rfl, hx, hb5'⟩
        have hb5 : Below w4.heap.size w4 w5 := hb5'
        clear hb5'
        obtain ⟨a5, c5, rfl, hx'⟩ := id hx
        have hr5 := hx.read
        have ho5 := ho4.belowb hb5
        have z5 := hb5.size
        go_wp2_with (at_builtin; refine wpList_append_X _ rfl (.tmp 45) (.tmp 51) 30 rfl w.heap.size 5 .u8 i0 (.int .u8 0) 1 Tryd.underlying30 hi hz0 hz1 hz2 rfl _ _ _ rfl ho5 a5 (encL zc) _ c5 rfl rfl hr5 (by unfold maxLen; omega) (by omega) (by omega) ?_)
        intro v6 w6 ho6 hgr
        have k6 : Kept w2 w6 := (Lib.OthersKept.trans k4 (kept_below hb5)).grown hgr ho5.kind
        have b6 : Below w.heap.size w w6 := (b4.trans (hb5.mono b4.size)).grown hgr (by omega) (fun g hg => (ho5.lt g hg).1)
        clear hgr ho5 hr5 hx hx' hb5 gz4
        have HO6 : Hid (OwnX w6 w.heap.size 5 v6 ((placeL (Y : Int) 0).length + (rowTo cl (k + 1)).length) ((placeL (Y : Int) 0 ++ rowTo cl (k + 1)).map (Value.int .u8))) := by
          refine hide ?_
          rw [HS.out]
          have e1 : (placeL (Y : Int) 0).length + P.length + (attrL za).length + (encL zc).length = (placeL (Y : Int) 0).length + (P ++ (attrL za ++ encL zc)).length := by simp; omega
          rw [← e1]
          have e2 := ho6
          simpa [Nat.add_assoc] using e2
        clear ho6
        go_wp2
        go_roundw
        case rel => exact ⟨k + 1, by omega, by go_num, HO6, b6, k6⟩
        case measure => simp [intOf]; omega
      · obtain ⟨k1, hk1⟩ : ∃ k1, k = k1 + 1 := ⟨k - 1, by omega⟩
        have hlt1 : k1 < m := by omega
        obtain ⟨zb, hzb⟩ : ∃ z, (cl.getD k1 (0, 0)).2 = z := ⟨_, rfl⟩
        have gb : wr.cell? ⟨br, k1 * 2 + 1, none⟩ = some (.int .i64 zb) := by
          have := (hrow2 k1 hlt1).1.2
          simp only [hmk k1 hlt1, hzb, Nat.zero_add] at this
          exact this
        have hs1 : IntKind.i64.wrap ((k : Int) - 1) = (k1 : Int) := by rw [wrap_small (by omega) (by omega)]; omega
        have hlt1I : (k1 : Int) < (m : Int) := by omega
        have hk0I : ((k : Int) == 0) = false := by simp; omega
        by_cases hne : za = zb
        · have HAT : attrAt cl k = [] := attrAt_old (by omega) (by rw [hza, show k - 1 = k1 by omega, hzb]; exact hne)
          have hneB : (za != zb) = false := by simpa using hne
          have HK1 := hide hk1
          have HNE := hide hne
          clear hk1 hne
          rw [HAT] at hjs
          have HS := hide hjs
          clear hjs HAT
          go_wp2_with fail
          refine wp_region_held_drew (S := (fun w' => w'.cell? ⟨br, k * 2 + 1, none⟩ = some (.int .i64 za) ∧ w'.cell? ⟨br, k1 * 2 + 1, none⟩ = some (.int .i64 zb))) (by kernel_rfl) ?_ (fun hHeld => ?_)
          · (try dsimp only); exact ⟨gk, gb⟩
          refine wpAnyH_take (i := 0) (oi := ⟨_, _, _, _, _, _⟩) (v := ?_) rfl (by kernel_rfl) (by kernel_rfl) (by kernel_rfl) (fun _ _ _ h => h) (Or.inl ⟨by rfl, ?_⟩) hHeld ?_
          rotate_left
          · (intro w hSw; (try dsimp only at hSw); go_simp; try (with_reducible rfl))
          try simp only [Act.put, List.setIfInBounds_toArray, List.set_cons_zero, List.set_cons_succ]
          refine wpAnyH_take (i := 1) (oi := ⟨_, _, _, _, _, _⟩) (v := ?_) rfl (by kernel_rfl) (by kernel_rfl) (by kernel_rfl) (fun _ _ _ h => h) (Or.inl ⟨by rfl, ?_⟩) hHeld ?_
          rotate_left
          · (intro w hSw; (try dsimp only at hSw); go_simp; try (with_reducible rfl))
          try simp only [Act.put, List.setIfInBounds_toArray, List.set_cons_zero, List.set_cons_succ]
          refine wpAnyH_take (i := 2) (oi := ⟨_, _, _, _, _, _⟩) (v := ?_) rfl (by kernel_rfl) (by kernel_rfl) (by kernel_rfl) (fun _ _ _ h => h) (Or.inl ⟨by rfl, ?_⟩) hHeld ?_
          rotate_left
          · (intro w hSw; (try dsimp only at hSw); go_simp; try (with_reducible rfl))
          try simp only [Act.put, List.setIfInBounds_toArray, List.set_cons_zero, List.set_cons_succ]
          refine wpAnyH_take (i := 3) (oi := ⟨_, _, _, _, _, _⟩) (v := ?_) rfl (by kernel_rfl) (by kernel_rfl) (by kernel_rfl) (fun _ _ _ h => h) (Or.inl ⟨by rfl, ?_⟩) hHeld ?_
          rotate_left
          · (intro w hSw; (try dsimp only at hSw); go_simp; try (with_reducible rfl))
          try simp only [Act.put, List.setIfInBounds_toArray, List.set_cons_zero, List.set_cons_succ]
          refine wpAnyH_take (i := 4) (oi := ⟨_, _, _, _, _, _⟩) (v := ?_) rfl (by kernel_rfl) (by kernel_rfl) (by kernel_rfl) (fun _ _ _ h => h) (Or.inl ⟨by rfl, ?_⟩) hHeld ?_
          rotate_left
          · (intro w hSw; (try dsimp only at hSw); go_simp; try (with_reducible rfl))
          try simp only [Act.put, List.setIfInBounds_toArray, List.set_cons_zero, List.set_cons_succ]
          refine wpAnyH_take (i := 5) (oi := ⟨_, _, _, _, _, _⟩) (v := ?_) rfl (by kernel_rfl) (by kernel_rfl) (by kernel_rfl) (fun _ _ _ h => h) (Or.inl ⟨by rfl, ?_⟩) hHeld ?_
          rotate_left
          · (intro w hSw; (try dsimp only at hSw); go_simp; try (with_reducible rfl))
          try simp only [Act.put, List.setIfInBounds_toArray, List.set_cons_zero, List.set_cons_succ]
          refine wpAnyH_take (i := 6) (oi := ⟨_, _, _, _, _, _⟩) (v := ?_) rfl (by kernel_rfl) (by kernel_rfl) (by kernel_rfl) (fun _ _ _ h => h) (Or.inl ⟨by rfl, ?_⟩) hHeld ?_
          rotate_left
          · (intro w hSw; (try dsimp only at hSw); go_simp; try (with_reducible rfl))
          try simp only [Act.put, List.setIfInBounds_toArray, List.set_cons_zero, List.set_cons_succ]
          refine wpAnyH_take (i := 7) (oi := ⟨_, _, _, _, _, _⟩) (v := ?_) rfl (by kernel_rfl) (by kernel_rfl) (by kernel_rfl) (fun _ _ _ h => h) (Or.inl ⟨by rfl, ?_⟩) hHeld ?_
          rotate_left
          · (intro w hSw; (try dsimp only at hSw); go_simp; try (with_reducible rfl))
          try simp only [Act.put, List.setIfInBounds_toArray, List.set_cons_zero, List.set_cons_succ]
          refine wpAnyH_take (i := 8) (oi := ⟨_, _, _, _, _, _⟩) (v := ?_) rfl (by kernel_rfl) (by kernel_rfl) (by kernel_rfl) (fun _ _ _ h => h) (Or.inl ⟨by rfl, ?_⟩) hHeld ?_
          rotate_left
          · (intro w hSw; (try dsimp only at hSw); go_simp; try (with_reducible rfl))
          try simp only [Act.put, List.setIfInBounds_toArray, List.set_cons_zero, List.set_cons_succ]
          refine wpAnyH_take (i := 9) (oi := ⟨_, _, _, _, _, _⟩) (v := ?_) rfl (by kernel_rfl) (by kernel_rfl) (by kernel_rfl) (fun _ _ _ h => h) (Or.inl ⟨by rfl, ?_⟩) hHeld ?_
          rotate_left
          · (intro w hSw; (try dsimp only at hSw); go_simp; try (with_reducible rfl))
          try simp only [Act.put, List.setIfInBounds_toArray, List.set_cons_zero, List.set_cons_succ]
          refine wpAnyH_take (i := 10) (oi := ⟨_, _, _, _, _, _⟩) (v := ?_) rfl (by kernel_rfl) (by kernel_rfl) (by kernel_rfl) (fun _ _ _ h => h) (Or.inl ⟨by rfl, ?_⟩) hHeld ?_
          rotate_left
          · (intro w hSw; (try dsimp only at hSw); go_simp; try (with_reducible rfl))
          try simp only [Act.put, List.setIfInBounds_toArray, List.set_cons_zero, List.set_cons_succ]
          refine wpAnyH_take (i := 11) (oi := ⟨_, _, _, _, _, _⟩) (v := ?_) rfl (by kernel_rfl) (by kernel_rfl) (by kernel_rfl) (fun _ _ _ h => h) (Or.inl ⟨by rfl, ?_⟩) hHeld ?_
          rotate_left
          · (intro w hSw; (try dsimp only at hSw); go_simp; try (with_reducible rfl))
          try simp only [Act.put, List.setIfInBounds_toArray, List.set_cons_zero, List.set_cons_succ]
          refine wpAnyH_take (i := 12) (oi := ⟨_, _, _, _, _, _⟩) (v := ?_) rfl (by kernel_rfl) (by kernel_rfl) (by kernel_rfl) (fun _ _ _ h => h) (Or.inl ⟨by rfl, ?_⟩) hHeld ?_
          rotate_left
          · (intro w hSw; (try dsimp only at hSw); go_simp; try (with_reducible rfl))
          try simp only [Act.put, List.setIfInBounds_toArray, List.set_cons_zero, List.set_cons_succ]
          refine wpAnyH_take (i := 13) (oi := ⟨_, _, _, _, _, _⟩) (v := ?_) rfl (by kernel_rfl) (by kernel_rfl) (by kernel_rfl) (fun _ _ _ h => h) (Or.inl ⟨by rfl, ?_⟩) hHeld ?_
          rotate_left
          · (intro w hSw; (try dsimp only at hSw); go_simp; try (with_reducible rfl))
          try simp only [Act.put, List.setIfInBounds_toArray, List.set_cons_zero, List.set_cons_succ]
          refine wpAnyH_take (i := 14) (oi := ⟨_, _, _, _, _, _⟩) (v := ?_) rfl (by kernel_rfl) (by kernel_rfl) (by kernel_rfl) (fun _ _ _ h => h) (Or.inl ⟨by rfl, ?_⟩) hHeld ?_
          rotate_left
          · (intro w hSw; (try dsimp only at hSw); go_simp; try (with_reducible rfl))
          try simp only [Act.put, List.setIfInBounds_toArray, List.set_cons_zero, List.set_cons_succ]
          refine wpAnyH_take (i := 15) (oi := ⟨_, _, _, _, _, _⟩) (v := ?_) rfl (by kernel_rfl) (by kernel_rfl) (by kernel_rfl) (fun _ _ _ h => h) (Or.inl ⟨by rfl, ?_⟩) hHeld ?_
          rotate_left
          · (intro w hSw; (try dsimp only at hSw); go_simp; try (with_reducible rfl))
          try simp only [Act.put, List.setIfInBounds_toArray, List.set_cons_zero, List.set_cons_succ]
          refine wpAnyH_done (by kernel_rfl) ?_ _
          clear hHeld
          have z4 := hb.size
          have hV4 := own_kept2 HV.out (by decide) hK
          obtain ⟨b8, c8, e8, _, _, _, _, hrow4⟩ := own_row hV4 hm0
          injection e8 with e8 e80 e81
          injection e8 with e8
          injection e8 with e8
          subst e8 e81
          have gz4 : wr.cell? ⟨br, k * 2, none⟩ = some (.int .i64 zc) := by
            have := (hrow4 k hlt).1.1
            simp only [hmk k hlt, hzc, Nat.zero_add] at this
            exact this
          clear hrow4 hV4
          go_wp2_with fail
          go_at_call 76
          refine (l1Encode_calls zc _ zc0 zc1).mono ?_
          rintro e w5 ⟨v5, rfl, hx, hb5'⟩
          have hb5 : Below wr.heap.size wr w5 := (Below.drew (Below.refl wr.heap.size wr)).trans hb5'
          clear hb5'
          obtain ⟨a5, c5, rfl, hx'⟩ := id hx
          have hr5 := hx.read
          have ho5 := hO'.belowb hb5
          have z5 := hb5.size
          go_wp2_with (at_builtin; refine wpList_append_X _ rfl (.tmp 45) (.tmp 51) 30 rfl w.heap.size 5 .u8 i0 (.int .u8 0) 1 Tryd.underlying30 hi hz0 hz1 hz2 rfl _ _ _ rfl ho5 a5 (encL zc) _ c5 rfl rfl hr5 (by unfold maxLen; omega) (by omega) (by omega) ?_)
          intro v6 w6 ho6 hgr
          have k6 : Kept w2 w6 := (Lib.OthersKept.trans hK (kept_below hb5)).grown hgr ho5.kind
          have b6 : Below w.heap.size w w6 := (hb.trans (hb5.mono hb.size)).grown hgr (by omega) (fun g hg => (ho5.lt g hg).1)
          clear hgr ho5 hr5 hx hx' hb5 gz4
          have HO6 : Hid (OwnX w6 w.heap.size 5 v6 ((placeL (Y : Int) 0).length + (rowTo cl (k + 1)).length) ((placeL (Y : Int) 0 ++ rowTo cl (k + 1)).map (Value.int .u8))) := by
            refine hide ?_
            rw [HS.out]
            have e1 : (placeL (Y : Int) 0).length + P.length + (encL zc).length = (placeL (Y : Int) 0).length + (P ++ ([] ++ encL zc)).length := by simp; omega
            rw [← e1]
            have e2 := ho6
            simpa [Nat.add_assoc] using e2
          clear ho6
          go_wp2
          go_roundw
          case rel => exact ⟨k + 1, by omega, by go_num, HO6, b6, k6⟩
          case measure => simp [intOf]; omega
        · have HAT : attrAt cl k = attrL za := by rw [attrAt_new (by rw [hza, show k - 1 = k1 by omega, hzb]; exact hne), hza]
          have hneB : (za != zb) = true := by simpa using hne
          have HK1 := hide hk1
          have HNE := hide hne
          clear hk1 hne
          rw [HAT] at hjs
          have HS := hide hjs
          clear hjs HAT
          go_wp2_with fail
          refine wp_region_held_drew (S := (fun w' => w'.cell? ⟨br, k * 2 + 1, none⟩ = some (.int .i64 za) ∧ w'.cell? ⟨br, k1 * 2 + 1, none⟩ = some (.int .i64 zb))) (by kernel_rfl) ?_ (fun hHeld => ?_)
          · (try dsimp only); exact ⟨gk, gb⟩
          refine wpAnyH_take (i := 0) (oi := ⟨_, _, _, _, _, _⟩) (v := ?_) rfl (by kernel_rfl) (by kernel_rfl) (by kernel_rfl) (fun _ _ _ h => h) (Or.inl ⟨by rfl, ?_⟩) hHeld ?_
          rotate_left
          · (intro w hSw; (try dsimp only at hSw); go_simp; try (with_reducible rfl))
          try simp only [Act.put, List.setIfInBounds_toArray, List.set_cons_zero, List.set_cons_succ]
          refine wpAnyH_take (i := 1) (oi := ⟨_, _, _, _, _, _⟩) (v := ?_) rfl (by kernel_rfl) (by kernel_rfl) (by kernel_rfl) (fun _ _ _ h => h) (Or.inl ⟨by rfl, ?_⟩) hHeld ?_
          rotate_left
          · (intro w hSw; (try dsimp only at hSw); go_simp; try (with_reducible rfl))
          try simp only [Act.put, List.setIfInBounds_toArray, List.set_cons_zero, List.set_cons_succ]
          refine wpAnyH_take (i := 2) (oi := ⟨_, _, _, _, _, _⟩) (v := ?_) rfl (by kernel_rfl) (by kernel_rfl) (by kernel_rfl) (fun _ _ _ h => h) (Or.inl ⟨by rfl, ?_⟩) hHeld ?_
          rotate_left
          · (intro w hSw; (try dsimp only at hSw); go_simp; try (with_reducible rfl))
          try simp only [Act.put, List.setIfInBounds_toArray, List.set_cons_zero, List.set_cons_succ]
          refine wpAnyH_take (i := 3) (oi := ⟨_, _, _, _, _, _⟩) (v := ?_) rfl (by kernel_rfl) (by kernel_rfl) (by kernel_rfl) (fun _ _ _ h => h) (Or.inl ⟨by rfl, ?_⟩) hHeld ?_
          rotate_left
          · (intro w hSw; (try dsimp only at hSw); go_simp; try (with_reducible rfl))
          try simp only [Act.put, List.setIfInBounds_toArray, List.set_cons_zero, List.set_cons_succ]
          refine wpAnyH_take (i := 4) (oi := ⟨_, _, _, _, _, _⟩) (v := ?_) rfl (by kernel_rfl) (by kernel_rfl) (by kernel_rfl) (fun _ _ _ h => h) (Or.inl ⟨by rfl, ?_⟩) hHeld ?_
          rotate_left
          · (intro w hSw; (try dsimp only at hSw); go_simp; try (with_reducible rfl))
          try simp only [Act.put, List.setIfInBounds_toArray, List.set_cons_zero, List.set_cons_succ]
          refine wpAnyH_take (i := 5) (oi := ⟨_, _, _, _, _, _⟩) (v := ?_) rfl (by kernel_rfl) (by kernel_rfl) (by kernel_rfl) (fun _ _ _ h => h) (Or.inl ⟨by rfl, ?_⟩) hHeld ?_
          rotate_left
          · (intro w hSw; (try dsimp only at hSw); go_simp; try (with_reducible rfl))
          try simp only [Act.put, List.setIfInBounds_toArray, List.set_cons_zero, List.set_cons_succ]
          refine wpAnyH_take (i := 6) (oi := ⟨_, _, _, _, _, _⟩) (v := ?_) rfl (by kernel_rfl) (by kernel_rfl) (by kernel_rfl) (fun _ _ _ h => h) (Or.inl ⟨by rfl, ?_⟩) hHeld ?_
          rotate_left
          · (intro w hSw; (try dsimp only at hSw); go_simp; try (with_reducible rfl))
          try simp only [Act.put, List.setIfInBounds_toArray, List.set_cons_zero, List.set_cons_succ]
          refine wpAnyH_take (i := 7) (oi := ⟨_, _, _, _, _, _⟩) (v := ?_) rfl (by kernel_rfl) (by kernel_rfl) (by kernel_rfl) (fun _ _ _ h => h) (Or.inl ⟨by rfl, ?_⟩) hHeld ?_
          rotate_left
          · (intro w hSw; (try dsimp only at hSw); go_simp; try (with_reducible rfl))
          try simp only [Act.put, List.setIfInBounds_toArray, List.set_cons_zero, List.set_cons_succ]
          refine wpAnyH_take (i := 8) (oi := ⟨_, _, _, _, _, _⟩) (v := ?_) rfl (by kernel_rfl) (by kernel_rfl) (by kernel_rfl) (fun _ _ _ h => h) (Or.inl ⟨by rfl, ?_⟩) hHeld ?_
          rotate_left
          · (intro w hSw; (try dsimp only at hSw); go_simp; try (with_reducible rfl))
          try simp only [Act.put, List.setIfInBounds_toArray, List.set_cons_zero, List.set_cons_succ]
          refine wpAnyH_take (i := 9) (oi := ⟨_, _, _, _, _, _⟩) (v := ?_) rfl (by kernel_rfl) (by kernel_rfl) (by kernel_rfl) (fun _ _ _ h => h) (Or.inl ⟨by rfl, ?_⟩) hHeld ?_
          rotate_left
          · (intro w hSw; (try dsimp only at hSw); go_simp; try (with_reducible rfl))
          try simp only [Act.put, List.setIfInBounds_toArray, List.set_cons_zero, List.set_cons_succ]
          refine wpAnyH_take (i := 10) (oi := ⟨_, _, _, _, _, _⟩) (v := ?_) rfl (by kernel_rfl) (by kernel_rfl) (by kernel_rfl) (fun _ _ _ h => h) (Or.inl ⟨by rfl, ?_⟩) hHeld ?_
          rotate_left
          · (intro w hSw; (try dsimp only at hSw); go_simp; try (with_reducible rfl))
          try simp only [Act.put, List.setIfInBounds_toArray, List.set_cons_zero, List.set_cons_succ]
          refine wpAnyH_take (i := 11) (oi := ⟨_, _, _, _, _, _⟩) (v := ?_) rfl (by kernel_rfl) (by kernel_rfl) (by kernel_rfl) (fun _ _ _ h => h) (Or.inl ⟨by rfl, ?_⟩) hHeld ?_
          rotate_left
          · (intro w hSw; (try dsimp only at hSw); go_simp; try (with_reducible rfl))
          try simp only [Act.put, List.setIfInBounds_toArray, List.set_cons_zero, List.set_cons_succ]
          refine wpAnyH_take (i := 12) (oi := ⟨_, _, _, _, _, _⟩) (v := ?_) rfl (by kernel_rfl) (by kernel_rfl) (by kernel_rfl) (fun _ _ _ h => h) (Or.inl ⟨by rfl, ?_⟩) hHeld ?_
          rotate_left
          · (intro w hSw; (try dsimp only at hSw); go_simp; try (with_reducible rfl))
          try simp only [Act.put, List.setIfInBounds_toArray, List.set_cons_zero, List.set_cons_succ]
          refine wpAnyH_take (i := 13) (oi := ⟨_, _, _, _, _, _⟩) (v := ?_) rfl (by kernel_rfl) (by kernel_rfl) (by kernel_rfl) (fun _ _ _ h => h) (Or.inl ⟨by rfl, ?_⟩) hHeld ?_
          rotate_left
          · (intro w hSw; (try dsimp only at hSw); go_simp; try (with_reducible rfl))
          try simp only [Act.put, List.setIfInBounds_toArray, List.set_cons_zero, List.set_cons_succ]
          refine wpAnyH_take (i := 14) (oi := ⟨_, _, _, _, _, _⟩) (v := ?_) rfl (by kernel_rfl) (by kernel_rfl) (by kernel_rfl) (fun _ _ _ h => h) (Or.inl ⟨by rfl, ?_⟩) hHeld ?_
          rotate_left
          · (intro w hSw; (try dsimp only at hSw); go_simp; try (with_reducible rfl))
          try simp only [Act.put, List.setIfInBounds_toArray, List.set_cons_zero, List.set_cons_succ]
          refine wpAnyH_take (i := 15) (oi := ⟨_, _, _, _, _, _⟩) (v := ?_) rfl (by kernel_rfl) (by kernel_rfl) (by kernel_rfl) (fun _ _ _ h => h) (Or.inl ⟨by rfl, ?_⟩) hHeld ?_
          rotate_left
          · (intro w hSw; (try dsimp only at hSw); go_simp; try (with_reducible rfl))
          try simp only [Act.put, List.setIfInBounds_toArray, List.set_cons_zero, List.set_cons_succ]
          refine wpAnyH_done (by kernel_rfl) ?_ _
          clear hHeld
          go_wp2_with fail
          go_at_call 45
          refine (l7Attr_calls za _ za0 za1).mono ?_
          rintro e w3 ⟨v3, rfl, ox3, hb3'⟩
          have hb3 : Below wr.heap.size wr w3 := (Below.drew (Below.refl wr.heap.size wr)).trans hb3'
          clear hb3'
          obtain ⟨a3, c3, rfl⟩ := ox3.form
          have hr3 := ox3.ints.read
          have ho3 := hO'.belowb hb3
          have z3 := hb3.size
          have gz3 := cellb hb3 gz
          go_wp2_with (at_builtin; refine wpList_append_X _ rfl (.tmp 37) (.tmp 43) 30 rfl w.heap.size 5 .u8 i0 (.int .u8 0) 1 Tryd.underlying30 hi hz0 hz1 hz2 rfl _ _ _ rfl ho3 a3 (attrL za) _ c3 rfl rfl hr3 (by unfold maxLen; omega) (by omega) (by omega) ?_)
          intro v4 w4 ho4 hgr
          have k4 : Kept w2 w4 := (Lib.OthersKept.trans hK (kept_below hb3)).grown hgr ho3.kind
          have b4 : Below w.heap.size w w4 := (hb.trans (hb3.mono hsz)).grown hgr (by omega) (fun g hg => (ho3.lt g hg).1)
          clear hgr ho3 hr3 ox3 hb3 gz3
          have z4 := b4.size
          have hV4 := own_kept2 HV.out (by decide) k4
          obtain ⟨b8, c8, e8, _, _, _, _, hrow4⟩ := own_row hV4 hm0
          injection e8 with e8 e80 e81
          injection e8 with e8
          injection e8 with e8
          subst e8 e81
          have gz4 : w4.cell? ⟨br, k * 2, none⟩ = some (.int .i64 zc) := by
            have := (hrow4 k hlt).1.1
            simp only [hmk k hlt, hzc, Nat.zero_add] at this
            exact this
          clear hrow4 hV4
          go_wp2_with fail
          go_at_call 76
          refine (l1Encode_calls zc _ zc0 zc1).mono ?_
          rintro e w5 ⟨v5, rfl, hx, hb5'⟩
          have hb5 : Below w4.heap.size w4 w5 := hb5'
          clear hb5'
          obtain ⟨a5, c5, rfl, hx'⟩ := id hx
          have hr5 := hx.read
          have ho5 := ho4.belowb hb5
          have z5 := hb5.size
          go_wp2_with (at_builtin; refine wpList_append_X _ rfl (.tmp 45) (.tmp 51) 30 rfl w.heap.size 5 .u8 i0 (.int .u8 0) 1 Tryd.underlying30 hi hz0 hz1 hz2 rfl _ _ _ rfl ho5 a5 (encL zc) _ c5 rfl rfl hr5 (by unfold maxLen; omega) (by omega) (by omega) ?_)
          intro v6 w6 ho6 hgr
          have k6 : Kept w2 w6 := (Lib.OthersKept.trans k4 (kept_below hb5)).grown hgr ho5.kind
          have b6 : Below w.heap.size w w6 := (b4.trans (hb5.mono b4.size)).grown hgr (by omega) (fun g hg => (ho5.lt g hg).1)
          clear hgr ho5 hr5 hx hx' hb5 gz4
          have HO6 : Hid (OwnX w6 w.heap.size 5 v6 ((placeL (Y : Int) 0).length + (rowTo cl (k + 1)).length) ((placeL (Y : Int) 0 ++ rowTo cl (k + 1)).map (Value.int .u8))) := by
            refine hide ?_
            rw [HS.out]
            have e1 : (placeL (Y : Int) 0).length + P.length + (attrL za).length + (encL zc).length = (placeL (Y : Int) 0).length + (P ++ (attrL za ++ encL zc)).length := by simp; omega
            rw [← e1]
            have e2 := ho6
            simpa [Nat.add_assoc] using e2
          clear ho6
          go_wp2
          go_roundw
          case rel => exact ⟨k + 1, by omega, by go_num, HO6, b6, k6⟩
          case measure => simp [intOf]; omega
    · obtain rfl : k = m := by omega
      go_wp2
      go_ret
      exact ⟨_, rfl, by rw [List.length_append]; exact hO.out, hb⟩
theorem wrap_u32 {n : Int} (h0 : 0 ≤ n) (h1 : n ≤ 65535) : IntKind.u32.wrap n = n := by
  simp [IntKind.wrap, IntKind.bits, IntKind.signed]
  omega
set_option maxHeartbeats 8000000 in
theorem appendRow_calls (cl : List (Int × Int)) (m : Nat) (hlen : cl.length = m) (hok : okCells cl) (y : Int) (y0 : 0 ≤ y) (y1 : y ≤ 99) (br ro cr base n : Nat) (v : Value) (xs : List Value) (w : World) (hm0 : 0 < m) (hm : m ≤ 12) (hn : n ≤ 50000) (hbase : base ≤ w.heap.size) (hown : w.ownsRow base 5 1 v n xs) (htab : TabAt base w) (hrow : RowR w br ro m (fun i => cl.getD i (0, 0))) (hbr : br < base) (hcr : m ≤ cr) :
    Calls Tryd.prog 31 #[v, .int .i64 y, .slice (some ⟨br, ro, none⟩) m cr] w fun e w' => ∃ v', e = .returned v' ∧ w'.ownsRow base 5 1 v' (n + (placeL y 0 ++ rowTo cl m).length) (xs ++ (placeL y 0 ++ rowTo cl m).map (Value.int .u8)) ∧ Below base w w' := by
  have hpl := placeL_len (y := y) (x := 0) (by omega) (by omega)
  have HL := hide hlen
  have HOK := hide hok
  have HRL := fun k (hk : k ≤ m) => rowTo_len hok k (by rw [hlen]; exact hk)
  have HRW := hide hrow
  clear hlen hok hrow
  go_enter Tryd.func31, Tryd.ntmps31
  go_wp2_with fail
  go_at_call 67
  refine (appendPlace_calls y 0 base n v xs w y0 (by omega) (by omega) (by omega) (by omega) hbase hown htab).mono ?_
  rintro e w1 ⟨vp, rfl, own1, b1, -⟩
  have HO0 : Hid (w1.ownsRow base 5 1 vp (n + ((placeL y 0).length + (rowTo cl 0).length)) (xs ++ (placeL y 0 ++ rowTo cl 0).map (Value.int .u8))) := by
    refine hide ?_
    simpa [rowTo] using own1
  clear own1 hown
  go_wp2
  go_loopw [0, 13] (fun o i wr => ∃ k : Nat, k ≤ m ∧ i = .int .i64 k ∧ Hid (wr.ownsRow base 5 1 o (n + ((placeL y 0).length + (rowTo cl k).length)) (xs ++ (placeL y 0 ++ rowTo cl k).map (Value.int .u8))) ∧ Below base w wr) (fun _ i _ => m - (intOf i).toNat)
  case atStart => exact ⟨0, Nat.zero_le _, rfl, HO0, b1⟩
  case round =>
    obtain ⟨k, hkm', rfl, hO, hb⟩ := hrel
    have hsz := hb.size
    by_cases hlt : k < m
    · have hltI : (k : Int) < (m : Int) := by omega
      have hrow2 := HRW.out.below hb hbr
      obtain ⟨zc, hzc⟩ : ∃ z, (cl.getD k (0, 0)).1 = z := ⟨_, rfl⟩
      obtain ⟨za, hza⟩ : ∃ z, (cl.getD k (0, 0)).2 = z := ⟨_, rfl⟩
      obtain ⟨⟨zc0, zc1⟩, za0, za1⟩ := HOK.out k (by rw [HL.out]; exact hlt)
      rw [hzc] at zc0 zc1
      rw [hza] at za0 za1
      have gk : wr.cell? ⟨br, ro + k * 2 + 1, none⟩ = some (.int .i64 za) := by
        have := (hrow2 k hlt).2
        simp only [hza] at this
        exact this
      have gz : wr.cell? ⟨br, ro + k * 2, none⟩ = some (.int .i64 zc) := by
        have := (hrow2 k hlt).1
        simp only [hzc] at this
        exact this
      have hu32 := wrap_u32 zc0 zc1
      obtain ⟨P, hP⟩ : ∃ P, rowTo cl k = P := ⟨_, rfl⟩
      have hjs : rowTo cl (k + 1) = P ++ (attrAt cl k ++ encL zc) := by rw [rowTo, hP, hzc]
      have hpl2 := HRL k hkm'
      rw [hP] at hpl2
      have hO' := hO.out
      rw [hP] at hO'
      have hal := attrL_len za0 za1
      have hel := encL_length zc
      clear hO hP
      by_cases hk0 : k = 0
      · have HAT : attrAt cl k = attrL za := by rw [← hza]; subst hk0; exact attrAt_first
        have hk0I : ((k : Int) == 0) = true := by simp; omega
        clear hk0
        rw [HAT] at hjs
        have HS := hide hjs
        clear hjs HAT
        go_wp2_with fail
        refine wp_region_held_drew (S := (fun w' => w'.cell? ⟨br, ro + k * 2 + 1, none⟩ = some (.int .i64 za))) (by kernel_rfl) ?_ (fun hHeld => ?_)
        · (try dsimp only); exact gk
        refine wpAnyH_take (i := 0) (oi := ⟨_, _, _, _, _, _⟩) (v := ?_) rfl (by kernel_rfl) (by kernel_rfl) (by kernel_rfl) (fun _ _ _ h => h) (Or.inl ⟨by rfl, ?_⟩) hHeld ?_
        rotate_left
        · (intro w hSw; (try dsimp only at hSw); go_simp; try (with_reducible rfl))
        try simp only [Act.put, List.setIfInBounds_toArray, List.set_cons_zero, List.set_cons_succ]
        refine wpAnyH_take (i := 1) (oi := ⟨_, _, _, _, _, _⟩) (v := ?_) rfl (by kernel_rfl) (by kernel_rfl) (by kernel_rfl) (fun _ _ _ h => h) (Or.inl ⟨by rfl, ?_⟩) hHeld ?_
        rotate_left
        · (intro w hSw; (try dsimp only at hSw); go_simp; try (with_reducible rfl))
        try simp only [Act.put, List.setIfInBounds_toArray, List.set_cons_zero, List.set_cons_succ]
        refine wpAnyH_take (i := 2) (oi := ⟨_, _, _, _, _, _⟩) (v := ?_) rfl (by kernel_rfl) (by kernel_rfl) (by kernel_rfl) (fun _ _ _ h => h) (Or.inl ⟨by rfl, ?_⟩) hHeld ?_
        rotate_left
        · (intro w hSw; (try dsimp only at hSw); go_simp; try (with_reducible rfl))
        try simp only [Act.put, List.setIfInBounds_toArray, List.set_cons_zero, List.set_cons_succ]
        refine wpAnyH_take (i := 3) (oi := ⟨_, _, _, _, _, _⟩) (v := undef) rfl (by kernel_rfl) (by kernel_rfl) (by kernel_rfl) (fun _ _ _ h => h) (Or.inr ⟨by rfl, rfl⟩) hHeld ?_
        try simp only [Act.put, List.setIfInBounds_toArray, List.set_cons_zero, List.set_cons_succ]
        refine wpAnyH_take (i := 4) (oi := ⟨_, _, _, _, _, _⟩) (v := undef) rfl (by kernel_rfl) (by kernel_rfl) (by kernel_rfl) (fun _ _ _ h => h) (Or.inr ⟨by rfl, rfl⟩) hHeld ?_
        try simp only [Act.put, List.setIfInBounds_toArray, List.set_cons_zero, List.set_cons_succ]
        refine wpAnyH_take (i := 5) (oi := ⟨_, _, _, _, _, _⟩) (v := undef) rfl (by kernel_rfl) (by kernel_rfl) (by kernel_rfl) (fun _ _ _ h => h) (Or.inr ⟨by rfl, rfl⟩) hHeld ?_
        try simp only [Act.put, List.setIfInBounds_toArray, List.set_cons_zero, List.set_cons_succ]
        refine wpAnyH_take (i := 6) (oi := ⟨_, _, _, _, _, _⟩) (v := undef) rfl (by kernel_rfl) (by kernel_rfl) (by kernel_rfl) (fun _ _ _ h => h) (Or.inr ⟨by rfl, rfl⟩) hHeld ?_
        try simp only [Act.put, List.setIfInBounds_toArray, List.set_cons_zero, List.set_cons_succ]
        refine wpAnyH_take (i := 7) (oi := ⟨_, _, _, _, _, _⟩) (v := undef) rfl (by kernel_rfl) (by kernel_rfl) (by kernel_rfl) (fun _ _ _ h => h) (Or.inr ⟨by rfl, rfl⟩) hHeld ?_
        try simp only [Act.put, List.setIfInBounds_toArray, List.set_cons_zero, List.set_cons_succ]
        refine wpAnyH_take (i := 8) (oi := ⟨_, _, _, _, _, _⟩) (v := undef) rfl (by kernel_rfl) (by kernel_rfl) (by kernel_rfl) (fun _ _ _ h => h) (Or.inr ⟨by rfl, rfl⟩) hHeld ?_
        try simp only [Act.put, List.setIfInBounds_toArray, List.set_cons_zero, List.set_cons_succ]
        refine wpAnyH_take (i := 9) (oi := ⟨_, _, _, _, _, _⟩) (v := undef) rfl (by kernel_rfl) (by kernel_rfl) (by kernel_rfl) (fun _ _ _ h => h) (Or.inr ⟨by rfl, rfl⟩) hHeld ?_
        try simp only [Act.put, List.setIfInBounds_toArray, List.set_cons_zero, List.set_cons_succ]
        refine wpAnyH_take (i := 10) (oi := ⟨_, _, _, _, _, _⟩) (v := undef) rfl (by kernel_rfl) (by kernel_rfl) (by kernel_rfl) (fun _ _ _ h => h) (Or.inr ⟨by rfl, rfl⟩) hHeld ?_
        try simp only [Act.put, List.setIfInBounds_toArray, List.set_cons_zero, List.set_cons_succ]
        refine wpAnyH_take (i := 11) (oi := ⟨_, _, _, _, _, _⟩) (v := undef) rfl (by kernel_rfl) (by kernel_rfl) (by kernel_rfl) (fun _ _ _ h => h) (Or.inr ⟨by rfl, rfl⟩) hHeld ?_
        try simp only [Act.put, List.setIfInBounds_toArray, List.set_cons_zero, List.set_cons_succ]
        refine wpAnyH_take (i := 12) (oi := ⟨_, _, _, _, _, _⟩) (v := undef) rfl (by kernel_rfl) (by kernel_rfl) (by kernel_rfl) (fun _ _ _ h => h) (Or.inr ⟨by rfl, rfl⟩) hHeld ?_
        try simp only [Act.put, List.setIfInBounds_toArray, List.set_cons_zero, List.set_cons_succ]
        refine wpAnyH_take (i := 13) (oi := ⟨_, _, _, _, _, _⟩) (v := undef) rfl (by kernel_rfl) (by kernel_rfl) (by kernel_rfl) (fun _ _ _ h => h) (Or.inr ⟨by rfl, rfl⟩) hHeld ?_
        try simp only [Act.put, List.setIfInBounds_toArray, List.set_cons_zero, List.set_cons_succ]
        refine wpAnyH_take (i := 14) (oi := ⟨_, _, _, _, _, _⟩) (v := undef) rfl (by kernel_rfl) (by kernel_rfl) (by kernel_rfl) (fun _ _ _ h => h) (Or.inr ⟨by rfl, rfl⟩) hHeld ?_
        try simp only [Act.put, List.setIfInBounds_toArray, List.set_cons_zero, List.set_cons_succ]
        refine wpAnyH_take (i := 15) (oi := ⟨_, _, _, _, _, _⟩) (v := ?_) rfl (by kernel_rfl) (by kernel_rfl) (by kernel_rfl) (fun _ _ _ h => h) (Or.inl ⟨by rfl, ?_⟩) hHeld ?_
        rotate_left
        · (intro w hSw; (try dsimp only at hSw); go_simp; try (with_reducible rfl))
        try simp only [Act.put, List.setIfInBounds_toArray, List.set_cons_zero, List.set_cons_succ]
        refine wpAnyH_done (by kernel_rfl) ?_ _
        clear hHeld
        have hbd : Below base w wr.drew := Below.drew hb
        go_wp2_with fail
        go_at_call 47
        refine (appendAttr_calls za base _ _ _ wr.drew za0 za1 (by omega) (by simpa using (by omega : base ≤ wr.heap.size)) hO' (htab.on hbd)).mono ?_
        rintro e w4 ⟨v4, rfl, ho4, hb4', -⟩
        have b4 : Below base w w4 := hbd.trans hb4'
        have gz4 : w4.cell? ⟨br, ro + k * 2, none⟩ = some (.int .i64 zc) := by
          rw [b4.cell (p := ⟨br, ro + k * 2, none⟩) hbr, ← hb.cell (p := ⟨br, ro + k * 2, none⟩) hbr]
          exact gz
        clear hb4' gz gk
        have z4 := b4.size
        go_wp2_with fail
        go_at_call 68
        refine (appendChar_calls zc base _ _ _ w4 zc0 zc1 (by omega) (Nat.le_trans hbase z4) ho4).mono ?_
        rintro e w6 ⟨v6, rfl, ho6, hb6'⟩
        have b6 : Below base w w6 := b4.trans hb6'
        clear hb6'
        have HO6 : Hid (w6.ownsRow base 5 1 v6 (n + ((placeL y 0).length + (rowTo cl (k + 1)).length)) (xs ++ (placeL y 0 ++ rowTo cl (k + 1)).map (Value.int .u8))) := by
          refine hide ?_
          rw [HS.out]
          have e1 : n + ((placeL y 0).length + P.length) + (attrL za).length + (encL zc).length = n + ((placeL y 0).length + (P ++ (attrL za ++ encL zc)).length) := by simp; omega
          rw [← e1]
          unfold byteVs at ho6
          simpa [Nat.add_assoc] using ho6
        clear ho6
        go_wp2
        go_roundw
        case rel => exact ⟨k + 1, by omega, by go_num, HO6, b6⟩
        case measure => simp [intOf]; omega
      · obtain ⟨k1, hk1⟩ : ∃ k1, k = k1 + 1 := ⟨k - 1, by omega⟩
        have hlt1 : k1 < m := by omega
        obtain ⟨zb, hzb⟩ : ∃ z, (cl.getD k1 (0, 0)).2 = z := ⟨_, rfl⟩
        have gb : wr.cell? ⟨br, ro + k1 * 2 + 1, none⟩ = some (.int .i64 zb) := by
          have := (hrow2 k1 hlt1).2
          simp only [hzb] at this
          exact this
        have hs1 : IntKind.i64.wrap ((k : Int) - 1) = (k1 : Int) := by rw [wrap_small (by omega) (by omega)]; omega
        have hlt1I : (k1 : Int) < (m : Int) := by omega
        have hk0I : ((k : Int) == 0) = false := by simp; omega
        by_cases hne : za = zb
        · have HAT : attrAt cl k = [] := attrAt_old (by omega) (by rw [hza, show k - 1 = k1 by omega, hzb]; exact hne)
          have hneB : (za != zb) = false := by simpa using hne
          have HK1 := hide hk1
          have HNE := hide hne
          clear hk1 hne
          rw [HAT] at hjs
          have HS := hide hjs
          clear hjs HAT
          go_wp2_with fail
          refine wp_region_held_drew (S := (fun w' => w'.cell? ⟨br, ro + k * 2 + 1, none⟩ = some (.int .i64 za) ∧ w'.cell? ⟨br, ro + k1 * 2 + 1, none⟩ = some (.int .i64 zb))) (by kernel_rfl) ?_ (fun hHeld => ?_)
          · (try dsimp only); exact ⟨gk, gb⟩
          refine wpAnyH_take (i := 0) (oi := ⟨_, _, _, _, _, _⟩) (v := ?_) rfl (by kernel_rfl) (by kernel_rfl) (by kernel_rfl) (fun _ _ _ h => h) (Or.inl ⟨by rfl, ?_⟩) hHeld ?_
          rotate_left
          · (intro w hSw; (try dsimp only at hSw); go_simp; try (with_reducible rfl))
          try simp only [Act.put, List.setIfInBounds_toArray, List.set_cons_zero, List.set_cons_succ]
          refine wpAnyH_take (i := 1) (oi := ⟨_, _, _, _, _, _⟩) (v := ?_) rfl (by kernel_rfl) (by kernel_rfl) (by kernel_rfl) (fun _ _ _ h => h) (Or.inl ⟨by rfl, ?_⟩) hHeld ?_
          rotate_left
          · (intro w hSw; (try dsimp only at hSw); go_simp; try (with_reducible rfl))
          try simp only [Act.put, List.setIfInBounds_toArray, List.set_cons_zero, List.set_cons_succ]
          refine wpAnyH_take (i := 2) (oi := ⟨_, _, _, _, _, _⟩) (v := ?_) rfl (by kernel_rfl) (by kernel_rfl) (by kernel_rfl) (fun _ _ _ h => h) (Or.inl ⟨by rfl, ?_⟩) hHeld ?_
          rotate_left
          · (intro w hSw; (try dsimp only at hSw); go_simp; try (with_reducible rfl))
          try simp only [Act.put, List.setIfInBounds_toArray, List.set_cons_zero, List.set_cons_succ]
          refine wpAnyH_take (i := 3) (oi := ⟨_, _, _, _, _, _⟩) (v := ?_) rfl (by kernel_rfl) (by kernel_rfl) (by kernel_rfl) (fun _ _ _ h => h) (Or.inl ⟨by rfl, ?_⟩) hHeld ?_
          rotate_left
          · (intro w hSw; (try dsimp only at hSw); go_simp; try (with_reducible rfl))
          try simp only [Act.put, List.setIfInBounds_toArray, List.set_cons_zero, List.set_cons_succ]
          refine wpAnyH_take (i := 4) (oi := ⟨_, _, _, _, _, _⟩) (v := ?_) rfl (by kernel_rfl) (by kernel_rfl) (by kernel_rfl) (fun _ _ _ h => h) (Or.inl ⟨by rfl, ?_⟩) hHeld ?_
          rotate_left
          · (intro w hSw; (try dsimp only at hSw); go_simp; try (with_reducible rfl))
          try simp only [Act.put, List.setIfInBounds_toArray, List.set_cons_zero, List.set_cons_succ]
          refine wpAnyH_take (i := 5) (oi := ⟨_, _, _, _, _, _⟩) (v := ?_) rfl (by kernel_rfl) (by kernel_rfl) (by kernel_rfl) (fun _ _ _ h => h) (Or.inl ⟨by rfl, ?_⟩) hHeld ?_
          rotate_left
          · (intro w hSw; (try dsimp only at hSw); go_simp; try (with_reducible rfl))
          try simp only [Act.put, List.setIfInBounds_toArray, List.set_cons_zero, List.set_cons_succ]
          refine wpAnyH_take (i := 6) (oi := ⟨_, _, _, _, _, _⟩) (v := ?_) rfl (by kernel_rfl) (by kernel_rfl) (by kernel_rfl) (fun _ _ _ h => h) (Or.inl ⟨by rfl, ?_⟩) hHeld ?_
          rotate_left
          · (intro w hSw; (try dsimp only at hSw); go_simp; try (with_reducible rfl))
          try simp only [Act.put, List.setIfInBounds_toArray, List.set_cons_zero, List.set_cons_succ]
          refine wpAnyH_take (i := 7) (oi := ⟨_, _, _, _, _, _⟩) (v := ?_) rfl (by kernel_rfl) (by kernel_rfl) (by kernel_rfl) (fun _ _ _ h => h) (Or.inl ⟨by rfl, ?_⟩) hHeld ?_
          rotate_left
          · (intro w hSw; (try dsimp only at hSw); go_simp; try (with_reducible rfl))
          try simp only [Act.put, List.setIfInBounds_toArray, List.set_cons_zero, List.set_cons_succ]
          refine wpAnyH_take (i := 8) (oi := ⟨_, _, _, _, _, _⟩) (v := ?_) rfl (by kernel_rfl) (by kernel_rfl) (by kernel_rfl) (fun _ _ _ h => h) (Or.inl ⟨by rfl, ?_⟩) hHeld ?_
          rotate_left
          · (intro w hSw; (try dsimp only at hSw); go_simp; try (with_reducible rfl))
          try simp only [Act.put, List.setIfInBounds_toArray, List.set_cons_zero, List.set_cons_succ]
          refine wpAnyH_take (i := 9) (oi := ⟨_, _, _, _, _, _⟩) (v := ?_) rfl (by kernel_rfl) (by kernel_rfl) (by kernel_rfl) (fun _ _ _ h => h) (Or.inl ⟨by rfl, ?_⟩) hHeld ?_
          rotate_left
          · (intro w hSw; (try dsimp only at hSw); go_simp; try (with_reducible rfl))
          try simp only [Act.put, List.setIfInBounds_toArray, List.set_cons_zero, List.set_cons_succ]
          refine wpAnyH_take (i := 10) (oi := ⟨_, _, _, _, _, _⟩) (v := ?_) rfl (by kernel_rfl) (by kernel_rfl) (by kernel_rfl) (fun _ _ _ h => h) (Or.inl ⟨by rfl, ?_⟩) hHeld ?_
          rotate_left
          · (intro w hSw; (try dsimp only at hSw); go_simp; try (with_reducible rfl))
          try simp only [Act.put, List.setIfInBounds_toArray, List.set_cons_zero, List.set_cons_succ]
          refine wpAnyH_take (i := 11) (oi := ⟨_, _, _, _, _, _⟩) (v := ?_) rfl (by kernel_rfl) (by kernel_rfl) (by kernel_rfl) (fun _ _ _ h => h) (Or.inl ⟨by rfl, ?_⟩) hHeld ?_
          rotate_left
          · (intro w hSw; (try dsimp only at hSw); go_simp; try (with_reducible rfl))
          try simp only [Act.put, List.setIfInBounds_toArray, List.set_cons_zero, List.set_cons_succ]
          refine wpAnyH_take (i := 12) (oi := ⟨_, _, _, _, _, _⟩) (v := ?_) rfl (by kernel_rfl) (by kernel_rfl) (by kernel_rfl) (fun _ _ _ h => h) (Or.inl ⟨by rfl, ?_⟩) hHeld ?_
          rotate_left
          · (intro w hSw; (try dsimp only at hSw); go_simp; try (with_reducible rfl))
          try simp only [Act.put, List.setIfInBounds_toArray, List.set_cons_zero, List.set_cons_succ]
          refine wpAnyH_take (i := 13) (oi := ⟨_, _, _, _, _, _⟩) (v := ?_) rfl (by kernel_rfl) (by kernel_rfl) (by kernel_rfl) (fun _ _ _ h => h) (Or.inl ⟨by rfl, ?_⟩) hHeld ?_
          rotate_left
          · (intro w hSw; (try dsimp only at hSw); go_simp; try (with_reducible rfl))
          try simp only [Act.put, List.setIfInBounds_toArray, List.set_cons_zero, List.set_cons_succ]
          refine wpAnyH_take (i := 14) (oi := ⟨_, _, _, _, _, _⟩) (v := ?_) rfl (by kernel_rfl) (by kernel_rfl) (by kernel_rfl) (fun _ _ _ h => h) (Or.inl ⟨by rfl, ?_⟩) hHeld ?_
          rotate_left
          · (intro w hSw; (try dsimp only at hSw); go_simp; try (with_reducible rfl))
          try simp only [Act.put, List.setIfInBounds_toArray, List.set_cons_zero, List.set_cons_succ]
          refine wpAnyH_take (i := 15) (oi := ⟨_, _, _, _, _, _⟩) (v := ?_) rfl (by kernel_rfl) (by kernel_rfl) (by kernel_rfl) (fun _ _ _ h => h) (Or.inl ⟨by rfl, ?_⟩) hHeld ?_
          rotate_left
          · (intro w hSw; (try dsimp only at hSw); go_simp; try (with_reducible rfl))
          try simp only [Act.put, List.setIfInBounds_toArray, List.set_cons_zero, List.set_cons_succ]
          refine wpAnyH_done (by kernel_rfl) ?_ _
          clear hHeld
          have hbd : Below base w wr.drew := Below.drew hb
          have z4 := hbd.size
          go_wp2_with fail
          go_at_call 68
          refine (appendChar_calls zc base _ _ _ wr.drew zc0 zc1 (by omega) (Nat.le_trans hbase z4) hO').mono ?_
          rintro e w6 ⟨v6, rfl, ho6, hb6'⟩
          have b6 : Below base w w6 := hbd.trans hb6'
          clear hb6'
          have HO6 : Hid (w6.ownsRow base 5 1 v6 (n + ((placeL y 0).length + (rowTo cl (k + 1)).length)) (xs ++ (placeL y 0 ++ rowTo cl (k + 1)).map (Value.int .u8))) := by
            refine hide ?_
            rw [HS.out]
            have e1 : n + ((placeL y 0).length + P.length) + (encL zc).length = n + ((placeL y 0).length + (P ++ ([] ++ encL zc)).length) := by simp; omega
            rw [← e1]
            unfold byteVs at ho6
            simpa [Nat.add_assoc] using ho6
          clear ho6
          go_wp2
          go_roundw
          case rel => exact ⟨k + 1, by omega, by go_num, HO6, b6⟩
          case measure => simp [intOf]; omega
        · have HAT : attrAt cl k = attrL za := by rw [attrAt_new (by rw [hza, show k - 1 = k1 by omega, hzb]; exact hne), hza]
          have hneB : (za != zb) = true := by simpa using hne
          have HK1 := hide hk1
          have HNE := hide hne
          clear hk1 hne
          rw [HAT] at hjs
          have HS := hide hjs
          clear hjs HAT
          go_wp2_with fail
          refine wp_region_held_drew (S := (fun w' => w'.cell? ⟨br, ro + k * 2 + 1, none⟩ = some (.int .i64 za) ∧ w'.cell? ⟨br, ro + k1 * 2 + 1, none⟩ = some (.int .i64 zb))) (by kernel_rfl) ?_ (fun hHeld => ?_)
          · (try dsimp only); exact ⟨gk, gb⟩
          refine wpAnyH_take (i := 0) (oi := ⟨_, _, _, _, _, _⟩) (v := ?_) rfl (by kernel_rfl) (by kernel_rfl) (by kernel_rfl) (fun _ _ _ h => h) (Or.inl ⟨by rfl, ?_⟩) hHeld ?_
          rotate_left
          · (intro w hSw; (try dsimp only at hSw); go_simp; try (with_reducible rfl))
          try simp only [Act.put, List.setIfInBounds_toArray, List.set_cons_zero, List.set_cons_succ]
          refine wpAnyH_take (i := 1) (oi := ⟨_, _, _, _, _, _⟩) (v := ?_) rfl (by kernel_rfl) (by kernel_rfl) (by kernel_rfl) (fun _ _ _ h => h) (Or.inl ⟨by rfl, ?_⟩) hHeld ?_
          rotate_left
          · (intro w hSw; (try dsimp only at hSw); go_simp; try (with_reducible rfl))
          try simp only [Act.put, List.setIfInBounds_toArray, List.set_cons_zero, List.set_cons_succ]
          refine wpAnyH_take (i := 2) (oi := ⟨_, _, _, _, _, _⟩) (v := ?_) rfl (by kernel_rfl) (by kernel_rfl) (by kernel_rfl) (fun _ _ _ h => h) (Or.inl ⟨by rfl, ?_⟩) hHeld ?_
          rotate_left
          · (intro w hSw; (try dsimp only at hSw); go_simp; try (with_reducible rfl))
          try simp only [Act.put, List.setIfInBounds_toArray, List.set_cons_zero, List.set_cons_succ]
          refine wpAnyH_take (i := 3) (oi := ⟨_, _, _, _, _, _⟩) (v := ?_) rfl (by kernel_rfl) (by kernel_rfl) (by kernel_rfl) (fun _ _ _ h => h) (Or.inl ⟨by rfl, ?_⟩) hHeld ?_
          rotate_left
          · (intro w hSw; (try dsimp only at hSw); go_simp; try (with_reducible rfl))
          try simp only [Act.put, List.setIfInBounds_toArray, List.set_cons_zero, List.set_cons_succ]
          refine wpAnyH_take (i := 4) (oi := ⟨_, _, _, _, _, _⟩) (v := ?_) rfl (by kernel_rfl) (by kernel_rfl) (by kernel_rfl) (fun _ _ _ h => h) (Or.inl ⟨by rfl, ?_⟩) hHeld ?_
          rotate_left
          · (intro w hSw; (try dsimp only at hSw); go_simp; try (with_reducible rfl))
          try simp only [Act.put, List.setIfInBounds_toArray, List.set_cons_zero, List.set_cons_succ]
          refine wpAnyH_take (i := 5) (oi := ⟨_, _, _, _, _, _⟩) (v := ?_) rfl (by kernel_rfl) (by kernel_rfl) (by kernel_rfl) (fun _ _ _ h => h) (Or.inl ⟨by rfl, ?_⟩) hHeld ?_
          rotate_left
          · (intro w hSw; (try dsimp only at hSw); go_simp; try (with_reducible rfl))
          try simp only [Act.put, List.setIfInBounds_toArray, List.set_cons_zero, List.set_cons_succ]
          refine wpAnyH_take (i := 6) (oi := ⟨_, _, _, _, _, _⟩) (v := ?_) rfl (by kernel_rfl) (by kernel_rfl) (by kernel_rfl) (fun _ _ _ h => h) (Or.inl ⟨by rfl, ?_⟩) hHeld ?_
          rotate_left
          · (intro w hSw; (try dsimp only at hSw); go_simp; try (with_reducible rfl))
          try simp only [Act.put, List.setIfInBounds_toArray, List.set_cons_zero, List.set_cons_succ]
          refine wpAnyH_take (i := 7) (oi := ⟨_, _, _, _, _, _⟩) (v := ?_) rfl (by kernel_rfl) (by kernel_rfl) (by kernel_rfl) (fun _ _ _ h => h) (Or.inl ⟨by rfl, ?_⟩) hHeld ?_
          rotate_left
          · (intro w hSw; (try dsimp only at hSw); go_simp; try (with_reducible rfl))
          try simp only [Act.put, List.setIfInBounds_toArray, List.set_cons_zero, List.set_cons_succ]
          refine wpAnyH_take (i := 8) (oi := ⟨_, _, _, _, _, _⟩) (v := ?_) rfl (by kernel_rfl) (by kernel_rfl) (by kernel_rfl) (fun _ _ _ h => h) (Or.inl ⟨by rfl, ?_⟩) hHeld ?_
          rotate_left
          · (intro w hSw; (try dsimp only at hSw); go_simp; try (with_reducible rfl))
          try simp only [Act.put, List.setIfInBounds_toArray, List.set_cons_zero, List.set_cons_succ]
          refine wpAnyH_take (i := 9) (oi := ⟨_, _, _, _, _, _⟩) (v := ?_) rfl (by kernel_rfl) (by kernel_rfl) (by kernel_rfl) (fun _ _ _ h => h) (Or.inl ⟨by rfl, ?_⟩) hHeld ?_
          rotate_left
          · (intro w hSw; (try dsimp only at hSw); go_simp; try (with_reducible rfl))
          try simp only [Act.put, List.setIfInBounds_toArray, List.set_cons_zero, List.set_cons_succ]
          refine wpAnyH_take (i := 10) (oi := ⟨_, _, _, _, _, _⟩) (v := ?_) rfl (by kernel_rfl) (by kernel_rfl) (by kernel_rfl) (fun _ _ _ h => h) (Or.inl ⟨by rfl, ?_⟩) hHeld ?_
          rotate_left
          · (intro w hSw; (try dsimp only at hSw); go_simp; try (with_reducible rfl))
          try simp only [Act.put, List.setIfInBounds_toArray, List.set_cons_zero, List.set_cons_succ]
          refine wpAnyH_take (i := 11) (oi := ⟨_, _, _, _, _, _⟩) (v := ?_) rfl (by kernel_rfl) (by kernel_rfl) (by kernel_rfl) (fun _ _ _ h => h) (Or.inl ⟨by rfl, ?_⟩) hHeld ?_
          rotate_left
          · (intro w hSw; (try dsimp only at hSw); go_simp; try (with_reducible rfl))
          try simp only [Act.put, List.setIfInBounds_toArray, List.set_cons_zero, List.set_cons_succ]
          refine wpAnyH_take (i := 12) (oi := ⟨_, _, _, _, _, _⟩) (v := ?_) rfl (by kernel_rfl) (by kernel_rfl) (by kernel_rfl) (fun _ _ _ h => h) (Or.inl ⟨by rfl, ?_⟩) hHeld ?_
          rotate_left
          · (intro w hSw; (try dsimp only at hSw); go_simp; try (with_reducible rfl))
          try simp only [Act.put, List.setIfInBounds_toArray, List.set_cons_zero, List.set_cons_succ]
          refine wpAnyH_take (i := 13) (oi := ⟨_, _, _, _, _, _⟩) (v := ?_) rfl (by kernel_rfl) (by kernel_rfl) (by kernel_rfl) (fun _ _ _ h => h) (Or.inl ⟨by rfl, ?_⟩) hHeld ?_
          rotate_left
          · (intro w hSw; (try dsimp only at hSw); go_simp; try (with_reducible rfl))
          try simp only [Act.put, List.setIfInBounds_toArray, List.set_cons_zero, List.set_cons_succ]
          refine wpAnyH_take (i := 14) (oi := ⟨_, _, _, _, _, _⟩) (v := ?_) rfl (by kernel_rfl) (by kernel_rfl) (by kernel_rfl) (fun _ _ _ h => h) (Or.inl ⟨by rfl, ?_⟩) hHeld ?_
          rotate_left
          · (intro w hSw; (try dsimp only at hSw); go_simp; try (with_reducible rfl))
          try simp only [Act.put, List.setIfInBounds_toArray, List.set_cons_zero, List.set_cons_succ]
          refine wpAnyH_take (i := 15) (oi := ⟨_, _, _, _, _, _⟩) (v := ?_) rfl (by kernel_rfl) (by kernel_rfl) (by kernel_rfl) (fun _ _ _ h => h) (Or.inl ⟨by rfl, ?_⟩) hHeld ?_
          rotate_left
          · (intro w hSw; (try dsimp only at hSw); go_simp; try (with_reducible rfl))
          try simp only [Act.put, List.setIfInBounds_toArray, List.set_cons_zero, List.set_cons_succ]
          refine wpAnyH_done (by kernel_rfl) ?_ _
          clear hHeld
          have hbd : Below base w wr.drew := Below.drew hb
          go_wp2_with fail
          go_at_call 47
          refine (appendAttr_calls za base _ _ _ wr.drew za0 za1 (by omega) (by simpa using (by omega : base ≤ wr.heap.size)) hO' (htab.on hbd)).mono ?_
          rintro e w4 ⟨v4, rfl, ho4, hb4', -⟩
          have b4 : Below base w w4 := hbd.trans hb4'
          have gz4 : w4.cell? ⟨br, ro + k * 2, none⟩ = some (.int .i64 zc) := by
            rw [b4.cell (p := ⟨br, ro + k * 2, none⟩) hbr, ← hb.cell (p := ⟨br, ro + k * 2, none⟩) hbr]
            exact gz
          clear hb4' gz gk
          clear gb
          have z4 := b4.size
          go_wp2_with fail
          go_at_call 68
          refine (appendChar_calls zc base _ _ _ w4 zc0 zc1 (by omega) (Nat.le_trans hbase z4) ho4).mono ?_
          rintro e w6 ⟨v6, rfl, ho6, hb6'⟩
          have b6 : Below base w w6 := b4.trans hb6'
          clear hb6'
          have HO6 : Hid (w6.ownsRow base 5 1 v6 (n + ((placeL y 0).length + (rowTo cl (k + 1)).length)) (xs ++ (placeL y 0 ++ rowTo cl (k + 1)).map (Value.int .u8))) := by
            refine hide ?_
            rw [HS.out]
            have e1 : n + ((placeL y 0).length + P.length) + (attrL za).length + (encL zc).length = n + ((placeL y 0).length + (P ++ (attrL za ++ encL zc)).length) := by simp; omega
            rw [← e1]
            unfold byteVs at ho6
            simpa [Nat.add_assoc] using ho6
          clear ho6
          go_wp2
          go_roundw
          case rel => exact ⟨k + 1, by omega, by go_num, HO6, b6⟩
          case measure => simp [intOf]; omega
    · obtain rfl : k = m := by omega
      go_wp2
      go_ret
      exact ⟨_, rfl, by rw [List.length_append]; exact hO.out, hb⟩
end Go.Proofs.YtknkbihjboadjaaDoor
