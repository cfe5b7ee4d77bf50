/-
  The sym of a key with its mods: impl.SymOf, spec.l8Of, SymOf; laws.eqSymResult.
-/
import Derived.Test.YtcfechnkgefhcaaDoorBinSearch
import Derived.Test.YtcfechnkgefhcaaDoorBindRow
namespace Go.Proofs.YtcfechnkgefhcaaDoor
set_option maxRecDepth 20000
open Go.ChangeShapes Go.WideShapes Go.ChangeAt Go.RowKit
set_option linter.unusedVariables false
set_option linter.unusedSimpArgs false
set_option maxRecDepth 20000

/-- The sym bound to that key with these mods. -/
def hitAt (bs : List Bd) (k m : Int) : Option (Int × Int) := (bs.find? (fun p => p.1 == k && p.2.1 == m)).map (fun p => p.2.2)
def symK (bs : List Bd) (k m : Int) : Int × Int := (hitAt bs k m).getD ((hitAt bs k 0).getD (0, 0))
def ofL (k m : Int) : List Bd → Int × Int → Int × Int
  | [], o => o
  | p :: ps, o => if p.1 ≠ k then ofL k m ps o else if p.2.1 = m then p.2.2 else if p.2.1 = 0 then ofL k m ps p.2.2 else ofL k m ps o
theorem hitAt_none {bs : List Bd} {k m : Int} : hitAt bs k m = none ↔ ∀ p ∈ bs, ¬ (p.1 = k ∧ p.2.1 = m) := by
  unfold hitAt
  rw [Option.map_eq_none_iff, List.find?_eq_none]
  simp
theorem hitAt_cons (p : Bd) (ps : List Bd) (k m : Int) : hitAt (p :: ps) k m = if p.1 = k ∧ p.2.1 = m then some p.2.2 else hitAt ps k m := by
  unfold hitAt
  rw [List.find?_cons]
  by_cases h : p.1 = k ∧ p.2.1 = m
  · rw [if_pos h]; simp [h.1, h.2]
  · rw [if_neg h]
    have : (p.1 == k && p.2.1 == m) = false := by
      cases hb : (p.1 == k && p.2.1 == m) with
      | false => rfl
      | true => simp at hb; exact absurd hb h
    rw [this]
theorem ofL_eq (k m : Int) : ∀ (ps : List Bd) (o : Int × Int), SortedB ps → ofL k m ps o = (hitAt ps k m).getD ((hitAt ps k 0).getD o)
  | [], o, _ => rfl
  | p :: ps, o, h => by
    obtain ⟨h1, h2⟩ := List.pairwise_cons.1 h
    have ih := fun o => ofL_eq k m ps o h2
    rw [hitAt_cons, hitAt_cons]
    simp only [ofL]
    by_cases e1 : p.1 = k
    · rw [if_neg (by simpa using e1)]
      by_cases e2 : p.2.1 = m
      · rw [if_pos e2, if_pos ⟨e1, e2⟩]; rfl
      · rw [if_neg e2, if_neg (show ¬ (p.1 = k ∧ p.2.1 = m) from fun h => e2 h.2)]
        by_cases e3 : p.2.1 = 0
        · rw [if_pos e3, if_pos ⟨e1, e3⟩, ih]
          have hn : hitAt ps k 0 = none := hitAt_none.2 (fun q hq hk => by
            have := h1 q hq
            rw [ahead_iff] at this
            omega)
          rw [hn]; rfl
        · rw [if_neg e3, if_neg (show ¬ (p.1 = k ∧ p.2.1 = 0) from fun h => e3 h.2), ih]
    · rw [if_pos e1, if_neg (show ¬ (p.1 = k ∧ p.2.1 = m) from fun h => e1 h.1), if_neg (show ¬ (p.1 = k ∧ p.2.1 = 0) from fun h => e1 h.1), ih]
theorem cmp_hit (p q : Bd) : cmpK p q = 0 ↔ (p.1 = q.1 ∧ p.2.1 = q.2.1) := cmpK_zero p q
theorem hit_some {bs : List Bd} {k m a b : Int} {n : Nat} (hs : SortedB bs) (hc : CutAt bs (k, m, a, b) n) (h : hitB bs (k, m, a, b) n = true) : n < bs.length ∧ hitAt bs k m = some (bs.getD n b0).2.2 := by
  unfold hitB at h
  simp only [Bool.and_eq_true, decide_eq_true_eq] at h
  obtain ⟨hn, hz⟩ := h
  have hz := (cmp_hit _ _).1 hz
  refine ⟨hn, ?_⟩
  obtain ⟨_, h1, _⟩ := hc
  have hd : bs = bs.take n ++ bs.getD n b0 :: bs.drop (n + 1) := by
    rw [getB hn, ← List.drop_eq_getElem_cons hn, List.take_append_drop]
  have hnone : hitAt (bs.take n) k m = none := hitAt_none.2 (fun p hp hk => by
    obtain ⟨i, hi, rfl⟩ := List.mem_iff_getElem.1 hp
    rw [List.length_take] at hi
    have := h1 i (by omega)
    rw [ahead_iff, getB (by omega : i < bs.length)] at this
    rw [List.getElem_take] at hk
    simp only at this
    omega)
  have app : ∀ (xs ys : List Bd), hitAt xs k m = none → hitAt (xs ++ ys) k m = hitAt ys k m := by
    intro xs ys hx
    unfold hitAt at *
    rw [Option.map_eq_none_iff] at hx
    rw [List.find?_append, hx, Option.none_or]
  conv => lhs; rw [hd]
  rw [app _ _ hnone, hitAt_cons, if_pos ⟨hz.1, hz.2⟩]
theorem hit_not {bs : List Bd} {k m a b : Int} {n : Nat} (hs : SortedB bs) (hc : CutAt bs (k, m, a, b) n) (h : hitB bs (k, m, a, b) n = false) : hitAt bs k m = none := by
  obtain ⟨hle, h1, h2⟩ := hc
  refine hitAt_none.2 (fun p hp hk => ?_)
  obtain ⟨i, hi, rfl⟩ := List.mem_iff_getElem.1 hp
  rw [← getB hi] at hk
  by_cases e : i < n
  · have := h1 i e
    rw [ahead_iff] at this
    simp only at this
    omega
  · have hn : n < bs.length := by omega
    have hz : ¬ cmpK (bs.getD n b0) (k, m, a, b) = 0 := by
      intro hz
      unfold hitB at h
      rw [hz, decide_eq_true hn] at h
      cases h
    rw [cmp_hit] at hz
    have h2n := h2 n (by omega) hn
    by_cases e2 : i = n
    · subst e2; exact hz hk
    · have h3 := hs.at (show n < i by omega) hi
      rw [ahead_iff] at h3
      have : ¬ ((bs.getD n b0).1 < k ∨ ((bs.getD n b0).1 = k ∧ (bs.getD n b0).2.1 < m)) := fun hh => by
        have := (ahead_iff (bs.getD n b0) (k, m, a, b)).2 hh
        rw [h2n] at this; cases this
      simp only at hz
      omega

/-- What SymOf answers: its code and its sym. -/
def symCd (bs : List Bd) (k m : Int) : Int := if bindsCode bs = 0 then (if keyB k m = true then 0 else 3) else bindsCode bs
def symRs (bs : List Bd) (k m : Int) : Int × Int := if symCd bs k m = 0 then symK bs k m else (0, 0)

set_option maxHeartbeats 2000000 in
theorem l8Of_calls (bs : List Bd) (v : Value) (key m : Int) (w : World) (hn : bs.length ≤ 1048576) (h1 : QRead w v bs) :
    Calls Tryd.prog 56 #[v, .int .i64 key, .int .i64 m] w fun e w' => e = .returned (.agg #[.int .i64 (ofL key m bs (0, 0)).1, .int .i64 (ofL key m bs (0, 0)).2]) ∧ Below w.heap.size w w' := by
  obtain ⟨a1, c1, rfl, h1⟩ := h1
  generalize hres : ofL key m bs (0, 0) = res
  have HR : Hid (ofL key m (bs.drop 0) (0, 0) = res) := hide (by rw [List.drop_zero]; exact hres)
  clear hres
  have hb0 : Below w.heap.size w ((w.alloc (.cells #[.int .i64 0, .int .i64 0] 26)).alloc (.cells #[.int .i64 0, .int .i64 0] 26)) := (by repeat' (first | with_reducible exact Below.refl _ _ | with_reducible assumption | with_reducible refine Below.drew ?_ | with_reducible refine Below.alloc ?_ ?_ _ | with_reducible refine Below.setCell ?_ ?_ _ | (simp; done) | (simp; omega) | omega))
  have A2 : Blk ((w.alloc (.cells #[.int .i64 0, .int .i64 0] 26)).alloc (.cells #[.int .i64 0, .int .i64 0] 26)) (w.heap.size + 1) #[.int .i64 (0, 0).1, .int .i64 (0, 0).2] := Blk.new_at (by simp) _ _
  have A1 : Blk ((w.alloc (.cells #[.int .i64 0, .int .i64 0] 26)).alloc (.cells #[.int .i64 0, .int .i64 0] 26)) w.heap.size #[.int .i64 0, .int .i64 0] := (Blk.new_at (by simp) _ _).alloc _
  have H1 := hide h1
  clear h1
  go_enter Tryd.func56, Tryd.ntmps56
  go_wp2_with fail
  generalize ((w.alloc (.cells #[.int .i64 0, .int .i64 0] 26)).alloc (.cells #[.int .i64 0, .int .i64 0] 26)) = W at *
  go_loopw [8] (fun i wr => ∃ (k : Nat) (o : Int × Int), k ≤ bs.length ∧ i = .int .i64 k ∧ Hid (ofL key m (bs.drop k) o = res) ∧ Below w.heap.size w wr ∧ Blk wr (w.heap.size + 1) #[.int .i64 o.1, .int .i64 o.2] ∧ Blk wr w.heap.size #[.int .i64 0, .int .i64 0]) (fun i _ => bs.length - (intOf i).toNat)
  case atStart => exact ⟨0, (0, 0), Nat.zero_le _, rfl, HR, hb0, A2, A1⟩
  case round =>
    obtain ⟨k, ⟨o0, o1⟩, hkk, rfl, hr, hb, B2, B1⟩ := hrel
    clear hb0 A2 A1
    have d0 : wr.cell? ⟨w.heap.size + 1, 0, none⟩ = some (.int .i64 o0) := B2.at 0 rfl
    have d1 : wr.cell? ⟨w.heap.size + 1, 1, none⟩ = some (.int .i64 o1) := B2.at 1 rfl
    have e0 : wr.cell? ⟨w.heap.size, 0, none⟩ = some (.int .i64 0) := B1.at 0 rfl
    have e1 : wr.cell? ⟨w.heap.size, 1, none⟩ = some (.int .i64 0) := B1.at 1 rfl
    have z2 := B2.froz
    have z1 := B1.froz
    by_cases hlt : k < bs.length
    · have hpos : bs ≠ [] := by intro h; rw [h] at hlt; simp at hlt
      rcases H1.out with h1 | ⟨b1, q1, rfl, h1⟩
      · exact absurd h1 hpos
      have hq := (h1 k hlt).below hb
      have hltI : (k : Int) < (bs.length : Int) := by omega
      have HD : Hid (bs.drop k = bs.getD k b0 :: bs.drop (k + 1)) := hide (by rw [getB hlt]; exact List.drop_eq_getElem_cons hlt)
      clear h1 hpos H1
      generalize bs.getD k b0 = x at hq HD
      obtain ⟨x0, x1, x2, x3⟩ := x
      obtain ⟨g0, g1, g2, g3⟩ := hq
      dsimp only at g0 g1 g2 g3
      by_cases h0 : x0 = key
      · have hne : (x0 != key) = false := by simpa using h0
        by_cases h2 : x1 = m
        · have heq : (x1 == m) = true := by simpa using h2
          have er : res = (x2, x3) := by rw [← hr.out, HD.out]; simp [ofL, h0, h2]
          subst er
          clear hr HD h0 h2 HR
          go_wp2
          refine bodyPost_ret (v := .agg #[.int .i64 x2, .int .i64 x3]) (by simp [results, Tryd.results56, go_sem, e0, e1]) rfl ⟨rfl, ?_⟩
          exact (by repeat' (first | with_reducible exact Below.refl _ _ | with_reducible assumption | with_reducible refine Below.drew ?_ | with_reducible refine Below.alloc ?_ ?_ _ | with_reducible refine Below.setCell ?_ ?_ _ | (simp; done) | (simp; omega) | omega))
        · have heq : (x1 == m) = false := by simpa using h2
          by_cases h3 : x1 = 0
          · have heq0 : (x1 == 0) = true := by simpa using h3
            have E1 : Hid (ofL key m (bs.drop (k + 1)) (x2, x3) = res) := by show _ = _; rw [← hr.out, HD.out]; simp [ofL, h0, h2, h3]; intro h4; omega
            clear hr HD h0 h2 h3
            go_wp2
            go_roundw
            case rel =>
              have hlk : w.heap.size < wr.heap.size := B1.lt
              refine ⟨k + 1, (x2, x3), by omega, by go_num, E1, (by repeat' (first | with_reducible exact Below.refl _ _ | with_reducible assumption | with_reducible refine Below.drew ?_ | with_reducible refine Below.alloc ?_ ?_ _ | with_reducible refine Below.setCell ?_ ?_ _ | (simp; done) | (simp; omega) | omega)), ?_, ?_⟩
              · have s1 := B2.set 0 (.int .i64 x2) (cs' := #[.int .i64 x2, .int .i64 o1]) rfl
                exact s1.set 1 (.int .i64 x3) (cs' := #[.int .i64 x2, .int .i64 x3]) rfl
              · exact (B1.set_other _ (by simp) _).set_other _ (by simp) _
            case measure => simp [intOf]; omega
          · have heq0 : (x1 == 0) = false := by simpa using h3
            have E1 : Hid (ofL key m (bs.drop (k + 1)) (o0, o1) = res) := by show _ = _; rw [← hr.out, HD.out]; simp [ofL, h0, h2, h3]
            clear hr HD h0 h2 h3
            go_wp2
            go_roundw
            case rel => exact ⟨k + 1, (o0, o1), by omega, by go_num, E1, hb, B2, B1⟩
            case measure => simp [intOf]; omega
      · have hne : (x0 != key) = true := by simpa using h0
        have E1 : Hid (ofL key m (bs.drop (k + 1)) (o0, o1) = res) := by show _ = _; rw [← hr.out, HD.out]; simp [ofL, h0]
        clear hr HD h0
        go_wp2
        go_roundw
        case rel => exact ⟨k + 1, (o0, o1), by omega, by go_num, E1, hb, B2, B1⟩
        case measure => simp [intOf]; omega
    · have er : res = (o0, o1) := by rw [← hr.out, List.drop_eq_nil_of_le (by omega)]; rfl
      subst er
      have hge : ¬ ((k : Int) < (bs.length : Int)) := by omega
      clear hr HR
      go_wp2
      refine bodyPost_ret (v := .agg #[.int .i64 o0, .int .i64 o1]) (by simp [results, Tryd.results56, go_sem, e0, e1]) rfl ⟨rfl, ?_⟩
      exact (by repeat' (first | with_reducible exact Below.refl _ _ | with_reducible assumption | with_reducible refine Below.drew ?_ | with_reducible refine Below.alloc ?_ ?_ _ | with_reducible refine Below.setCell ?_ ?_ _ | (simp; done) | (simp; omega) | omega))
theorem symCd_ok {bs : List Bd} {k m : Int} (h1 : bindsCode bs = 0) (h2 : keyB k m = true) : symCd bs k m = 0 := by unfold symCd; rw [if_pos h1, if_pos h2]
theorem symCd_key {bs : List Bd} {k m : Int} (h1 : bindsCode bs = 0) (h2 : keyB k m = false) : symCd bs k m = 3 := by unfold symCd; rw [if_pos h1, if_neg (by rw [h2]; simp)]
theorem symCd_bad {bs : List Bd} {k m : Int} (h1 : ¬ bindsCode bs = 0) : symCd bs k m = bindsCode bs := by unfold symCd; rw [if_neg h1]
theorem symRs_ok {bs : List Bd} {k m : Int} (h1 : symCd bs k m = 0) : symRs bs k m = symK bs k m := by unfold symRs; rw [if_pos h1]
theorem symRs_bad {bs : List Bd} {k m : Int} (h1 : ¬ symCd bs k m = 0) : symRs bs k m = (0, 0) := by unfold symRs; rw [if_neg h1]
set_option maxHeartbeats 2000000 in
theorem specSymOf_calls (bs : List Bd) (v : Value) (key m : Int) (w : World) (hn : bs.length ≤ 1048576) (h1 : QRead w v bs) :
    Calls Tryd.prog 20 #[v, .int .i64 key, .int .i64 m] w fun e w' => e = .returned (.agg #[.int .i64 (symCd bs key m), .int .i64 (symRs bs key m).1, .int .i64 (symRs bs key m).2]) ∧ Below w.heap.size w w' := by
  generalize hcd : symCd bs key m = cd
  generalize hrs : symRs bs key m = rs
  have HCD := hide hcd
  obtain ⟨r0, r1⟩ := rs
  have HRS := hide hrs
  clear hcd hrs
  show Calls _ _ _ _ fun e w' => e = .returned (.agg #[.int .i64 cd, .int .i64 r0, .int .i64 r1]) ∧ Below w.heap.size w w'
  have hb0 : Below w.heap.size w (w.alloc (.cells #[.int .i64 0, .int .i64 0, .int .i64 0] 36)) := (by repeat' (first | with_reducible exact Below.refl _ _ | with_reducible assumption | with_reducible refine Below.drew ?_ | with_reducible refine Below.alloc ?_ ?_ _ | with_reducible refine Below.setCell ?_ ?_ _ | (simp; done) | (simp; omega) | omega))
  have B : Blk (w.alloc (.cells #[.int .i64 0, .int .i64 0, .int .i64 0] 36)) w.heap.size #[.int .i64 0, .int .i64 0, .int .i64 0] := Blk.new_at (by simp) _ _
  have hr0 := h1.below hb0
  clear h1
  obtain ⟨code, HC⟩ : ∃ c, Hid (bindsCode bs = c) := ⟨_, hide rfl⟩
  go_enter Tryd.func20, Tryd.ntmps20
  go_wp2_with fail
  generalize (w.alloc (.cells #[.int .i64 0, .int .i64 0, .int .i64 0] 36)) = W at *
  refine (l8Fault_calls bs v _ hn hr0).mono ?_
  rintro e w2 ⟨rfl, q⟩
  rw [HC.out]
  have hb2 := hb0.trans (q.mono hb0.size)
  replace B := B.belowb q
  replace hr0 := hr0.below q
  clear q hb0
  have d0 : w2.cell? ⟨w.heap.size, 0, none⟩ = some (.int .i64 0) := B.at 0 rfl
  have d1 : w2.cell? ⟨w.heap.size, 1, none⟩ = some (.int .i64 0) := B.at 1 rfl
  have d2 : w2.cell? ⟨w.heap.size, 2, none⟩ = some (.int .i64 0) := B.at 2 rfl
  have z := B.froz
  by_cases hz : code = 0
  · subst hz
    cases hk : keyB key m with
    | false =>
      have E1 : Hid (symCd bs key m = 3) := hide (symCd_key HC.out hk)
      have E2 : Hid (symRs bs key m = (0, 0)) := hide (symRs_bad (by rw [E1.out]; omega))
      obtain rfl : cd = 3 := HCD.out.symm.trans E1.out
      obtain ⟨rfl, rfl⟩ : r0 = 0 ∧ r1 = 0 := by have := HRS.out.symm.trans E2.out; simpa using this
      clear B
      go_wp2_with (go_at_call 49; refine (l8Key_calls key m _).mono ?_; rintro e w' ⟨rfl, hw⟩; rw [hw, hk]; clear hw w')
      refine bodyPost_ret (v := .agg #[.int .i64 3, .int .i64 0, .int .i64 0]) (by simp [results, Tryd.results20, go_sem, d0, d1, d2]) rfl ⟨rfl, ?_⟩
      exact (by repeat' (first | with_reducible exact Below.refl _ _ | with_reducible assumption | with_reducible refine Below.drew ?_ | with_reducible refine Below.alloc ?_ ?_ _ | with_reducible refine Below.setCell ?_ ?_ _ | (simp; done) | (simp; omega) | omega))
    | true =>
      have E1 : Hid (symCd bs key m = 0) := hide (symCd_ok HC.out hk)
      have E2 : Hid (symRs bs key m = ofL key m bs (0, 0)) := hide (by rw [symRs_ok E1.out, ofL_eq _ _ _ _ (bfine_of_code HC.out).sorted]; rfl)
      obtain rfl : cd = 0 := HCD.out.symm.trans E1.out
      have HOF : Hid (ofL key m bs (0, 0) = (r0, r1)) := hide (E2.out.symm.trans HRS.out)
      go_wp2_with fail
      refine (l8Key_calls key m _).mono ?_
      rintro e w' ⟨rfl, hw⟩
      rw [hw, hk]
      clear hw w' d0 d1 d2 z
      go_wp2_with fail
      refine (l8Of_calls bs v key m _ hn hr0).mono ?_
      rintro e w3 ⟨rfl, q⟩
      have hb3 := hb2.trans (q.mono hb2.size)
      replace B := B.belowb q
      clear q hb2
      have d0 : w3.cell? ⟨w.heap.size, 0, none⟩ = some (.int .i64 0) := B.at 0 rfl
      have d1 : w3.cell? ⟨w.heap.size, 1, none⟩ = some (.int .i64 0) := B.at 1 rfl
      have d2 : w3.cell? ⟨w.heap.size, 2, none⟩ = some (.int .i64 0) := B.at 2 rfl
      have z := B.froz
      rw [HOF.out]
      clear B E2
      go_wp2
      refine bodyPost_ret (v := .agg #[.int .i64 0, .int .i64 r0, .int .i64 r1]) (by simp [results, Tryd.results20, go_sem, d0, d1, d2]) rfl ⟨rfl, ?_⟩
      exact (by repeat' (first | with_reducible exact Below.refl _ _ | with_reducible assumption | with_reducible refine Below.drew ?_ | with_reducible refine Below.alloc ?_ ?_ _ | with_reducible refine Below.setCell ?_ ?_ _ | (simp; done) | (simp; omega) | omega))
  · have E1 : Hid (symCd bs key m = code) := hide (by rw [symCd_bad (by rw [HC.out]; exact hz), HC.out])
    have E2 : Hid (symRs bs key m = (0, 0)) := hide (symRs_bad (by rw [E1.out]; exact hz))
    obtain rfl : cd = code := HCD.out.symm.trans E1.out
    obtain ⟨rfl, rfl⟩ : r0 = 0 ∧ r1 = 0 := by have := HRS.out.symm.trans E2.out; simpa using this
    have hne : (cd != 0) = true := by simpa using hz
    clear B hz
    go_wp2
    refine bodyPost_ret (v := .agg #[.int .i64 cd, .int .i64 0, .int .i64 0]) (by simp [results, Tryd.results20, go_sem, d0, d1, d2]) rfl ⟨rfl, ?_⟩
    exact (by repeat' (first | with_reducible exact Below.refl _ _ | with_reducible assumption | with_reducible refine Below.drew ?_ | with_reducible refine Below.alloc ?_ ?_ _ | with_reducible refine Below.setCell ?_ ?_ _ | (simp; done) | (simp; omega) | omega))
theorem two_at0 (m : Int) (w : World) : (Instr.index 85 (.agg #[.int .i64 m, .int .i64 0]) (.int .i64 0)).run Tryd.prog w = .ok (.int .i64 m) w := by kernel_rfl
theorem two_at1 (m : Int) (w : World) : (Instr.index 85 (.agg #[.int .i64 m, .int .i64 0]) (.int .i64 1)).run Tryd.prog w = .ok (.int .i64 0) w := by kernel_rfl
set_option maxHeartbeats 4000000 in
theorem implSymOf_calls (bs : List Bd) (v : Value) (key m : Int) (w : World) (hn : bs.length ≤ 1048576) (h1 : QRead w v bs) (hT : FewAt w) :
    Calls Tryd.prog 15 #[v, .int .i64 key, .int .i64 m] w fun e w' => e = .returned (.agg #[.int .i64 (symCd bs key m), .int .i64 (symRs bs key m).1, .int .i64 (symRs bs key m).2]) ∧ Below w.heap.size w w' := by
  generalize hcd : symCd bs key m = cd
  generalize hrs : symRs bs key m = rs
  have HCD := hide hcd
  obtain ⟨r0, r1⟩ := rs
  have HRS := hide hrs
  clear hcd hrs
  show Calls _ _ _ _ fun e w' => e = .returned (.agg #[.int .i64 cd, .int .i64 r0, .int .i64 r1]) ∧ Below w.heap.size w w'
  have hb0 : Below w.heap.size w (w.alloc (.cells #[.int .i64 0, .int .i64 0, .int .i64 0] 36)) := (by repeat' (first | with_reducible exact Below.refl _ _ | with_reducible assumption | with_reducible refine Below.drew ?_ | with_reducible refine Below.alloc ?_ ?_ _ | with_reducible refine Below.setCell ?_ ?_ _ | (simp; done) | (simp; omega) | omega))
  have B : Blk (w.alloc (.cells #[.int .i64 0, .int .i64 0, .int .i64 0] 36)) w.heap.size #[.int .i64 0, .int .i64 0, .int .i64 0] := Blk.new_at (by simp) _ _
  have HRD : Hid (∀ w', Below w.heap.size w w' → QRead w' v bs) := hide (fun w' hb => h1.below hb)
  have hT0 := hT.below hb0
  clear h1 hT
  obtain ⟨code, HC⟩ : ∃ c, Hid (bindsCode bs = c) := ⟨_, hide rfl⟩
  go_enter Tryd.func15, Tryd.ntmps15
  go_wp2_with fail
  generalize (w.alloc (.cells #[.int .i64 0, .int .i64 0, .int .i64 0] 36)) = W at *
  refine (implBindsFault_calls bs v _ hn (HRD.out _ hb0) hT0).mono ?_
  rintro e w2 ⟨rfl, q⟩
  rw [HC.out]
  have hb2 := hb0.trans (q.mono hb0.size)
  replace B := B.belowb q
  clear q hb0 hT0
  have d0 : w2.cell? ⟨w.heap.size, 0, none⟩ = some (.int .i64 0) := B.at 0 rfl
  have d1 : w2.cell? ⟨w.heap.size, 1, none⟩ = some (.int .i64 0) := B.at 1 rfl
  have d2 : w2.cell? ⟨w.heap.size, 2, none⟩ = some (.int .i64 0) := B.at 2 rfl
  have z := B.froz
  by_cases hz : code = 0
  · subst hz
    cases hk : keyB key m with
    | false =>
      have E1 : Hid (symCd bs key m = 3) := hide (symCd_key HC.out hk)
      have E2 : Hid (symRs bs key m = (0, 0)) := hide (symRs_bad (by rw [E1.out]; omega))
      obtain rfl : cd = 3 := HCD.out.symm.trans E1.out
      obtain ⟨rfl, rfl⟩ : r0 = 0 ∧ r1 = 0 := by have := HRS.out.symm.trans E2.out; simpa using this
      clear B
      go_wp2_with (go_at_call 52; refine (isBound_calls key m _).mono ?_; rintro e w' ⟨rfl, hw⟩; rw [hw, hk]; clear hw w')
      refine bodyPost_ret (v := .agg #[.int .i64 3, .int .i64 0, .int .i64 0]) (by simp [results, Tryd.results15, go_sem, d0, d1, d2]) rfl ⟨rfl, ?_⟩
      exact (by repeat' (first | with_reducible exact Below.refl _ _ | with_reducible assumption | with_reducible refine Below.drew ?_ | with_reducible refine Below.alloc ?_ ?_ _ | with_reducible refine Below.setCell ?_ ?_ _ | (simp; done) | (simp; omega) | omega))
    | true =>
      have E1 : Hid (symCd bs key m = 0) := hide (symCd_ok HC.out hk)
      have HSO := hide (bfine_of_code HC.out).sorted
      obtain rfl : cd = 0 := HCD.out.symm.trans E1.out
      have HR : Hid (symK bs key m = (r0, r1)) := hide (by rw [← HRS.out, symRs_ok E1.out])
      clear d0 d1 d2 z E1 HC HRS
      go_wp2_with fail
      refine (isBound_calls key m _).mono ?_
      rintro e w' ⟨rfl, hw⟩
      rw [hw, hk]
      clear hw w'
      go_wp2
      go_loopw [25] (fun i wr => ∃ k : Nat, k ≤ 2 ∧ i = .int .i64 k ∧ Hid (0 < k → hitAt bs key m = none) ∧ Hid (1 < k → hitAt bs key 0 = none) ∧ Below w.heap.size w wr ∧ Blk wr w.heap.size #[.int .i64 0, .int .i64 0, .int .i64 0]) (fun i _ => 2 - (intOf i).toNat)
      case atStart => exact ⟨0, by omega, rfl, hide (fun h => by omega), hide (fun h => by omega), hb2, B⟩
      case round =>
        obtain ⟨k, hk2, rfl, hn0, hn1, hb, B1⟩ := hrel
        clear B hb2
        have hk3 : k = 0 ∨ k = 1 ∨ k = 2 := by omega
        clear hk2
        rcases hk3 with rfl | rfl | rfl
        · have hix := two_at0 m
          go_wp2_with fail
          refine (bsearch_calls bs v (key, m, 0, 0) _ hn (HRD.out _ hb) HSO.out).mono ?_
          rintro e w3 ⟨⟨n, rfl, hcut⟩, q⟩
          have HCUT := hide hcut
          clear hcut
          have hb3 := hb.trans (q.mono hb.size)
          replace B1 := B1.belowb q
          clear q hb
          cases hh : hitB bs (key, m, 0, 0) n with
          | true =>
            obtain ⟨hnl, hit⟩ := hit_some HSO.out HCUT.out hh
            have er : (r0, r1) = (bs.getD n b0).2.2 := by rw [← HR.out]; unfold symK; rw [hit]; rfl
            have HER := hide er
            clear er
            have hr3 := HRD.out _ hb3
            obtain ⟨a1, c1, rfl, h1⟩ := hr3
            have hpos : bs ≠ [] := by intro h; rw [h] at hnl; simp at hnl
            rcases h1 with h1 | ⟨b1, q1, rfl, h1⟩
            · exact absurd h1 hpos
            have hq := h1 n hnl
            have hnI : (n : Int) < (bs.length : Int) := by omega
            have d0 : w3.cell? ⟨w.heap.size, 0, none⟩ = some (.int .i64 0) := B1.at 0 rfl
            have d1 : w3.cell? ⟨w.heap.size, 1, none⟩ = some (.int .i64 0) := B1.at 1 rfl
            have d2 : w3.cell? ⟨w.heap.size, 2, none⟩ = some (.int .i64 0) := B1.at 2 rfl
            have z := B1.froz
            clear h1 hpos HRD HSO HCUT HR hit hn0 hn1 B1
            generalize bs.getD n b0 = x at *
            obtain ⟨x0, x1, x2, x3⟩ := x
            obtain ⟨rfl, rfl⟩ : r0 = x2 ∧ r1 = x3 := by have := HER.out; simpa using this
            clear HER
            obtain ⟨g0, g1, g2, g3⟩ := hq
            dsimp only at g0 g1 g2 g3 ⊢
            have g3' : w3.cell? ⟨b1, q1 + n * 4 + 2 + 1, none⟩ = some (.int .i64 r1) := g3
            go_wp2
            refine bodyPost_ret (v := .agg #[.int .i64 0, .int .i64 r0, .int .i64 r1]) (by simp [results, Tryd.results15, go_sem, d0, d1, d2]) rfl ⟨rfl, ?_⟩
            exact (by repeat' (first | with_reducible exact Below.refl _ _ | with_reducible assumption | with_reducible refine Below.drew ?_ | with_reducible refine Below.alloc ?_ ?_ _ | with_reducible refine Below.setCell ?_ ?_ _ | (simp; done) | (simp; omega) | omega))
          | false =>
            have hit := hide (hit_not HSO.out HCUT.out hh)
            clear HCUT
            go_wp2
            go_roundw
            case rel => exact ⟨1, by omega, rfl, hide (fun _ => hit.out), hide (fun h => by omega), hb3, B1⟩
            case measure => simp [intOf]
        · have hix := two_at1 m
          go_wp2_with fail
          refine (bsearch_calls bs v (key, 0, 0, 0) _ hn (HRD.out _ hb) HSO.out).mono ?_
          rintro e w3 ⟨⟨n, rfl, hcut⟩, q⟩
          have HCUT := hide hcut
          clear hcut
          have hb3 := hb.trans (q.mono hb.size)
          replace B1 := B1.belowb q
          clear q hb
          cases hh : hitB bs (key, 0, 0, 0) n with
          | true =>
            obtain ⟨hnl, hit⟩ := hit_some HSO.out HCUT.out hh
            have er : (r0, r1) = (bs.getD n b0).2.2 := by rw [← HR.out]; unfold symK; rw [hn0.out (by omega), hit]; rfl
            have HER := hide er
            clear er
            have hr3 := HRD.out _ hb3
            obtain ⟨a1, c1, rfl, h1⟩ := hr3
            have hpos : bs ≠ [] := by intro h; rw [h] at hnl; simp at hnl
            rcases h1 with h1 | ⟨b1, q1, rfl, h1⟩
            · exact absurd h1 hpos
            have hq := h1 n hnl
            have hnI : (n : Int) < (bs.length : Int) := by omega
            have d0 : w3.cell? ⟨w.heap.size, 0, none⟩ = some (.int .i64 0) := B1.at 0 rfl
            have d1 : w3.cell? ⟨w.heap.size, 1, none⟩ = some (.int .i64 0) := B1.at 1 rfl
            have d2 : w3.cell? ⟨w.heap.size, 2, none⟩ = some (.int .i64 0) := B1.at 2 rfl
            have z := B1.froz
            clear h1 hpos HRD HSO HCUT HR hit hn0 hn1 B1
            generalize bs.getD n b0 = x at *
            obtain ⟨x0, x1, x2, x3⟩ := x
            obtain ⟨rfl, rfl⟩ : r0 = x2 ∧ r1 = x3 := by have := HER.out; simpa using this
            clear HER
            obtain ⟨g0, g1, g2, g3⟩ := hq
            dsimp only at g0 g1 g2 g3 ⊢
            have g3' : w3.cell? ⟨b1, q1 + n * 4 + 2 + 1, none⟩ = some (.int .i64 r1) := g3
            go_wp2
            refine bodyPost_ret (v := .agg #[.int .i64 0, .int .i64 r0, .int .i64 r1]) (by simp [results, Tryd.results15, go_sem, d0, d1, d2]) rfl ⟨rfl, ?_⟩
            exact (by repeat' (first | with_reducible exact Below.refl _ _ | with_reducible assumption | with_reducible refine Below.drew ?_ | with_reducible refine Below.alloc ?_ ?_ _ | with_reducible refine Below.setCell ?_ ?_ _ | (simp; done) | (simp; omega) | omega))
          | false =>
            have hit := hide (hit_not HSO.out HCUT.out hh)
            clear HCUT
            go_wp2
            go_roundw
            case rel => exact ⟨2, by omega, rfl, hide (fun _ => hn0.out (by omega)), hide (fun _ => hit.out), hb3, B1⟩
            case measure => simp [intOf]
        · have er : (r0, r1) = (0, 0) := by rw [← HR.out]; unfold symK; rw [hn0.out (by omega), hn1.out (by omega)]; rfl
          obtain ⟨rfl, rfl⟩ : r0 = 0 ∧ r1 = 0 := by simpa using er
          have d0 : wr.cell? ⟨w.heap.size, 0, none⟩ = some (.int .i64 0) := B1.at 0 rfl
          have d1 : wr.cell? ⟨w.heap.size, 1, none⟩ = some (.int .i64 0) := B1.at 1 rfl
          have d2 : wr.cell? ⟨w.heap.size, 2, none⟩ = some (.int .i64 0) := B1.at 2 rfl
          have z := B1.froz
          clear B1 HR hn0 hn1
          go_wp2
          refine bodyPost_ret (v := .agg #[.int .i64 0, .int .i64 0, .int .i64 0]) (by simp [results, Tryd.results15, go_sem, d0, d1, d2]) rfl ⟨rfl, ?_⟩
          exact (by repeat' (first | with_reducible exact Below.refl _ _ | with_reducible assumption | with_reducible refine Below.drew ?_ | with_reducible refine Below.alloc ?_ ?_ _ | with_reducible refine Below.setCell ?_ ?_ _ | (simp; done) | (simp; omega) | omega))
  · have E1 : Hid (symCd bs key m = code) := hide (by rw [symCd_bad (by rw [HC.out]; exact hz), HC.out])
    have E2 : Hid (symRs bs key m = (0, 0)) := hide (symRs_bad (by rw [E1.out]; exact hz))
    obtain rfl : cd = code := HCD.out.symm.trans E1.out
    obtain ⟨rfl, rfl⟩ : r0 = 0 ∧ r1 = 0 := by have := HRS.out.symm.trans E2.out; simpa using this
    have hne : (cd != 0) = true := by simpa using hz
    clear B hz
    go_wp2
    refine bodyPost_ret (v := .agg #[.int .i64 cd, .int .i64 0, .int .i64 0]) (by simp [results, Tryd.results15, go_sem, d0, d1, d2]) rfl ⟨rfl, ?_⟩
    exact (by repeat' (first | with_reducible exact Below.refl _ _ | with_reducible assumption | with_reducible refine Below.drew ?_ | with_reducible refine Below.alloc ?_ ?_ _ | with_reducible refine Below.setCell ?_ ?_ _ | (simp; done) | (simp; omega) | omega))
set_option maxHeartbeats 1000000 in
theorem eqSymResult_calls (c x y : Int) (w : World) :
    Calls Tryd.prog 37 #[.agg #[.int .i64 c, .int .i64 x, .int .i64 y], .agg #[.int .i64 c, .int .i64 x, .int .i64 y]] w fun e w' => e = .returned (.bool true) ∧ Below w.heap.size w w' := by
  have h1 : (c != c) = false := by simp
  have hb0 : Below w.heap.size w ((w.alloc (.cells #[.int .i64 c, .int .i64 x, .int .i64 y] 36)).alloc (.cells #[.int .i64 c, .int .i64 x, .int .i64 y] 36)) := (by repeat' (first | with_reducible exact Below.refl _ _ | with_reducible assumption | with_reducible refine Below.drew ?_ | with_reducible refine Below.alloc ?_ ?_ _ | with_reducible refine Below.setCell ?_ ?_ _ | (simp; done) | (simp; omega) | omega))
  go_enter Tryd.func37, Tryd.ntmps37
  go_wp2_with fail
  refine (eqSym_calls x y _).mono ?_
  rintro e w2 ⟨rfl, hb2⟩
  have hb := hb0.trans (hb2.mono hb0.size)
  clear hb2 hb0
  go_wp2
  go_ret
  exact ⟨rfl, hb⟩
end Go.Proofs.YtcfechnkgefhcaaDoor
