/-
  Tab stops: tabsOf of the program; l5Tabs of the model.
-/
import Derived.Test.YtdekegjplegkeaaGreatRows
import Derived.Test.YtdekegjplegkeaaGreatBoolMem
import Derived.Test.YtdekegjplegkeaaGreatRangeFns
import Derived.Laws.IdiomCopy
import Derived.OwnWalk
import Derived.Lib.SmallJoins
namespace Go.Proofs.YtdekegjplegkeaaGreat
set_option maxRecDepth 20000
open Go.ChangeShapes Go.WideShapes Go.ChangeAt Go.RowKit
set_option linter.unusedVariables false
set_option linter.unusedSimpArgs false
set_option maxRecDepth 20000

/-- The usual stop; those of n columns, where some were there. -/
def stopB (i : Nat) : Bool := decide (0 < i) && decide (i % 8 = 0)
def tabsL (n : Nat) (f : Nat → Bool) : List Bool := (List.range n).map f
theorem tabsL_length (n : Nat) (f : Nat → Bool) : (tabsL n f).length = n := by simp [tabsL]
theorem tabsL_get (n : Nat) (f : Nat → Bool) (i : Nat) (h : i < n) : (tabsL n f).getD i false = f i := by simp [tabsL, List.getD_eq_getElem?_getD, h]
theorem tabsL_congr {n : Nat} {f g : Nat → Bool} (h : ∀ i, i < n → f i = g i) : tabsL n f = tabsL n g := by
  unfold tabsL
  apply List.map_congr_left
  intro i hi
  exact h i (by simpa using hi)
def tabsW (tb : List Bool) (n : Nat) : List Bool := tabsL n (fun i => if i < tb.length then tb.getD i false else stopB i)
theorem tabsW_nil (n : Nat) : tabsW [] n = tabsL n stopB := by unfold tabsW; exact tabsL_congr (fun i _ => by simp)
theorem tabsW_length (tb : List Bool) (n : Nat) : (tabsW tb n).length = n := tabsL_length _ _
theorem boolsAt_congr {lo hi : Nat} {w : World} {v : Value} {n : Nat} {f g : Nat → Bool} (h : BoolsAt lo hi w v (tabsL n f)) (e : ∀ i, i < n → f i = g i) : BoolsAt lo hi w v (tabsL n g) := by
  rw [← tabsL_congr e]; exact h
theorem bools_vals (n : Nat) (f : Nat → Bool) : (tabsL n f).map Value.bool = (List.range n).map (fun i => Value.bool (f i)) := by simp [tabsL]
/-- A store into a list of booleans. -/
theorem BoolsAt.put {lo hi : Nat} {w : World} {b n cap : Nat} {f : Nat → Bool} (h : BoolsAt lo hi w (.slice (some ⟨b, 0, none⟩) n cap) (tabsL n f)) (i : Nat) (u : Bool) : BoolsAt lo hi (w.setCell ⟨b, i, none⟩ (.bool u)) (.slice (some ⟨b, 0, none⟩) n cap) (tabsL n (fun j => if j = i then u else f j)) := by
  obtain ⟨a, c, hv, h⟩ := h
  injection hv with e1 e2 e3
  subst e1 e3
  refine ⟨_, _, by rw [tabsL_length], ?_⟩
  rcases h with h | ⟨b', o', ha, hl, hh, hc⟩
  · left
    rw [tabsL_length] at e2
    have : n = 0 := by have := congrArg List.length h; simpa [tabsL_length] using this
    rw [this]; rfl
  · right
    injection ha with ha
    injection ha with e4 e5
    subst e4 e5
    refine ⟨b, 0, rfl, hl, hh, fun j hj => ?_⟩
    rw [tabsL_length] at hj
    have := hc j (by rw [tabsL_length]; exact hj)
    rw [tabsL_get _ _ _ hj] at this
    rw [tabsL_get _ _ _ hj, World.frozen?_setCell]
    refine ⟨?_, this.2⟩
    by_cases e : j = i
    · subst e
      rw [if_pos rfl, Nat.zero_add]
      rw [Nat.zero_add] at this
      exact World.cell?_setCell_same _ _ _ this.1
    · rw [if_neg e, World.cell?_setCell_other _ _ _ _ (addr_ne (by omega))]
      exact this.1
theorem BoolsAt.cell {lo hi : Nat} {w : World} {b n cap : Nat} {f : Nat → Bool} (h : BoolsAt lo hi w (.slice (some ⟨b, 0, none⟩) n cap) (tabsL n f)) (i : Nat) (hi' : i < n) : w.cell? ⟨b, i, none⟩ = some (.bool (f i)) ∧ w.frozen? ⟨b, i, none⟩ = false ∧ lo ≤ b ∧ b < hi := by
  obtain ⟨a, c, hv, h⟩ := h
  injection hv with e1 e2 e3
  subst e1 e3
  rcases h with h | ⟨b', o', ha, hl, hh, hc⟩
  · have : n = 0 := by have := congrArg List.length h; simpa [tabsL_length] using this
    omega
  · injection ha with ha
    injection ha with e4 e5
    subst e4 e5
    have := hc i (by rw [tabsL_length]; exact hi')
    rw [tabsL_get _ _ _ hi', Nat.zero_add] at this
    exact ⟨this.1, this.2, hl, hh⟩
theorem within_setCells {lo hi b : Nat} (h1 : lo ≤ b) (h2 : b < hi) : ∀ (vs : List Value) (o : Nat) (a w : World), Within lo hi a w → Within lo hi a (w.setCells b o vs)
  | [], _, _, _, h => h
  | v :: r, o, a, w, h => by rw [World.setCells]; exact within_setCells h1 h2 r (o + 1) a _ (h.setCell h1 h2 v)
/-- A copy of booleans. -/
theorem run_copyB {P : Program} {lo hi : Nat} (w : World) (dT sT ty elem : TypeId) (hu : P.underlying dT = some (.slice elem)) (hs : (P.info? elem).map (·.size) = some 1) (b n cap : Nat) (f : Nat → Bool)
    (hd : BoolsAt lo hi w (.slice (some ⟨b, 0, none⟩) n cap) (tabsL n f)) (sp : Option Addr) (sCap : Nat) (tb : List Bool) (h : BRead w (.slice sp tb.length sCap) tb) :
    ∃ w', (Builtin.copy_ #[dT, sT] ty #[.slice (some ⟨b, 0, none⟩) n cap, .slice sp tb.length sCap]).run P w = .ok (goInt (Nat.min tb.length n)) w' ∧ BoolsAt lo hi w' (.slice (some ⟨b, 0, none⟩) n cap) (tabsL n (fun i => if i < tb.length then tb.getD i false else f i)) ∧ Within lo hi w w' := by
  by_cases h0 : Nat.min tb.length n = 0
  · rw [h0]
    refine ⟨w, run_copy_none w dT sT ty elem _ _ _ _ _ _ hu hs h0, boolsAt_congr hd (fun i hi' => ?_), Within.refl _ _ _⟩
    have : tb.length = 0 := by have := h0; simp only [Nat.min_def] at this; split at this <;> omega
    rw [if_neg (by omega)]
  · have hn : 0 < n := by simp only [Nat.min_def] at h0; split at h0 <;> omega
    have ht : 0 < tb.length := by simp only [Nat.min_def] at h0; split at h0 <;> omega
    obtain ⟨b', o', rfl, hc0⟩ := h.spot 0 ht
    have hc : ∀ i, i < tb.length → w.cell? ⟨b', o' + i, none⟩ = some (.bool (tb.getD i false)) := by
      intro i hi'
      obtain ⟨b2, o2, e, hc⟩ := h.spot i hi'
      injection e with e
      injection e with e1 e2
      subst e1 e2
      exact hc
    have hlen : ((tb.take n).map Value.bool).length = Nat.min tb.length n := by simp [Nat.min_comm]
    have hB := hd.cell 0 hn
    have hle := Nat.min_le_right tb.length n
    have q1 : ∀ (j : Nat) (v : Value), ((tb.take n).map Value.bool)[j]? = some v → w.cell? ((⟨b', o', none⟩ : Addr).add j) = some v := by
      intro j v hj
      rw [show ((⟨b', o', none⟩ : Addr).add j) = ⟨b', o' + j, none⟩ from by simp [Addr.add]]
      simp only [List.getElem?_map, Option.map_eq_some_iff] at hj
      obtain ⟨x, hx, rfl⟩ := hj
      rw [List.getElem?_take] at hx
      split at hx
      · have hlt : j < tb.length := by
          rcases Nat.lt_or_ge j tb.length with h' | h'
          · exact h'
          · rw [List.getElem?_eq_none h'] at hx; cases hx
        rw [hc j hlt]
        simp [List.getD_eq_getElem?_getD, hx]
      · cases hx
    have q2 : ∀ j, j < ((tb.take n).map Value.bool).length → (w.cell? ⟨b, 0 + j, none⟩).isSome = true := fun j hj => by
      rw [hlen] at hj
      rw [Nat.zero_add, (hd.cell j (Nat.lt_of_lt_of_le hj hle)).1]; rfl
    have q3 : ∀ j, j < ((tb.take n).map Value.bool).length → w.frozen? ⟨b, 0 + j, none⟩ = false := fun j hj => by
      rw [hlen] at hj
      rw [Nat.zero_add]; exact (hd.cell j (Nat.lt_of_lt_of_le hj hle)).2.1
    have hrun := run_copy_cells (P := P) w dT sT ty elem b 0 n cap ⟨b', o', none⟩ tb.length sCap ((tb.take n).map Value.bool) hu hs hlen q1 q2 q3 (fun v hv => by obtain ⟨x, _, rfl⟩ := List.mem_map.1 hv; rfl)
    rw [hlen] at hrun
    refine ⟨_, hrun, ?_, within_setCells hB.2.2.1 hB.2.2.2 _ _ _ _ (Within.refl _ _ _)⟩
    · refine ⟨_, _, by rw [tabsL_length], .inr ⟨b, 0, rfl, hB.2.2.1, hB.2.2.2, fun i hi' => ?_⟩⟩
      rw [tabsL_length] at hi'
      rw [tabsL_get _ _ _ hi', World.frozen?_setCells]
      refine ⟨?_, by rw [Nat.zero_add]; exact (hd.cell i hi').2.1⟩
      by_cases e : i < tb.length
      · rw [if_pos e]
        have := World.cell?_setCells_in b ((tb.take n).map Value.bool) 0 w q2 i (by simp; omega)
        rw [this]
        simp [List.getD_eq_getElem?_getD, e]
      · rw [if_neg e, World.cell?_setCells_out b _ 0 w _ (fun _ _ => Or.inr (by simp; omega)), Nat.zero_add]
        exact (hd.cell i hi').1

theorem info_tabs : (Tryz.prog.info? 4).map (fun i => (i.zero, i.size, i.bytes)) = some (some (.bool false), 1, 1) := by kernel_rfl
theorem made_false (n : Nat) : (madeCells #[Value.bool false] n).toList = (tabsL n (fun _ => false)).map Value.bool := by
  rw [bools_vals]
  apply List.ext_getElem?
  intro i
  simp [madeCells, Nat.mod_one]
set_option maxHeartbeats 2000000 in
theorem tabsOf_calls (tb : List Bool) (n : Nat) (h1 : 2 ≤ n) (h2 : n ≤ 12) (v : Value) (w : World) (h : BRead w v tb) :
    Calls Tryz.prog 139 #[v, .int .i64 n] w fun e w' => ∃ u, e = .returned u ∧ BoolsAt w.heap.size w'.heap.size w' u (tabsW tb n) ∧ Below w.heap.size w w' := by
  obtain ⟨i0, hi, hz0, hz1, hz2⟩ := info_parts info_tabs
  have hread := h
  obtain ⟨a1, c1, rfl, _⟩ := h
  have HR := hide hread
  clear hread
  go_enter Tryz.func139, Tryz.ntmps139
  go_wp2_with (at_make; refine wpList_make_full _ rfl (.tmp 7) (.tmp 7) 25 rfl w.heap.size 4 i0 (.bool false) 1 Tryz.underlying25 hi hz0 hz1 .i64 .i64 _ _ n rfl rfl rfl rfl ?c1 ?c2 ?c3 ?_)
  case c1 => rw [hz2]; omega
  case c2 => unfold maxLen; omega
  case c3 => exact Nat.le_refl _
  intro w1 hown hgrow
  rw [made_false] at hown
  have hlt1 : w.heap.size < w1.heap.size := (hown.lt w.heap.size rfl).2
  have hb1 : Below w.heap.size w w1 := (Below.refl _ _).grown hgrow (Nat.le_refl _) (fun k hk => by cases hk)
  have hT : BoolsAt w.heap.size w1.heap.size w1 (.slice (some ⟨w.heap.size, 0, none⟩) n n) (tabsL n (fun _ => false)) := own_bools hown (Nat.le_refl _)
  clear hown hgrow
  by_cases h8 : 8 < n
  · obtain ⟨g8, f8, _, _⟩ := hT.cell 8 h8
    have hT2 : BoolsAt w.heap.size w1.heap.size (w1.setCell ⟨w.heap.size, 8, none⟩ (.bool true)) _ (tabsL n stopB) := boolsAt_congr (hT.put 8 true) (fun i hi' => by
      unfold stopB
      by_cases e : i = 8
      · subst e; rfl
      · rw [if_neg e]
        have : ¬ (0 < i ∧ i % 8 = 0) := by omega
        symm; simp; omega)
    have HT := hide hT2
    clear hT hT2
    go_wp2
    go_loopw [6] (fun i wr => (i = .int .i64 8 ∧ wr = w1) ∨ (i = .int .i64 16 ∧ wr = w1.setCell ⟨w.heap.size, 8, none⟩ (.bool true))) (fun i _ => (16 - intOf i).toNat)
    case atStart => exact .inl ⟨rfl, rfl⟩
    case round =>
      rcases hrel with ⟨rfl, rfl⟩ | ⟨rfl, rfl⟩
      · have hltI : (8 : Int) < (n : Int) := by omega
        have hnn : ((8 : Int)).toNat < n := by omega
        go_wp2
        go_roundw
        case rel => exact .inr ⟨by rfl, by trivial⟩
        case measure => simp [intOf]
      · have hge : ¬ ((16 : Int) < (n : Int)) := by omega
        obtain ⟨w3, hrun, hT3, hw3⟩ := run_copyB (P := Tryz.prog) (w1.setCell ⟨w.heap.size, 8, none⟩ (.bool true)) 25 25 3 4 Tryz.underlying25 (by kernel_rfl) w.heap.size n n stopB HT.out a1 c1 tb (HR.out.below (hb1.setCell (Nat.le_refl _) _))
        have HT3 := hide hT3
        clear hT3 HT
        go_wp2
        go_ret
        have hsz : w1.heap.size ≤ w3.heap.size := by have := hw3.size; simpa [World.setCell] using this
        exact ⟨_, rfl, HT3.out.mono (Nat.le_refl _) hsz, (hb1.setCell (Nat.le_refl _) _).trans (hw3.below (Nat.le_refl _) (by simp [World.setCell]; omega))⟩
  · have hT2 : BoolsAt w.heap.size w1.heap.size w1 _ (tabsL n stopB) := boolsAt_congr hT (fun i hi' => by unfold stopB; symm; simp; omega)
    have hge : ¬ ((8 : Int) < (n : Int)) := by omega
    obtain ⟨w3, hrun, hT3, hw3⟩ := run_copyB (P := Tryz.prog) w1 25 25 3 4 Tryz.underlying25 (by kernel_rfl) w.heap.size n n stopB hT2 a1 c1 tb (HR.out.below hb1)
    have HT3 := hide hT3
    clear hT hT2 hT3
    go_wp2
    go_loopw [6] (fun i wr => i = .int .i64 8 ∧ wr = w1) (fun i _ => 0)
    case atStart => exact ⟨rfl, rfl⟩
    case round =>
      obtain ⟨rfl, rfl⟩ := hrel
      go_wp2
      go_ret
      have hsz := hw3.size
      exact ⟨_, rfl, HT3.out.mono (Nat.le_refl _) hsz, hb1.trans (hw3.below (Nat.le_refl _) (by omega))⟩
theorem info_tabs2 : (Tryz.prog.info? 4).map (fun i => (i.zero, i.size, i.bytes)) = some (some (.bool false), 1, 1) := by kernel_rfl
theorem own_formT {w : World} {base size n : Nat} {e : TypeId} {v : Value} {xs : List Value} (h : w.ownsRow base e size v n xs) : ∃ a c, v = .slice a n c := by
  rcases Go.Joins.ownsRow_forms h with ⟨h, h'⟩ | ⟨g, cap, h⟩
  · exact ⟨_, _, by rw [h, h']⟩
  · exact ⟨_, _, h⟩
theorem tabsL_snoc (k : Nat) (f : Nat → Bool) : (tabsL k f).map Value.bool ++ [.bool (f k)] = (tabsL (k + 1) f).map Value.bool := by simp [tabsL, List.range_succ]
set_option maxHeartbeats 2000000 in
theorem l5Tabs_calls (m n : Nat) (h1 : m ≤ n) (h2 : n ≤ 12) (w : World) :
    Calls Tryz.prog 134 #[.int .i64 m, .int .i64 n] w fun e w' => ∃ u, e = .returned u ∧ w'.ownsRow w.heap.size 4 1 u (n - m) ((tabsL (n - m) (fun i => stopB (m + i))).map Value.bool) ∧ Below w.heap.size w w' := by
  obtain ⟨i0, hi, hz0, hz1, hz2⟩ := info_parts info_tabs2
  go_enter Tryz.func134, Tryz.ntmps134
  go_wp2
  go_loopw [5, 6] (fun v i wr => ∃ k : Nat, m + k ≤ n ∧ i = .int .i64 (m + k : Nat) ∧ Hid (wr.ownsRow w.heap.size 4 1 v k ((tabsL k (fun i => stopB (m + i))).map Value.bool)) ∧ Below w.heap.size w wr) (fun _ i _ => n - (intOf i).toNat)
  case atStart => exact ⟨0, by omega, rfl, hide (World.ownsRow_lit (base := w.heap.size) (e := 4) (size := 1) w #[] 0 (Nat.le_refl _) (by simp) rfl), (Below.refl _ _).alloc (Nat.le_refl _) _⟩
  case round =>
    obtain ⟨k, hkn, rfl, hown, hb⟩ := hrel
    by_cases hlt : m + k < n
    · have hltI : ((m + k : Nat) : Int) < (n : Int) := by omega
      have hs : w.heap.size ≤ wr.heap.size := hb.size
      obtain ⟨av, cv, rfl⟩ := own_formT hown.out
      have hk12 : k ≤ 12 := by omega
      generalize hx : m + k = x at *
      have HX := hide hx
      clear hx
      have hxn : x ≤ 12 := by omega
      have key : ∀ (B : Bool), stopB x = B → ∀ (v2 : Value) (w2 : World), w2.ownsRow w.heap.size 4 1 v2 (k + 1) ((tabsL k (fun i => stopB (m + i))).map Value.bool ++ [.bool B]) → Hid (w2.ownsRow w.heap.size 4 1 v2 (k + 1) ((tabsL (k + 1) (fun i => stopB (m + i))).map Value.bool)) := by
        intro B hB v2 w2 h
        rw [← hB, ← HX.out, tabsL_snoc k (fun i => stopB (m + i))] at h
        exact hide h
      by_cases h0 : 0 < x
      · have h0I : (0 : Int) < (x : Int) := by omega
        by_cases h8 : x % 8 = 0
        · have hm8 : (((x : Int) % 8) == 0) = true := by simp; omega
          have hown1 := hown.out.alloc (.cells #[.bool true] 4)
          have h1c : ∀ u ∈ [Value.bool true], u.oneCell' = true := by intro u hu; simp at hu; subst hu; rfl
          go_wp2_with (at_builtin; refine wpList_append_own _ rfl (.tmp 14) (.tmp 22) 25 rfl w.heap.size 4 i0 (.bool false) 1 1 Tryz.underlying25 hi hz0 hz1 hz2 rfl (by decide) _ k _ rfl hown1 ⟨wr.heap.size, 0, none⟩ 1 1 [.bool true] rfl rfl (new_row_at rfl rfl) h1c (by unfold maxLen; omega) (by omega) (by simp; omega) ?_)
          intro v2 w2 hown2 hgr2 _
          have hb2 : Below w.heap.size w w2 := hb.trans ((((Below.refl _ _).alloc hs _) : Below w.heap.size wr (wr.alloc _)).grown hgr2 (by simp; omega) (fun q hq => (hown1.lt q hq).1))
          have H2 := key true (by unfold stopB; simp [h0, h8]) v2 w2 hown2
          clear hown2 hgr2 hown1 key
          go_wp2
          go_roundw
          case rel => exact ⟨k + 1, by have := HX.out; omega, by rw [show m + (k + 1) = x + 1 by have := HX.out; omega]; go_num, H2, hb2⟩
          case measure => simp [intOf]; omega
        · have hm8 : (((x : Int) % 8) == 0) = false := by simp; omega
          have hown1 := hown.out.alloc (.cells #[.bool false] 4)
          have h1c : ∀ u ∈ [Value.bool false], u.oneCell' = true := by intro u hu; simp at hu; subst hu; rfl
          go_wp2_with (at_builtin; refine wpList_append_own _ rfl (.tmp 14) (.tmp 22) 25 rfl w.heap.size 4 i0 (.bool false) 1 1 Tryz.underlying25 hi hz0 hz1 hz2 rfl (by decide) _ k _ rfl hown1 ⟨wr.heap.size, 0, none⟩ 1 1 [.bool false] rfl rfl (new_row_at rfl rfl) h1c (by unfold maxLen; omega) (by omega) (by simp; omega) ?_)
          intro v2 w2 hown2 hgr2 _
          have hb2 : Below w.heap.size w w2 := hb.trans ((((Below.refl _ _).alloc hs _) : Below w.heap.size wr (wr.alloc _)).grown hgr2 (by simp; omega) (fun q hq => (hown1.lt q hq).1))
          have H2 := key false (by unfold stopB; simp [h8]) v2 w2 hown2
          clear hown2 hgr2 hown1 key
          go_wp2
          go_roundw
          case rel => exact ⟨k + 1, by have := HX.out; omega, by rw [show m + (k + 1) = x + 1 by have := HX.out; omega]; go_num, H2, hb2⟩
          case measure => simp [intOf]; omega
      · obtain rfl : x = 0 := by omega
        have hown1 := hown.out.alloc (.cells #[.bool false] 4)
        have h1c : ∀ u ∈ [Value.bool false], u.oneCell' = true := by intro u hu; simp at hu; subst hu; rfl
        go_wp2_with (at_builtin; refine wpList_append_own _ rfl (.tmp 14) (.tmp 22) 25 rfl w.heap.size 4 i0 (.bool false) 1 1 Tryz.underlying25 hi hz0 hz1 hz2 rfl (by decide) _ k _ rfl hown1 ⟨wr.heap.size, 0, none⟩ 1 1 [.bool false] rfl rfl (new_row_at rfl rfl) h1c (by unfold maxLen; omega) (by omega) (by simp; omega) ?_)
        intro v2 w2 hown2 hgr2 _
        have hb2 : Below w.heap.size w w2 := hb.trans ((((Below.refl _ _).alloc hs _) : Below w.heap.size wr (wr.alloc _)).grown hgr2 (by simp; omega) (fun q hq => (hown1.lt q hq).1))
        have H2 := key false (by decide) v2 w2 hown2
        clear hown2 hgr2 hown1 key
        go_wp2
        go_roundw
        case rel => exact ⟨k + 1, by have := HX.out; omega, by rw [show m + (k + 1) = 0 + 1 by have := HX.out; omega]; go_num, H2, hb2⟩
        case measure => simp [intOf]; omega
    · obtain rfl : n = m + k := by omega
      go_wp2
      go_ret
      exact ⟨_, rfl, by rw [show m + k - m = k by omega]; exact hown.out, hb⟩
end Go.Proofs.YtdekegjplegkeaaGreat
