/-
  impl's sheets of another size: newSheet for any number of rows, resized.
-/
import Derived.Test.YtknkbihjboadjaaRangeAt
import Derived.Test.YtknkbihjboadjaaFollowed
import Derived.Test.YtknkbihjboadjaaNewFns
import Derived.Test.YtknkbihjboadjaaRowFns3
namespace Go.Proofs.Ytknkbihjboadjaa
set_option maxRecDepth 20000
open Go.ChangeShapes Go.WideShapes Go.ChangeAt Go.RowKit Go.Shelf
attribute [local go_sem] Oper.semAt_some
set_option linter.unusedVariables false
set_option linter.unusedSimpArgs false
set_option maxRecDepth 100000

set_option maxHeartbeats 1000000 in
theorem newSheet_any (rows wd c g : Int) (n : Nat) (hn : rows * wd = (n : Int)) (hn1 : n ≤ 1048576) (w : World) :
    Calls Try.prog 114 #[.int .i64 rows, .int .i64 wd, .agg #[.int .i64 c, .int .i64 g]] w fun e w' => ∃ b, e = .returned (.agg #[.int .i64 wd, .slice (some ⟨b, 0, none⟩) n n]) ∧ w.heap.size ≤ b ∧ b < w'.heap.size ∧ Row w' b 0 n (fun _ => (c, g)) ∧ Below w.heap.size w w' := by
  obtain ⟨i0, hi, hz0, hz1, hz2⟩ := info_parts info_cell
  have hk : IntKind.i64.wrap (rows * wd) = (n : Int) := by rw [hn]; exact wrap_small (by omega) (by omega)
  have HN := hide hn
  clear hn
  go_enter Try.func114, Try.ntmps114
  go_wp2_with (at_make; refine wpList_make_full _ rfl (.tmp 11) (.tmp 11) 30 rfl (w.heap.size + 2) 99 i0 (.agg #[.int .i64 0, .int .i64 0]) 2 Try.underlying30 hi hz0 hz1 .i64 .i64 _ _ n rfl rfl rfl rfl ?c1 ?c2 ?c3 ?_)
  case c1 => rw [hz2]; omega
  case c2 => unfold maxLen; omega
  case c3 => simp
  intro w1 hown hgrow
  have hz := made_zeros n
  simp only [Value.cells] at hz
  rw [hz] at hown
  obtain ⟨x1, x2⟩ := hown.lt (w.heap.size + 2) rfl
  have hrow : Row w1 (w.heap.size + 2) 0 n (fun i => (List.replicate n (0, 0)).getD i (0, 0)) := by
    by_cases h0 : 0 < n
    · obtain ⟨b, cap, e1, _, _, _, _, hrow⟩ := own_row hown h0
      injection e1 with e1 e2 e3
      injection e1 with e1
      injection e1 with e1
      subst e1
      exact hrow
    · exact fun i hi => absurd hi (by omega)
  have hb1 : Below (w.heap.size + 2) ((w.alloc (.cells #[.int .i64 c, .int .i64 g] 99)).alloc (.cells #[.int .i64 0, .slice none 0 0] 93)) w1 := (Below.refl _ _).grown hgrow (by simp) (fun k hk => by cases hk)
  have C0 : w1.cell? ⟨w.heap.size, 0, none⟩ = some (.int .i64 c) := cellk hb1 (by omega) (by simp [go_sem])
  have C1 : w1.cell? ⟨w.heap.size, 1, none⟩ = some (.int .i64 g) := cellk hb1 (by omega) (by simp [go_sem])
  have R0 : w1.cell? ⟨w.heap.size + 1, 0, none⟩ = some (.int .i64 0) := cellk hb1 (by omega) (by simp [go_sem])
  have R1 : w1.cell? ⟨w.heap.size + 1, 1, none⟩ = some (.slice none 0 0) := cellk hb1 (by omega) (by simp [go_sem])
  have Z0 : w1.frozen? ⟨w.heap.size + 1, 0, none⟩ = false := by rw [hb1.frozen (p := ⟨w.heap.size + 1, 0, none⟩) (by simp)]; simp [go_sem]
  have Z1 : w1.frozen? ⟨w.heap.size + 1, 1, none⟩ = false := by rw [hb1.frozen (p := ⟨w.heap.size + 1, 1, none⟩) (by simp)]; simp [go_sem]
  have b1 : Below w.heap.size w w1 := (show Below w.heap.size w ((w.alloc (.cells #[.int .i64 c, .int .i64 g] 99)).alloc (.cells #[.int .i64 0, .slice none 0 0] 93)) from (by repeat' (first | with_reducible exact Below.refl _ _ | with_reducible assumption | with_reducible refine Below.drew ?_ | with_reducible refine Below.alloc ?_ ?_ _ | with_reducible refine Below.setCell ?_ ?_ _ | (simp; done) | (simp; omega) | omega))).trans (hb1.mono (by omega))
  have HR := hide hrow
  clear hown hgrow hb1 hz hrow
  have l1 : w.heap.size < w1.heap.size := by omega
  have hb2 : Below w1.heap.size w1 (w1.alloc (.cells #[.int .i64 wd, .slice (some ⟨w.heap.size + 2, 0, none⟩) n n] 93)) := (by repeat' (first | with_reducible exact Below.refl _ _ | with_reducible assumption | with_reducible refine Below.drew ?_ | with_reducible refine Below.alloc ?_ ?_ _ | with_reducible refine Below.setCell ?_ ?_ _ | (simp; done) | (simp; omega) | omega))
  have D0 := cellb hb2 C0
  have D1 := cellb hb2 C1
  go_wp2_with fail
  refine (fill_calls (w.heap.size + 2) 0 n n _ _ c g _ ⟨Nat.le_refl _, _, rfl, fun _ => rfl⟩ (HR.out.below hb2 x2) (by simp; omega) hn1).mono ?_
  rintro e w2 ⟨⟨u, rfl⟩, hr2, ht2⟩
  have S0 : w2.cell? ⟨w1.heap.size, 0, none⟩ = some (.int .i64 wd) := ht2.cellAt (by simp) (by omega)
  have S1 : w2.cell? ⟨w1.heap.size, 1, none⟩ = some (.slice (some ⟨w.heap.size + 2, 0, none⟩) n n) := ht2.cellAt (by simp) (by omega)
  replace R0 := ht2.cellAt (cellb hb2 R0) (by omega)
  replace R1 := ht2.cellAt (cellb hb2 R1) (by omega)
  replace Z0 := ht2.frozenAt (by simp; omega) ((hb2.frozen (p := ⟨w.heap.size + 1, 0, none⟩) (by simp; omega)).trans Z0)
  replace Z1 := ht2.frozenAt (by simp; omega) ((hb2.frozen (p := ⟨w.heap.size + 1, 1, none⟩) (by simp; omega)).trans Z1)
  have b2 : Below w.heap.size w w2 := b1.trans ((hb2.mono b1.size).trans (ht2.below (by omega) (by simp; omega)))
  have hs2 : w1.heap.size + 1 ≤ w2.heap.size := by have := ht2.size; simp at this; omega
  have H2 := hide hr2
  clear hr2 ht2 C0 C1 D0 D1
  obtain ⟨s0, s1⟩ := res2 (w := w2) (r := w.heap.size + 1) (.int .i64 wd) (.slice (some ⟨w.heap.size + 2, 0, none⟩) n n) R0 R1
  have t3 : Touch (w.heap.size + 1) 0 2 w2 ((w2.setCell ⟨w.heap.size + 1, 0, none⟩ (.int .i64 wd)).setCell ⟨w.heap.size + 1, 1, none⟩ (.slice (some ⟨w.heap.size + 2, 0, none⟩) n n)) := ((Touch.refl _ _ _ _).setCell (by omega) (by omega) _).setCell (by omega) (by omega) _
  have T3 := hide t3
  clear t3
  go_wp2
  refine bodyPost_ret (v := .agg #[.int .i64 wd, .slice (some ⟨w.heap.size + 2, 0, none⟩) n n]) (by simp only [results, Try.results114]; simp [go_sem, s0, s1]) rfl ⟨_, rfl, by omega, by have := T3.out.size; omega, H2.out.touch T3.out (by omega), b2.trans (T3.out.below (by omega) (by omega))⟩
/-- The cells of K rows of m cells in rows of m' cells: what is in both, blanks elsewhere. -/
def fitF (m m' K : Nat) (f : Nat → Int × Int) (bl : Int × Int) (i : Nat) : Int × Int := if i < K * m' ∧ i % m' < m then f (i / m' * m + i % m') else bl
theorem fitF_zero (m m' : Nat) (f : Nat → Int × Int) (bl : Int × Int) (i : Nat) : bl = fitF m m' 0 f bl i := by
  unfold fitF
  rw [if_neg (by omega)]
theorem fitF_step {m m' k : Nat} {f : Nat → Int × Int} {bl : Int × Int} (h : 0 < m') (i : Nat) : (if k * m' ≤ i ∧ i < k * m' + min m m' then f (k * m + (i - k * m')) else fitF m m' k f bl i) = fitF m m' (k + 1) f bl i := by
  unfold fitF
  have h1 : (k + 1) * m' = k * m' + m' := by rw [Nat.add_mul, Nat.one_mul]
  rw [h1]
  by_cases e : k * m' ≤ i ∧ i < k * m' + m'
  · have hd : i / m' = k := Nat.div_eq_of_lt_le e.1 (by rw [h1]; exact e.2)
    have hm := Nat.div_add_mod i m'
    rw [hd, Nat.mul_comm] at hm
    rw [hd]
    by_cases e2 : i < k * m' + min m m'
    · rw [if_pos ⟨e.1, e2⟩, if_pos (by omega), show k * m + (i - k * m') = k * m + i % m' by omega]
    · rw [if_neg (by omega), if_neg (by omega), if_neg (by omega)]
  · rw [if_neg (by omega)]
    by_cases e2 : i < k * m' ∧ i % m' < m
    · rw [if_pos e2, if_pos (by omega)]
    · rw [if_neg e2, if_neg (by omega)]
theorem Touch.putObj {b p q l : Nat} {o : Obj} {a w : World} (h : Touch b p q a w) (hl : a.heap.size ≤ l) (hb : b < a.heap.size) : Touch b p q a (w.putObj l o) := by
  have hne : ∀ k, k < a.heap.size → (w.putObj l o).heap[k]? = w.heap[k]? := fun k hk => World.putObj_heap_other (by omega)
  refine ⟨h.os, h.tape, h.output, by simp [World.putObj]; exact h.size, fun k hk hkb => (hne k hk).trans (h.block k hk hkb), fun o ho => ?_, fun o => ?_⟩
  · exact (World.cell?_of_block (w := w) (a := ⟨b, o, none⟩) (hne b hb)).trans (h.cell o ho)
  · exact (World.frozen?_of_block (w := w) (a := ⟨b, o, none⟩) (hne b hb)).trans (h.frozen o)

theorem wpListIn_copy2 {F : Fence} {nF : Nat} {P : Program} {w : World} {ops : Array Oper} {rest : List Oper} {o : Oper} {a : Act} {Q : Exit → Act → World → Prop} (hgd : o.guard = none) (d s : Operand) (dT sT : TypeId)
    (ho : o.op = .call { callee := .builtin .copy, args := #[d, s], argTypes := #[dT, sT] }) (elem : TypeId) (hu : P.underlying dT = some (.slice elem)) (hsz : (P.info? elem).map (·.size) = some 2)
    (dp sp : Option Addr) (dLen dCap sLen sCap m : Nat) (hd : a.eval d = .slice dp dLen dCap) (hs : a.eval s = .slice sp sLen sCap) (hm : m = Nat.min sLen dLen)
    (b off : Nat) (f : Nat → Int × Int) (hrow : Row w b off dLen f) (hdp : 0 < m → dp = some ⟨b, off, none⟩)
    (b' off' : Nat) (g : Nat → Int × Int) (hg : RowR w b' off' m g) (hsp : 0 < m → sp = some ⟨b', off', none⟩)
    (h : ∀ w', Row w' b off dLen (fun i => if i < m then g i else f i) → Touch b off (off + m * 2) w w' → wpListIn F nF P ops Q rest (a.put o.dst (goInt m)) w') :
    wpListIn F nF P ops Q (o :: rest) a w := by
  refine wpListIn_plain hgd fun K hK => ?_
  obtain ⟨w', hrun, h1, h2⟩ := run_copy2 (P := P) w dT sT o.type elem hu hsz dp sp dLen dCap sLen sCap m hm b off f hrow hdp b' off' g hg hsp
  unfold Oper.wpIn
  refine ⟨by simp [Oper.about, ho, resolve, Target.leads, Sem.run_pure], ?_⟩
  rw [Oper.semAt_plain F _ _ (by rw [ho]; intro c hc; cases hc)]
  simp [execOp, ho, resolve, invoke, builtin, hd, hs, hrun, Result.andThen]
  exact hK _ _ (h w' h1 h2)
/-- Between two rounds of resized: k rows are copied. -/
structure RzI (wL : World) (bo N' m W' R' : Nat) (c g : Int) (f : Nat → Int × Int) (k : Nat) (W : World) : Prop where
  touch : Touch bo 0 (N' * 2) wL W
  row : Row W bo 0 N' (fitF m W' k f (c, g))
  le : k ≤ R'
theorem RzI.below {wL W V : World} {bo N' m W' R' k : Nat} {c g : Int} {f : Nat → Int × Int} (h : RzI wL bo N' m W' R' c g f k W) (hb : bo < wL.heap.size) (hv : Below W.heap.size W V) : RzI wL bo N' m W' R' c g f k V :=
  have hs : bo < W.heap.size := Nat.lt_of_lt_of_le hb h.touch.size
  ⟨h.touch.trans (Touch.of_below hv (Nat.le_refl _) hs), h.row.below hv hs, h.le⟩
theorem RzI.putObj {wL W : World} {bo N' m W' R' k l : Nat} {o : Obj} {c g : Int} {f : Nat → Int × Int} (h : RzI wL bo N' m W' R' c g f k W) (hb : bo < wL.heap.size) (hl : wL.heap.size ≤ l) : RzI wL bo N' m W' R' c g f k (W.putObj l o) :=
  ⟨h.touch.putObj hl hb, h.row.block (World.putObj_heap_other (by omega)), h.le⟩

set_option maxHeartbeats 4000000 in
theorem resized_calls (wd rows width c g : Int) (b off H m N cap R' W' N' : Nat) (a : Option Addr) (f : Nat → Int × Int) (w : World) (hr : RowR w b off N f) (hN : N = H * m) (hwd : wd = (m : Int)) (hrw : rows = (R' : Int)) (hww : width = (W' : Int)) (hN' : N' = R' * W') (hm : 1 ≤ m) (hm2 : m ≤ 1000) (hH : H ≤ 1000) (hW1 : 1 ≤ W') (hW2 : W' ≤ 1000) (hR : R' ≤ 1000)
    (hc : N ≤ cap) (ha : 0 < N → a = some ⟨b, off, none⟩) (hN1 : N ≤ 100000) (hN2 : N' ≤ 100000) :
    Calls Try.prog 88 #[.agg #[.int .i64 wd, .slice a N cap], .int .i64 rows, .int .i64 width, .agg #[.int .i64 c, .int .i64 g]] w fun e w' => ∃ bo, e = .returned (.agg #[.int .i64 width, .slice (some ⟨bo, 0, none⟩) N' N']) ∧ w.heap.size ≤ bo ∧ bo < w'.heap.size ∧ Row w' bo 0 N' (fitF m W' (min R' H) f (c, g)) ∧ Below w.heap.size w w' := by
  have hmul : rows * width = (N' : Int) := by rw [hrw, hww, hN', Int.natCast_mul]
  have HR := hide hr
  have HN := hide hN
  have HW := hide hwd
  have HRW := hide hrw
  have HWW := hide hww
  have HN' := hide hN'
  have HA := hide ha
  have HMU := hide hmul
  clear hr hN hwd hrw hww hN' ha hmul
  refine (callsIn_wide (n := 5)).1 ?_
  refine callsIn_of_wp_marks Try.func88 rfl trivial ?_ rfl
  simp only [Try.ntmps88, List.size_toArray, List.length_cons, List.length_nil, Nat.reduceAdd, Nat.reduceSub, Array.replicate_succ, Array.replicate_zero, List.push_toArray, List.append_toArray, List.nil_append, List.cons_append]
  gi_wp2
  refine ⟨trivial, (callsIn_wide.2 (newSheet_any rows width c g N' HMU.out (by omega) _)).mono ?_⟩
  rintro e w1 ⟨bo, rfl, o1, o2, hro, hb1⟩
  have hbW0 : Below w.heap.size w ((((w.alloc (.cells #[.int .i64 wd, .slice a N cap] 93)).alloc (.cells #[.int .i64 rows] 2)).alloc (.cells #[.int .i64 c, .int .i64 g] 99)).alloc (.cells #[.int .i64 0, .slice none 0 0] 93)) := (by repeat' (first | with_reducible exact Below.refl _ _ | with_reducible assumption | with_reducible refine Below.drew ?_ | with_reducible refine Below.alloc ?_ ?_ _ | with_reducible refine Below.setCell ?_ ?_ _ | (simp; done) | (simp; omega) | omega))
  have sW0 : ((((w.alloc (.cells #[.int .i64 wd, .slice a N cap] 93)).alloc (.cells #[.int .i64 rows] 2)).alloc (.cells #[.int .i64 c, .int .i64 g] 99)).alloc (.cells #[.int .i64 0, .slice none 0 0] 93)).heap.size = w.heap.size + 4 := by simp
  have S0 : w1.cell? ⟨w.heap.size, 0, none⟩ = some (.int .i64 wd) := cellb hb1 (by simp [go_sem])
  have S1 : w1.cell? ⟨w.heap.size, 1, none⟩ = some (.slice a N cap) := cellb hb1 (by simp [go_sem])
  have Q0 : w1.cell? ⟨w.heap.size + 1, 0, none⟩ = some (.int .i64 rows) := cellb hb1 (by simp [go_sem])
  have R0 : w1.cell? ⟨w.heap.size + 3, 0, none⟩ = some (.int .i64 0) := cellb hb1 (by simp [go_sem])
  have R1 : w1.cell? ⟨w.heap.size + 3, 1, none⟩ = some (.slice none 0 0) := cellb hb1 (by simp [go_sem])
  have Z0 : w1.frozen? ⟨w.heap.size + 3, 0, none⟩ = false := by rw [hb1.frozen (p := ⟨w.heap.size + 3, 0, none⟩) (by simp)]; simp [go_sem]
  have Z1 : w1.frozen? ⟨w.heap.size + 3, 1, none⟩ = false := by rw [hb1.frozen (p := ⟨w.heap.size + 3, 1, none⟩) (by simp)]; simp [go_sem]
  have b1 : Below w.heap.size w w1 := hbW0.trans (hb1.mono (by omega))
  have hs1 : w.heap.size + 4 ≤ w1.heap.size := by have := hb1.size; omega
  have o1' : w.heap.size + 4 ≤ bo := by omega
  have HRO := hide hro
  clear hb1 hbW0 hro o1 sW0
  have hbA : Below w1.heap.size w1 (w1.alloc (.cells #[.int .i64 width, .slice (some ⟨bo, 0, none⟩) N' N'] 93)) := (by repeat' (first | with_reducible exact Below.refl _ _ | with_reducible assumption | with_reducible refine Below.drew ?_ | with_reducible refine Below.alloc ?_ ?_ _ | with_reducible refine Below.setCell ?_ ?_ _ | (simp; done) | (simp; omega) | omega))
  have S0a := cellb hbA S0
  have S1a := cellb hbA S1
  gi_wp2
  clear S0a S1a hbA
  refine ⟨trivial, (callsIn_wide.2 (rows_calls wd a N cap _)).mono ?_⟩
  rintro e w' ⟨rfl, rfl⟩
  have hbL : Below w1.heap.size w1 ((w1.alloc (.cells #[.int .i64 width, .slice (some ⟨bo, 0, none⟩) N' N'] 93)).alloc (.cells #[.int .i64 wd, .slice a N cap] 93)) := (by repeat' (first | with_reducible exact Below.refl _ _ | with_reducible assumption | with_reducible refine Below.drew ?_ | with_reducible refine Below.alloc ?_ ?_ _ | with_reducible refine Below.setCell ?_ ?_ _ | (simp; done) | (simp; omega) | omega))
  have q0 : ((w1.alloc (.cells #[.int .i64 width, .slice (some ⟨bo, 0, none⟩) N' N'] 93)).alloc (.cells #[.int .i64 wd, .slice a N cap] 93)).cell? ⟨w1.heap.size + 1, 0, none⟩ = some (.int .i64 wd) := by simp [go_sem]
  have q1 : ((w1.alloc (.cells #[.int .i64 width, .slice (some ⟨bo, 0, none⟩) N' N'] 93)).alloc (.cells #[.int .i64 wd, .slice a N cap] 93)).cell? ⟨w1.heap.size + 1, 1, none⟩ = some (.slice a N cap) := by simp [go_sem]
  have u0 : ((w1.alloc (.cells #[.int .i64 width, .slice (some ⟨bo, 0, none⟩) N' N'] 93)).alloc (.cells #[.int .i64 wd, .slice a N cap] 93)).cell? ⟨w1.heap.size, 0, none⟩ = some (.int .i64 width) := by simp [go_sem]
  have u1 : ((w1.alloc (.cells #[.int .i64 width, .slice (some ⟨bo, 0, none⟩) N' N'] 93)).alloc (.cells #[.int .i64 wd, .slice a N cap] 93)).cell? ⟨w1.heap.size, 1, none⟩ = some (.slice (some ⟨bo, 0, none⟩) N' N') := by simp [go_sem]
  have hsL : ((w1.alloc (.cells #[.int .i64 width, .slice (some ⟨bo, 0, none⟩) N' N'] 93)).alloc (.cells #[.int .i64 wd, .slice a N cap] 93)).heap.size = w1.heap.size + 2 := by simp
  have esz : (w1.alloc (.cells #[.int .i64 width, .slice (some ⟨bo, 0, none⟩) N' N'] 93)).heap.size = w1.heap.size + 1 := by simp
  rw [esz]
  clear esz
  generalize ((w1.alloc (.cells #[.int .i64 width, .slice (some ⟨bo, 0, none⟩) N' N'] 93)).alloc (.cells #[.int .i64 wd, .slice a N cap] 93)) = wL at *
  replace Q0 := cellb hbL Q0
  replace R0 := cellb hbL R0
  replace R1 := cellb hbL R1
  replace Z0 : wL.frozen? ⟨w.heap.size + 3, 0, none⟩ = false := by rw [hbL.frozen (p := ⟨w.heap.size + 3, 0, none⟩) (by simp; omega)]; exact Z0
  replace Z1 : wL.frozen? ⟨w.heap.size + 3, 1, none⟩ = false := by rw [hbL.frozen (p := ⟨w.heap.size + 3, 1, none⟩) (by simp; omega)]; exact Z1
  have b2 := b1.trans (hbL.mono b1.size)
  replace HRO := hide (HRO.out.below hbL o2)
  clear b1 hbL S0 S1
  gi_wp2
  have hblt : 0 < N → b < w.heap.size := fun h => HR.out.lt h
  have HRL := hide (fun (h : 0 < N) => HR.out.below b2 (hblt h))
  have boL : bo < wL.heap.size := by omega
  refine range_count rfl (by omega) (gf := 127) (lb := #[.pointer (some ⟨w1.heap.size + 1, 0, none⟩)]) rfl trivial (enters_of Try.func127 (by kernel_rfl) rfl) (rowAt b off m cap) (fun _ => rfl) H 0
    (fun k W => RzI wL bo N' m W' R' c g f k W) (fun W => RzI wL bo N' m W' R' c g f R' W ∧ R' ≤ H) (fun k W W' h hb => h.below boL hb) (fun k W l o h hl => h.putObj boL hl) (fun W l o h hl => ⟨h.1.putObj boL hl, h.2⟩)
    (fun l J Jx W hJI hJb hY h0 => rows1_at _ l (w1.heap.size + 1) b off m H N cap wd a HN.out HW.out hm hm2 hH hc HA.out (by omega) J Jx W hJb (fun k W1 hj => ⟨(hJI k W1 hj).touch.cellAt q0 (by omega), (hJI k W1 hj).touch.cellAt q1 (by omega)⟩) hY h0)
    ⟨Touch.refl _ _ _ _, HRO.out.congr (fun i _ => fitF_zero m W' f (c, g) i), Nat.zero_le _⟩
    (fun k => { tmps := #[.agg #[.int .i64 wd, .slice a N cap], .int .i64 rows, .int .i64 width, .agg #[.int .i64 c, .int .i64 g], .pointer (some ⟨w.heap.size, 0, none⟩), .pointer (some ⟨w.heap.size + 1, 0, none⟩), undef, .pointer (some ⟨w.heap.size + 1 + 1, 0, none⟩), .pointer (some ⟨w.heap.size + 1 + 1 + 1, 0, none⟩), .pointer (some ⟨w1.heap.size, 0, none⟩), .int .i64 (k : Int), .slice (some ⟨b, off + k * m * 2, none⟩) m (cap - k * m), .int .i64 rows, .int .i64 width, .agg #[.int .i64 c, .int .i64 g], .agg #[.int .i64 width, .slice (some ⟨bo, 0, none⟩) N' N'], .agg #[.int .i64 wd, .slice a N cap], .func (.func 127) #[] #[.pointer (some ⟨w1.heap.size + 1, 0, none⟩)], .int .i64 (k : Int), .slice (some ⟨b, off + k * m * 2, none⟩) m (cap - k * m), undef, undef, undef, undef, undef, undef, undef, undef, undef], defers := [] }) ?assign ?body ?done ?stop
  case assign =>
    intro l k W K hK
    simp only [rowAt]
    gi_wp2
    exact hK
  case body =>
    rintro l k W hk hI
    have ht := hI.touch
    have q2 := ht.cellAt Q0 (by omega)
    by_cases hkR : k = R'
    · subst hkR
      have hEq : ((k : Int) == rows) = true := by rw [HRW.out]; simp
      have HI := hide hI
      clear hI ht
      gi_wp2
      exact ⟨fun j _ _ => rfl, Nat.le_refl _, .inr ⟨rfl, HI.out, by omega⟩⟩
    · have hkl : k < R' := by have := hI.le; omega
      have hEq : ((k : Int) == rows) = false := by rw [HRW.out, beq_eq_false_iff_ne]; omega
      have v0 := ht.cellAt u0 (by omega)
      have v1 := ht.cellAt u1 (by omega)
      have hKW : k * W' + W' ≤ N' := by
        have h := Nat.mul_le_mul_right W' (show k + 1 ≤ R' by omega)
        rw [Nat.add_mul, Nat.one_mul, ← HN'.out] at h
        exact h
      have hKm : k * m + m ≤ N := by
        have h := Nat.mul_le_mul_right m (show k + 1 ≤ H by omega)
        rw [Nat.add_mul, Nat.one_mul, ← HN.out] at h
        exact h
      have HT := hide ht
      have HRW2 := hide hI.row
      have hWs : wL.heap.size ≤ W.heap.size := ht.size
      clear hI ht
      gi_wp2
      refine ⟨trivial, CallsIn.inRound l ((callsIn_wide.2 (row_calls width (k : Int) bo 0 N' N' (k * W') W' _ ⟨Nat.le_refl _, _, rfl, fun _ => rfl⟩ (by rw [HWW.out, Int.natCast_mul]) HWW.out (by omega) (by omega) hKW (by omega) W)).mono ?_)⟩
      rintro e W3 ⟨v, rfl, ⟨hcv, av, rfl, hav⟩, hb3⟩
      obtain rfl := hav (by omega)
      rw [Nat.zero_add]
      have hs3 : W.heap.size ≤ W3.heap.size := hb3.size
      have R3 := hide (HRW2.out.below hb3 (by omega))
      have T3 := hide (HT.out.trans (Touch.of_below hb3 (Nat.le_refl _) (by omega)))
      have B3 := hide hb3
      clear hb3 HT HRW2
      obtain ⟨W4, hrun, hr4, ht4⟩ := run_copy2 (P := Try.prog) W3 30 30 3 99 Try.underlying30 cell_size2 (some ⟨bo, k * W' * 2, none⟩) (some ⟨b, off + k * m * 2, none⟩) W' (N' - k * W') m (cap - k * m) (min m W') rfl bo (k * W' * 2) (fun i => fitF m W' k f (c, g) (k * W' + i)) (by have h := R3.out.sub (k * W') W' hKW; rw [Nat.zero_add] at h; exact h) (fun _ => rfl) b (off + k * m * 2) (fun i => f (k * m + i)) (((HRL.out (by omega)).touch T3.out (by have := hblt (by omega); omega)).sub (k * m) (min m W') (by omega)) (fun _ => rfl)
      have R4 := hide hr4
      have T4 := hide ht4
      clear hr4 ht4
      gi_wp2
      have h4 := T4.out
      have h5 : Touch bo 0 (N' * 2) W3 W4 := h4.mono (Nat.zero_le _) (by omega)
      refine ⟨fun j h1 h2 => ?_, Nat.le_trans hs3 h4.size, .inl ⟨rfl, ⟨T3.out.trans h5, (R3.out.join (k := k * W') (m := W') (by rw [Nat.zero_add, Nat.zero_add, Nat.add_mul]; exact h4.mono (Nat.le_refl _) (by omega)) (by rw [Nat.zero_add]; exact R4.out) hKW).congr (fun i hi => ?_), by omega⟩⟩⟩
      · exact (h4.block j (by omega) (by omega)).trans (B3.out.block j h2)
      · rw [← fitF_step (by omega)]
        by_cases e : k * W' ≤ i ∧ i < k * W' + W'
        · rw [if_pos e]
          by_cases e2 : i - k * W' < min m W'
          · rw [if_pos e2, if_pos (by omega)]
          · rw [if_neg e2, if_neg (by omega), show k * W' + (i - k * W') = i by omega]
        · rw [if_neg e, if_neg (by omega)]
  case done =>
    rintro D W hD hI hK
    have hle := hI.le
    have ht := hI.touch
    have HRR := hide hI.row
    have HKK := hide hK
    have V0 := ht.cellAt u0 (by omega)
    have V1 := ht.cellAt u1 (by omega)
    replace R0 := ht.cellAt R0 (by omega)
    replace R1 := ht.cellAt R1 (by omega)
    replace Z0 := ht.frozenAt (by omega) Z0
    replace Z1 := ht.frozenAt (by omega) Z1
    have hWs : wL.heap.size ≤ W.heap.size := ht.size
    have bW := hide (b2.trans (ht.below (B := w.heap.size) (by omega) (by omega)))
    obtain ⟨s0, s1⟩ := res2 (w := W) (r := w.heap.size + 3) (.int .i64 width) (.slice (some ⟨bo, 0, none⟩) N' N') R0 R1
    have hKN : D < W.heap.size := (Array.getElem?_eq_some_iff.1 hK).1
    have hK2 := ((KeepsOthers.setCell W ⟨w.heap.size + 3, 0, none⟩ (.int .i64 width)).trans (KeepsOthers.setCell _ ⟨w.heap.size + 3, 1, none⟩ (.slice (some ⟨bo, 0, none⟩) N' N'))).same D _ HKK.out rfl
    have t3 : Touch (w.heap.size + 3) 0 2 W ((W.setCell ⟨w.heap.size + 3, 0, none⟩ (.int .i64 width)).setCell ⟨w.heap.size + 3, 1, none⟩ (.slice (some ⟨bo, 0, none⟩) N' N')) := ((Touch.refl _ _ _ _).setCell (by omega) (by omega) _).setCell (by omega) (by omega) _
    have T3 := hide t3
    have KK2 := hide hK2
    clear ht hI hK t3 hK2 u0 u1 q0 q1
    gi_wp2
    rw [show w.heap.size + 1 + 1 + 1 = w.heap.size + 3 from rfl]
    have hK2 := KK2.out
    have t3 := T3.out
    generalize ((W.setCell ⟨w.heap.size + 3, 0, none⟩ (.int .i64 width)).setCell ⟨w.heap.size + 3, 1, none⟩ (.slice (some ⟨bo, 0, none⟩) N' N')) = W3 at *
    refine ⟨by simp, .inl ⟨_, _, rfl, run_takeDeferred hK2, ?_⟩⟩
    have hrow : ∀ r, some D = some r → ∃ o : Obj, W3.heap[r]? = some o ∧ o.isCells = false := by
      rintro r e
      injection e with e
      subst e
      exact ⟨_, hK2, rfl⟩
    have t0 := cell_kept s0 (grownBy_putObj' W3 D (.deferred none)) hrow
    have t1 := cell_kept s1 (grownBy_putObj' W3 D (.deferred none)) hrow
    have hsz : W.heap.size ≤ (W3.putObj D (.deferred none)).heap.size := by simp [World.putObj]; exact t3.size
    rw [show min R' H = H by omega]
    refine ⟨_, ?_, bo, rfl, by omega, by omega, ?_, ?_⟩
    · simp [results, Try.results88, go_sem, t0, t1]
    · exact (HRR.out.touch t3 (by omega)).block (World.putObj_heap_other (by omega))
    · refine (bW.out.trans (t3.below (by omega) (by omega))).trans ?_
      have hgp := grownBy_putObj' W3 D (.deferred none)
      exact ⟨hgp.os, hgp.tape, hgp.output, hgp.size, fun j hj => World.putObj_heap_other (by omega)⟩
  case stop =>
    rintro D W hD ⟨hI, hRH⟩ hK
    have ht := hI.touch
    have HRR := hide hI.row
    have HKK := hide hK
    have V0 := ht.cellAt u0 (by omega)
    have V1 := ht.cellAt u1 (by omega)
    replace R0 := ht.cellAt R0 (by omega)
    replace R1 := ht.cellAt R1 (by omega)
    replace Z0 := ht.frozenAt (by omega) Z0
    replace Z1 := ht.frozenAt (by omega) Z1
    have hWs : wL.heap.size ≤ W.heap.size := ht.size
    have bW := hide (b2.trans (ht.below (B := w.heap.size) (by omega) (by omega)))
    obtain ⟨s0, s1⟩ := res2 (w := W) (r := w.heap.size + 3) (.int .i64 width) (.slice (some ⟨bo, 0, none⟩) N' N') R0 R1
    have hKN : D < W.heap.size := (Array.getElem?_eq_some_iff.1 hK).1
    have hK2 := ((KeepsOthers.setCell W ⟨w.heap.size + 3, 0, none⟩ (.int .i64 width)).trans (KeepsOthers.setCell _ ⟨w.heap.size + 3, 1, none⟩ (.slice (some ⟨bo, 0, none⟩) N' N'))).same D _ HKK.out rfl
    have t3 : Touch (w.heap.size + 3) 0 2 W ((W.setCell ⟨w.heap.size + 3, 0, none⟩ (.int .i64 width)).setCell ⟨w.heap.size + 3, 1, none⟩ (.slice (some ⟨bo, 0, none⟩) N' N')) := ((Touch.refl _ _ _ _).setCell (by omega) (by omega) _).setCell (by omega) (by omega) _
    have T3 := hide t3
    have KK2 := hide hK2
    clear ht hI hK t3 hK2 u0 u1 q0 q1
    gi_wp2
    rw [show w.heap.size + 1 + 1 + 1 = w.heap.size + 3 from rfl]
    have hK2 := KK2.out
    have t3 := T3.out
    generalize ((W.setCell ⟨w.heap.size + 3, 0, none⟩ (.int .i64 width)).setCell ⟨w.heap.size + 3, 1, none⟩ (.slice (some ⟨bo, 0, none⟩) N' N')) = W3 at *
    refine ⟨by simp, .inl ⟨_, _, rfl, run_takeDeferred hK2, ?_⟩⟩
    have hrow : ∀ r, some D = some r → ∃ o : Obj, W3.heap[r]? = some o ∧ o.isCells = false := by
      rintro r e
      injection e with e
      subst e
      exact ⟨_, hK2, rfl⟩
    have t0 := cell_kept s0 (grownBy_putObj' W3 D (.deferred none)) hrow
    have t1 := cell_kept s1 (grownBy_putObj' W3 D (.deferred none)) hrow
    have hsz : W.heap.size ≤ (W3.putObj D (.deferred none)).heap.size := by simp [World.putObj]; exact t3.size
    rw [show min R' H = R' by omega]
    refine ⟨_, ?_, bo, rfl, by omega, by omega, ?_, ?_⟩
    · simp [results, Try.results88, go_sem, t0, t1]
    · exact (HRR.out.touch t3 (by omega)).block (World.putObj_heap_other (by omega))
    · refine (bW.out.trans (t3.below (by omega) (by omega))).trans ?_
      have hgp := grownBy_putObj' W3 D (.deferred none)
      exact ⟨hgp.os, hgp.tape, hgp.output, hgp.size, fun j hj => World.putObj_heap_other (by omega)⟩
end Go.Proofs.Ytknkbihjboadjaa
