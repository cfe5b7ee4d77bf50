/-
  The model's l5Base and l7Cursor: the region, the place, and what waits there.
-/
import Derived.Test.YtknkbihjboadjaaDoorDumpSpec
namespace Go.Proofs.YtknkbihjboadjaaDoor
set_option maxRecDepth 20000
open Go.ChangeShapes Go.WideShapes Go.ChangeAt Go.RowKit
set_option linter.unusedVariables false
set_option linter.unusedSimpArgs false
set_option maxRecDepth 20000

theorem step_append_X {P : Program} {ops : Array Oper} {o : Oper} {a : Act} {w : World} {K : Act → World → Prop} {Q : Exit → Act → World → Prop} {E : Prop}
    (hg : o.guard = none) (s x : Operand) (t : TypeId) (hop : o.op = Op.call { callee := Callee.builtin Builtin.append, args := #[s, x], argTypes := #[t, t] })
    (base : Nat) (e : TypeId) (k : IntKind) (i : TypeInfo) (z : Value) (bytes : Nat) (h1 : P.underlying t = some (.slice e)) (h2 : P.info? e = some i) (h3 : i.zero = some z) (h4 : i.size = 1) (h5 : i.bytes = bytes) (h6 : z.cells.size = 1)
    (v : Value) (n : Nat) (xs : List Value) (hs : a.eval s = v) (hown : OwnX w base e v n xs)
    (ax : Option Addr) (ys : List Int) (m c : Nat) (hx : a.eval x = .slice ax m c) (hm : m = ys.length) (hr : ReadAt k w (.slice ax m c) ys)
    (b1 : n + m ≤ maxLen) (b2 : (n + m) * bytes ≤ 140737488355328) (hbase : base ≤ w.heap.size)
    (hK : ∀ v' w', OwnX w' base e v' (n + m) (xs ++ ys.map (Value.int k)) → w.grownBy w' v.ownBlock → K (a.put o.dst v') w') :
    if Region.wanted o (yielded ops a.tmps) = true then Oper.wp P o a w K Q else E := by
  have hw : Region.wanted o (yielded ops a.tmps) = true := by simp [Region.wanted, hg]
  rw [if_pos hw]
  obtain ⟨v', w', hrun, r1, r2⟩ := run_append_Xs w base t o.type e k i z bytes h1 h2 h3 h4 h5 h6 v n xs hown ax ys m c hm hr b1 b2 hbase
  unfold Oper.wp
  simp [execOp, hop, resolve, invoke, builtin, hs, hx, hrun, Result.andThen]
  exact hK v' w' r1 r2
theorem setCells_type {b : Nat} {T : TypeId} {fz : Nat × Nat} : ∀ (vs : List Value) (o : Nat) (w : World), (∃ cs, w.heap[b]? = some (.cells cs T fz)) → ∃ cs, (w.setCells b o vs).heap[b]? = some (.cells cs T fz)
  | [], _, _, h => h
  | v :: r, o, w, ⟨cs, h⟩ => by
    rw [World.setCells]
    refine setCells_type r (o + 1) _ ?_
    rw [setCell_eq_setRow w b o cs T fz v h]
    exact ⟨_, setRow_heap w b cs _ T _ h⟩
theorem wp_store_T {P : Program} {o : Oper} {a : Act} {w : World} {K : Act → World → Prop} {Q : Exit → Act → World → Prop} (ty : TypeId) (x y : Operand) (ho : o.op = .store ty x y)
    (g off : Nat) (T : TypeId) (cs cs' : Array Value) (v : Value) (hx : a.eval x = .pointer (some ⟨g, off, none⟩)) (hy : a.eval y = v) (hg : w.heap[g]? = some (.cells cs T (0, 0))) (hl : Nat.ble (off + v.cells.size) cs.size = true) (hi : (P.info? ty).map (·.size) = some v.cells.size)
    (h1 : v.cells.toList.all (·.oneCell') = true) (hc : (cs.toList.take off ++ v.cells.toList ++ cs.toList.drop (off + v.cells.toList.length)).toArray = cs')
    (h : ∀ w', w'.heap[g]? = some (.cells cs' T (0, 0)) → Upd g w w' → K (a.put o.dst undef) w') : o.wp P a w K Q := by
  have hl' := Nat.le_of_ble_eq_true hl
  have hB : Blk w g cs := ⟨T, hg⟩
  unfold Oper.wp execOp
  simp only [ho, hx, hy, Instr.storeAt, Instr.sureAddr, Sem.run_bind, Sem.run_pure, Result.andThen_ok, run_storeVar_any hB hl' hi h1]
  refine h _ ?_ (Upd.setCells g off _ w)
  obtain ⟨t, ht⟩ := hB.sets' (by simpa using hl') hc
  obtain ⟨c2, h2⟩ := setCells_type v.cells.toList off w ⟨cs, hg⟩
  rw [ht] at h2
  injection h2 with h2
  injection h2 with h3 h4 h5
  rw [ht, h4]
theorem ownX_kind {w : World} {B n : Nat} {e : TypeId} {v : Value} {xs : List Value} (h : OwnX w B e v n xs) : ∀ g, v.ownBlock = some g → ∃ c fz, w.heap[g]? = some (.cells c e fz) := by
  intro g hg
  rcases h.2 with ⟨rfl, _⟩ | ⟨g2, cap, cur, fz, rfl, hb, hg2, _⟩
  · simp [Value.ownBlock] at hg
  · simp [Value.ownBlock] at hg
    subst hg
    exact ⟨_, _, hg2⟩
theorem l5Base_o (s : Scr) (v1 v2 v3 v4 : Value) (b ob : Nat) (w : World) (hB : Seg w b ob (scrA s v1 v2 v3 v4)) :
    Calls Tryd.prog 82 #[.pointer (some ⟨b, ob, none⟩)] w fun e w' => e = .returned (.int .i64 (baseOf s)) ∧ w' = w := by
  have c8 := hB.at 8 (scrA_8 s v1 v2 v3 v4)
  have c10 := hB.at 10 (scrA_10 s v1 v2 v3 v4)
  unfold baseOf
  rcases ho : s.org with _ | _
  · rw [ho] at c10
    rw [if_neg (by simp)]
    go_enter Tryd.func82, Tryd.ntmps82
    go_wp2
    go_ret
    exact ⟨rfl, rfl⟩
  · rw [ho] at c10
    rw [if_pos rfl]
    go_enter Tryd.func82, Tryd.ntmps82
    go_wp2
    go_ret
    exact ⟨rfl, rfl⟩
theorem kept_block {w w' : World} {q : Nat} {cs : Array Value} {T : TypeId} {fz : Nat × Nat} (h : w.heap[q]? = some (.cells cs T fz)) (hne : 5 ≠ T) (hk : Kept w w') : w'.heap[q]? = some (.cells cs T fz) :=
  hk q _ h (by simp) (fun c f e => by injection e with e1 e2; exact hne e2.symm)
theorem kept_cell {w w' : World} {q i : Nat} {cs : Array Value} {T : TypeId} {fz : Nat × Nat} {v : Value} (h : w.heap[q]? = some (.cells cs T fz)) (hne : 5 ≠ T) (hk : Kept w w') (hv : cs[i]? = some v) : w'.cell? ⟨q, i, none⟩ = some v := by
  simp [World.cell?, kept_block h hne hk, hv]
/-- The region as bytes. -/
theorem region_len {s : Scr} (h : SFine s) : (seqL [s.top + 1, s.bot + 1] 114).length ≤ 20 := by
  obtain ⟨q1, q2, q3, q4, _, _⟩ := size_mul h.g.size
  have d1 := dig_len (n := s.top + 1) (by have := h.t1; have := h.b1; omega)
  have d2 := dig_len (n := s.bot + 1) (by have := h.b1; omega)
  unfold seqL
  simp [joinL]
  omega
set_option maxHeartbeats 8000000 in
theorem l7Cursor_o (s : Scr) (v1 v2 v3 v4 : Value) (b ob : Nat) (w : World) (hF : SFine s) (hB : Seg w b ob (scrA s v1 v2 v3 v4)) (h1 : PRead w v1 s.cs) :
    Calls Tryd.prog 56 #[.pointer (some ⟨b, ob, none⟩)] w fun e w' => ∃ v, e = .returned v ∧ OwnX w' w.heap.size 5 v (whereL s).length ((whereL s).map (Value.int .u8)) ∧ Below w.heap.size w w' := by
  obtain ⟨i0, hi, hz0, hz1, hz2⟩ := info_parts info_u8s
  obtain ⟨R, m, eR, eW, n1, n2, n3, n4, n5, n6, n7, n8, n9, n10⟩ := hF.g.nats
  obtain ⟨f_y0, f_y1, f_x0, f_x1, f_a0, f_a1, f_t0, f_t1, f_b1⟩ : 0 ≤ s.y ∧ s.y < s.r ∧ 0 ≤ s.x ∧ s.x < s.wd ∧ 0 ≤ s.attr ∧ s.attr ≤ 31 ∧ 0 ≤ s.top ∧ s.top ≤ s.bot ∧ s.bot ≤ s.r - 1 := ⟨hF.y0, hF.y1, hF.x0, hF.x1, hF.a0, hF.a1, hF.t0, hF.t1, hF.b1⟩
  have e1 : IntKind.i64.wrap (s.top + 1) = s.top + 1 := wrap_small (by omega) (by omega)
  have e2 : IntKind.i64.wrap (s.bot + 1) = s.bot + 1 := wrap_small (by omega) (by omega)
  have l1 := dig_len (n := s.top + 1) (by omega)
  have l2 := dig_len (n := s.bot + 1) (by omega)
  have H1 := fun w' => l1Digits_calls _ (s.top + 1) w' (by omega) (by omega) (Nat.le_refl _)
  have H2 := fun w' => l1Digits_calls _ (s.bot + 1) w' (by omega) (by omega) (Nat.le_refl _)
  obtain ⟨da, ha⟩ : ∃ a, strOfNums (digL (s.top + 1)) = a := ⟨_, rfl⟩
  obtain ⟨db, hb⟩ : ∃ b, strOfNums (digL (s.bot + 1)) = b := ⟨_, rfl⟩
  obtain ⟨RG, hRG⟩ : ∃ l, seqL [s.top + 1, s.bot + 1] 114 = l := ⟨_, rfl⟩
  have hS : (⟨#[27, 91]⟩ : ByteArray) ++ da ++ ⟨#[59]⟩ ++ db ++ ⟨#[114]⟩ = strOfNums RG := by
    rw [← ha, ← hb, ← hRG, show (⟨#[27, 91]⟩ : ByteArray) = strOfNums [27, 91] from rfl, show (⟨#[59]⟩ : ByteArray) = strOfNums [59] from rfl, show (⟨#[114]⟩ : ByteArray) = strOfNums [114] from rfl]
    simp only [str_app]
    unfold seqL
    simp [joinL]
  have ls := region_len hF
  rw [hRG] at ls
  have hbyte : ∀ z ∈ RG, 0 ≤ z ∧ z ≤ 255 := by rw [← hRG]; exact seq_byte (by omega) (by omega)
  have s1 : da.size ≤ 6 := by rw [← ha, strOfNums_size]; exact l1
  have s2 : db.size ≤ 6 := by rw [← hb, strOfNums_size]; exact l2
  have t1 : ¬ 9223372036854775807 < 2 + da.size := lim (by omega)
  have t2 : ¬ 9223372036854775807 < 2 + da.size + 1 := lim (by omega)
  have t3 : ¬ 9223372036854775807 < 2 + da.size + 1 + db.size := lim (by omega)
  have t4 : ¬ 9223372036854775807 < 2 + da.size + 1 + db.size + 1 := lim (by omega)
  rw [ha] at H1
  rw [hb] at H2
  have hbase : 0 ≤ s.y - baseOf s ∧ s.y - baseOf s ≤ 99999 := by
    unfold baseOf
    split
    · rename_i ho
      have := hF.o ho
      omega
    · omega
  have e3 : IntKind.i64.wrap (s.y - baseOf s) = s.y - baseOf s := wrap_small (by omega) (by omega)
  obtain ⟨PL, hPL⟩ : ∃ l, placeL (s.y - baseOf s) s.x = l := ⟨_, rfl⟩
  have lp : PL.length ≤ 20 := by rw [← hPL]; exact placeL_len (by omega) (by omega)
  obtain ⟨X, hX⟩ : ∃ X : Nat, s.y * s.wd + s.x = (X : Int) := ⟨(s.y * s.wd + s.x).toNat, by have := Int.mul_nonneg f_y0 (show 0 ≤ s.wd by omega); omega⟩
  have hXn : X < s.cs.length := by
    obtain ⟨Y, hY⟩ : ∃ Y : Nat, s.y = (Y : Int) := ⟨s.y.toNat, by omega⟩
    have hmul := Nat.mul_le_mul_right m (show Y + 1 ≤ R by omega)
    rw [Nat.add_mul, Nat.one_mul] at hmul
    have : s.y * s.wd = ((Y * m : Nat) : Int) := by rw [hY, eW, ← Int.natCast_mul]
    rw [n5]
    omega
  have e4 : IntKind.i64.wrap (s.y * s.wd) = s.y * s.wd := by
    have := Int.mul_nonneg f_y0 (show 0 ≤ s.wd by omega)
    exact wrap_small (by omega) (by omega)
  have e5 : IntKind.i64.wrap (s.y * s.wd + s.x) = (X : Int) := by rw [hX]; exact wrap_small (by omega) (by omega)
  obtain ⟨bx, ox, cx, rfl, hxr⟩ : ∃ bx ox cx, v1 = .slice (some ⟨bx, ox, none⟩) s.cs.length cx ∧ RowR w bx ox s.cs.length (fun i => s.cs.getD i (0, 0)) := by
    obtain ⟨a1, c1, rfl, h⟩ := h1
    rcases h with h | ⟨b3, o3, rfl, h⟩
    · rw [h] at hXn; simp at hXn
    · exact ⟨_, _, _, rfl, h⟩
  obtain ⟨⟨zc0, zc1⟩, za0, za1⟩ := cellat_fine hF.g X hXn
  obtain ⟨zc, hzc⟩ : ∃ z, (s.cs.getD X (0, 0)).1 = z := ⟨_, rfl⟩
  obtain ⟨za, hza⟩ : ∃ z, (s.cs.getD X (0, 0)).2 = z := ⟨_, rfl⟩
  have hac : atCell s = (zc, za) := by unfold atCell; rw [hX, Int.toNat_natCast, ← hzc, ← hza]
  rw [hzc] at zc0 zc1
  rw [hza] at za0 za1
  have hxI : (X : Int) < (s.cs.length : Int) := by omega
  have hal := attrL_len za0 za1
  have hel := encL_length zc
  have hwl : whereL s = RG ++ orgL s ++ PL ++ waitL s := by unfold whereL; rw [hRG, hPL]
  have HW := hide hwl
  have HPL := hide hPL
  have HAC := hide hac
  have HXR := hide hxr
  have HZC := hide hzc
  have HZA := hide hza
  have HS := hide hS
  have HF := hide hF
  have hbl := hB.lt
  have hxl := hxr.lt (by omega)
  have hxb : s.x ≤ 99999 := by omega
  clear ha hb l1 l2 s1 s2 hS hRG hwl hPL hX hac hxr hzc hza hF h1 n5 n6 n7 n9 n10 eR eW
  have hmk : ∀ w', Below w.heap.size w w' → (Below w.heap.size w w' ∧ w'.cell? ⟨b, ob + 8, none⟩ = some (.int .i64 s.top) ∧ w'.cell? ⟨b, ob + 9, none⟩ = some (.int .i64 s.bot)) := fun w' hb => ⟨hb, (hB.belowb hb).at 8 (scrA_8 ..), (hB.belowb hb).at 9 (scrA_9 ..)⟩
  go_enter Tryd.func56, Tryd.ntmps56
  go_wp2_with fail
  refine wp_region_held_drew (S := (fun w' => Below w.heap.size w w' ∧ w'.cell? ⟨b, ob + 8, none⟩ = some (.int .i64 s.top) ∧ w'.cell? ⟨b, ob + 9, none⟩ = some (.int .i64 s.bot))) (by kernel_rfl) ?_ (fun hHeld => ?_)
  · (try dsimp only); exact hmk _ (Below.drew (Below.refl _ w))
  refine wpAnyH_take (i := 0) (oi := ⟨_, _, _, _, _, _⟩) (v := ?_) rfl (by kernel_rfl) (by kernel_rfl) (by kernel_rfl) (fun _ _ _ h => h) (Or.inl ⟨by rfl, ?_⟩) hHeld ?_
  rotate_left
  · (intro w hSw; (try dsimp only at hSw); go_simp; try (with_reducible rfl))
  try simp only [Act.put, List.setIfInBounds_toArray, List.set_cons_zero, List.set_cons_succ]
  refine wpAnyH_take (i := 1) (oi := ⟨_, _, _, _, _, _⟩) (v := ?_) rfl (by kernel_rfl) (by kernel_rfl) (by kernel_rfl) (fun _ _ _ h => h) (Or.inl ⟨by rfl, ?_⟩) hHeld ?_
  rotate_left
  · (intro w hSw; (try dsimp only at hSw); go_simp; try (with_reducible rfl))
  try simp only [Act.put, List.setIfInBounds_toArray, List.set_cons_zero, List.set_cons_succ]
  refine wpAnyH_take (i := 2) (oi := ⟨_, _, _, _, _, _⟩) (v := ?_) rfl (by kernel_rfl) (by kernel_rfl) (by kernel_rfl) (fun _ _ _ h => h) (Or.inl ⟨by rfl, ?_⟩) hHeld ?_
  rotate_left
  · (intro w hSw; (try dsimp only at hSw); go_simp; try (with_reducible rfl))
  try simp only [Act.put, List.setIfInBounds_toArray, List.set_cons_zero, List.set_cons_succ]
  refine wpAnyH_take (i := 3) (oi := ⟨_, _, _, _, _, _⟩) (v := ?_) rfl (by kernel_rfl) (by kernel_rfl) (by kernel_rfl) (fun _ _ _ h => h) (Or.inl ⟨by rfl, ?_⟩) hHeld ?_
  rotate_left
  · (intro w hSw; (try dsimp only at hSw); go_simp; try (with_reducible rfl))
  try simp only [Act.put, List.setIfInBounds_toArray, List.set_cons_zero, List.set_cons_succ]
  refine wpAnyH_take (i := 4) (oi := ⟨_, _, _, _, _, _⟩) (v := ?_) rfl (by kernel_rfl) (by kernel_rfl) (by kernel_rfl) (fun _ _ _ h => h) (Or.inl ⟨by rfl, ?_⟩) hHeld ?_
  rotate_left
  · (intro w hSw; (try dsimp only at hSw); go_simp; try (with_reducible rfl))
  try simp only [Act.put, List.setIfInBounds_toArray, List.set_cons_zero, List.set_cons_succ]
  refine wpAnyH_take (i := 8) (oi := ⟨_, _, _, _, _, _⟩) (v := ?_) rfl (by kernel_rfl) (by kernel_rfl) (by kernel_rfl) (fun _ _ _ h => h) (Or.inl ⟨by rfl, ?_⟩) hHeld ?_
  rotate_left
  · (intro w hSw; (try dsimp only at hSw); go_simp; try (with_reducible rfl))
  try simp only [Act.put, List.setIfInBounds_toArray, List.set_cons_zero, List.set_cons_succ]
  refine wpAnyH_take (i := 9) (oi := ⟨_, _, _, _, _, _⟩) (v := ?_) rfl (by kernel_rfl) (by kernel_rfl) (by kernel_rfl) (fun _ _ _ h => h) (Or.inl ⟨by rfl, ?_⟩) hHeld ?_
  rotate_left
  · (intro w hSw; (try dsimp only at hSw); go_simp; try (with_reducible rfl))
  try simp only [Act.put, List.setIfInBounds_toArray, List.set_cons_zero, List.set_cons_succ]
  refine wpAnyH_take (i := 10) (oi := ⟨_, _, _, _, _, _⟩) (v := ?_) rfl (by kernel_rfl) (by kernel_rfl) (by kernel_rfl) (fun _ _ _ h => h) (Or.inl ⟨by rfl, ?_⟩) hHeld ?_
  rotate_left
  · (intro w hSw; (try dsimp only at hSw); go_simp; try (with_reducible rfl))
  try simp only [Act.put, List.setIfInBounds_toArray, List.set_cons_zero, List.set_cons_succ]
  refine wpAnyH_take (i := 11) (oi := ⟨_, _, _, _, _, _⟩) (v := ?_) rfl (by kernel_rfl) (by kernel_rfl) (by kernel_rfl) (fun _ _ _ h => h) (Or.inl ⟨by rfl, ?_⟩) hHeld ?_
  rotate_left
  · (intro w hSw; (try dsimp only at hSw); go_simp; try (with_reducible rfl))
  try simp only [Act.put, List.setIfInBounds_toArray, List.set_cons_zero, List.set_cons_succ]
  refine wpAnyH_take (i := 12) (oi := ⟨_, _, _, _, _, _⟩) (v := ?_) rfl (by kernel_rfl) (by kernel_rfl) (by kernel_rfl) (fun _ _ _ h => h) (Or.inl ⟨by rfl, ?_⟩) hHeld ?_
  rotate_left
  · (intro w hSw; (try dsimp only at hSw); go_simp; try (with_reducible rfl))
  try simp only [Act.put, List.setIfInBounds_toArray, List.set_cons_zero, List.set_cons_succ]
  refine wpAnyH_ready (rs := [5]) (by kernel_rfl) (by simp) ?_
  refine (AllReadyH.cons (o := ⟨_, _, _, _, _, _⟩) rfl (fun K hK => ?_) AllReadyH.nil)
  go_simp
  go_at_call 73
  refine (H1 _).mono ?_
  rintro e w1 ⟨rfl, hb1⟩
  replace hb1 := hHeld.1.trans (hb1.mono hHeld.1.size)
  refine hK.out _ _ ?_ ?_
  · (try dsimp only); exact hmk _ hb1
  clear hHeld hK K
  intro hHeld
  try simp only [Act.put, List.setIfInBounds_toArray, List.set_cons_zero, List.set_cons_succ]
  refine wpAnyH_take (i := 6) (oi := ⟨_, _, _, _, _, _⟩) (v := ?_) rfl (by kernel_rfl) (by kernel_rfl) (by kernel_rfl) (fun _ _ _ h => h) (Or.inl ⟨by rfl, ?_⟩) hHeld ?_
  rotate_left
  · (intro w hSw; (try dsimp only at hSw); go_simp; try (with_reducible rfl))
  try simp only [Act.put, List.setIfInBounds_toArray, List.set_cons_zero, List.set_cons_succ]
  refine wpAnyH_take (i := 7) (oi := ⟨_, _, _, _, _, _⟩) (v := ?_) rfl (by kernel_rfl) (by kernel_rfl) (by kernel_rfl) (fun _ _ _ h => h) (Or.inl ⟨by rfl, ?_⟩) hHeld ?_
  rotate_left
  · (intro w hSw; (try dsimp only at hSw); go_simp; try (with_reducible rfl))
  try simp only [Act.put, List.setIfInBounds_toArray, List.set_cons_zero, List.set_cons_succ]
  refine wpAnyH_ready (rs := [13]) (by kernel_rfl) (by simp) ?_
  refine (AllReadyH.cons (o := ⟨_, _, _, _, _, _⟩) rfl (fun K hK => ?_) AllReadyH.nil)
  go_simp
  go_at_call 73
  refine (H2 _).mono ?_
  rintro e w2 ⟨rfl, hb2⟩
  replace hb2 := hHeld.1.trans (hb2.mono hHeld.1.size)
  obtain ⟨v3', w3, hrun, ho3, hb3⟩ := bytes_of_nums RG w2 hbyte (by omega)
  rw [← HS.out] at hrun
  obtain ⟨a3, c3, rfl⟩ := ho3.form
  have z2 := hb2.size
  have b3 : Below w.heap.size w w3 := hb2.trans (hb3.mono z2)
  replace ho3 := ho3.lower z2
  refine hK.out _ _ ?_ ?_
  · (try dsimp only); exact hmk _ hb2
  clear hHeld hK K
  intro hHeld
  try simp only [Act.put, List.setIfInBounds_toArray, List.set_cons_zero, List.set_cons_succ]
  refine wpAnyH_take (i := 14) (oi := ⟨_, _, _, _, _, _⟩) (v := ?_) rfl (by kernel_rfl) (by kernel_rfl) (by kernel_rfl) (fun _ _ _ h => h) (Or.inl ⟨by rfl, ?_⟩) hHeld ?_
  rotate_left
  · (intro w hSw; (try dsimp only at hSw); go_simp; try (with_reducible rfl))
  try simp only [Act.put, List.setIfInBounds_toArray, List.set_cons_zero, List.set_cons_succ]
  refine wpAnyH_take (i := 15) (oi := ⟨_, _, _, _, _, _⟩) (v := ?_) rfl (by kernel_rfl) (by kernel_rfl) (by kernel_rfl) (fun _ _ _ h => h) (Or.inl ⟨by rfl, ?_⟩) hHeld ?_
  rotate_left
  · (intro w hSw; (try dsimp only at hSw); go_simp; try (with_reducible rfl))
  try simp only [Act.put, List.setIfInBounds_toArray, List.set_cons_zero, List.set_cons_succ]
  refine wpAnyH_ready (rs := [16]) (by kernel_rfl) (by simp) ?_
  refine (AllReadyH.cons (o := ⟨_, _, _, _, _, _⟩) rfl (fun K hK => ?_) AllReadyH.nil)
  go_simp
  refine hK.out _ _ ?_ ?_
  · (try dsimp only); exact hmk _ b3
  clear hHeld hK K
  intro hHeld
  try simp only [Act.put, List.setIfInBounds_toArray, List.set_cons_zero, List.set_cons_succ]
  refine wpAnyH_take (i := 17) (oi := ⟨_, _, _, _, _, _⟩) (v := ?_) rfl (by kernel_rfl) (by kernel_rfl) (by kernel_rfl) (fun _ _ _ h => h) (Or.inl ⟨by rfl, ?_⟩) hHeld ?_
  rotate_left
  · (intro w hSw; (try dsimp only at hSw); go_simp; try (with_reducible rfl))
  try simp only [Act.put, List.setIfInBounds_toArray, List.set_cons_zero, List.set_cons_succ]
  refine wpAnyH_done (by kernel_rfl) ?_ _
  clear hHeld hb1 hb2 hrun hb3 H1 H2 hmk t1 t2 t3 t4 HS
  have c10 := (hB.belowb b3).at 10 (scrA_10 s _ v2 v3 v4)
  rcases ho : s.org with _ | _
  · rw [ho] at c10
    have horg : orgL s = [] := by unfold orgL; rw [if_neg (by rw [ho]; simp)]
    have HO := hide ho
    have HG := hide horg
    clear ho horg
    go_wp2_with fail
    have ho4 := ho3
    have b4 := b3
    have hmk4 : ∀ w', Below w.heap.size w w' → (Below w.heap.size w w' ∧ w'.cell? ⟨b, ob + 4, none⟩ = some (.int .i64 s.y) ∧ w'.cell? ⟨b, ob + 5, none⟩ = some (.int .i64 s.x)) := fun w' hb => ⟨hb, (hB.belowb hb).at 4 (scrA_4 ..), (hB.belowb hb).at 5 (scrA_5 ..)⟩
    refine wp_region_held_drew (S := (fun w' => Below w.heap.size w w' ∧ w'.cell? ⟨b, ob + 4, none⟩ = some (.int .i64 s.y) ∧ w'.cell? ⟨b, ob + 5, none⟩ = some (.int .i64 s.x))) (by kernel_rfl) ?_ (fun hHeld => ?_)
    · (try dsimp only); exact hmk4 _ (Below.drew b3)
    refine wpAnyH_take (i := 0) (oi := ⟨_, _, _, _, _, _⟩) (v := ?_) rfl (by kernel_rfl) (by kernel_rfl) (by kernel_rfl) (fun _ _ _ h => h) (Or.inl ⟨by rfl, ?_⟩) hHeld ?_
    rotate_left
    · (intro w hSw; (try dsimp only at hSw); go_simp; try (with_reducible rfl))
    try simp only [Act.put, List.setIfInBounds_toArray, List.set_cons_zero, List.set_cons_succ]
    refine wpAnyH_take (i := 1) (oi := ⟨_, _, _, _, _, _⟩) (v := ?_) rfl (by kernel_rfl) (by kernel_rfl) (by kernel_rfl) (fun _ _ _ h => h) (Or.inl ⟨by rfl, ?_⟩) hHeld ?_
    rotate_left
    · (intro w hSw; (try dsimp only at hSw); go_simp; try (with_reducible rfl))
    try simp only [Act.put, List.setIfInBounds_toArray, List.set_cons_zero, List.set_cons_succ]
    refine wpAnyH_take (i := 2) (oi := ⟨_, _, _, _, _, _⟩) (v := ?_) rfl (by kernel_rfl) (by kernel_rfl) (by kernel_rfl) (fun _ _ _ h => h) (Or.inl ⟨by rfl, ?_⟩) hHeld ?_
    rotate_left
    · (intro w hSw; (try dsimp only at hSw); go_simp; try (with_reducible rfl))
    try simp only [Act.put, List.setIfInBounds_toArray, List.set_cons_zero, List.set_cons_succ]
    refine wpAnyH_take (i := 3) (oi := ⟨_, _, _, _, _, _⟩) (v := ?_) rfl (by kernel_rfl) (by kernel_rfl) (by kernel_rfl) (fun _ _ _ h => h) (Or.inl ⟨by rfl, ?_⟩) hHeld ?_
    rotate_left
    · (intro w hSw; (try dsimp only at hSw); go_simp; try (with_reducible rfl))
    try simp only [Act.put, List.setIfInBounds_toArray, List.set_cons_zero, List.set_cons_succ]
    refine wpAnyH_take (i := 4) (oi := ⟨_, _, _, _, _, _⟩) (v := ?_) rfl (by kernel_rfl) (by kernel_rfl) (by kernel_rfl) (fun _ _ _ h => h) (Or.inl ⟨by rfl, ?_⟩) hHeld ?_
    rotate_left
    · (intro w hSw; (try dsimp only at hSw); go_simp; try (with_reducible rfl))
    try simp only [Act.put, List.setIfInBounds_toArray, List.set_cons_zero, List.set_cons_succ]
    refine wpAnyH_take (i := 5) (oi := ⟨_, _, _, _, _, _⟩) (v := ?_) rfl (by kernel_rfl) (by kernel_rfl) (by kernel_rfl) (fun _ _ _ h => h) (Or.inl ⟨by rfl, ?_⟩) hHeld ?_
    rotate_left
    · (intro w hSw; (try dsimp only at hSw); go_simp; try (with_reducible rfl))
    try simp only [Act.put, List.setIfInBounds_toArray, List.set_cons_zero, List.set_cons_succ]
    refine wpAnyH_take (i := 8) (oi := ⟨_, _, _, _, _, _⟩) (v := ?_) rfl (by kernel_rfl) (by kernel_rfl) (by kernel_rfl) (fun _ _ _ h => h) (Or.inl ⟨by rfl, ?_⟩) hHeld ?_
    rotate_left
    · (intro w hSw; (try dsimp only at hSw); go_simp; try (with_reducible rfl))
    try simp only [Act.put, List.setIfInBounds_toArray, List.set_cons_zero, List.set_cons_succ]
    refine wpAnyH_take (i := 9) (oi := ⟨_, _, _, _, _, _⟩) (v := ?_) rfl (by kernel_rfl) (by kernel_rfl) (by kernel_rfl) (fun _ _ _ h => h) (Or.inl ⟨by rfl, ?_⟩) hHeld ?_
    rotate_left
    · (intro w hSw; (try dsimp only at hSw); go_simp; try (with_reducible rfl))
    try simp only [Act.put, List.setIfInBounds_toArray, List.set_cons_zero, List.set_cons_succ]
    refine wpAnyH_take (i := 10) (oi := ⟨_, _, _, _, _, _⟩) (v := ?_) rfl (by kernel_rfl) (by kernel_rfl) (by kernel_rfl) (fun _ _ _ h => h) (Or.inl ⟨by rfl, ?_⟩) hHeld ?_
    rotate_left
    · (intro w hSw; (try dsimp only at hSw); go_simp; try (with_reducible rfl))
    try simp only [Act.put, List.setIfInBounds_toArray, List.set_cons_zero, List.set_cons_succ]
    refine wpAnyH_take (i := 11) (oi := ⟨_, _, _, _, _, _⟩) (v := ?_) rfl (by kernel_rfl) (by kernel_rfl) (by kernel_rfl) (fun _ _ _ h => h) (Or.inl ⟨by rfl, ?_⟩) hHeld ?_
    rotate_left
    · (intro w hSw; (try dsimp only at hSw); go_simp; try (with_reducible rfl))
    try simp only [Act.put, List.setIfInBounds_toArray, List.set_cons_zero, List.set_cons_succ]
    refine wpAnyH_ready (rs := [6]) (by kernel_rfl) (by simp) ?_
    refine (AllReadyH.cons (o := ⟨_, _, _, _, _, _⟩) rfl (fun K hK => ?_) AllReadyH.nil)
    go_simp
    go_at_call 82
    refine (l5Base_o s _ v2 v3 v4 b ob _ (hB.belowb hHeld.1)).mono ?_
    rintro e w' ⟨rfl, hw⟩
    rw [hw]
    clear hw w'
    refine hK.out _ _ ?_ ?_
    · (try dsimp only); exact hHeld
    clear hHeld hK K
    intro hHeld
    try simp only [Act.put, List.setIfInBounds_toArray, List.set_cons_zero, List.set_cons_succ]
    refine wpAnyH_take (i := 7) (oi := ⟨_, _, _, _, _, _⟩) (v := ?_) rfl (by kernel_rfl) (by kernel_rfl) (by kernel_rfl) (fun _ _ _ h => h) (Or.inl ⟨by rfl, ?_⟩) hHeld ?_
    rotate_left
    · (intro w hSw; (try dsimp only at hSw); go_simp; try (with_reducible rfl))
    try simp only [Act.put, List.setIfInBounds_toArray, List.set_cons_zero, List.set_cons_succ]
    refine wpAnyH_ready (rs := [12]) (by kernel_rfl) (by simp) ?_
    refine (AllReadyH.cons (o := ⟨_, _, _, _, _, _⟩) rfl (fun K hK => ?_) AllReadyH.nil)
    go_simp
    go_at_call 74
    refine (l7Place_calls (s.y - baseOf s) s.x _ hbase.1 hbase.2 (by omega) (by omega)).mono ?_
    rintro e w5 ⟨v5, rfl, ox5, hb5'⟩
    obtain ⟨a5, c5, rfl⟩ := ox5.form
    have hr5 := ox5.ints.read
    have hb5 : Below w3.heap.size w3 w5 := (Below.drew (Below.refl w3.heap.size w3)).trans hb5'
    have b5 : Below w.heap.size w w5 := b3.trans (hb5.mono b3.size)
    have ho5 := ho3.belowb hb5
    rw [HPL.out] at hr5
    clear ox5 hb5'
    refine hK.out _ _ ?_ ?_
    · (try dsimp only); exact hmk4 _ b5
    clear hHeld hK K
    intro hHeld
    try simp only [Act.put, List.setIfInBounds_toArray, List.set_cons_zero, List.set_cons_succ]
    refine wpAnyH_ready (rs := [13]) (by kernel_rfl) (by simp) ?_
    refine (AllReadyH.cons (o := ⟨_, _, _, _, _, _⟩) rfl (fun K hK => ?_) AllReadyH.nil)
    refine step_append_X rfl (.tmp 30) (.tmp 42) 30 rfl w.heap.size 5 .u8 i0 (.int .u8 0) 1 Tryd.underlying30 hi hz0 hz1 hz2 rfl _ _ _ rfl ho5 a5 PL _ c5 rfl (by rw [HPL.out]) (by rw [HPL.out]; exact hr5) (by unfold maxLen; rw [HPL.out]; omega) (by rw [HPL.out]; omega) b5.size ?_
    intro v6 w6 ho6 hgr
    have b6 : Below w.heap.size w w6 := b5.grown hgr b5.size (fun g hg => (ho5.lt g hg).1)
    rw [HPL.out] at ho6
    clear hgr ho5 hr5 hb5
    refine hK.out _ _ ?_ ?_
    · (try dsimp only); exact hmk4 _ b6
    clear hHeld hK K
    intro hHeld
    try simp only [Act.put, List.setIfInBounds_toArray, List.set_cons_zero, List.set_cons_succ]
    refine wpAnyH_take (i := 14) (oi := ⟨_, _, _, _, _, _⟩) (v := ?_) rfl (by kernel_rfl) (by kernel_rfl) (by kernel_rfl) (fun _ _ _ h => h) (Or.inl ⟨by rfl, ?_⟩) hHeld ?_
    rotate_left
    · (intro w hSw; (try dsimp only at hSw); go_simp; try (with_reducible rfl))
    try simp only [Act.put, List.setIfInBounds_toArray, List.set_cons_zero, List.set_cons_succ]
    refine wpAnyH_done (by kernel_rfl) ?_ _
    clear hHeld
    have c6 := (hB.belowb b6).at 6 (scrA_6 s _ v2 v3 v4)
    rcases hwr : s.wrap with _ | _
    · rw [hwr] at c6
      have hwt : waitL s = [] := by unfold waitL; rw [if_neg (by rw [hwr]; simp)]
      go_wp2
      go_ret
      have e9 : whereL s = RG ++ PL := by rw [HW.out, hwt, HG.out]; simp
      rw [e9]
      refine ⟨_, rfl, ?_, b6⟩
      have e8 : (RG ++ PL).length = RG.length + PL.length := by simp
      rw [e8]
      simpa using ho6
    · rw [hwr] at c6
      have HWR := hide hwr
      clear hwr
      go_wp2_with fail
      have cc2 := (hB.belowb b6)
      have hx6 := HXR.out.below b6 (by omega)
      have g1 := (hx6 X hXn).1
      have g2 := (hx6 X hXn).2
      simp only [HZC.out, HZA.out] at g1 g2
      have hmk6 : ∀ w', Below w6.heap.size w6 w' → (Below w6.heap.size w6 w' ∧ w'.cell? ⟨b, ob + 2, none⟩ = some (.slice (some ⟨bx, ox, none⟩) s.cs.length cx) ∧ w'.cell? ⟨b, ob + 4, none⟩ = some (.int .i64 s.y) ∧ w'.cell? ⟨b, ob + 1, none⟩ = some (.int .i64 s.wd) ∧ w'.cell? ⟨b, ob + 5, none⟩ = some (.int .i64 s.x) ∧ w'.cell? ⟨bx, ox + X * 2, none⟩ = some (.int .i64 zc) ∧ w'.cell? ⟨bx, ox + X * 2 + 1, none⟩ = some (.int .i64 za)) := fun w' hb => ⟨hb, (cc2.belowb hb).at 2 (scrA_2 ..), (cc2.belowb hb).at 4 (scrA_4 ..), (cc2.belowb hb).at 1 (scrA_1 ..), (cc2.belowb hb).at 5 (scrA_5 ..), cellb hb g1, cellb hb g2⟩
      refine till_region [23] (S := (fun w' => Below w6.heap.size w6 w' ∧ w'.cell? ⟨b, ob + 2, none⟩ = some (.slice (some ⟨bx, ox, none⟩) s.cs.length cx) ∧ w'.cell? ⟨b, ob + 4, none⟩ = some (.int .i64 s.y) ∧ w'.cell? ⟨b, ob + 1, none⟩ = some (.int .i64 s.wd) ∧ w'.cell? ⟨b, ob + 5, none⟩ = some (.int .i64 s.x) ∧ w'.cell? ⟨bx, ox + X * 2, none⟩ = some (.int .i64 zc) ∧ w'.cell? ⟨bx, ox + X * 2 + 1, none⟩ = some (.int .i64 za))) (by kernel_rfl) ?_ (fun hHeld => ?_)
      · (try dsimp only); exact hmk6 _ (Below.drew (Below.refl _ w6))
      refine till_take (i := 0) (oi := ⟨_, _, _, _, _, _⟩) (v := ?_) rfl (by kernel_rfl) (by kernel_rfl) (by kernel_rfl) (by kernel_rfl) (fun _ _ _ h => h) (Or.inl ⟨by rfl, ?_⟩) hHeld ?_
      rotate_left
      · (intro w hSw; (try dsimp only at hSw); go_simp; try (with_reducible rfl))
      try simp only [Act.put, List.setIfInBounds_toArray, List.set_cons_zero, List.set_cons_succ]
      refine till_take (i := 1) (oi := ⟨_, _, _, _, _, _⟩) (v := ?_) rfl (by kernel_rfl) (by kernel_rfl) (by kernel_rfl) (by kernel_rfl) (fun _ _ _ h => h) (Or.inl ⟨by rfl, ?_⟩) hHeld ?_
      rotate_left
      · (intro w hSw; (try dsimp only at hSw); go_simp; try (with_reducible rfl))
      try simp only [Act.put, List.setIfInBounds_toArray, List.set_cons_zero, List.set_cons_succ]
      refine till_take (i := 2) (oi := ⟨_, _, _, _, _, _⟩) (v := ?_) rfl (by kernel_rfl) (by kernel_rfl) (by kernel_rfl) (by kernel_rfl) (fun _ _ _ h => h) (Or.inl ⟨by rfl, ?_⟩) hHeld ?_
      rotate_left
      · (intro w hSw; (try dsimp only at hSw); go_simp; try (with_reducible rfl))
      try simp only [Act.put, List.setIfInBounds_toArray, List.set_cons_zero, List.set_cons_succ]
      refine till_take (i := 3) (oi := ⟨_, _, _, _, _, _⟩) (v := ?_) rfl (by kernel_rfl) (by kernel_rfl) (by kernel_rfl) (by kernel_rfl) (fun _ _ _ h => h) (Or.inl ⟨by rfl, ?_⟩) hHeld ?_
      rotate_left
      · (intro w hSw; (try dsimp only at hSw); go_simp; try (with_reducible rfl))
      try simp only [Act.put, List.setIfInBounds_toArray, List.set_cons_zero, List.set_cons_succ]
      refine till_take (i := 4) (oi := ⟨_, _, _, _, _, _⟩) (v := ?_) rfl (by kernel_rfl) (by kernel_rfl) (by kernel_rfl) (by kernel_rfl) (fun _ _ _ h => h) (Or.inl ⟨by rfl, ?_⟩) hHeld ?_
      rotate_left
      · (intro w hSw; (try dsimp only at hSw); go_simp; try (with_reducible rfl))
      try simp only [Act.put, List.setIfInBounds_toArray, List.set_cons_zero, List.set_cons_succ]
      refine till_take (i := 5) (oi := ⟨_, _, _, _, _, _⟩) (v := ?_) rfl (by kernel_rfl) (by kernel_rfl) (by kernel_rfl) (by kernel_rfl) (fun _ _ _ h => h) (Or.inl ⟨by rfl, ?_⟩) hHeld ?_
      rotate_left
      · (intro w hSw; (try dsimp only at hSw); go_simp; try (with_reducible rfl))
      try simp only [Act.put, List.setIfInBounds_toArray, List.set_cons_zero, List.set_cons_succ]
      refine till_take (i := 6) (oi := ⟨_, _, _, _, _, _⟩) (v := ?_) rfl (by kernel_rfl) (by kernel_rfl) (by kernel_rfl) (by kernel_rfl) (fun _ _ _ h => h) (Or.inl ⟨by rfl, ?_⟩) hHeld ?_
      rotate_left
      · (intro w hSw; (try dsimp only at hSw); go_simp; try (with_reducible rfl))
      try simp only [Act.put, List.setIfInBounds_toArray, List.set_cons_zero, List.set_cons_succ]
      refine till_take (i := 7) (oi := ⟨_, _, _, _, _, _⟩) (v := ?_) rfl (by kernel_rfl) (by kernel_rfl) (by kernel_rfl) (by kernel_rfl) (fun _ _ _ h => h) (Or.inl ⟨by rfl, ?_⟩) hHeld ?_
      rotate_left
      · (intro w hSw; (try dsimp only at hSw); go_simp; try (with_reducible rfl))
      try simp only [Act.put, List.setIfInBounds_toArray, List.set_cons_zero, List.set_cons_succ]
      refine till_take (i := 8) (oi := ⟨_, _, _, _, _, _⟩) (v := ?_) rfl (by kernel_rfl) (by kernel_rfl) (by kernel_rfl) (by kernel_rfl) (fun _ _ _ h => h) (Or.inl ⟨by rfl, ?_⟩) hHeld ?_
      rotate_left
      · (intro w hSw; (try dsimp only at hSw); go_simp; try (with_reducible rfl))
      try simp only [Act.put, List.setIfInBounds_toArray, List.set_cons_zero, List.set_cons_succ]
      refine till_take (i := 9) (oi := ⟨_, _, _, _, _, _⟩) (v := ?_) rfl (by kernel_rfl) (by kernel_rfl) (by kernel_rfl) (by kernel_rfl) (fun _ _ _ h => h) (Or.inl ⟨by rfl, ?_⟩) hHeld ?_
      rotate_left
      · (intro w hSw; (try dsimp only at hSw); go_simp; try (with_reducible rfl))
      try simp only [Act.put, List.setIfInBounds_toArray, List.set_cons_zero, List.set_cons_succ]
      refine till_take (i := 10) (oi := ⟨_, _, _, _, _, _⟩) (v := ?_) rfl (by kernel_rfl) (by kernel_rfl) (by kernel_rfl) (by kernel_rfl) (fun _ _ _ h => h) (Or.inl ⟨by rfl, ?_⟩) hHeld ?_
      rotate_left
      · (intro w hSw; (try dsimp only at hSw); go_simp; try (with_reducible rfl))
      try simp only [Act.put, List.setIfInBounds_toArray, List.set_cons_zero, List.set_cons_succ]
      refine till_take (i := 11) (oi := ⟨_, _, _, _, _, _⟩) (v := ?_) rfl (by kernel_rfl) (by kernel_rfl) (by kernel_rfl) (by kernel_rfl) (fun _ _ _ h => h) (Or.inl ⟨by rfl, ?_⟩) hHeld ?_
      rotate_left
      · (intro w hSw; (try dsimp only at hSw); go_simp; try (with_reducible rfl))
      try simp only [Act.put, List.setIfInBounds_toArray, List.set_cons_zero, List.set_cons_succ]
      refine till_take (i := 12) (oi := ⟨_, _, _, _, _, _⟩) (v := ?_) rfl (by kernel_rfl) (by kernel_rfl) (by kernel_rfl) (by kernel_rfl) (fun _ _ _ h => h) (Or.inl ⟨by rfl, ?_⟩) hHeld ?_
      rotate_left
      · (intro w hSw; (try dsimp only at hSw); go_simp; try (with_reducible rfl))
      try simp only [Act.put, List.setIfInBounds_toArray, List.set_cons_zero, List.set_cons_succ]
      refine till_take (i := 13) (oi := ⟨_, _, _, _, _, _⟩) (v := ?_) rfl (by kernel_rfl) (by kernel_rfl) (by kernel_rfl) (by kernel_rfl) (fun _ _ _ h => h) (Or.inl ⟨by rfl, ?_⟩) hHeld ?_
      rotate_left
      · (intro w hSw; (try dsimp only at hSw); go_simp; try (with_reducible rfl))
      try simp only [Act.put, List.setIfInBounds_toArray, List.set_cons_zero, List.set_cons_succ]
      refine till_take (i := 14) (oi := ⟨_, _, _, _, _, _⟩) (v := ?_) rfl (by kernel_rfl) (by kernel_rfl) (by kernel_rfl) (by kernel_rfl) (fun _ _ _ h => h) (Or.inl ⟨by rfl, ?_⟩) hHeld ?_
      rotate_left
      · (intro w hSw; (try dsimp only at hSw); go_simp; try (with_reducible rfl))
      try simp only [Act.put, List.setIfInBounds_toArray, List.set_cons_zero, List.set_cons_succ]
      refine till_take (i := 15) (oi := ⟨_, _, _, _, _, _⟩) (v := ?_) rfl (by kernel_rfl) (by kernel_rfl) (by kernel_rfl) (by kernel_rfl) (fun _ _ _ h => h) (Or.inl ⟨by rfl, ?_⟩) hHeld ?_
      rotate_left
      · (intro w hSw; (try dsimp only at hSw); go_simp; try (with_reducible rfl))
      try simp only [Act.put, List.setIfInBounds_toArray, List.set_cons_zero, List.set_cons_succ]
      refine till_take (i := 16) (oi := ⟨_, _, _, _, _, _⟩) (v := ?_) rfl (by kernel_rfl) (by kernel_rfl) (by kernel_rfl) (by kernel_rfl) (fun _ _ _ h => h) (Or.inl ⟨by rfl, ?_⟩) hHeld ?_
      rotate_left
      · (intro w hSw; (try dsimp only at hSw); go_simp; try (with_reducible rfl))
      try simp only [Act.put, List.setIfInBounds_toArray, List.set_cons_zero, List.set_cons_succ]
      refine till_take (i := 17) (oi := ⟨_, _, _, _, _, _⟩) (v := ?_) rfl (by kernel_rfl) (by kernel_rfl) (by kernel_rfl) (by kernel_rfl) (fun _ _ _ h => h) (Or.inl ⟨by rfl, ?_⟩) hHeld ?_
      rotate_left
      · (intro w hSw; (try dsimp only at hSw); go_simp; try (with_reducible rfl))
      try simp only [Act.put, List.setIfInBounds_toArray, List.set_cons_zero, List.set_cons_succ]
      refine till_take (i := 18) (oi := ⟨_, _, _, _, _, _⟩) (v := ?_) rfl (by kernel_rfl) (by kernel_rfl) (by kernel_rfl) (by kernel_rfl) (fun _ _ _ h => h) (Or.inl ⟨by rfl, ?_⟩) hHeld ?_
      rotate_left
      · (intro w hSw; (try dsimp only at hSw); go_simp; try (with_reducible rfl))
      try simp only [Act.put, List.setIfInBounds_toArray, List.set_cons_zero, List.set_cons_succ]
      refine till_take (i := 19) (oi := ⟨_, _, _, _, _, _⟩) (v := ?_) rfl (by kernel_rfl) (by kernel_rfl) (by kernel_rfl) (by kernel_rfl) (fun _ _ _ h => h) (Or.inl ⟨by rfl, ?_⟩) hHeld ?_
      rotate_left
      · (intro w hSw; (try dsimp only at hSw); go_simp; try (with_reducible rfl))
      try simp only [Act.put, List.setIfInBounds_toArray, List.set_cons_zero, List.set_cons_succ]
      refine till_take (i := 20) (oi := ⟨_, _, _, _, _, _⟩) (v := ?_) rfl (by kernel_rfl) (by kernel_rfl) (by kernel_rfl) (by kernel_rfl) (fun _ _ _ h => h) (Or.inl ⟨by rfl, ?_⟩) hHeld ?_
      rotate_left
      · (intro w hSw; (try dsimp only at hSw); go_simp; try (with_reducible rfl))
      try simp only [Act.put, List.setIfInBounds_toArray, List.set_cons_zero, List.set_cons_succ]
      refine till_take (i := 21) (oi := ⟨_, _, _, _, _, _⟩) (v := ?_) rfl (by kernel_rfl) (by kernel_rfl) (by kernel_rfl) (by kernel_rfl) (fun _ _ _ h => h) (Or.inl ⟨by rfl, ?_⟩) hHeld ?_
      rotate_left
      · (intro w hSw; (try dsimp only at hSw); go_simp; try (with_reducible rfl))
      try simp only [Act.put, List.setIfInBounds_toArray, List.set_cons_zero, List.set_cons_succ]
      refine till_ready (rs := [22]) (by kernel_rfl) (by simp) ?_
      refine (EachTill.cons (o := ⟨_, _, _, _, _, _⟩) rfl (fun K hK => ?_) EachTill.nil)
      go_simp
      refine hK.out _ _ ?_ ?_
      · (try dsimp only); exact hmk6 _ (hHeld.1.alloc hHeld.1.size _)
      clear hHeld hK K
      intro hHeld
      try simp only [Act.put, List.setIfInBounds_toArray, List.set_cons_zero, List.set_cons_succ]
      refine till_ready (rs := [23]) (by kernel_rfl) (by simp) ?_
      refine (EachTill.last (o := ⟨_, _, _, _, _, _⟩) rfl rfl (fun K hK => ?_) EachTill.nil)
      refine wp_store_T _ _ _ rfl w6.heap.size 0 65 #[.int .i64 0, .int .i64 0] #[.int .i64 zc, .int .i64 za] (.agg #[.int .i64 zc, .int .i64 za]) rfl rfl (heap_alloc_new _ _) rfl (by kernel_rfl) rfl rfl ?_
      intro w7 hQ hu
      refine hK.out _ _ ?_ ?_
      · first | trivial | (dsimp only)
      clear hHeld hK K
      intro hHeld
      try simp only [Act.put, List.setIfInBounds_toArray, List.set_cons_zero, List.set_cons_succ]
      refine till_done (by kernel_rfl) ?_ _
      clear hHeld
      have bq : Below w6.heap.size w6 w7 := ((Below.drew (Below.refl _ w6)).alloc (Nat.le_refl _) _).trans (hu.below (Nat.le_refl _))
      have ho7 := ho6.belowb bq
      have b7 : Below w.heap.size w w7 := b6.trans (bq.mono b6.size)
      clear hu ho6 hmk6 g1 g2 hx6 cc2
      have hmk7 : ∀ w', Below w.heap.size w w' → Kept w7 w' → (Below w.heap.size w w' ∧ Kept w7 w' ∧ w'.cell? ⟨w6.heap.size, 0, none⟩ = some (.int .i64 zc) ∧ w'.cell? ⟨w6.heap.size, 1, none⟩ = some (.int .i64 za)) := fun w' hb hk => ⟨hb, hk, kept_cell hQ (by decide) hk rfl, kept_cell hQ (by decide) hk rfl⟩
      go_wp2_with fail
      refine wp_region_held_drew (S := (fun w' => Below w.heap.size w w' ∧ Kept w7 w' ∧ w'.cell? ⟨w6.heap.size, 0, none⟩ = some (.int .i64 zc) ∧ w'.cell? ⟨w6.heap.size, 1, none⟩ = some (.int .i64 za))) (by kernel_rfl) ?_ (fun hHeld => ?_)
      · (try dsimp only); exact hmk7 _ (Below.drew b7) (Lib.OthersKept.drew (Lib.OthersKept.refl _ _ w7))
      refine wpAnyH_take (i := 0) (oi := ⟨_, _, _, _, _, _⟩) (v := ?_) rfl (by kernel_rfl) (by kernel_rfl) (by kernel_rfl) (fun _ _ _ h => h) (Or.inl ⟨by rfl, ?_⟩) hHeld ?_
      rotate_left
      · (intro w hSw; (try dsimp only at hSw); go_simp; try (with_reducible rfl))
      try simp only [Act.put, List.setIfInBounds_toArray, List.set_cons_zero, List.set_cons_succ]
      refine wpAnyH_take (i := 1) (oi := ⟨_, _, _, _, _, _⟩) (v := ?_) rfl (by kernel_rfl) (by kernel_rfl) (by kernel_rfl) (fun _ _ _ h => h) (Or.inl ⟨by rfl, ?_⟩) hHeld ?_
      rotate_left
      · (intro w hSw; (try dsimp only at hSw); go_simp; try (with_reducible rfl))
      try simp only [Act.put, List.setIfInBounds_toArray, List.set_cons_zero, List.set_cons_succ]
      refine wpAnyH_take (i := 2) (oi := ⟨_, _, _, _, _, _⟩) (v := ?_) rfl (by kernel_rfl) (by kernel_rfl) (by kernel_rfl) (fun _ _ _ h => h) (Or.inl ⟨by rfl, ?_⟩) hHeld ?_
      rotate_left
      · (intro w hSw; (try dsimp only at hSw); go_simp; try (with_reducible rfl))
      try simp only [Act.put, List.setIfInBounds_toArray, List.set_cons_zero, List.set_cons_succ]
      refine wpAnyH_take (i := 5) (oi := ⟨_, _, _, _, _, _⟩) (v := ?_) rfl (by kernel_rfl) (by kernel_rfl) (by kernel_rfl) (fun _ _ _ h => h) (Or.inl ⟨by rfl, ?_⟩) hHeld ?_
      rotate_left
      · (intro w hSw; (try dsimp only at hSw); go_simp; try (with_reducible rfl))
      try simp only [Act.put, List.setIfInBounds_toArray, List.set_cons_zero, List.set_cons_succ]
      refine wpAnyH_take (i := 6) (oi := ⟨_, _, _, _, _, _⟩) (v := ?_) rfl (by kernel_rfl) (by kernel_rfl) (by kernel_rfl) (fun _ _ _ h => h) (Or.inl ⟨by rfl, ?_⟩) hHeld ?_
      rotate_left
      · (intro w hSw; (try dsimp only at hSw); go_simp; try (with_reducible rfl))
      try simp only [Act.put, List.setIfInBounds_toArray, List.set_cons_zero, List.set_cons_succ]
      refine wpAnyH_ready (rs := [3]) (by kernel_rfl) (by simp) ?_
      refine (AllReadyH.cons (o := ⟨_, _, _, _, _, _⟩) rfl (fun K hK => ?_) AllReadyH.nil)
      go_simp
      go_at_call 45
      refine (l7Attr_calls za _ za0 za1).mono ?_
      rintro e w8 ⟨v8, rfl, ox8, hb8'⟩
      obtain ⟨a8, c8, rfl⟩ := ox8.form
      have hr8 := ox8.ints.read
      have hb8 : Below w7.heap.size w7 w8 := (Below.drew (Below.refl w7.heap.size w7)).trans hb8'
      have b8 : Below w.heap.size w w8 := b7.trans (hb8.mono b7.size)
      have ho8 := ho7.belowb hb8
      have hk8 : Kept w7 w8 := kept_below hb8
      clear ox8 hb8' hb8 ho7
      refine hK.out _ _ ?_ ?_
      · (try dsimp only); exact hmk7 _ b8 hk8
      clear hHeld hK K
      intro hHeld
      try simp only [Act.put, List.setIfInBounds_toArray, List.set_cons_zero, List.set_cons_succ]
      refine wpAnyH_ready (rs := [4]) (by kernel_rfl) (by simp) ?_
      refine (AllReadyH.cons (o := ⟨_, _, _, _, _, _⟩) rfl (fun K hK => ?_) AllReadyH.nil)
      refine step_append_X rfl (.tmp 70) (.tmp 73) 30 rfl w.heap.size 5 .u8 i0 (.int .u8 0) 1 Tryd.underlying30 hi hz0 hz1 hz2 rfl _ _ _ rfl ho8 a8 (attrL za) _ c8 rfl rfl hr8 (by unfold maxLen; omega) (by omega) b8.size ?_
      intro v9 w9 ho9 hgr
      have b9 : Below w.heap.size w w9 := b8.grown hgr b8.size (fun g hg => (ho8.lt g hg).1)
      have hk9 : Kept w7 w9 := hk8.grown hgr (ownX_kind ho8)
      clear hgr ho8 hr8
      refine hK.out _ _ ?_ ?_
      · (try dsimp only); exact hmk7 _ b9 hk9
      clear hHeld hK K
      intro hHeld
      try simp only [Act.put, List.setIfInBounds_toArray, List.set_cons_zero, List.set_cons_succ]
      refine wpAnyH_ready (rs := [7]) (by kernel_rfl) (by simp) ?_
      refine (AllReadyH.cons (o := ⟨_, _, _, _, _, _⟩) rfl (fun K hK => ?_) AllReadyH.nil)
      go_simp
      go_at_call 76
      refine (l1Encode_calls zc _ zc0 zc1).mono ?_
      rintro e w10 ⟨v10, rfl, hI10, hb10⟩
      obtain ⟨a10, c10', rfl, _⟩ := id hI10
      have hr10 := hI10.read
      have b10 : Below w.heap.size w w10 := b9.trans (hb10.mono b9.size)
      have ho10 := ho9.belowb hb10
      have hk10 : Kept w7 w10 := hk9.trans (kept_below hb10)
      clear hI10 hb10 ho9
      refine hK.out _ _ ?_ ?_
      · (try dsimp only); exact hmk7 _ b10 hk10
      clear hHeld hK K
      intro hHeld
      try simp only [Act.put, List.setIfInBounds_toArray, List.set_cons_zero, List.set_cons_succ]
      refine wpAnyH_ready (rs := [8]) (by kernel_rfl) (by simp) ?_
      refine (AllReadyH.cons (o := ⟨_, _, _, _, _, _⟩) rfl (fun K hK => ?_) AllReadyH.nil)
      refine step_append_X rfl (.tmp 74) (.tmp 77) 30 rfl w.heap.size 5 .u8 i0 (.int .u8 0) 1 Tryd.underlying30 hi hz0 hz1 hz2 rfl _ _ _ rfl ho10 a10 (encL zc) _ c10' rfl rfl hr10 (by unfold maxLen; omega) (by omega) b10.size ?_
      intro v11 w11 ho11 hgr
      have b11 : Below w.heap.size w w11 := b10.grown hgr b10.size (fun g hg => (ho10.lt g hg).1)
      have hk11 : Kept w7 w11 := hk10.grown hgr (ownX_kind ho10)
      clear hgr ho10 hr10
      refine hK.out _ _ ?_ ?_
      · (try dsimp only); exact hmk7 _ b11 hk11
      clear hHeld hK K
      intro hHeld
      try simp only [Act.put, List.setIfInBounds_toArray, List.set_cons_zero, List.set_cons_succ]
      refine wpAnyH_take (i := 9) (oi := ⟨_, _, _, _, _, _⟩) (v := ?_) rfl (by kernel_rfl) (by kernel_rfl) (by kernel_rfl) (fun _ _ _ h => h) (Or.inl ⟨by rfl, ?_⟩) hHeld ?_
      rotate_left
      · (intro w hSw; (try dsimp only at hSw); go_simp; try (with_reducible rfl))
      try simp only [Act.put, List.setIfInBounds_toArray, List.set_cons_zero, List.set_cons_succ]
      refine wpAnyH_done (by kernel_rfl) ?_ _
      clear hHeld
      go_wp2
      go_ret
      have e9 : whereL s = RG ++ PL ++ attrL za ++ encL zc := by rw [HW.out, HG.out]; unfold waitL; rw [if_pos HWR.out, HAC.out]; simp
      rw [e9]
      refine ⟨_, rfl, ?_, b11⟩
      have e8 : (RG ++ PL ++ attrL za ++ encL zc).length = RG.length + PL.length + (attrL za).length + (encL zc).length := by simp; try omega
      rw [e8]
      simpa using ho11
  · rw [ho] at c10
    have horg : orgL s = [27, 91, 63, 54, 104] := by unfold orgL; rw [if_pos ho]
    have hcv := Lib.run_convert_bytes_const (P := Tryd.prog) w3 30 5 #[.int .u8 27, .int .u8 91, .int .u8 63, .int .u8 54, .int .u8 104] 5 5 Tryd.underlying30 Tryd.underlying5
    have HO := hide ho
    have HG := hide horg
    clear ho horg
    go_wp2_with (first | fail | (at_builtin; refine wpList_append_X _ rfl (.tmp 26) (.tmp 28) 30 rfl w.heap.size 5 .u8 i0 (.int .u8 0) 1 Tryd.underlying30 hi hz0 hz1 hz2 rfl _ _ _ rfl (ho3.alloc _) (some ⟨w3.heap.size, 0, none⟩) [27, 91, 63, 54, 104] _ 5 rfl rfl (lit_readX (w := w3) (l := [27, 91, 63, 54, 104]) (p := 5) (q := 6) rfl) (by unfold maxLen; omega) (by omega) (by have := b3.size; simp; omega) ?_; intro v4' w4 own' hgr; have ho4 := own'; clear own'; have b4 : Below w.heap.size w w4 := (b3.alloc b3.size _).grown hgr (by have := b3.size; simp; omega) (fun g hg => (ho3.lt g hg).1); clear hgr ho3))
    have hmk4 : ∀ w', Below w.heap.size w w' → (Below w.heap.size w w' ∧ w'.cell? ⟨b, ob + 4, none⟩ = some (.int .i64 s.y) ∧ w'.cell? ⟨b, ob + 5, none⟩ = some (.int .i64 s.x)) := fun w' hb => ⟨hb, (hB.belowb hb).at 4 (scrA_4 ..), (hB.belowb hb).at 5 (scrA_5 ..)⟩
    refine wp_region_held_drew (S := (fun w' => Below w.heap.size w w' ∧ w'.cell? ⟨b, ob + 4, none⟩ = some (.int .i64 s.y) ∧ w'.cell? ⟨b, ob + 5, none⟩ = some (.int .i64 s.x))) (by kernel_rfl) ?_ (fun hHeld => ?_)
    · (try dsimp only); exact hmk4 _ (Below.drew b4)
    refine wpAnyH_take (i := 0) (oi := ⟨_, _, _, _, _, _⟩) (v := ?_) rfl (by kernel_rfl) (by kernel_rfl) (by kernel_rfl) (fun _ _ _ h => h) (Or.inl ⟨by rfl, ?_⟩) hHeld ?_
    rotate_left
    · (intro w hSw; (try dsimp only at hSw); go_simp; try (with_reducible rfl))
    try simp only [Act.put, List.setIfInBounds_toArray, List.set_cons_zero, List.set_cons_succ]
    refine wpAnyH_take (i := 1) (oi := ⟨_, _, _, _, _, _⟩) (v := ?_) rfl (by kernel_rfl) (by kernel_rfl) (by kernel_rfl) (fun _ _ _ h => h) (Or.inl ⟨by rfl, ?_⟩) hHeld ?_
    rotate_left
    · (intro w hSw; (try dsimp only at hSw); go_simp; try (with_reducible rfl))
    try simp only [Act.put, List.setIfInBounds_toArray, List.set_cons_zero, List.set_cons_succ]
    refine wpAnyH_take (i := 2) (oi := ⟨_, _, _, _, _, _⟩) (v := ?_) rfl (by kernel_rfl) (by kernel_rfl) (by kernel_rfl) (fun _ _ _ h => h) (Or.inl ⟨by rfl, ?_⟩) hHeld ?_
    rotate_left
    · (intro w hSw; (try dsimp only at hSw); go_simp; try (with_reducible rfl))
    try simp only [Act.put, List.setIfInBounds_toArray, List.set_cons_zero, List.set_cons_succ]
    refine wpAnyH_take (i := 3) (oi := ⟨_, _, _, _, _, _⟩) (v := ?_) rfl (by kernel_rfl) (by kernel_rfl) (by kernel_rfl) (fun _ _ _ h => h) (Or.inl ⟨by rfl, ?_⟩) hHeld ?_
    rotate_left
    · (intro w hSw; (try dsimp only at hSw); go_simp; try (with_reducible rfl))
    try simp only [Act.put, List.setIfInBounds_toArray, List.set_cons_zero, List.set_cons_succ]
    refine wpAnyH_take (i := 4) (oi := ⟨_, _, _, _, _, _⟩) (v := ?_) rfl (by kernel_rfl) (by kernel_rfl) (by kernel_rfl) (fun _ _ _ h => h) (Or.inl ⟨by rfl, ?_⟩) hHeld ?_
    rotate_left
    · (intro w hSw; (try dsimp only at hSw); go_simp; try (with_reducible rfl))
    try simp only [Act.put, List.setIfInBounds_toArray, List.set_cons_zero, List.set_cons_succ]
    refine wpAnyH_take (i := 5) (oi := ⟨_, _, _, _, _, _⟩) (v := ?_) rfl (by kernel_rfl) (by kernel_rfl) (by kernel_rfl) (fun _ _ _ h => h) (Or.inl ⟨by rfl, ?_⟩) hHeld ?_
    rotate_left
    · (intro w hSw; (try dsimp only at hSw); go_simp; try (with_reducible rfl))
    try simp only [Act.put, List.setIfInBounds_toArray, List.set_cons_zero, List.set_cons_succ]
    refine wpAnyH_take (i := 8) (oi := ⟨_, _, _, _, _, _⟩) (v := ?_) rfl (by kernel_rfl) (by kernel_rfl) (by kernel_rfl) (fun _ _ _ h => h) (Or.inl ⟨by rfl, ?_⟩) hHeld ?_
    rotate_left
    · (intro w hSw; (try dsimp only at hSw); go_simp; try (with_reducible rfl))
    try simp only [Act.put, List.setIfInBounds_toArray, List.set_cons_zero, List.set_cons_succ]
    refine wpAnyH_take (i := 9) (oi := ⟨_, _, _, _, _, _⟩) (v := ?_) rfl (by kernel_rfl) (by kernel_rfl) (by kernel_rfl) (fun _ _ _ h => h) (Or.inl ⟨by rfl, ?_⟩) hHeld ?_
    rotate_left
    · (intro w hSw; (try dsimp only at hSw); go_simp; try (with_reducible rfl))
    try simp only [Act.put, List.setIfInBounds_toArray, List.set_cons_zero, List.set_cons_succ]
    refine wpAnyH_take (i := 10) (oi := ⟨_, _, _, _, _, _⟩) (v := ?_) rfl (by kernel_rfl) (by kernel_rfl) (by kernel_rfl) (fun _ _ _ h => h) (Or.inl ⟨by rfl, ?_⟩) hHeld ?_
    rotate_left
    · (intro w hSw; (try dsimp only at hSw); go_simp; try (with_reducible rfl))
    try simp only [Act.put, List.setIfInBounds_toArray, List.set_cons_zero, List.set_cons_succ]
    refine wpAnyH_take (i := 11) (oi := ⟨_, _, _, _, _, _⟩) (v := ?_) rfl (by kernel_rfl) (by kernel_rfl) (by kernel_rfl) (fun _ _ _ h => h) (Or.inl ⟨by rfl, ?_⟩) hHeld ?_
    rotate_left
    · (intro w hSw; (try dsimp only at hSw); go_simp; try (with_reducible rfl))
    try simp only [Act.put, List.setIfInBounds_toArray, List.set_cons_zero, List.set_cons_succ]
    refine wpAnyH_ready (rs := [6]) (by kernel_rfl) (by simp) ?_
    refine (AllReadyH.cons (o := ⟨_, _, _, _, _, _⟩) rfl (fun K hK => ?_) AllReadyH.nil)
    go_simp
    go_at_call 82
    refine (l5Base_o s _ v2 v3 v4 b ob _ (hB.belowb hHeld.1)).mono ?_
    rintro e w' ⟨rfl, hw⟩
    rw [hw]
    clear hw w'
    refine hK.out _ _ ?_ ?_
    · (try dsimp only); exact hHeld
    clear hHeld hK K
    intro hHeld
    try simp only [Act.put, List.setIfInBounds_toArray, List.set_cons_zero, List.set_cons_succ]
    refine wpAnyH_take (i := 7) (oi := ⟨_, _, _, _, _, _⟩) (v := ?_) rfl (by kernel_rfl) (by kernel_rfl) (by kernel_rfl) (fun _ _ _ h => h) (Or.inl ⟨by rfl, ?_⟩) hHeld ?_
    rotate_left
    · (intro w hSw; (try dsimp only at hSw); go_simp; try (with_reducible rfl))
    try simp only [Act.put, List.setIfInBounds_toArray, List.set_cons_zero, List.set_cons_succ]
    refine wpAnyH_ready (rs := [12]) (by kernel_rfl) (by simp) ?_
    refine (AllReadyH.cons (o := ⟨_, _, _, _, _, _⟩) rfl (fun K hK => ?_) AllReadyH.nil)
    go_simp
    go_at_call 74
    refine (l7Place_calls (s.y - baseOf s) s.x _ hbase.1 hbase.2 (by omega) (by omega)).mono ?_
    rintro e w5 ⟨v5, rfl, ox5, hb5'⟩
    obtain ⟨a5, c5, rfl⟩ := ox5.form
    have hr5 := ox5.ints.read
    have hb5 : Below w4.heap.size w4 w5 := (Below.drew (Below.refl w4.heap.size w4)).trans hb5'
    have b5 : Below w.heap.size w w5 := b4.trans (hb5.mono b4.size)
    have ho5 := ho4.belowb hb5
    rw [HPL.out] at hr5
    clear ox5 hb5'
    refine hK.out _ _ ?_ ?_
    · (try dsimp only); exact hmk4 _ b5
    clear hHeld hK K
    intro hHeld
    try simp only [Act.put, List.setIfInBounds_toArray, List.set_cons_zero, List.set_cons_succ]
    refine wpAnyH_ready (rs := [13]) (by kernel_rfl) (by simp) ?_
    refine (AllReadyH.cons (o := ⟨_, _, _, _, _, _⟩) rfl (fun K hK => ?_) AllReadyH.nil)
    refine step_append_X rfl (.tmp 30) (.tmp 42) 30 rfl w.heap.size 5 .u8 i0 (.int .u8 0) 1 Tryd.underlying30 hi hz0 hz1 hz2 rfl _ _ _ rfl ho5 a5 PL _ c5 rfl (by rw [HPL.out]) (by rw [HPL.out]; exact hr5) (by unfold maxLen; rw [HPL.out]; omega) (by rw [HPL.out]; omega) b5.size ?_
    intro v6 w6 ho6 hgr
    have b6 : Below w.heap.size w w6 := b5.grown hgr b5.size (fun g hg => (ho5.lt g hg).1)
    rw [HPL.out] at ho6
    clear hgr ho5 hr5 hb5
    refine hK.out _ _ ?_ ?_
    · (try dsimp only); exact hmk4 _ b6
    clear hHeld hK K
    intro hHeld
    try simp only [Act.put, List.setIfInBounds_toArray, List.set_cons_zero, List.set_cons_succ]
    refine wpAnyH_take (i := 14) (oi := ⟨_, _, _, _, _, _⟩) (v := ?_) rfl (by kernel_rfl) (by kernel_rfl) (by kernel_rfl) (fun _ _ _ h => h) (Or.inl ⟨by rfl, ?_⟩) hHeld ?_
    rotate_left
    · (intro w hSw; (try dsimp only at hSw); go_simp; try (with_reducible rfl))
    try simp only [Act.put, List.setIfInBounds_toArray, List.set_cons_zero, List.set_cons_succ]
    refine wpAnyH_done (by kernel_rfl) ?_ _
    clear hHeld
    have c6 := (hB.belowb b6).at 6 (scrA_6 s _ v2 v3 v4)
    rcases hwr : s.wrap with _ | _
    · rw [hwr] at c6
      have hwt : waitL s = [] := by unfold waitL; rw [if_neg (by rw [hwr]; simp)]
      go_wp2
      go_ret
      have e9 : whereL s = RG ++ [27, 91, 63, 54, 104] ++ PL := by rw [HW.out, hwt, HG.out]; simp
      rw [e9]
      refine ⟨_, rfl, ?_, b6⟩
      have e8 : (RG ++ [27, 91, 63, 54, 104] ++ PL).length = RG.length + 5 + PL.length := by simp; omega
      rw [e8]
      simpa using ho6
    · rw [hwr] at c6
      have HWR := hide hwr
      clear hwr
      go_wp2_with fail
      have cc2 := (hB.belowb b6)
      have hx6 := HXR.out.below b6 (by omega)
      have g1 := (hx6 X hXn).1
      have g2 := (hx6 X hXn).2
      simp only [HZC.out, HZA.out] at g1 g2
      have hmk6 : ∀ w', Below w6.heap.size w6 w' → (Below w6.heap.size w6 w' ∧ w'.cell? ⟨b, ob + 2, none⟩ = some (.slice (some ⟨bx, ox, none⟩) s.cs.length cx) ∧ w'.cell? ⟨b, ob + 4, none⟩ = some (.int .i64 s.y) ∧ w'.cell? ⟨b, ob + 1, none⟩ = some (.int .i64 s.wd) ∧ w'.cell? ⟨b, ob + 5, none⟩ = some (.int .i64 s.x) ∧ w'.cell? ⟨bx, ox + X * 2, none⟩ = some (.int .i64 zc) ∧ w'.cell? ⟨bx, ox + X * 2 + 1, none⟩ = some (.int .i64 za)) := fun w' hb => ⟨hb, (cc2.belowb hb).at 2 (scrA_2 ..), (cc2.belowb hb).at 4 (scrA_4 ..), (cc2.belowb hb).at 1 (scrA_1 ..), (cc2.belowb hb).at 5 (scrA_5 ..), cellb hb g1, cellb hb g2⟩
      refine till_region [23] (S := (fun w' => Below w6.heap.size w6 w' ∧ w'.cell? ⟨b, ob + 2, none⟩ = some (.slice (some ⟨bx, ox, none⟩) s.cs.length cx) ∧ w'.cell? ⟨b, ob + 4, none⟩ = some (.int .i64 s.y) ∧ w'.cell? ⟨b, ob + 1, none⟩ = some (.int .i64 s.wd) ∧ w'.cell? ⟨b, ob + 5, none⟩ = some (.int .i64 s.x) ∧ w'.cell? ⟨bx, ox + X * 2, none⟩ = some (.int .i64 zc) ∧ w'.cell? ⟨bx, ox + X * 2 + 1, none⟩ = some (.int .i64 za))) (by kernel_rfl) ?_ (fun hHeld => ?_)
      · (try dsimp only); exact hmk6 _ (Below.drew (Below.refl _ w6))
      refine till_take (i := 0) (oi := ⟨_, _, _, _, _, _⟩) (v := ?_) rfl (by kernel_rfl) (by kernel_rfl) (by kernel_rfl) (by kernel_rfl) (fun _ _ _ h => h) (Or.inl ⟨by rfl, ?_⟩) hHeld ?_
      rotate_left
      · (intro w hSw; (try dsimp only at hSw); go_simp; try (with_reducible rfl))
      try simp only [Act.put, List.setIfInBounds_toArray, List.set_cons_zero, List.set_cons_succ]
      refine till_take (i := 1) (oi := ⟨_, _, _, _, _, _⟩) (v := ?_) rfl (by kernel_rfl) (by kernel_rfl) (by kernel_rfl) (by kernel_rfl) (fun _ _ _ h => h) (Or.inl ⟨by rfl, ?_⟩) hHeld ?_
      rotate_left
      · (intro w hSw; (try dsimp only at hSw); go_simp; try (with_reducible rfl))
      try simp only [Act.put, List.setIfInBounds_toArray, List.set_cons_zero, List.set_cons_succ]
      refine till_take (i := 2) (oi := ⟨_, _, _, _, _, _⟩) (v := ?_) rfl (by kernel_rfl) (by kernel_rfl) (by kernel_rfl) (by kernel_rfl) (fun _ _ _ h => h) (Or.inl ⟨by rfl, ?_⟩) hHeld ?_
      rotate_left
      · (intro w hSw; (try dsimp only at hSw); go_simp; try (with_reducible rfl))
      try simp only [Act.put, List.setIfInBounds_toArray, List.set_cons_zero, List.set_cons_succ]
      refine till_take (i := 3) (oi := ⟨_, _, _, _, _, _⟩) (v := ?_) rfl (by kernel_rfl) (by kernel_rfl) (by kernel_rfl) (by kernel_rfl) (fun _ _ _ h => h) (Or.inl ⟨by rfl, ?_⟩) hHeld ?_
      rotate_left
      · (intro w hSw; (try dsimp only at hSw); go_simp; try (with_reducible rfl))
      try simp only [Act.put, List.setIfInBounds_toArray, List.set_cons_zero, List.set_cons_succ]
      refine till_take (i := 4) (oi := ⟨_, _, _, _, _, _⟩) (v := ?_) rfl (by kernel_rfl) (by kernel_rfl) (by kernel_rfl) (by kernel_rfl) (fun _ _ _ h => h) (Or.inl ⟨by rfl, ?_⟩) hHeld ?_
      rotate_left
      · (intro w hSw; (try dsimp only at hSw); go_simp; try (with_reducible rfl))
      try simp only [Act.put, List.setIfInBounds_toArray, List.set_cons_zero, List.set_cons_succ]
      refine till_take (i := 5) (oi := ⟨_, _, _, _, _, _⟩) (v := ?_) rfl (by kernel_rfl) (by kernel_rfl) (by kernel_rfl) (by kernel_rfl) (fun _ _ _ h => h) (Or.inl ⟨by rfl, ?_⟩) hHeld ?_
      rotate_left
      · (intro w hSw; (try dsimp only at hSw); go_simp; try (with_reducible rfl))
      try simp only [Act.put, List.setIfInBounds_toArray, List.set_cons_zero, List.set_cons_succ]
      refine till_take (i := 6) (oi := ⟨_, _, _, _, _, _⟩) (v := ?_) rfl (by kernel_rfl) (by kernel_rfl) (by kernel_rfl) (by kernel_rfl) (fun _ _ _ h => h) (Or.inl ⟨by rfl, ?_⟩) hHeld ?_
      rotate_left
      · (intro w hSw; (try dsimp only at hSw); go_simp; try (with_reducible rfl))
      try simp only [Act.put, List.setIfInBounds_toArray, List.set_cons_zero, List.set_cons_succ]
      refine till_take (i := 7) (oi := ⟨_, _, _, _, _, _⟩) (v := ?_) rfl (by kernel_rfl) (by kernel_rfl) (by kernel_rfl) (by kernel_rfl) (fun _ _ _ h => h) (Or.inl ⟨by rfl, ?_⟩) hHeld ?_
      rotate_left
      · (intro w hSw; (try dsimp only at hSw); go_simp; try (with_reducible rfl))
      try simp only [Act.put, List.setIfInBounds_toArray, List.set_cons_zero, List.set_cons_succ]
      refine till_take (i := 8) (oi := ⟨_, _, _, _, _, _⟩) (v := ?_) rfl (by kernel_rfl) (by kernel_rfl) (by kernel_rfl) (by kernel_rfl) (fun _ _ _ h => h) (Or.inl ⟨by rfl, ?_⟩) hHeld ?_
      rotate_left
      · (intro w hSw; (try dsimp only at hSw); go_simp; try (with_reducible rfl))
      try simp only [Act.put, List.setIfInBounds_toArray, List.set_cons_zero, List.set_cons_succ]
      refine till_take (i := 9) (oi := ⟨_, _, _, _, _, _⟩) (v := ?_) rfl (by kernel_rfl) (by kernel_rfl) (by kernel_rfl) (by kernel_rfl) (fun _ _ _ h => h) (Or.inl ⟨by rfl, ?_⟩) hHeld ?_
      rotate_left
      · (intro w hSw; (try dsimp only at hSw); go_simp; try (with_reducible rfl))
      try simp only [Act.put, List.setIfInBounds_toArray, List.set_cons_zero, List.set_cons_succ]
      refine till_take (i := 10) (oi := ⟨_, _, _, _, _, _⟩) (v := ?_) rfl (by kernel_rfl) (by kernel_rfl) (by kernel_rfl) (by kernel_rfl) (fun _ _ _ h => h) (Or.inl ⟨by rfl, ?_⟩) hHeld ?_
      rotate_left
      · (intro w hSw; (try dsimp only at hSw); go_simp; try (with_reducible rfl))
      try simp only [Act.put, List.setIfInBounds_toArray, List.set_cons_zero, List.set_cons_succ]
      refine till_take (i := 11) (oi := ⟨_, _, _, _, _, _⟩) (v := ?_) rfl (by kernel_rfl) (by kernel_rfl) (by kernel_rfl) (by kernel_rfl) (fun _ _ _ h => h) (Or.inl ⟨by rfl, ?_⟩) hHeld ?_
      rotate_left
      · (intro w hSw; (try dsimp only at hSw); go_simp; try (with_reducible rfl))
      try simp only [Act.put, List.setIfInBounds_toArray, List.set_cons_zero, List.set_cons_succ]
      refine till_take (i := 12) (oi := ⟨_, _, _, _, _, _⟩) (v := ?_) rfl (by kernel_rfl) (by kernel_rfl) (by kernel_rfl) (by kernel_rfl) (fun _ _ _ h => h) (Or.inl ⟨by rfl, ?_⟩) hHeld ?_
      rotate_left
      · (intro w hSw; (try dsimp only at hSw); go_simp; try (with_reducible rfl))
      try simp only [Act.put, List.setIfInBounds_toArray, List.set_cons_zero, List.set_cons_succ]
      refine till_take (i := 13) (oi := ⟨_, _, _, _, _, _⟩) (v := ?_) rfl (by kernel_rfl) (by kernel_rfl) (by kernel_rfl) (by kernel_rfl) (fun _ _ _ h => h) (Or.inl ⟨by rfl, ?_⟩) hHeld ?_
      rotate_left
      · (intro w hSw; (try dsimp only at hSw); go_simp; try (with_reducible rfl))
      try simp only [Act.put, List.setIfInBounds_toArray, List.set_cons_zero, List.set_cons_succ]
      refine till_take (i := 14) (oi := ⟨_, _, _, _, _, _⟩) (v := ?_) rfl (by kernel_rfl) (by kernel_rfl) (by kernel_rfl) (by kernel_rfl) (fun _ _ _ h => h) (Or.inl ⟨by rfl, ?_⟩) hHeld ?_
      rotate_left
      · (intro w hSw; (try dsimp only at hSw); go_simp; try (with_reducible rfl))
      try simp only [Act.put, List.setIfInBounds_toArray, List.set_cons_zero, List.set_cons_succ]
      refine till_take (i := 15) (oi := ⟨_, _, _, _, _, _⟩) (v := ?_) rfl (by kernel_rfl) (by kernel_rfl) (by kernel_rfl) (by kernel_rfl) (fun _ _ _ h => h) (Or.inl ⟨by rfl, ?_⟩) hHeld ?_
      rotate_left
      · (intro w hSw; (try dsimp only at hSw); go_simp; try (with_reducible rfl))
      try simp only [Act.put, List.setIfInBounds_toArray, List.set_cons_zero, List.set_cons_succ]
      refine till_take (i := 16) (oi := ⟨_, _, _, _, _, _⟩) (v := ?_) rfl (by kernel_rfl) (by kernel_rfl) (by kernel_rfl) (by kernel_rfl) (fun _ _ _ h => h) (Or.inl ⟨by rfl, ?_⟩) hHeld ?_
      rotate_left
      · (intro w hSw; (try dsimp only at hSw); go_simp; try (with_reducible rfl))
      try simp only [Act.put, List.setIfInBounds_toArray, List.set_cons_zero, List.set_cons_succ]
      refine till_take (i := 17) (oi := ⟨_, _, _, _, _, _⟩) (v := ?_) rfl (by kernel_rfl) (by kernel_rfl) (by kernel_rfl) (by kernel_rfl) (fun _ _ _ h => h) (Or.inl ⟨by rfl, ?_⟩) hHeld ?_
      rotate_left
      · (intro w hSw; (try dsimp only at hSw); go_simp; try (with_reducible rfl))
      try simp only [Act.put, List.setIfInBounds_toArray, List.set_cons_zero, List.set_cons_succ]
      refine till_take (i := 18) (oi := ⟨_, _, _, _, _, _⟩) (v := ?_) rfl (by kernel_rfl) (by kernel_rfl) (by kernel_rfl) (by kernel_rfl) (fun _ _ _ h => h) (Or.inl ⟨by rfl, ?_⟩) hHeld ?_
      rotate_left
      · (intro w hSw; (try dsimp only at hSw); go_simp; try (with_reducible rfl))
      try simp only [Act.put, List.setIfInBounds_toArray, List.set_cons_zero, List.set_cons_succ]
      refine till_take (i := 19) (oi := ⟨_, _, _, _, _, _⟩) (v := ?_) rfl (by kernel_rfl) (by kernel_rfl) (by kernel_rfl) (by kernel_rfl) (fun _ _ _ h => h) (Or.inl ⟨by rfl, ?_⟩) hHeld ?_
      rotate_left
      · (intro w hSw; (try dsimp only at hSw); go_simp; try (with_reducible rfl))
      try simp only [Act.put, List.setIfInBounds_toArray, List.set_cons_zero, List.set_cons_succ]
      refine till_take (i := 20) (oi := ⟨_, _, _, _, _, _⟩) (v := ?_) rfl (by kernel_rfl) (by kernel_rfl) (by kernel_rfl) (by kernel_rfl) (fun _ _ _ h => h) (Or.inl ⟨by rfl, ?_⟩) hHeld ?_
      rotate_left
      · (intro w hSw; (try dsimp only at hSw); go_simp; try (with_reducible rfl))
      try simp only [Act.put, List.setIfInBounds_toArray, List.set_cons_zero, List.set_cons_succ]
      refine till_take (i := 21) (oi := ⟨_, _, _, _, _, _⟩) (v := ?_) rfl (by kernel_rfl) (by kernel_rfl) (by kernel_rfl) (by kernel_rfl) (fun _ _ _ h => h) (Or.inl ⟨by rfl, ?_⟩) hHeld ?_
      rotate_left
      · (intro w hSw; (try dsimp only at hSw); go_simp; try (with_reducible rfl))
      try simp only [Act.put, List.setIfInBounds_toArray, List.set_cons_zero, List.set_cons_succ]
      refine till_ready (rs := [22]) (by kernel_rfl) (by simp) ?_
      refine (EachTill.cons (o := ⟨_, _, _, _, _, _⟩) rfl (fun K hK => ?_) EachTill.nil)
      go_simp
      refine hK.out _ _ ?_ ?_
      · (try dsimp only); exact hmk6 _ (hHeld.1.alloc hHeld.1.size _)
      clear hHeld hK K
      intro hHeld
      try simp only [Act.put, List.setIfInBounds_toArray, List.set_cons_zero, List.set_cons_succ]
      refine till_ready (rs := [23]) (by kernel_rfl) (by simp) ?_
      refine (EachTill.last (o := ⟨_, _, _, _, _, _⟩) rfl rfl (fun K hK => ?_) EachTill.nil)
      refine wp_store_T _ _ _ rfl w6.heap.size 0 65 #[.int .i64 0, .int .i64 0] #[.int .i64 zc, .int .i64 za] (.agg #[.int .i64 zc, .int .i64 za]) rfl rfl (heap_alloc_new _ _) rfl (by kernel_rfl) rfl rfl ?_
      intro w7 hQ hu
      refine hK.out _ _ ?_ ?_
      · first | trivial | (dsimp only)
      clear hHeld hK K
      intro hHeld
      try simp only [Act.put, List.setIfInBounds_toArray, List.set_cons_zero, List.set_cons_succ]
      refine till_done (by kernel_rfl) ?_ _
      clear hHeld
      have bq : Below w6.heap.size w6 w7 := ((Below.drew (Below.refl _ w6)).alloc (Nat.le_refl _) _).trans (hu.below (Nat.le_refl _))
      have ho7 := ho6.belowb bq
      have b7 : Below w.heap.size w w7 := b6.trans (bq.mono b6.size)
      clear hu ho6 hmk6 g1 g2 hx6 cc2
      have hmk7 : ∀ w', Below w.heap.size w w' → Kept w7 w' → (Below w.heap.size w w' ∧ Kept w7 w' ∧ w'.cell? ⟨w6.heap.size, 0, none⟩ = some (.int .i64 zc) ∧ w'.cell? ⟨w6.heap.size, 1, none⟩ = some (.int .i64 za)) := fun w' hb hk => ⟨hb, hk, kept_cell hQ (by decide) hk rfl, kept_cell hQ (by decide) hk rfl⟩
      go_wp2_with fail
      refine wp_region_held_drew (S := (fun w' => Below w.heap.size w w' ∧ Kept w7 w' ∧ w'.cell? ⟨w6.heap.size, 0, none⟩ = some (.int .i64 zc) ∧ w'.cell? ⟨w6.heap.size, 1, none⟩ = some (.int .i64 za))) (by kernel_rfl) ?_ (fun hHeld => ?_)
      · (try dsimp only); exact hmk7 _ (Below.drew b7) (Lib.OthersKept.drew (Lib.OthersKept.refl _ _ w7))
      refine wpAnyH_take (i := 0) (oi := ⟨_, _, _, _, _, _⟩) (v := ?_) rfl (by kernel_rfl) (by kernel_rfl) (by kernel_rfl) (fun _ _ _ h => h) (Or.inl ⟨by rfl, ?_⟩) hHeld ?_
      rotate_left
      · (intro w hSw; (try dsimp only at hSw); go_simp; try (with_reducible rfl))
      try simp only [Act.put, List.setIfInBounds_toArray, List.set_cons_zero, List.set_cons_succ]
      refine wpAnyH_take (i := 1) (oi := ⟨_, _, _, _, _, _⟩) (v := ?_) rfl (by kernel_rfl) (by kernel_rfl) (by kernel_rfl) (fun _ _ _ h => h) (Or.inl ⟨by rfl, ?_⟩) hHeld ?_
      rotate_left
      · (intro w hSw; (try dsimp only at hSw); go_simp; try (with_reducible rfl))
      try simp only [Act.put, List.setIfInBounds_toArray, List.set_cons_zero, List.set_cons_succ]
      refine wpAnyH_take (i := 2) (oi := ⟨_, _, _, _, _, _⟩) (v := ?_) rfl (by kernel_rfl) (by kernel_rfl) (by kernel_rfl) (fun _ _ _ h => h) (Or.inl ⟨by rfl, ?_⟩) hHeld ?_
      rotate_left
      · (intro w hSw; (try dsimp only at hSw); go_simp; try (with_reducible rfl))
      try simp only [Act.put, List.setIfInBounds_toArray, List.set_cons_zero, List.set_cons_succ]
      refine wpAnyH_take (i := 5) (oi := ⟨_, _, _, _, _, _⟩) (v := ?_) rfl (by kernel_rfl) (by kernel_rfl) (by kernel_rfl) (fun _ _ _ h => h) (Or.inl ⟨by rfl, ?_⟩) hHeld ?_
      rotate_left
      · (intro w hSw; (try dsimp only at hSw); go_simp; try (with_reducible rfl))
      try simp only [Act.put, List.setIfInBounds_toArray, List.set_cons_zero, List.set_cons_succ]
      refine wpAnyH_take (i := 6) (oi := ⟨_, _, _, _, _, _⟩) (v := ?_) rfl (by kernel_rfl) (by kernel_rfl) (by kernel_rfl) (fun _ _ _ h => h) (Or.inl ⟨by rfl, ?_⟩) hHeld ?_
      rotate_left
      · (intro w hSw; (try dsimp only at hSw); go_simp; try (with_reducible rfl))
      try simp only [Act.put, List.setIfInBounds_toArray, List.set_cons_zero, List.set_cons_succ]
      refine wpAnyH_ready (rs := [3]) (by kernel_rfl) (by simp) ?_
      refine (AllReadyH.cons (o := ⟨_, _, _, _, _, _⟩) rfl (fun K hK => ?_) AllReadyH.nil)
      go_simp
      go_at_call 45
      refine (l7Attr_calls za _ za0 za1).mono ?_
      rintro e w8 ⟨v8, rfl, ox8, hb8'⟩
      obtain ⟨a8, c8, rfl⟩ := ox8.form
      have hr8 := ox8.ints.read
      have hb8 : Below w7.heap.size w7 w8 := (Below.drew (Below.refl w7.heap.size w7)).trans hb8'
      have b8 : Below w.heap.size w w8 := b7.trans (hb8.mono b7.size)
      have ho8 := ho7.belowb hb8
      have hk8 : Kept w7 w8 := kept_below hb8
      clear ox8 hb8' hb8 ho7
      refine hK.out _ _ ?_ ?_
      · (try dsimp only); exact hmk7 _ b8 hk8
      clear hHeld hK K
      intro hHeld
      try simp only [Act.put, List.setIfInBounds_toArray, List.set_cons_zero, List.set_cons_succ]
      refine wpAnyH_ready (rs := [4]) (by kernel_rfl) (by simp) ?_
      refine (AllReadyH.cons (o := ⟨_, _, _, _, _, _⟩) rfl (fun K hK => ?_) AllReadyH.nil)
      refine step_append_X rfl (.tmp 70) (.tmp 73) 30 rfl w.heap.size 5 .u8 i0 (.int .u8 0) 1 Tryd.underlying30 hi hz0 hz1 hz2 rfl _ _ _ rfl ho8 a8 (attrL za) _ c8 rfl rfl hr8 (by unfold maxLen; omega) (by omega) b8.size ?_
      intro v9 w9 ho9 hgr
      have b9 : Below w.heap.size w w9 := b8.grown hgr b8.size (fun g hg => (ho8.lt g hg).1)
      have hk9 : Kept w7 w9 := hk8.grown hgr (ownX_kind ho8)
      clear hgr ho8 hr8
      refine hK.out _ _ ?_ ?_
      · (try dsimp only); exact hmk7 _ b9 hk9
      clear hHeld hK K
      intro hHeld
      try simp only [Act.put, List.setIfInBounds_toArray, List.set_cons_zero, List.set_cons_succ]
      refine wpAnyH_ready (rs := [7]) (by kernel_rfl) (by simp) ?_
      refine (AllReadyH.cons (o := ⟨_, _, _, _, _, _⟩) rfl (fun K hK => ?_) AllReadyH.nil)
      go_simp
      go_at_call 76
      refine (l1Encode_calls zc _ zc0 zc1).mono ?_
      rintro e w10 ⟨v10, rfl, hI10, hb10⟩
      obtain ⟨a10, c10', rfl, _⟩ := id hI10
      have hr10 := hI10.read
      have b10 : Below w.heap.size w w10 := b9.trans (hb10.mono b9.size)
      have ho10 := ho9.belowb hb10
      have hk10 : Kept w7 w10 := hk9.trans (kept_below hb10)
      clear hI10 hb10 ho9
      refine hK.out _ _ ?_ ?_
      · (try dsimp only); exact hmk7 _ b10 hk10
      clear hHeld hK K
      intro hHeld
      try simp only [Act.put, List.setIfInBounds_toArray, List.set_cons_zero, List.set_cons_succ]
      refine wpAnyH_ready (rs := [8]) (by kernel_rfl) (by simp) ?_
      refine (AllReadyH.cons (o := ⟨_, _, _, _, _, _⟩) rfl (fun K hK => ?_) AllReadyH.nil)
      refine step_append_X rfl (.tmp 74) (.tmp 77) 30 rfl w.heap.size 5 .u8 i0 (.int .u8 0) 1 Tryd.underlying30 hi hz0 hz1 hz2 rfl _ _ _ rfl ho10 a10 (encL zc) _ c10' rfl rfl hr10 (by unfold maxLen; omega) (by omega) b10.size ?_
      intro v11 w11 ho11 hgr
      have b11 : Below w.heap.size w w11 := b10.grown hgr b10.size (fun g hg => (ho10.lt g hg).1)
      have hk11 : Kept w7 w11 := hk10.grown hgr (ownX_kind ho10)
      clear hgr ho10 hr10
      refine hK.out _ _ ?_ ?_
      · (try dsimp only); exact hmk7 _ b11 hk11
      clear hHeld hK K
      intro hHeld
      try simp only [Act.put, List.setIfInBounds_toArray, List.set_cons_zero, List.set_cons_succ]
      refine wpAnyH_take (i := 9) (oi := ⟨_, _, _, _, _, _⟩) (v := ?_) rfl (by kernel_rfl) (by kernel_rfl) (by kernel_rfl) (fun _ _ _ h => h) (Or.inl ⟨by rfl, ?_⟩) hHeld ?_
      rotate_left
      · (intro w hSw; (try dsimp only at hSw); go_simp; try (with_reducible rfl))
      try simp only [Act.put, List.setIfInBounds_toArray, List.set_cons_zero, List.set_cons_succ]
      refine wpAnyH_done (by kernel_rfl) ?_ _
      clear hHeld
      go_wp2
      go_ret
      have e9 : whereL s = RG ++ [27, 91, 63, 54, 104] ++ PL ++ attrL za ++ encL zc := by rw [HW.out, HG.out]; unfold waitL; rw [if_pos HWR.out, HAC.out]; simp
      rw [e9]
      refine ⟨_, rfl, ?_, b11⟩
      have e8 : (RG ++ [27, 91, 63, 54, 104] ++ PL ++ attrL za ++ encL zc).length = RG.length + 5 + PL.length + (attrL za).length + (encL zc).length := by simp; try omega
      rw [e8]
      simpa using ho11
end Go.Proofs.YtknkbihjboadjaaDoor
