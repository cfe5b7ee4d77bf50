/-
  A range over an iterator that tells its rounds in order, and whose body may break off: the k-th round is met at the k-th values alone. The rows of a sheet so.
-/
import Derived.Test.YtknkbihjboadjaaRangeRows
namespace Go.Proofs.Ytknkbihjboadjaa
set_option maxRecDepth 20000
open Go.ChangeShapes Go.WideShapes Go.ChangeAt Go.RowKit Go.Shelf
attribute [local go_sem] Oper.semAt_some
set_option linter.unusedVariables false
set_option linter.unusedSimpArgs false
set_option maxRecDepth 100000

/-- Behind a round's body: nothing of the loop's own blocks was turned; it went on, or it broke off by 'exit x'. -/
def Behind (B x : Nat) (I Ix : World → Prop) (W : World) (e : Exit) (_ : Act) (W' : World) : Prop :=
  (∀ j, B ≤ j → j < W.heap.size → W'.heap[j]? = W.heap[j]?) ∧ W.heap.size ≤ W'.heap.size ∧ ((e = .normal ∧ I W') ∨ (e = .exit x ∧ Ix W'))

theorem range_count {F : Fence} {n : Nat} {P : Program} {g : Operand} {ps : Array Tmp} {assign body : Code} {Q : Exit → Act → World → Prop} {a : Act} {w : World} (hro : F.round = none) (h1 : 1 ≤ n) {gf : Nat} {lb : Array Value}
    (hg : a.eval g = .func (.func gf) #[] lb) (hFg : F.fn gf) (eg : ∀ args w, (callFunc gf args).run P w = .ok (.enter gf args) w) (enc : Nat → Array Value) (hps : ∀ k, (enc k).size = ps.size) (H x : Nat) (I : Nat → World → Prop) (Ix : World → Prop)
    (hIb : ∀ k W W', I k W → Below W.heap.size W W' → I k W') (hIp : ∀ k W l o, I k W → w.heap.size ≤ l → I k (W.putObj l o)) (hXp : ∀ W l o, Ix W → w.heap.size ≤ l → Ix (W.putObj l o))
    (hiter : ∀ (l : Nat) (J : Nat → World → Prop) (Jx : World → Prop) (W : World), (∀ k W1, J k W1 → I k W1) → (∀ k W1 W2, J k W1 → Below W1.heap.size W1 W2 → J k W2) →
      (∀ k W1, k < H → J k W1 → YieldAt F (n - 1 - 1) P l (enc k) W1 fun e W' => (e = .returned (.bool true) ∧ J (k + 1) W') ∨ (e = .returned (.bool false) ∧ Jx W')) → J 0 W →
      CallsIn F (n - 1) P gf (#[.func (.yield l) #[] #[]] ++ lb) W fun e W' => (∃ v, e = .returned v) ∧ (J H W' ∨ Jx W'))
    (h0 : I 0 w) (a1 : Nat → Act)
    (hassign : ∀ (l k : Nat) (W : World) (K : Act → World → Prop), K (a1 k) W → assign.wpIn (F.inRound l) (n - 1 - 1) P (Exit.then K (fun _ _ _ => False)) { tmps := (ps.zip (enc k)).foldl (fun t (p, v) => t.setIfInBounds p v) a.tmps, defers := [] } W)
    (hbody : ∀ (l k : Nat) (W : World), k < H → I k W → body.wpIn (F.inRound l) (n - 1 - 1) P (Behind w.heap.size x (I (k + 1)) Ix W) (a1 k) W)
    (hdone : ∀ (D : Nat) (W : World), w.heap.size ≤ D → I H W → W.heap[D]? = some (.deferred (some [])) → Q .normal { a with defers := { target := .collected D, args := #[] } :: a.defers } W)
    (hstop : ∀ (D : Nat) (W : World), w.heap.size ≤ D → Ix W → W.heap[D]? = some (.deferred (some [])) → (Code.exit x).wpIn F n P Q { a with defers := { target := .collected D, args := #[] } :: a.defers } W) :
    (Code.rangeFunc g ps assign body).wpIn F n P Q a w := by
  refine wpIn_rangeFunc fun fn hfn => ?_
  rw [hro]
  obtain ⟨R, hR⟩ : ∃ R : LoopState → Option Code → Loop, R = fun s p => { state := s, pending := p, fn, tmps := a.tmps, params := ps, assign, body, defers := w.heap.size } := ⟨_, rfl⟩
  obtain ⟨V, hV⟩ : ∃ V, V = (w.alloc (.deferred (some []))).alloc (.loop (R .ready none)) := ⟨_, rfl⟩
  have vl : V.heap[w.heap.size + 1]? = some (.loop (R .ready none)) := by
    rw [hV]
    have h := World.alloc_heap_new (w.alloc (.deferred (some []))) (.loop (R .ready none))
    rwa [World.size_alloc] at h
  have vd : V.heap[w.heap.size]? = some (.deferred (some [])) := by
    rw [hV]
    exact (Below.heap_alloc _ _ _ (by simp)).trans (World.alloc_heap_new w _)
  have v0 : I 0 V := hIb 0 w V h0 (by rw [hV]; exact ((Below.refl _ _).alloc (Nat.le_refl _) _).alloc (by simp) _)
  have hlt : ∀ {W : World} {j : Nat} {o : Obj}, W.heap[j]? = some o → j < W.heap.size := fun h => (Array.getElem?_eq_some_iff.1 h).1
  refine ⟨w.heap.size + 1, [{ target := .collected w.heap.size, args := #[] }], V, { target := .fn (.func gf) lb, args := #[.func (.yield (w.heap.size + 1)) #[] #[]] }, V, gf, #[.func (.yield (w.heap.size + 1)) #[] #[]] ++ lb, V,
    by rw [hV, hR]; exact run_enterLoop_outer _ _ _ _ _, by simp only [resolve, hg]; simp [go_sem], fun f' hf => by simp [Target.leads] at hf; subst hf; exact hFg, by simp [invoke, go_sem, eg], fun _ => h1, ?_⟩
  refine (hiter (w.heap.size + 1) (fun k W => I k W ∧ W.heap[w.heap.size + 1]? = some (.loop (R .ready none)) ∧ W.heap[w.heap.size]? = some (.deferred (some [])))
    (fun W => Ix W ∧ W.heap[w.heap.size + 1]? = some (.loop (R .done (some (.exit x)))) ∧ W.heap[w.heap.size]? = some (.deferred (some []))) V (fun _ _ h => h.1)
    (fun k W1 W2 h hb => ⟨hIb k W1 W2 h.1 hb, (hb.block _ (hlt h.2.1)).trans h.2.1, (hb.block _ (hlt h.2.2)).trans h.2.2⟩) ?_ ⟨v0, vl, vd⟩).mono ?_
  · rintro k W hk ⟨hi, hl, hd⟩
    have hy := run_yield (P := P) (args := enc k) hl (by rw [hR]; exact hps k)
    rw [hR] at hy
    refine ⟨fn, _, assign, body, hy, roundIn_of_wpIn hfn (hassign _ k W _ ⟨_, run_beginRound hl (by rw [hR]), ?_⟩)⟩
    have sz : (W.putObj (w.heap.size + 1) (.loop { R .ready none with state := .busy })).heap.size = W.heap.size := by simp [World.putObj]
    refine wpIn_mono (hbody _ k _ hk (hIp k W _ _ hi (by omega))) ?_
    rintro e a3 W3 ⟨kp, ks, hx⟩
    have l3 : W3.heap[w.heap.size + 1]? = some (.loop { R .ready none with state := .busy }) := (kp _ (by omega) (by rw [sz]; exact hlt hl)).trans (World.putObj_heap_same (hlt hl))
    have d3 : W3.heap[w.heap.size]? = some (.deferred (some [])) := (kp _ (by omega) (by rw [sz]; exact hlt hd)).trans ((World.putObj_heap_other (by omega)).trans hd)
    have put : ∀ o : Obj, (W3.putObj (w.heap.size + 1) o).heap[w.heap.size + 1]? = some o ∧ (W3.putObj (w.heap.size + 1) o).heap[w.heap.size]? = some (.deferred (some [])) := fun o => ⟨World.putObj_heap_same (hlt l3), (World.putObj_heap_other (by omega)).trans d3⟩
    rcases hx with ⟨rfl, h⟩ | ⟨rfl, h⟩
    · have hr := run_endRound (P := P) none l3
      rw [hR] at hr
      exact ⟨_, _, hr, .inl ⟨rfl, hIp _ _ _ _ h (by omega), by rw [hR]; exact (put _).1, (put _).2⟩⟩
    · have hr := run_endRound (P := P) (some (.exit x)) l3
      rw [hR] at hr
      exact ⟨_, _, hr, .inr ⟨rfl, hXp _ _ _ h (by omega), by rw [hR]; exact (put _).1, (put _).2⟩⟩
  · rintro e W2 ⟨⟨v, rfl⟩, ⟨hi, hl, hd⟩ | ⟨hi, hl, hd⟩⟩
    · refine ⟨none, _, by have h := run_endLoop (P := P) hl (by rw [hR]; simp); rw [hR] at h; exact h, hdone _ _ (Nat.le_refl _) (hIp _ _ _ _ hi (by omega)) ((World.putObj_heap_other (by omega)).trans hd)⟩
    · refine ⟨some (.exit x), _, by have h := run_endLoop (P := P) hl (by rw [hR]; simp); rw [hR] at h; exact h, hstop _ _ (Nat.le_refl _) (hXp _ _ _ hi (by omega)) ((World.putObj_heap_other (by omega)).trans hd)⟩

/-- The k-th of the rows of m cells. -/
def rowAt (b off m cap : Nat) (k : Nat) : Array Value := #[.int .i64 (k : Int), .slice (some ⟨b, off + k * m * 2, none⟩) m (cap - k * m)]

set_option maxHeartbeats 2000000 in
theorem rows1_at (n : Nat) (l Bs b off m H N cap : Nat) (wd : Int) (a : Option Addr) (hN : N = H * m) (hwd : wd = (m : Int)) (hm : 1 ≤ m) (hm2 : m ≤ 1000) (hH : H ≤ 1000) (hc : N ≤ cap) (ha : 0 < N → a = some ⟨b, off, none⟩) (hN1 : N ≤ 1048576) (J : Nat → World → Prop) (Jx : World → Prop) (W : World)
    (hJb : ∀ k W1 W2, J k W1 → Below W1.heap.size W1 W2 → J k W2) (hJc : ∀ k W1, J k W1 → W1.cell? ⟨Bs, 0, none⟩ = some (.int .i64 wd) ∧ W1.cell? ⟨Bs, 1, none⟩ = some (.slice a N cap))
    (hY : ∀ k W1, k < H → J k W1 → YieldAt Fence.wide (n - 1) Try.prog l (rowAt b off m cap k) W1 fun e W' => (e = .returned (.bool true) ∧ J (k + 1) W') ∨ (e = .returned (.bool false) ∧ Jx W')) (h0 : J 0 W) :
    CallsIn Fence.wide n Try.prog 127 #[.func (.yield l) #[] #[], .pointer (some ⟨Bs, 0, none⟩)] W fun e W' => (∃ v, e = .returned v) ∧ (J H W' ∨ Jx W') := by
  have hq : (N : Int) / wd = (H : Int) := by rw [hN, hwd, Int.natCast_mul]; exact Int.mul_ediv_cancel _ (by omega)
  obtain ⟨c0, c1⟩ := hJc 0 W h0
  have HQ := hide hq
  have HN := hide hN
  have HWD := hide hwd
  have w1' : 1 ≤ wd := by omega
  have w2' : wd ≤ 1000 := by omega
  have HA := hide ha
  have HC := hide hJc
  have HYY := hide hY
  have HJB := hide hJb
  clear hq hN hwd ha hJc hY hJb
  refine callsIn_of_wp Try.func127 rfl trivial ?_ rfl
  simp only [Try.ntmps127, List.size_toArray, List.length_cons, List.length_nil, Nat.reduceAdd, Nat.reduceSub, Array.replicate_succ, Array.replicate_zero, List.push_toArray, List.append_toArray, List.nil_append, List.cons_append]
  gi_wp2
  refine ⟨trivial, fun h => by simp [Fence.wide] at h, (callsIn_wide.2 (height_calls wd w1' w2' a N cap hN1 _)).mono ?_⟩
  rintro e W2 ⟨rfl, hb2⟩
  rw [HQ.out]
  have h2 := hide (HJB.out 0 W W2 h0 hb2)
  clear hb2 c0 c1 h0
  gi_wp2
  gi_loopw [6] (fun i wr => ∃ k : Nat, k ≤ H ∧ i = .int .i64 k ∧ Hid (J k wr)) (fun i _ => H - (intOf i).toNat)
  case atStart => exact ⟨0, Nat.zero_le _, rfl, h2⟩
  case round =>
    obtain ⟨k, hk, rfl, hJs⟩ := hrel
    obtain ⟨d0, d1⟩ := HC.out k wr hJs.out
    clear h2
    by_cases hlt : k < H
    · have hltI : (k : Int) < (H : Int) := by omega
      have hkm : k * m + m ≤ N := by
        have h := Nat.mul_le_mul_right m (show k + 1 ≤ H by omega)
        rw [Nat.add_mul, ← HN.out] at h
        omega
      have hNp : 0 < N := by omega
      have hkw : (k : Int) * wd = ((k * m : Nat) : Int) := by rw [HWD.out, Int.natCast_mul]
      have HKW := hide hkw
      clear hkw
      gi_wp2
      refine ⟨trivial, fun h => by simp [Fence.wide] at h, (callsIn_wide.2 (row_calls wd k b off N cap (k * m) m (.slice a N cap) ⟨hc, a, rfl, HA.out⟩ HKW.out HWD.out (by omega) (by omega) hkm hN1 wr)).mono ?_⟩
      rintro e W3 ⟨v, rfl, ⟨hcv, av, rfl, hav⟩, hb3⟩
      obtain rfl := hav (by omega)
      have hJ3 := hide (HJB.out k wr W3 hJs.out hb3)
      clear hb3 hJs d0 d1
      obtain ⟨fn, tmps, assign, body, hy, hR⟩ := HYY.out k W3 hlt hJ3.out
      simp only [rowAt] at hy
      gi_wp2
      refine ⟨fun h => by simp [Fence.wide] at h, hR.mono ?_⟩
      rintro e W4 (⟨rfl, hJ4⟩ | ⟨rfl, hx4⟩)
      · have hJ4' := hide hJ4
        clear hJ4
        gi_wp2
        go_roundw
        case rel => exact ⟨k + 1, by omega, by go_num, hJ4'⟩
        case measure => simp [intOf]; omega
      · gi_wp2
        refine bodyPost_ret (results_none rfl _ _ _) rfl ?_
        exact ⟨⟨_, rfl⟩, .inr hx4⟩
    · obtain rfl : k = H := by omega
      have hge : ¬ ((k : Int) < (k : Int)) := by omega
      gi_wp2
      go_end0
      first
        | exact ⟨⟨_, rfl⟩, .inl hJs.out⟩
        | exact ⟨⟨_, rfl⟩, hJs.out⟩

end Go.Proofs.Ytknkbihjboadjaa
