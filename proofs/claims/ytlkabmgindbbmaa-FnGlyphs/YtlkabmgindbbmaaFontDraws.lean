/-
  Fonts that are drawn: l1Pick, l1Source, l2Draw, walked.
-/
import Derived.Test.YtlkabmgindbbmaaRows
import Derived.Test.YtlkabmgindbbmaaDraws
import Derived.Test.YtlkabmgindbbmaaGrow
import Derived.Test.YtlkabmgindbbmaaPairMem
import Derived.Test.YtlkabmgindbbmaaResMem
import Derived.Deep.RegionHeld
namespace Go.Proofs.Ytlkabmgindbbmaa
set_option maxRecDepth 20000
open Go.ChangeShapes Go.WideShapes Go.ChangeAt Go.RowKit
set_option linter.unusedVariables false
set_option linter.unusedSimpArgs false

theorem Within.cellf {lo hi : Nat} {w w' : World} (h : Within lo hi w w') {b o : Nat} {u : Value} (hb : b < lo ∨ hi ≤ b) (hc : w.cell? ⟨b, o, none⟩ = some u) : w'.cell? ⟨b, o, none⟩ = some u := h.cell (lt_of_cell hc) hb hc
theorem Within.frozenf {lo hi : Nat} {w w' : World} (h : Within lo hi w w') {b o : Nat} (hs : b < w.heap.size) (hb : b < lo ∨ hi ≤ b) (hf : w.frozen? ⟨b, o, none⟩ = false) : w'.frozen? ⟨b, o, none⟩ = false := (World.frozen?_of_block (w := w) (a := ⟨b, o, none⟩) (h.block b hs hb)).trans hf
theorem Within.then {lo hi : Nat} {w a b : World} (h : Within lo hi w a) (hb : Below w.heap.size a b) : Within lo hi w b :=
  ⟨hb.os.trans h.os, hb.tape.trans h.tape, hb.output.trans h.output, Nat.le_trans h.size hb.size, fun k hk ho => (hb.block k hk).trans (h.block k hk ho)⟩
theorem Src.allocf {w0 w : World} {B : Nat} {code : Value} {p : Int} (h : Src w0 w B code p) (o : Obj) : Src w0 (w.alloc o) B code p := h.below ((Below.refl _ _).alloc (Nat.le_refl _) o)
theorem Src.setf {w0 w : World} {B b o : Nat} {code : Value} {p : Int} (h : Src w0 w B code p) (hb : b ≠ B) (h0 : w0.heap.size ≤ b) (u : Value) : Src w0 (w.setCell ⟨b, o, none⟩ u) B code p :=
  h.keep (Below.heap_setCell _ _ _ _ (by simp; omega)) (h.old.setCell h0 _)

set_option maxHeartbeats 1000000 in
theorem l1Pick_f (zs xs : List Int) (a : Option Addr) (cap B g m c : Nat) (p : Int) (w0 w : World) (hv : ReadAt .u8 w0 (.slice a zs.length cap) zs) (hz : ∀ z ∈ zs, 0 ≤ z ∧ z ≤ 255) (hlen : zs.length ≤ 1048576) (hs : Src w0 w B (.slice a zs.length cap) p) (hp0 : 0 ≤ p) (hp1 : p ≤ 1000000) (hm : m = xs.length) (hx0 : 1 ≤ m) (hx1 : m ≤ 100) (hg : g < B ∨ B + 1 ≤ g) (hx : ∀ i, i < xs.length → w.cell? ⟨g, i, none⟩ = some (.int .i64 (xs.getD i 0))) :
    Calls Try.prog 50 #[.pointer (some ⟨B, 0, none⟩), .slice (some ⟨g, 0, none⟩) m c] w fun e w' => ∃ x, e = .returned (.int .i64 x) ∧ x ∈ xs ∧ Src w0 w' B (.slice a zs.length cap) (p + 1) ∧ Within B (B + 1) w w' := by
  have HX := hide hx
  have HZ := hide hz
  have HM := hide hm
  clear hx hz hm
  go_enter Try.func50, Try.ntmps50
  go_wp2_with fail
  refine (l1Next_calls zs a cap B p (m : Int) w0 _ hv HZ.out hlen hs hp0 hp1 (by omega) (by omega)).mono ?_
  rintro e w1 ⟨r, rfl, hr0, hr1, hs1, hw1⟩
  obtain ⟨n, rfl⟩ := Int.eq_ofNat_of_zero_le hr0
  have hnm : n < m := by omega
  have hn : n < xs.length := by have := HM.out; omega
  have g0 := hw1.cellf hg (HX.out n hn)
  have hm := hide (getD_mem (zs := xs) hn)
  generalize xs.getD n 0 = x at *
  clear hs HX hn
  go_wp2
  go_ret
  exact ⟨x, rfl, hm.out, hs1, hw1⟩

set_option maxHeartbeats 1000000 in
theorem l1Source_f (w : World) (n cap : Nat) (a : Option Addr) :
    Calls Try.prog 39 #[.slice a n cap] w fun e w' => e = .returned (.pointer (some ⟨w.heap.size, 0, none⟩)) ∧ w' = w.alloc (.cells #[.slice a n cap, .int .i64 0] 109) := by
  go_enter Try.func39, Try.ntmps39
  go_wp2
  go_ret
  exact ⟨rfl, rfl⟩

/-- A font that is being drawn: the source at B, the result's box at s, the font's at t, its pairs a row of the call's own. -/
structure DF (w0 w wr : World) (B s t bs : Nat) (code : Value) (p fb : Int) (o v : Value) (ps : List (Int × Int)) : Prop where
  src : Src w0 wr B code p
  wi : Within B (B + 1) w wr
  r0 : ∃ u, wr.cell? ⟨s, 0, none⟩ = some u
  r1 : ∃ u, wr.cell? ⟨s, 1, none⟩ = some u
  rz : ∀ k, wr.frozen? ⟨s, k, none⟩ = false
  f0 : wr.cell? ⟨t, 0, none⟩ = some (.int .i64 fb)
  f1 : wr.cell? ⟨t, 1, none⟩ = some o
  fz : ∀ k, wr.frozen? ⟨t, k, none⟩ = false
  row : wr.ownsRow bs 52 2 v ps.length (pvs ps)
  ap : ∀ k, v.ownBlock = some k → k ≠ t ∧ k ≠ s ∧ k ≠ B
  st : w.heap.size ≤ s ∧ s < t ∧ t < wr.heap.size ∧ B < s ∧ s < bs ∧ w0.heap.size ≤ w.heap.size ∧ bs ≤ wr.heap.size

theorem DF.within {w0 w wr w' : World} {B s t bs : Nat} {code : Value} {p p' fb : Int} {o v : Value} {ps : List (Int × Int)} (h : DF w0 w wr B s t bs code p fb o v ps) (hs : Src w0 w' B code p') (hw : Within B (B + 1) wr w') : DF w0 w w' B s t bs code p' fb o v ps := by
  obtain ⟨h1, h2, h3, h4, h5, h6, h7⟩ := h.st
  have hz := hw.size
  obtain ⟨u0, k0⟩ := h.r0
  obtain ⟨u1, k1⟩ := h.r1
  refine ⟨hs, h.wi.trans hw, ⟨u0, hw.cellf (by omega) k0⟩, ⟨u1, hw.cellf (by omega) k1⟩, fun k => hw.frozenf (by omega) (by omega) (h.rz k), hw.cellf (by omega) h.f0, hw.cellf (by omega) h.f1, fun k => hw.frozenf (by omega) (by omega) (h.fz k), ?_, h.ap, ⟨h1, h2, by omega, h4, h5, h6, by omega⟩⟩
  exact own_block h.row fun k hk => hw.block k (h.row.lt k hk).2 (by have := h.ap k hk; omega)
theorem DF.below {w0 w wr w' : World} {B s t bs : Nat} {code : Value} {p fb : Int} {o v : Value} {ps : List (Int × Int)} (h : DF w0 w wr B s t bs code p fb o v ps) (hb : Below wr.heap.size wr w') : DF w0 w w' B s t bs code p fb o v ps := by
  obtain ⟨h1, h2, h3, h4, h5, h6, h7⟩ := h.st
  have hz := hb.size
  obtain ⟨u0, k0⟩ := h.r0
  obtain ⟨u1, k1⟩ := h.r1
  refine ⟨h.src.below hb, h.wi.then (hb.mono h.wi.size), ⟨u0, cellb hb k0⟩, ⟨u1, cellb hb k1⟩, fun k => (hb.frozen (p := ⟨s, k, none⟩) (by simp; omega)).trans (h.rz k), cellb hb h.f0, cellb hb h.f1, fun k => (hb.frozen (p := ⟨t, k, none⟩) (by simp; omega)).trans (h.fz k), own_below h.row hb, h.ap, ⟨h1, h2, by omega, h4, h5, h6, by omega⟩⟩
theorem DF.append {w0 w wr w' : World} {B s t bs : Nat} {code : Value} {p fb : Int} {o v v' : Value} {ps ps' : List (Int × Int)} (h : DF w0 w wr B s t bs code p fb o v ps) (hg : GrowTo wr w' v v') (hown : w'.ownsRow bs 52 2 v' ps'.length (pvs ps')) : DF w0 w w' B s t bs code p fb o v' ps' := by
  obtain ⟨h1, h2, h3, h4, h5, h6, h7⟩ := h.st
  have hz := hg.grown.size
  have nt : some t ≠ v.ownBlock := fun e => (h.ap t e.symm).1 rfl
  have ns : some s ≠ v.ownBlock := fun e => (h.ap s e.symm).2.1 rfl
  have nB : some B ≠ v.ownBlock := fun e => (h.ap B e.symm).2.2 rfl
  obtain ⟨u0, k0⟩ := h.r0
  obtain ⟨u1, k1⟩ := h.r1
  have hlow : ∀ k, k < w.heap.size → some k ≠ v.ownBlock := fun k hk e => by have := (h.row.lt k e.symm).1; omega
  refine ⟨h.src.keep (hg.block (by omega) nB) ?_, ?_, ⟨u0, by rw [hg.cell (by omega) ns]; exact k0⟩, ⟨u1, by rw [hg.cell (by omega) ns]; exact k1⟩, fun k => by rw [hg.frozen (by omega) ns]; exact h.rz k, by rw [hg.cell (by omega) nt]; exact h.f0, by rw [hg.cell (by omega) nt]; exact h.f1, fun k => by rw [hg.frozen (by omega) nt]; exact h.fz k, hown, ?_, ⟨h1, h2, by omega, h4, h5, h6, by omega⟩⟩
  · exact ⟨hg.grown.os.trans h.src.old.os, hg.grown.tape.trans h.src.old.tape, hg.grown.output.trans h.src.old.output, Nat.le_trans h.src.old.size hg.grown.size, fun k hk => (hg.block (by omega) (hlow k (by omega))).trans (h.src.old.block k hk)⟩
  · exact ⟨hg.grown.os.trans h.wi.os, hg.grown.tape.trans h.wi.tape, hg.grown.output.trans h.wi.output, Nat.le_trans h.wi.size hg.grown.size, fun k hk ho => (hg.block (by omega) (hlow k hk)).trans (h.wi.block k hk ho)⟩
  · intro k hk
    rcases hg.spot with e | ⟨q, e, hq⟩
    · exact h.ap k (by rw [← e]; exact hk)
    · rw [e] at hk
      injection hk with hk
      omega
theorem DF.stored {w0 w wr : World} {B s t bs : Nat} {code : Value} {p fb : Int} {o v : Value} {ps : List (Int × Int)} (h : DF w0 w wr B s t bs code p fb o v ps) : DF w0 w (wr.setCell ⟨t, 1, none⟩ v) B s t bs code p fb v v ps := by
  obtain ⟨h1, h2, h3, h4, h5, h6, h7⟩ := h.st
  obtain ⟨u0, k0⟩ := h.r0
  obtain ⟨u1, k1⟩ := h.r1
  refine ⟨h.src.setf (by omega) (by omega) _, h.wi.then ((Below.refl _ _).setCell (by simp; omega) _), ⟨u0, by rw [World.cell?_setCell_other _ _ _ _ (addr_ne (by omega))]; exact k0⟩, ⟨u1, by rw [World.cell?_setCell_other _ _ _ _ (addr_ne (by omega))]; exact k1⟩, fun k => by rw [World.frozen?_setCell]; exact h.rz k, by rw [World.cell?_setCell_other _ _ _ _ (addr_ne (by omega))]; exact h.f0, World.cell?_setCell_same _ _ _ h.f1, fun k => by rw [World.frozen?_setCell]; exact h.fz k, own_block h.row fun k hk => Below.heap_setCell _ _ _ _ (by have := (h.ap k hk).1; simp; omega), h.ap, ⟨h1, h2, by simpa [World.setCell] using h3, h4, h5, h6, by simpa [World.setCell] using h7⟩⟩
theorem DF.setfb {w0 w wr : World} {B s t bs : Nat} {code : Value} {p fb : Int} {o v : Value} {ps : List (Int × Int)} (h : DF w0 w wr B s t bs code p fb o v ps) (x : Int) : DF w0 w (wr.setCell ⟨t, 0, none⟩ (.int .i64 x)) B s t bs code p x o v ps := by
  obtain ⟨h1, h2, h3, h4, h5, h6, h7⟩ := h.st
  obtain ⟨u0, k0⟩ := h.r0
  obtain ⟨u1, k1⟩ := h.r1
  refine ⟨h.src.setf (by omega) (by omega) _, h.wi.then ((Below.refl _ _).setCell (by simp; omega) _), ⟨u0, by rw [World.cell?_setCell_other _ _ _ _ (addr_ne (by omega))]; exact k0⟩, ⟨u1, by rw [World.cell?_setCell_other _ _ _ _ (addr_ne (by omega))]; exact k1⟩, fun k => by rw [World.frozen?_setCell]; exact h.rz k, World.cell?_setCell_same _ _ _ h.f0, by rw [World.cell?_setCell_other _ _ _ _ (addr_ne (by omega))]; exact h.f1, fun k => by rw [World.frozen?_setCell]; exact h.fz k, own_block h.row fun k hk => Below.heap_setCell _ _ _ _ (by have := (h.ap k hk).1; simp; omega), h.ap, ⟨h1, h2, by simpa [World.setCell] using h3, h4, h5, h6, by simpa [World.setCell] using h7⟩⟩
/-- At the end: the result's box holds the font. -/
theorem DF.finish {w0 w wr : World} {B s t bs : Nat} {code : Value} {p fb : Int} {v : Value} {ps : List (Int × Int)} (h : DF w0 w wr B s t bs code p fb v v ps) :
    (((wr.setCell ⟨s, 0, none⟩ (.int .i64 fb)).setCell ⟨s, 1, none⟩ v).cell? ⟨s, 0, none⟩ = some (.int .i64 fb) ∧ ((wr.setCell ⟨s, 0, none⟩ (.int .i64 fb)).setCell ⟨s, 1, none⟩ v).cell? ⟨s, 1, none⟩ = some v) ∧
    ((wr.setCell ⟨s, 0, none⟩ (.int .i64 fb)).setCell ⟨s, 1, none⟩ v).ownsRow bs 52 2 v ps.length (pvs ps) ∧ Src w0 ((wr.setCell ⟨s, 0, none⟩ (.int .i64 fb)).setCell ⟨s, 1, none⟩ v) B code p ∧ Within B (B + 1) w ((wr.setCell ⟨s, 0, none⟩ (.int .i64 fb)).setCell ⟨s, 1, none⟩ v) := by
  obtain ⟨h1, h2, h3, h4, h5, h6, h7⟩ := h.st
  obtain ⟨u0, k0⟩ := h.r0
  obtain ⟨u1, k1⟩ := h.r1
  refine ⟨res2 _ _ k0 k1, ?_, (h.src.setf (by omega) (by omega) _).setf (by omega) (by omega) _, (h.wi.then ((Below.refl _ _).setCell (by simp; omega) _)).then ((Below.refl _ _).setCell (by simp; omega) _)⟩
  refine own_block (own_block h.row fun k hk => Below.heap_setCell _ _ _ _ (by have := (h.ap k hk).2.1; simp; omega)) fun k hk => Below.heap_setCell _ _ _ _ (by have := (h.ap k hk).2.1; simp; omega)

/-- An append to a row of the call's own, as one step of a region that draws its order; what turns told by GrowTo. -/
theorem step_append_g {P : Program} {ops : Array Oper} {o : Oper} {a : Act} {w : World} {K : Act → World → Prop} {Q : Exit → Act → World → Prop} {E : Prop}
    (hg : o.guard = none) (s x : Operand) (t : TypeId) (hop : o.op = Op.call { callee := Callee.builtin Builtin.append, args := #[s, x], argTypes := #[t, t] })
    (base : Nat) (e : TypeId) (i : TypeInfo) (z : Value) (size bytes : Nat) (h1 : P.underlying t = some (.slice e)) (h2 : P.info? e = some i) (h3 : i.zero = some z) (h4 : i.size = size) (h5 : i.bytes = bytes) (h6 : z.cells.size = size) (h7 : 0 < size)
    (v : Value) (n : Nat) (xs : List Value) (hs : a.eval s = v) (hown : w.ownsRow base e size v n xs)
    (ad : Addr) (m c : Nat) (news : List Value) (hx : a.eval x = .slice (some ad) m c) (hn : news.length = m * size) (hc : ∀ j u, news[j]? = some u → w.cell? (ad.add j) = some u) (h1c : ∀ u ∈ news, u.oneCell' = true)
    (b1 : n + m ≤ maxLen) (b2 : (n + m) * bytes ≤ 140737488355328) (hbase : base ≤ w.heap.size)
    (hK : ∀ v' w', w'.ownsRow base e size v' (n + m) (xs ++ news) → GrowTo w w' v v' → K (a.put o.dst v') w') :
    if Region.wanted o (yielded ops a.tmps) = true then Oper.wp P o a w K Q else E := by
  have hw : Region.wanted o (yielded ops a.tmps) = true := by simp [Region.wanted, hg]
  rw [if_pos hw]
  obtain ⟨v', w', hrun, r1, r2⟩ := run_append_grow (P := P) w base t o.type e i z size bytes h1 h2 h3 h4 h5 h6 h7 v n xs hown ad m c news hn hc h1c b1 b2 hbase
  unfold Oper.wp
  simp [execOp, hop, resolve, invoke, builtin, hs, hx, hrun, Result.andThen]
  exact hK v' w' r1 r2
theorem info_pairD : (Try.prog.info? 52).map (fun i => (i.zero, i.size, i.bytes)) = some (some (.agg #[.int .i64 0, .int .i64 0]), 2, 16) := by kernel_rfl
theorem own_shapeD {w : World} {base size n : Nat} {e : TypeId} {v : Value} {xs : List Value} (h : w.ownsRow base e size v n xs) : ∃ a c, v = .slice a n c := by
  rcases h.2 with ⟨rfl, rfl⟩ | ⟨g, cap, cur, rfl, _⟩
  · exact ⟨none, 0, rfl⟩
  · exact ⟨_, _, rfl⟩

end Go.Proofs.Ytlkabmgindbbmaa
