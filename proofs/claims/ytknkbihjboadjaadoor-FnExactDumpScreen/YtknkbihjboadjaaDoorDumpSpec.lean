/-
  The model's dump: l7Tabs, l7Cursor, l7Modes, l7Dump.
-/
import Derived.Test.YtknkbihjboadjaaDoorRowPut
import Derived.Test.YtknkbihjboadjaaDoorScrNew2X
import Derived.Test.YtknkbihjboadjaaDoorUntil
import Derived.Test.YtknkbihjboadjaaDoorTabFns
import Derived.Lib.SlBytesConst
namespace Go.Proofs.YtknkbihjboadjaaDoor
set_option maxRecDepth 20000
open Go.ChangeShapes Go.WideShapes Go.ChangeAt Go.RowKit
set_option linter.unusedVariables false
set_option linter.unusedSimpArgs false
set_option maxRecDepth 20000

/-- The bytes of a dump, part by part. -/
def tabTo (s : Scr) : Nat → List Int
  | 0 => [27, 91, 51, 103]
  | k + 1 => tabTo s k ++ (if s.tabs.getD k false = true then placeL 0 (k : Int) ++ [27, 72] else [])
def baseOf (s : Scr) : Int := if s.org = true then s.top else 0
def atCell (s : Scr) : Int × Int := s.cs.getD (s.y * s.wd + s.x).toNat (0, 0)
def orgL (s : Scr) : List Int := if s.org = true then [27, 91, 63, 54, 104] else []
def waitL (s : Scr) : List Int := if s.wrap = true then attrL (atCell s).2 ++ encL (atCell s).1 else []
def whereL (s : Scr) : List Int := seqL [s.top + 1, s.bot + 1] 114 ++ orgL s ++ placeL (s.y - baseOf s) s.x ++ waitL s
def tchar (n : Int) : Int := if n = 2 then 48 else if n = 3 then 85 else 66
def setsL (s : Scr) : List Int := [27, 40, tchar (s.sets.getD 0 0), 27, 41, tchar (s.sets.getD 1 0)]
def shL (s : Scr) : List Int := if s.sh = 1 then [14] else []
def insL (s : Scr) : List Int := if s.ins = true then [27, 91, 52, 104] else []
def autoL (s : Scr) : List Int := if s.auto = true then [] else [27, 91, 63, 55, 108]
def howL (s : Scr) : List Int := attrL s.attr ++ setsL s ++ shL s ++ insL s ++ autoL s
def dumpL (s : Scr) : List Int := rowsB s 0 s.r.toNat ++ tabTo s s.wd.toNat ++ whereL s ++ howL s
theorem tabTo_len (s : Scr) : ∀ k, k ≤ 99 → (tabTo s k).length ≤ 4 + 22 * k
  | 0, _ => by simp [tabTo]
  | k + 1, hk => by
    have ih := tabTo_len s k (by omega)
    have hp := placeL_len (y := 0) (x := (k : Int)) (by omega) (by omega)
    rw [tabTo, List.length_append]
    split
    · rw [List.length_append]; simp; omega
    · simp; omega
/-- What a screen without a fault is. -/
structure SFine (s : Scr) : Prop where
  g : GFine s.r s.wd s.cs s.bs
  y0 : 0 ≤ s.y
  y1 : s.y < s.r
  x0 : 0 ≤ s.x
  x1 : s.x < s.wd
  a0 : 0 ≤ s.attr
  a1 : s.attr ≤ 31
  t0 : 0 ≤ s.top
  t1 : s.top ≤ s.bot
  b1 : s.bot ≤ s.r - 1
  tl : (s.tabs.length : Int) = s.wd
  o : s.org = true → s.top ≤ s.y
  sl : s.sets.length = 2
  s0 : 1 ≤ s.sets.getD 0 0 ∧ s.sets.getD 0 0 ≤ 3
  s1 : 1 ≤ s.sets.getD 1 0 ∧ s.sets.getD 1 0 ≤ 3
theorem sfine_of {s : Scr} (h : scrCode s = 0) : SFine s := by
  have hg := grid_of_scr h
  have hG := gfine_of_code hg
  obtain ⟨q1, q2, q3, q4, _, _⟩ := size_mul hG.size
  unfold scrCode at h
  rw [if_pos hg] at h
  cases hr : rangeB s with
  | false => rw [hr] at h; simp at h
  | true =>
    cases hf : sformB s with
    | false => rw [hr, hf] at h; simp at h
    | true =>
      unfold rangeB placeB atB setsB allT tblB at hr
      unfold sformB regionB tabsB orgB at hf
      simp only [Bool.and_eq_true, Bool.or_eq_true, decide_eq_true_eq, List.drop_zero, List.all_eq_true] at hr hf
      obtain ⟨⟨r1, r2⟩, ra, rk, ⟨rs1, rs2⟩, _, _⟩ := hr
      obtain ⟨f1, f2, f3, f4⟩ := hf
      have hb : s.top ≤ s.bot ∧ 0 ≤ s.top ∧ s.bot ≤ s.r - 1 := by rcases f1 with f1 | f1 <;> omega
      have hs : ∀ i, i < s.sets.length → 1 ≤ s.sets.getD i 0 ∧ s.sets.getD i 0 ≤ 3 := fun i hi => rs1 _ (by rw [List.getD_eq_getElem?_getD, List.getElem?_eq_getElem hi]; simp)
      have hoo : s.org = true → s.top ≤ s.y := by
        intro ho
        rcases f4 with f4 | f4
        · rw [ho] at f4; simp at f4
        · exact f4.1
      exact ⟨hG, r1.1, by omega, r2.1, by omega, ra.1, ra.2, hb.2.1, hb.1, hb.2.2, f2, hoo, rs2, hs 0 (by omega), hs 1 (by omega)⟩
theorem lit_read {w : World} {k : IntKind} {l : List Int} {T : TypeId} {b : Nat} (hb : b = w.heap.size) : ReadAt k (w.alloc (.cells (l.map (Value.int k)).toArray T)) (.slice (some ⟨b, 0, none⟩) l.length l.length) l := by
  subst hb
  refine ⟨_, _, rfl, .inr ⟨_, _, rfl, fun i hi => ?_⟩⟩
  have h := heap_alloc_new w (.cells (l.map (Value.int k)).toArray T)
  simp only [World.cell?, h, Nat.zero_add]
  simp [List.getD_eq_getElem?_getD, hi]
theorem lit_own {w : World} {l : List Int} {T : TypeId} (hl : l.length ≤ 1000) : OwnX (w.alloc (.cells (l.map (Value.int .u8)).toArray T)) w.heap.size T (.slice (some ⟨w.heap.size, 0, none⟩) l.length l.length) l.length (l.map (Value.int .u8)) :=
  ⟨by simp, .inr ⟨w.heap.size, l.length, _, (0, 0), rfl, Nat.le_refl _, heap_alloc_new w _, .inl rfl, Nat.le_refl _, by unfold maxLen; omega, by simp, by rw [show (l.map (Value.int .u8)).toArray.toList = l.map (Value.int .u8) by simp]; exact List.take_of_length_le (by simp)⟩⟩
theorem lit_readX {w : World} {k : IntKind} {l : List Int} {T : TypeId} {b p q : Nat} (hb : b = w.heap.size) : ReadAt k (w.alloc (.cells (l.map (Value.int k)).toArray T (p, q))) (.slice (some ⟨b, 0, none⟩) l.length l.length) l := by
  subst hb
  refine ⟨_, _, rfl, .inr ⟨_, _, rfl, fun i hi => ?_⟩⟩
  have h := heap_alloc_new w (.cells (l.map (Value.int k)).toArray T (p, q))
  simp only [World.cell?, h, Nat.zero_add]
  simp [List.getD_eq_getElem?_getD, hi]
theorem lit_ownX {w : World} {l : List Int} {T : TypeId} (hl : l.length ≤ 1000) : OwnX (w.alloc (.cells (l.map (Value.int .u8)).toArray T (l.length, l.length + 1))) w.heap.size T (.slice (some ⟨w.heap.size, 0, none⟩) l.length l.length) l.length (l.map (Value.int .u8)) :=
  ⟨by simp, .inr ⟨w.heap.size, l.length, _, (l.length, l.length + 1), rfl, Nat.le_refl _, heap_alloc_new w _, .inr (by simp), Nat.le_refl _, by unfold maxLen; omega, by simp, by rw [show (l.map (Value.int .u8)).toArray.toList = l.map (Value.int .u8) by simp]; exact List.take_of_length_le (by simp)⟩⟩
set_option maxHeartbeats 4000000 in
theorem l7Tabs_o (s : Scr) (v1 v2 v3 v4 : Value) (b ob : Nat) (w : World) (hF : SFine s) (hB : Seg w b ob (scrA s v1 v2 v3 v4)) (h3 : BRead w v3 s.tabs) :
    Calls Tryd.prog 55 #[.pointer (some ⟨b, ob, none⟩)] w fun e w' => ∃ v, e = .returned v ∧ OwnX w' w.heap.size 5 v (tabTo s s.wd.toNat).length ((tabTo s s.wd.toNat).map (Value.int .u8)) ∧ Below w.heap.size w w' := by
  obtain ⟨i0, hi, hz0, hz1, hz2⟩ := info_parts info_u8s
  obtain ⟨R, m, eR, eW, n1, n2, n3, n4, n5, n6, n7, n8, n9, n10⟩ := hF.g.nats
  have hw : s.wd.toNat = m := by omega
  rw [hw]
  have htl : s.tabs.length = m := by have := hF.tl; omega
  obtain ⟨bt, ot, ct, rfl⟩ : ∃ bt ot ct, v3 = .slice (some ⟨bt, ot, none⟩) m ct := by
    obtain ⟨a3, c3, rfl, h⟩ := h3
    rcases h with h | ⟨b3, o3, rfl, _⟩
    · rw [h] at htl; simp at htl; omega
    · exact ⟨_, _, _, by rw [htl]⟩
  have HE := hide eW
  have HTL := hide htl
  have hst : (tabTo s 0).length = 4 := rfl
  have HO0 : Hid (OwnX (w.alloc (.cells #[.int .u8 27, .int .u8 91, .int .u8 51, .int .u8 103] 5 (4, 5))) w.heap.size 5 (.slice (some ⟨w.heap.size, 0, none⟩) 4 4) (tabTo s 0).length ((tabTo s 0).map (Value.int .u8))) := hide (lit_ownX (w := w) (l := [27, 91, 51, 103]) (T := 5) (by simp))
  have b0 : Below w.heap.size w (w.alloc (.cells #[.int .u8 27, .int .u8 91, .int .u8 51, .int .u8 103] 5 (4, 5))) := (Below.refl _ w).alloc (Nat.le_refl _) _
  clear eW htl hst eR n5 n6 n7 n8 n9 n10 hw
  have hcs := Lib.run_convert_bytes_const (P := Tryd.prog) w 30 5 #[.int .u8 27, .int .u8 91, .int .u8 51, .int .u8 103] 4 4 Tryd.underlying30 Tryd.underlying5
  go_enter Tryd.func55, Tryd.ntmps55
  go_wp2
  go_loopw [3, 4] (fun o i wr => ∃ k : Nat, k ≤ m ∧ i = .int .i64 k ∧ Hid (OwnX wr w.heap.size 5 o (tabTo s k).length ((tabTo s k).map (Value.int .u8))) ∧ Below w.heap.size w wr) (fun _ i _ => m - (intOf i).toNat)
  case atStart => exact ⟨0, Nat.zero_le _, rfl, HO0, b0⟩
  case round =>
    obtain ⟨k, hk, rfl, hO, hb⟩ := hrel
    have hsz := hb.size
    have hBr := hB.belowb hb
    have c1 := hBr.at 1 (scrA_1 s v1 v2 _ v4)
    rw [HE.out] at c1
    by_cases hlt : k < m
    · have hltI : (k : Int) < (m : Int) := by omega
      have c13 := hBr.at 13 (scrA_13 s v1 v2 _ v4)
      obtain ⟨b9, o9, e9, hcell⟩ := (h3.below hb).spot k (by rw [HTL.out]; exact hlt)
      injection e9 with e9
      injection e9 with e9 e10
      subst e9 e10
      have hlen := tabTo_len s k (by omega)
      have hs : tabTo s (k + 1) = tabTo s k ++ (if s.tabs.getD k false = true then placeL 0 (k : Int) ++ [27, 72] else []) := rfl
      have hpl := placeL_len (y := 0) (x := (k : Int)) (by omega) (by omega)
      have hO' := hO.out
      obtain ⟨P, hP⟩ : ∃ P, tabTo s k = P := ⟨_, rfl⟩
      rw [hP] at hO' hlen hs
      clear hO hP
      rcases htb : s.tabs.getD k false with _ | _
      · rw [htb] at hs hcell
        have HS : Hid (tabTo s (k + 1) = P) := hide (by rw [hs]; simp)
        clear hs htb
        go_wp2
        go_roundw
        case rel => exact ⟨k + 1, by omega, by go_num, by rw [HS.out]; exact hide hO', hb⟩
        case measure => simp [intOf]; omega
      · rw [htb] at hs hcell
        have HS : Hid (tabTo s (k + 1) = P ++ (placeL 0 (k : Int) ++ [27, 72])) := hide (by rw [hs, if_pos rfl])
        clear hs htb
        go_wp2_with fail
        go_at_call 74
        refine (l7Place_calls 0 (k : Int) _ (by omega) (by omega) (by omega) (by omega)).mono ?_
        rintro e w3 ⟨v5, rfl, ox3, hb3⟩
        obtain ⟨a3, c3, rfl⟩ := ox3.form
        have hr3 := ox3.ints.read
        have ho3 := hO'.belowb hb3
        have z3 := hb3.size
        go_wp2_with (first | (at_builtin; refine wpList_append_X _ rfl (.tmp 23) (.tmp 25) 30 rfl w.heap.size 5 .u8 i0 (.int .u8 0) 1 Tryd.underlying30 hi hz0 hz1 hz2 rfl _ _ _ rfl ho3 a3 (placeL 0 (k : Int)) _ c3 rfl rfl hr3 (by unfold maxLen; omega) (by omega) (by omega) ?_; intro v6 w4 own' hgr; have own4 := own'; clear own'; have b4 : Below w.heap.size w w4 := (hb.trans (hb3.mono hsz)).grown hgr (by omega) (fun g hg => (ho3.lt g hg).1); have z4 := b4.size; have hc2 := Lib.run_convert_bytes_const (P := Tryd.prog) w4 30 5 #[.int .u8 27, .int .u8 72] 2 2 Tryd.underlying30 Tryd.underlying5; clear hgr ho3 hr3 ox3 hb3) | (at_builtin; refine wpList_append_X _ rfl (.tmp 26) (.tmp 28) 30 rfl w.heap.size 5 .u8 i0 (.int .u8 0) 1 Tryd.underlying30 hi hz0 hz1 hz2 rfl _ _ _ rfl (own4.alloc _) (some ⟨w4.heap.size, 0, none⟩) [27, 72] _ 2 rfl rfl (lit_readX (w := w4) (l := [27, 72]) rfl) (by unfold maxLen; omega) (by omega) (by simp; omega) ?_; intro v7 w5 own' hgr; have own5 := own'; clear own'; have b5 : Below w.heap.size w w5 := (b4.alloc (by omega) _).grown hgr (by simp; omega) (fun g hg => (own4.lt g hg).1); clear hgr))
        have HO6 : Hid (OwnX w5 w.heap.size 5 v7 (tabTo s (k + 1)).length ((tabTo s (k + 1)).map (Value.int .u8))) := by
          refine hide ?_
          rw [HS.out]
          have e1 : P.length + (placeL 0 (k : Int)).length + 2 = (P ++ (placeL 0 (k : Int) ++ [27, 72])).length := by simp; omega
          rw [← e1]
          simpa using own5
        clear own5
        go_roundw
        case rel => exact ⟨k + 1, by omega, by go_num, HO6, b5⟩
        case measure => simp [intOf]; omega
    · obtain rfl : k = m := by omega
      go_wp2
      go_ret
      exact ⟨_, rfl, hO.out, hb⟩
end Go.Proofs.YtknkbihjboadjaaDoor
