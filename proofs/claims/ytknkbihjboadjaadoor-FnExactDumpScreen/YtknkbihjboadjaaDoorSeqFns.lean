/-
  The program's appendSequence, appendPlace and appendAttr; strconv.AppendInt at base 10 by the library's contract.
-/
import Derived.Test.YtknkbihjboadjaaDoorDigFns
import Derived.Test.YtknkbihjboadjaaDoorMem
import Derived.OwnWalk
import Derived.Lib.AppendIntMem
import Derived.Shelf.Strconv.AppendIntPublic10
namespace Go.Proofs.YtknkbihjboadjaaDoor
set_option maxRecDepth 20000
open Go.ChangeShapes Go.WideShapes Go.ChangeAt Go.RowKit
open Go.Shelf
set_option linter.unusedVariables false
set_option linter.unusedSimpArgs false
set_option maxRecDepth 20000

def sq_laysM176_ren : Go.Shelf.Ren := ⟨fun | 176 => 88 | 249 => 92 | 288 => 95 | 283 => 97 | 284 => 98 | 285 => 99 | 286 => 100 | 129 => 102 | 317 => 101 | 318 => 103 | 319 => 104 | 320 => 105 | 337 => 106 | 338 => 107 | n => n, fun | 37 => 30 | 2 => 2 | 3 => 3 | 53 => 112 | 4 => 4 | 9 => 9 | 171 => 115 | 0 => 0 | 173 => 118 | 212 => 122 | 51 => 91 | 5 => 5 | 20 => 20 | 213 => 123 | 46 => 105 | 232 => 127 | 233 => 128 | n => n, fun | 17 => 0 | 18 => 1 | 19 => 2 | n => n⟩
theorem sq_laysM176 : Go.Proofs.LaysM.n176 Tryd.prog sq_laysM176_ren := {
  mixed := by kernel_rfl
  f129 := Tryd.func102.trans (congrArg some (by kernel_rfl))
  f176 := Tryd.func88.trans (congrArg some (by kernel_rfl))
  f249 := Tryd.func92.trans (congrArg some (by kernel_rfl))
  f283 := Tryd.func97.trans (congrArg some (by kernel_rfl))
  f284 := Tryd.func98.trans (congrArg some (by kernel_rfl))
  f285 := Tryd.func99.trans (congrArg some (by kernel_rfl))
  f286 := Tryd.func100.trans (congrArg some (by kernel_rfl))
  f288 := Tryd.func95.trans (congrArg some (by kernel_rfl))
  f317 := Tryd.func101.trans (congrArg some (by kernel_rfl))
  f318 := Tryd.func103.trans (congrArg some (by kernel_rfl))
  f319 := Tryd.func104.trans (congrArg some (by kernel_rfl))
  f320 := Tryd.func105.trans (congrArg some (by kernel_rfl))
  f337 := Tryd.func106.trans (congrArg some (by kernel_rfl))
  f338 := Tryd.func107.trans (congrArg some (by kernel_rfl))
  t0 := Tryd.underlying0
  a0 := Tryd.isAgg0
  z0 := Tryd.sizeOf0
  v0 := Tryd.zeroValue0
  t2 := Tryd.underlying2
  a2 := Tryd.isAgg2
  z2 := Tryd.sizeOf2
  v2 := Tryd.zeroValue2
  t3 := Tryd.underlying3
  a3 := Tryd.isAgg3
  z3 := Tryd.sizeOf3
  v3 := Tryd.zeroValue3
  t4 := Tryd.underlying4
  a4 := Tryd.isAgg4
  z4 := Tryd.sizeOf4
  v4 := Tryd.zeroValue4
  t5 := Tryd.underlying5
  a5 := Tryd.isAgg5
  z5 := Tryd.sizeOf5
  v5 := Tryd.zeroValue5
  t9 := Tryd.underlying9
  a9 := Tryd.isAgg9
  z9 := Tryd.sizeOf9
  v9 := Tryd.zeroValue9
  t20 := Tryd.underlying20
  a20 := Tryd.isAgg20
  z20 := Tryd.sizeOf20
  v20 := Tryd.zeroValue20
  t37 := Tryd.underlying30
  a37 := Tryd.isAgg30
  z37 := Tryd.sizeOf30
  v37 := Tryd.zeroValue30
  t46 := Tryd.underlying105
  a46 := Tryd.isAgg105
  z46 := Tryd.sizeOf105
  v46 := Tryd.zeroValue105
  t51 := Tryd.underlying91
  a51 := Tryd.isAgg91
  z51 := Tryd.sizeOf91
  v51 := Tryd.zeroValue91
  t53 := Tryd.underlying112
  a53 := Tryd.isAgg112
  z53 := Tryd.sizeOf112
  v53 := Tryd.zeroValue112
  t171 := Tryd.underlying115
  a171 := Tryd.isAgg115
  z171 := Tryd.sizeOf115
  v171 := Tryd.zeroValue115
  t173 := Tryd.underlying118
  a173 := Tryd.isAgg118
  z173 := Tryd.sizeOf118
  v173 := Tryd.zeroValue118
  t212 := Tryd.underlying122
  a212 := Tryd.isAgg122
  z212 := Tryd.sizeOf122
  v212 := Tryd.zeroValue122
  t213 := Tryd.underlying123
  a213 := Tryd.isAgg123
  z213 := Tryd.sizeOf123
  t232 := Tryd.underlying127
  a232 := Tryd.isAgg127
  z232 := Tryd.sizeOf127
  v232 := Tryd.zeroValue127
  t233 := Tryd.underlying128
  a233 := Tryd.isAgg128
  z233 := Tryd.sizeOf128
  v233 := Tryd.zeroValue128
  g17 := by kernel_rfl
  g18 := by kernel_rfl
  g19 := by kernel_rfl
  i0 := by kernel_rfl
  i2 := by kernel_rfl
  i3 := by kernel_rfl
  i4 := by kernel_rfl
  i5 := by kernel_rfl
  i9 := by kernel_rfl
  i20 := by kernel_rfl
  i37 := by kernel_rfl
  i46 := by kernel_rfl
  i51 := by kernel_rfl
  i53 := by kernel_rfl
  i171 := by kernel_rfl
  i173 := by kernel_rfl
  i212 := by kernel_rfl
  i232 := by kernel_rfl
  i233 := by kernel_rfl
  m17 := by kernel_rfl
  m18 := by kernel_rfl
  m19 := by kernel_rfl }

def TabAt (B : Nat) (w : World) : Prop := Lib.TabBelow Tryd.prog B w "internal/strconv.uint64pow10" .u64 Lib.pow10Tab
theorem TabAt.on {B : Nat} {w w' : World} (h : TabAt B w) (hb : Below B w w') : TabAt B w' := Lib.TabBelow.on h hb
def Kept (w w' : World) : Prop := Lib.OthersKept 5 none w w'
theorem own_kind {w : World} {B n : Nat} {e : TypeId} {v : Value} {xs : List Value} (h : w.ownsRow B e 1 v n xs) : ∀ g, v.ownBlock = some g → ∃ c fz, w.heap[g]? = some (.cells c e fz) :=
  Lib.ownsRowF_kind (World.ownsRowF_of h)
theorem own_kept {w w' : World} {B n : Nat} {e : TypeId} {v : Value} {xs : List Value} (h : w.ownsRow B e 1 v n xs) (hne : 5 ≠ e) (hk : Kept w w') : w'.ownsRow B e 1 v n xs := by
  refine ⟨h.1, ?_⟩
  rcases h.2 with h | ⟨g, cap, cur, rfl, hb, hg, rest⟩
  · exact .inl h
  · exact .inr ⟨g, cap, cur, rfl, hb, hk g _ hg (by simp) (fun c fz => by intro e; injection e with e1 e2; exact hne e2.symm), rest⟩
theorem sq_appendInt (B n : Nat) (i : Int) (h0 : 0 ≤ i) (h1 : i ≤ 999999) (sv : Value) (xs : List Value) (w : World) (hown : w.ownsRow B 5 1 sv n xs) (hBw : B ≤ w.heap.size) (hlim : n ≤ 1000000) (htab : TabAt B w) :
    Calls Tryd.prog 88 #[sv, .int .i64 i, .int .i64 10] w fun e w' => ∃ v', e = .returned v' ∧ w'.ownsRow B 5 1 v' (n + (digL i).length) (xs ++ (digL i).map (Value.int .u8)) ∧ Below B w w' ∧ Kept w w' := by
  have h := Any.strconv_AppendInt_10 sq_laysM176 B n i (by omega) (by omega) sv xs w hown hBw (by omega) htab
  rw [byte_cells_dig h0, itoa_len h0] at h
  exact h
def joinTo (ns : List Int) : Nat → List Int
  | 0 => []
  | k + 1 => joinTo ns k ++ ((if 0 < k then [59] else []) ++ digL (ns.getD k 0))
theorem joinL_snoc : ∀ (ns : List Int) (x : Int), joinL (ns ++ [x]) = joinL ns ++ ((if 0 < ns.length then [59] else []) ++ digL x)
  | [], x => by simp [joinL]
  | [n], x => by simp [joinL]
  | n :: m :: r, x => by
    have ih := joinL_snoc (m :: r) x
    simp only [List.cons_append] at ih ⊢
    rw [joinL, ih, joinL]
    simp
theorem joinTo_take (ns : List Int) : ∀ k, k ≤ ns.length → joinTo ns k = joinL (ns.take k)
  | 0, _ => by simp [joinTo, joinL]
  | k + 1, h => by
    rw [joinTo, joinTo_take ns k (by omega), List.take_add_one, show ns[k]? = some (ns.getD k 0) by simp [List.getD_eq_getElem?_getD, show k < ns.length by omega]]
    rw [show (some (ns.getD k 0)).toList = [ns.getD k 0] from rfl, joinL_snoc, List.length_take, show min k ns.length = k by omega]
theorem joinTo_all (ns : List Int) : joinTo ns ns.length = joinL ns := by rw [joinTo_take ns _ (Nat.le_refl _), List.take_length]
theorem joinTo_len (ns : List Int) (h : ∀ x ∈ ns, x ≤ 999999) : ∀ k, k ≤ ns.length → (joinTo ns k).length ≤ 7 * k
  | 0, _ => by simp [joinTo]
  | k + 1, hk => by
    have ih := joinTo_len ns h k (by omega)
    have hd := dig_len (n := ns.getD k 0) (h _ (by rw [List.getD_eq_getElem?_getD, List.getElem?_eq_getElem (show k < ns.length by omega)]; simp))
    rw [joinTo, List.length_append, List.length_append]
    have : (if 0 < k then [(59 : Int)] else []).length ≤ 1 := by split <;> simp
    omega
theorem info_u8s : (Tryd.prog.info? 5).map (fun i => (i.zero, i.size, i.bytes)) = some (some (.int .u8 0), 1, 1) := by kernel_rfl
theorem info_i64s : (Tryd.prog.info? 2).map (fun i => (i.zero, i.size, i.bytes)) = some (some (.int .i64 0), 1, 8) := by kernel_rfl
theorem lit_cells {w : World} {k : IntKind} {l : List Int} {T : TypeId} : ∀ (j : Nat) (u : Value), (l.map (Value.int k))[j]? = some u → (w.alloc (.cells (l.map (Value.int k)).toArray T)).cell? ((⟨w.heap.size, 0, none⟩ : Addr).add j) = some u := by
  intro j u h
  rw [show (⟨w.heap.size, 0, none⟩ : Addr).add j = ⟨w.heap.size, j, none⟩ by unfold Addr.add; split <;> simp_all]
  have hh := heap_alloc_new w (.cells (l.map (Value.int k)).toArray T)
  simp only [World.cell?, hh]
  simpa using h
theorem ones {k : IntKind} {l : List Int} : ∀ u ∈ l.map (Value.int k), u.oneCell' = true := by
  intro u hu
  obtain ⟨x, _, rfl⟩ := List.mem_map.1 hu
  rfl
set_option maxHeartbeats 4000000 in
theorem appendSeq_calls (ns : List Int) (en : Int) (base n b2 : Nat) (v vn : Value) (xs : List Value) (w : World) (hn : n ≤ 100000) (hbase : base ≤ w.heap.size) (hown : w.ownsRow base 5 1 v n xs) (hvn : w.ownsRow b2 2 1 vn ns.length (ns.map (Value.int .i64)))
    (hns : ∀ x ∈ ns, 0 ≤ x ∧ x ≤ 999999) (hl : ns.length ≤ 6) (htab : TabAt base w) :
    Calls Tryd.prog 69 #[v, .int .u8 en, vn] w fun e w' => ∃ v', e = .returned v' ∧ w'.ownsRow base 5 1 v' (n + (seqL ns en).length) (xs ++ (seqL ns en).map (Value.int .u8)) ∧ Below base w w' ∧ Kept w w' := by
  obtain ⟨i0, hi, hz0, hz1, hz2⟩ := info_parts info_u8s
  have hlt0 := fun k hk => (hown.lt k hk).1
  obtain ⟨an, cn, rfl⟩ : ∃ a c, vn = .slice a ns.length c := by
    rcases hvn.2 with ⟨h1, h2⟩ | ⟨g, cap, cur, h1, _⟩
    · exact ⟨_, _, by rw [h1, h2]⟩
    · exact ⟨_, _, h1⟩
  have HV := hide hvn
  clear hvn
  go_enter Tryd.func69, Tryd.ntmps69
  go_wp2_with (at_builtin; refine wpList_append_own _ rfl (.tmp 9) (.tmp 10) 30 rfl base 5 i0 (.int .u8 0) 1 1 Tryd.underlying30 hi hz0 hz1 hz2 rfl (by decide) v n xs rfl (hown.alloc _) ⟨w.heap.size, 0, none⟩ 2 2 ([27, 91].map (Value.int .u8)) rfl rfl (lit_cells (w := w) (l := [27, 91])) ones (by unfold maxLen; omega) (by omega) (by simp; omega) ?_)
  intro v1 w1 hown1 hgr _
  have k1 : Kept w w1 := ((Lib.OthersKept.refl _ _ w).alloc _).grown hgr (own_kind (hown.alloc _))
  have b1 : Below base w w1 := ((Below.refl base w).alloc hbase _).grown hgr (by simp; omega) hlt0
  clear hgr
  have HO : Hid (w1.ownsRow base 5 1 v1 (n + 2) (xs ++ ([27, 91] ++ joinTo ns 0).map (Value.int .u8))) := by
    refine hide ?_
    simpa [joinTo] using hown1
  clear hown1 hown
  have HNS := hide hns
  have HJ := hide (joinTo_len ns (fun x hx => (hns x hx).2))
  have HA := hide (joinTo_all ns)
  clear hns
  go_wp2
  go_loopw [0, 14] (fun o i wr => ∃ k : Nat, k ≤ ns.length ∧ i = .int .i64 k ∧ Hid (wr.ownsRow base 5 1 o (n + (2 + (joinTo ns k).length)) (xs ++ ([27, 91] ++ joinTo ns k).map (Value.int .u8))) ∧ Below base w wr ∧ Kept w wr) (fun _ i _ => ns.length - (intOf i).toNat)
  case atStart => exact ⟨0, Nat.zero_le _, rfl, HO, b1, k1⟩
  case round =>
    obtain ⟨k, hkl, rfl, hO, hb, hK⟩ := hrel
    have hsz := hb.size
    by_cases hlt : k < ns.length
    · have hltI : (k : Int) < (ns.length : Int) := by omega
      have hV := own_kept HV.out (by decide) hK
      obtain ⟨q, hq0, hqc⟩ : ∃ q, an = some ⟨q, 0, none⟩ ∧ ∀ j u, (ns.map (Value.int .i64))[j]? = some u → wr.cell? ((⟨q, 0, none⟩ : Addr).add j) = some u := by
        rcases hV.2 with ⟨h1, h2⟩ | ⟨g, cap, cur, h1, _⟩
        · omega
        · injection h1 with h1 h2 h3
          subst h1
          exact ⟨g, rfl, hV.cells (g := g) rfl⟩
      subst hq0
      obtain ⟨z, hz⟩ : ∃ z, ns.getD k 0 = z := ⟨_, rfl⟩
      have hzm : z ∈ ns := by rw [← hz, List.getD_eq_getElem?_getD, List.getElem?_eq_getElem hlt]; simp
      obtain ⟨zz0, zz1⟩ := HNS.out z hzm
      have cz : wr.cell? ⟨q, k, none⟩ = some (.int .i64 z) := by
        have := hqc k (.int .i64 z) (by rw [List.getElem?_map, List.getElem?_eq_getElem hlt, ← hz]; simp [List.getD_eq_getElem?_getD, hlt])
        rwa [show (⟨q, 0, none⟩ : Addr).add k = ⟨q, k, none⟩ by unfold Addr.add; split <;> simp_all] at this
      have hjl := HJ.out k hkl
      have hjs : joinTo ns (k + 1) = joinTo ns k ++ ((if 0 < k then [59] else []) ++ digL z) := by rw [joinTo, hz]
      have HS := hide hjs
      have hO' := hO.out
      clear hqc hV hz hjs hO
      obtain ⟨J, hJ⟩ : ∃ J, joinTo ns k = J := ⟨_, rfl⟩
      rw [hJ] at hO' hjl HS
      clear hJ
      by_cases hk0 : 0 < k
      · have hk0I : (0 : Int) < (k : Int) := by omega
        have hO2 := hO'.alloc (.cells #[.int .u8 59] 5)
        go_wp2_with (at_builtin; refine wpList_append_own _ rfl (.tmp 21) (.tmp 22) 30 rfl base 5 i0 (.int .u8 0) 1 1 Tryd.underlying30 hi hz0 hz1 hz2 rfl (by decide) _ _ _ rfl hO2 ⟨wr.heap.size, 0, none⟩ 1 1 ([59].map (Value.int .u8)) rfl rfl (lit_cells (w := wr) (l := [59])) ones (by unfold maxLen; omega) (by omega) (by simp; omega) ?_)
        intro v2 w2 own2 hgr _
        have k2 : Kept w w2 := (hK.alloc _).grown hgr (own_kind hO2)
        have b2 : Below base w w2 := (hb.alloc (by omega) _).grown hgr (by simp; omega) (fun g hg => (hO2.lt g hg).1)
        have z2 := b2.size
        clear hgr hO2 hO' hK hb
        go_wp2_with fail
        go_at_call 88
        refine (sq_appendInt base _ z zz0 zz1 v2 _ w2 own2 (by omega) (by omega) (htab.on b2)).mono ?_
        rintro e w3 ⟨v3, rfl, own3, hb3, hk3⟩
        have HO3 : Hid (w3.ownsRow base 5 1 v3 (n + (2 + (joinTo ns (k + 1)).length)) (xs ++ ([27, 91] ++ joinTo ns (k + 1)).map (Value.int .u8))) := by
          have e1 := HS.out
          rw [if_pos hk0] at e1
          rw [e1]
          have : n + (2 + J.length) + 1 + (digL z).length = n + (2 + (J ++ ([59] ++ digL z)).length) := by simp; omega
          rw [this] at own3
          refine hide ?_
          simpa using own3
        have b3 := b2.trans hb3
        have k3 : Kept w w3 := k2.trans hk3
        clear own2 own3 hb3 hk3 b2 k2
        go_wp2
        go_roundw
        case rel => exact ⟨k + 1, by omega, by go_num, HO3, b3, k3⟩
        case measure => simp [intOf]; omega
      · obtain rfl : k = 0 := by omega
        go_wp2_with fail
        go_at_call 88
        refine (sq_appendInt base _ z zz0 zz1 _ _ wr hO' (by omega) (by omega) (htab.on hb)).mono ?_
        rintro e w3 ⟨v3, rfl, own3, hb3, hk3⟩
        have HO3 : Hid (w3.ownsRow base 5 1 v3 (n + (2 + (joinTo ns (0 + 1)).length)) (xs ++ ([27, 91] ++ joinTo ns (0 + 1)).map (Value.int .u8))) := by
          have e1 := HS.out
          rw [if_neg hk0] at e1
          rw [e1]
          have : n + (2 + J.length) + (digL z).length = n + (2 + (J ++ ([] ++ digL z)).length) := by simp; omega
          rw [this] at own3
          refine hide ?_
          simpa using own3
        have b3 := hb.trans hb3
        have k3 : Kept w w3 := Lib.OthersKept.trans hK hk3
        clear own3 hb3 hk3 hb hK
        go_wp2
        go_roundw
        case rel => exact ⟨0 + 1, by omega, by go_num, HO3, b3, k3⟩
        case measure => simp [intOf]; omega
    · obtain rfl : k = ns.length := by omega
      have hO2 := hO.out.alloc (.cells #[.int .u8 en] 5)
      have hjl := HJ.out _ hkl
      have hkc := own_kind hO2
      rw [HA.out] at hO2 hjl
      go_wp2_with (at_builtin; refine wpList_append_own _ rfl (.tmp 28) (.tmp 30) 30 rfl base 5 i0 (.int .u8 0) 1 1 Tryd.underlying30 hi hz0 hz1 hz2 rfl (by decide) _ _ _ rfl hO2 ⟨wr.heap.size, 0, none⟩ 1 1 ([en].map (Value.int .u8)) rfl rfl (lit_cells (w := wr) (l := [en])) ones (by unfold maxLen; omega) (by omega) (by simp; omega) ?_)
      intro v2 w2 own2 hgr _
      have k2 : Kept w w2 := (hK.alloc _).grown hgr hkc
      have b2 : Below base w w2 := (hb.alloc (by omega) _).grown hgr (by simp; omega) (fun g hg => (hO2.lt g hg).1)
      go_wp2
      go_ret
      refine ⟨_, rfl, ?_, b2, k2⟩
      have e1 : n + (2 + (joinL ns).length) + 1 = n + (seqL ns en).length := by unfold seqL; simp; omega
      rw [e1] at own2
      simpa [seqL] using own2
end Go.Proofs.YtknkbihjboadjaaDoor
