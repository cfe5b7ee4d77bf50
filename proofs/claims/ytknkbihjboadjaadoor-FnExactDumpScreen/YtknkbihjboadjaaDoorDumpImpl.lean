/-
  The program's appendTabs, appendWhere, tableChar and appendHow.
-/
import Derived.Test.YtknkbihjboadjaaDoorDumpModes
namespace Go.Proofs.YtknkbihjboadjaaDoor
set_option maxRecDepth 20000
open Go.ChangeShapes Go.WideShapes Go.ChangeAt Go.RowKit
set_option linter.unusedVariables false
set_option linter.unusedSimpArgs false
set_option maxRecDepth 20000

theorem wpList_store_T {P : Program} {ops : Array Oper} {rest : List Oper} {o : Oper} {a : Act} {w : World} {Q : Exit → Act → World → Prop} (hw : Region.wanted o (yielded ops a.tmps) = true) (ty : TypeId) (x y : Operand) (ho : o.op = .store ty x y)
    (g off : Nat) (T : TypeId) (cs cs' : Array Value) (v : Value) (hx : a.eval x = .pointer (some ⟨g, off, none⟩)) (hy : a.eval y = v) (hg : w.heap[g]? = some (.cells cs T (0, 0))) (hl : Nat.ble (off + v.cells.size) cs.size = true) (hi : (P.info? ty).map (·.size) = some v.cells.size)
    (h1 : v.cells.toList.all (·.oneCell') = true) (hc : (cs.toList.take off ++ v.cells.toList ++ cs.toList.drop (off + v.cells.toList.length)).toArray = cs')
    (h : ∀ w', w'.heap[g]? = some (.cells cs' T (0, 0)) → Upd g w w' → wpList P ops Q rest (a.put o.dst undef) w') : wpList P ops Q (o :: rest) a w :=
  BigFrame.wpList_want hw fun K hK => wp_store_T ty x y ho g off T cs cs' v hx hy hg hl hi h1 hc (fun w' r1 r2 => hK _ _ (h w' r1 r2))
/-- The box of the screen in a world that keeps what is no row of bytes. -/
theorem box_at {w W : World} {g : Nat} {cs : Array Value} (h : W.heap[g]? = some (.cells cs 38 (0, 0))) (hk : Kept W w) : Blk w g cs := ⟨_, kept_block h (by decide) hk⟩
theorem cell_box {w W : World} {g : Nat} {cs : Array Value} (h : W.heap[g]? = some (.cells cs 65 (0, 0))) (hk : Kept W w) : Blk w g cs := ⟨_, kept_block h (by decide) hk⟩
set_option maxHeartbeats 4000000 in
theorem appendTabs_calls (s : Scr) (v1 v2 v3 v4 : Value) (base n : Nat) (v : Value) (xs : List Value) (w : World) (hF : SFine s) (hn : n ≤ 50000) (hbase : base ≤ w.heap.size) (hown : w.ownsRow base 5 1 v n xs) (htab : TabAt base w) (HSR : ∀ w', Below base w w' → SRead w' s v1 v2 v3 v4) :
    Calls Tryd.prog 32 #[v, .agg (scrA s v1 v2 v3 v4)] w fun e w' => ∃ v', e = .returned v' ∧ w'.ownsRow base 5 1 v' (n + (tabTo s s.wd.toNat).length) (xs ++ (tabTo s s.wd.toNat).map (Value.int .u8)) ∧ Below base w w' ∧ Kept w w' := by
  obtain ⟨i0, hi, hz0, hz1, hz2⟩ := info_parts info_u8s
  obtain ⟨R, m, eR, eW, n1, n2, n3, n4, n5, n6, n7, n8, n9, n10⟩ := hF.g.nats
  have hwd : s.wd.toNat = m := by omega
  rw [hwd]
  have htl : s.tabs.length = m := by have := hF.tl; omega
  obtain ⟨bt, ot, ct, rfl⟩ : ∃ bt ot ct, v3 = .slice (some ⟨bt, ot, none⟩) m ct := by
    obtain ⟨a3, c3, rfl, h⟩ := (HSR w (Below.refl _ w)).g3
    rcases h with h | ⟨b3, o3, rfl, _⟩
    · rw [h] at htl; simp at htl; omega
    · exact ⟨_, _, _, by rw [htl]⟩
  have b0 : Below w.heap.size w (w.alloc (.cells (scrA s v1 v2 (.slice (some ⟨bt, ot, none⟩) m ct) v4) 38)) := (Below.refl _ w).alloc (Nat.le_refl _) _
  have hbx : (w.alloc (.cells (scrA s v1 v2 (.slice (some ⟨bt, ot, none⟩) m ct) v4) 38)).heap[w.heap.size]? = some (.cells (scrA s v1 v2 (.slice (some ⟨bt, ot, none⟩) m ct) v4) 38 (0, 0)) := heap_alloc_new w _
  have hox := hown.alloc (.cells (scrA s v1 v2 (.slice (some ⟨bt, ot, none⟩) m ct) v4) 38)
  have zW : (w.alloc (.cells (scrA s v1 v2 (.slice (some ⟨bt, ot, none⟩) m ct) v4) 38)).heap.size = w.heap.size + 1 := by simp
  have k0 : Kept w (w.alloc (.cells (scrA s v1 v2 (.slice (some ⟨bt, ot, none⟩) m ct) v4) 38)) := kept_below b0
  have b0b : Below base w (w.alloc (.cells (scrA s v1 v2 (.slice (some ⟨bt, ot, none⟩) m ct) v4) 38)) := b0.mono hbase
  have HE := hide eW
  have HTL := hide htl
  clear eW htl eR n5 n6 n7 n8 n9 n10 hwd hF
  go_enter Tryd.func32, Tryd.ntmps32
  go_wp2_with (first | fail | (at_builtin; refine Lib.wpList_append_own_string _ rfl (.tmp 6) _ 30 9 rfl base 5 i0 Tryd.underlying30 Tryd.underlying9 hi hz0 hz1 hz2 _ _ _ rfl hox ⟨#[27, 91, 51, 103]⟩ rfl (by show n + 4 ≤ maxLen; unfold maxLen; omega) (by show n + 4 ≤ 140737488355328; omega) (by omega) ?_; intro v1' w1 own' hgr hnil; have HO0 : Hid (w1.ownsRow base 5 1 v1' (n + (tabTo s 0).length) (xs ++ (tabTo s 0).map (Value.int .u8))) := hide own'; have b1 : Below base w w1 := b0b.grown hgr (by omega) (fun g hg => (hox.lt g hg).1); have kW1 : Kept (w.alloc (.cells (scrA s v1 v2 (.slice (some ⟨bt, ot, none⟩) m ct) v4) 38)) w1 := (Lib.OthersKept.refl _ _ (w.alloc (.cells (scrA s v1 v2 (.slice (some ⟨bt, ot, none⟩) m ct) v4) 38))).grown hgr (own_kind hox); have z1 := b1.size; have c1 := (box_at hbx kW1).at 1 (scrA_1 s v1 v2 _ v4); rw [HE.out] at c1; clear hgr own' hnil hox))
  go_loopw [0, 11] (fun o i wr => ∃ k : Nat, k ≤ m ∧ i = .int .i64 k ∧ Hid (wr.ownsRow base 5 1 o (n + (tabTo s k).length) (xs ++ (tabTo s k).map (Value.int .u8))) ∧ Below base w wr ∧ Kept (w.alloc (.cells (scrA s v1 v2 (.slice (some ⟨bt, ot, none⟩) m ct) v4) 38)) wr) (fun _ i _ => m - (intOf i).toNat)
  case atStart => exact ⟨0, Nat.zero_le _, rfl, HO0, b1, kW1⟩
  case round =>
    obtain ⟨k, hk, rfl, hO, hb, hkp⟩ := hrel
    have hsz := hb.size
    have hAr := box_at hbx hkp
    by_cases hlt : k < m
    · have hltI : (k : Int) < (m : Int) := by omega
      have c13 := hAr.at 13 (scrA_13 s v1 v2 _ v4)
      obtain ⟨b9, o9, e9, hcell⟩ := (HSR _ hb).g3.spot k (by rw [HTL.out]; exact hlt)
      injection e9 with e9
      injection e9 with e9 e10
      subst e9 e10
      have hlen := tabTo_len s k (by omega)
      have hs : tabTo s (k + 1) = tabTo s k ++ (if s.tabs.getD k false = true then placeL 0 (k : Int) ++ [27, 72] else []) := rfl
      have hpl := placeL_len (y := 0) (x := (k : Int)) (by omega) (by omega)
      have hO' := hO.out
      obtain ⟨P, hP⟩ : ∃ P, tabTo s k = P := ⟨_, rfl⟩
      rw [hP] at hO' hlen hs
      clear hO hP
      rcases htb : s.tabs.getD k false with _ | _
      · rw [htb] at hs hcell
        have HS : Hid (tabTo s (k + 1) = P) := hide (by rw [hs]; simp)
        clear hs htb
        go_wp2
        go_roundw
        case rel => exact ⟨k + 1, by omega, by go_num, by rw [HS.out]; exact hide hO', hb, hkp⟩
        case measure => simp [intOf]; omega
      · rw [htb] at hs hcell
        have HS : Hid (tabTo s (k + 1) = P ++ (placeL 0 (k : Int) ++ [27, 72])) := hide (by rw [hs, if_pos rfl])
        clear hs htb
        obtain ⟨Q, hQ⟩ : ∃ Q, placeL 0 (k : Int) = Q := ⟨_, rfl⟩
        have HCP := appendPlace_calls 0 (k : Int) base _ _ _ _ (by omega) (by omega) (by omega) (by omega) (by omega) (by omega) hO' (htab.on hb)
        rw [hQ] at HCP hpl HS
        clear hQ
        go_wp2_with fail
        go_at_call 67
        refine HCP.mono ?_
        rintro e w3 ⟨v5, rfl, own3, hb3, hk3⟩
        have b3 : Below base w w3 := hb.trans hb3
        have k3 : Kept (w.alloc (.cells (scrA s v1 v2 (.slice (some ⟨bt, ot, none⟩) m ct) v4) 38)) w3 := Lib.OthersKept.trans hkp hk3
        have z3 := b3.size
        clear HCP hb3 hk3 hO'
        go_wp2_with (first | fail | (at_builtin; refine Lib.wpList_append_own_string _ rfl (.tmp 22) _ 30 9 rfl base 5 i0 Tryd.underlying30 Tryd.underlying9 hi hz0 hz1 hz2 _ _ _ rfl own3 ⟨#[27, 72]⟩ rfl (by show n + P.length + Q.length + 2 ≤ maxLen; unfold maxLen; omega) (by show n + P.length + Q.length + 2 ≤ 140737488355328; omega) (by omega) ?_; intro v4' w4 own' hgr hnil; have own4 : w4.ownsRow base 5 1 v4' (n + P.length + Q.length + 2) (xs ++ P.map (Value.int .u8) ++ Q.map (Value.int .u8) ++ [27, 72].map (Value.int .u8)) := own'; have b4 : Below base w w4 := b3.grown hgr (by omega) (fun g hg => (own3.lt g hg).1); have k4 : Kept (w.alloc (.cells (scrA s v1 v2 (.slice (some ⟨bt, ot, none⟩) m ct) v4) 38)) w4 := k3.grown hgr (own_kind own3); clear hgr own' hnil own3))
        have HO6 : Hid (w4.ownsRow base 5 1 v4' (n + (tabTo s (k + 1)).length) (xs ++ (tabTo s (k + 1)).map (Value.int .u8))) := by
          refine hide ?_
          rw [HS.out]
          have e1 : n + P.length + Q.length + 2 = n + (P ++ (Q ++ [27, 72])).length := by simp; omega
          rw [← e1]
          simpa using own4
        clear own4
        go_roundw
        case rel => exact ⟨k + 1, by omega, by go_num, HO6, b4, k4⟩
        case measure => simp [intOf]; omega
    · obtain rfl : k = m := by omega
      go_wp2
      go_ret
      exact ⟨_, rfl, hO.out, hb, Lib.OthersKept.trans k0 hkp⟩
end Go.Proofs.YtknkbihjboadjaaDoor
