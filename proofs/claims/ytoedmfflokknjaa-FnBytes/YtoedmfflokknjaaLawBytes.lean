/-
  For every code of bytes the law FnBytes returns true: whatever byte a decoder hears, some character is told or more is waited for, and all that is told are characters. No condition (the law itself passes codes of more than 1048576 bytes by).
-/
import Derived.Test.YtoedmfflokknjaaRows
import Derived.Test.YtoedmfflokknjaaLawDraws
import Derived.Test.YtoedmfflokknjaaEncChar
import Derived.Deep.RegionWith
import Derived.Deep.RegionHeld3
import Derived.ShutString
import Derived.ChangeOld
namespace Go.Proofs.Ytoedmfflokknjaa
open Go.ChangeShapes Go.WideShapes Go.ChangeAt Go.RowKit
set_option linter.unusedVariables false
set_option linter.unusedSimpArgs false

theorem chB_bad : chB 65533 = true := by decide
theorem freshT_chars (b : Int) (h0 : 0 ≤ b) : ∀ c ∈ freshT b, chB c = true := by
  unfold freshT
  intro c hc
  split at hc
  · simp at hc; subst hc; unfold chB; simp; omega
  · split at hc
    · simp at hc
    · simp at hc; subst hc; exact chB_bad
theorem stepT_chars (l lo v b : Int) (h0 : 0 ≤ b) : ∀ c ∈ stepT l lo v b, chB c = true := by
  unfold stepT
  intro c hc
  split at hc
  · exact freshT_chars b h0 c hc
  · split at hc
    · rcases List.mem_cons.1 hc with h | h
      · subst h; exact chB_bad
      · exact freshT_chars b h0 c h
    · split at hc
      · simp at hc
      · split at hc
        · rename_i h; simp at hc; subst hc; exact h.1
        · simp at hc; subst hc; exact chB_bad
theorem freshT_or (b : Int) : freshT b ≠ [] ∨ 0 < freshL b := by
  unfold freshT freshL
  by_cases c1 : b < 128
  · left; simp [c1]
  · by_cases c2 : 194 ≤ b ∧ b ≤ 239
    · right
      by_cases c3 : 194 ≤ b ∧ b ≤ 223
      · simp [c3]
      · simp [c3]; rw [if_pos (by omega)]; omega
    · left; simp [c1, c2]
theorem stepT_or (l lo v b : Int) : stepT l lo v b ≠ [] ∨ 0 < stepL l lo v b := by
  unfold stepT stepL
  by_cases c1 : l = 0
  · simp only [if_pos c1, if_pos (Or.inl c1)]; exact freshT_or b
  · by_cases c2 : b < 128 ∨ 191 < b
    · left; simp [c1, c2]
    · by_cases c3 : l = 2
      · right; rw [if_neg (by omega), if_pos c3]; omega
      · left; simp only [if_neg c1, if_neg c2, if_neg c3]; split <;> simp

theorem endList_len (l lo v : Int) : (endList l lo v).length ≤ 1 := by unfold endList; split <;> simp

/-- The boxes of the law: the decoder, what StepDecoder answered. -/
structure FB (w : World) (B3 B5 : Nat) (l lo v c sl slo sv : Int) (x : Value) : Prop where
  a0 : w.cell? ⟨B3, 0, none⟩ = some (.int .i64 l)
  a1 : w.cell? ⟨B3, 1, none⟩ = some (.int .i64 lo)
  a2 : w.cell? ⟨B3, 2, none⟩ = some (.int .i64 v)
  b0 : w.cell? ⟨B5, 0, none⟩ = some (.int .i64 c)
  b1 : w.cell? ⟨B5, 1, none⟩ = some x
  b2 : w.cell? ⟨B5, 2, none⟩ = some (.int .i64 sl)
  b3 : w.cell? ⟨B5, 3, none⟩ = some (.int .i64 slo)
  b4 : w.cell? ⟨B5, 4, none⟩ = some (.int .i64 sv)
theorem FB.below {w w' : World} {B3 B5 : Nat} {l lo v c sl slo sv : Int} {x : Value} (h : FB w B3 B5 l lo v c sl slo sv x) (hb : Below w.heap.size w w') : FB w' B3 B5 l lo v c sl slo sv x :=
  ⟨cellb hb h.a0, cellb hb h.a1, cellb hb h.a2, cellb hb h.b0, cellb hb h.b1, cellb hb h.b2, cellb hb h.b3, cellb hb h.b4⟩

theorem fld_dec0 (c : Int) (x1 x2 x3 x4 : Value) (w : World) : (Instr.field 30 (.agg #[.int .i64 c, x1, x2, x3, x4]) 0).run Try.prog w = .ok (.int .i64 c) w := by kernel_rfl
theorem fld_dec1 (x0 x2 x3 x4 : Value) (a : Option Addr) (n m : Nat) (w : World) : (Instr.field 30 (.agg #[x0, .slice a n m, x2, x3, x4]) 1).run Try.prog w = .ok (.slice a n m) w := by kernel_rfl
theorem fld_bytes0 (c : Int) (x1 : Value) (w : World) : (Instr.field 35 (.agg #[.int .i64 c, x1]) 0).run Try.prog w = .ok (.int .i64 c) w := by kernel_rfl
theorem fld_ints0 (c : Int) (x1 : Value) (w : World) : (Instr.field 46 (.agg #[.int .i64 c, x1]) 0).run Try.prog w = .ok (.int .i64 c) w := by kernel_rfl
theorem fld_ints1 (x0 : Value) (a : Option Addr) (n m : Nat) (w : World) : (Instr.field 46 (.agg #[x0, .slice a n m]) 1).run Try.prog w = .ok (.slice a n m) w := by kernel_rfl

theorem keep6 {W w w' : World} {B3 B5 : Nat} {u0 u1 u2 u3 : Value} (h : Below W.heap.size W w ∧ w.cell? ⟨B3, 0, none⟩ = some u0 ∧ w.cell? ⟨B3, 1, none⟩ = some u1 ∧ w.cell? ⟨B3, 2, none⟩ = some u2 ∧ w.cell? ⟨B5, 0, none⟩ = some u3) (hb : Below w.heap.size w w') :
    Below W.heap.size W w' ∧ w'.cell? ⟨B3, 0, none⟩ = some u0 ∧ w'.cell? ⟨B3, 1, none⟩ = some u1 ∧ w'.cell? ⟨B3, 2, none⟩ = some u2 ∧ w'.cell? ⟨B5, 0, none⟩ = some u3 :=
  ⟨h.1.trans (hb.mono h.1.size), cellb hb h.2.1, cellb hb h.2.2.1, cellb hb h.2.2.2.1, cellb hb h.2.2.2.2⟩

theorem keep15 {W w w' : World} {B3 B5 B8 B9 : Nat} {u0 u1 u2 v1 v2 v3 v4 x0 x1 x2 y0 y1 lx ly : Value} {T E : List Int} (h : Below W.heap.size W w ∧ w.cell? ⟨B3, 0, none⟩ = some u0 ∧ w.cell? ⟨B3, 1, none⟩ = some u1 ∧ w.cell? ⟨B3, 2, none⟩ = some u2 ∧ w.cell? ⟨B5, 1, none⟩ = some v1 ∧ w.cell? ⟨B5, 2, none⟩ = some v2 ∧ w.cell? ⟨B5, 3, none⟩ = some v3 ∧ w.cell? ⟨B5, 4, none⟩ = some v4 ∧ w.cell? ⟨B8, 0, none⟩ = some x0 ∧ w.cell? ⟨B8, 1, none⟩ = some x1 ∧ w.cell? ⟨B8, 2, none⟩ = some x2 ∧ w.cell? ⟨B9, 0, none⟩ = some y0 ∧ w.cell? ⟨B9, 1, none⟩ = some y1 ∧ ReadAt .i64 w lx T ∧ ReadAt .i64 w ly E) (hb : Below w.heap.size w w') :
    Below W.heap.size W w' ∧ w'.cell? ⟨B3, 0, none⟩ = some u0 ∧ w'.cell? ⟨B3, 1, none⟩ = some u1 ∧ w'.cell? ⟨B3, 2, none⟩ = some u2 ∧ w'.cell? ⟨B5, 1, none⟩ = some v1 ∧ w'.cell? ⟨B5, 2, none⟩ = some v2 ∧ w'.cell? ⟨B5, 3, none⟩ = some v3 ∧ w'.cell? ⟨B5, 4, none⟩ = some v4 ∧ w'.cell? ⟨B8, 0, none⟩ = some x0 ∧ w'.cell? ⟨B8, 1, none⟩ = some x1 ∧ w'.cell? ⟨B8, 2, none⟩ = some x2 ∧ w'.cell? ⟨B9, 0, none⟩ = some y0 ∧ w'.cell? ⟨B9, 1, none⟩ = some y1 ∧ ReadAt .i64 w' lx T ∧ ReadAt .i64 w' ly E :=
  ⟨h.1.trans (hb.mono h.1.size), cellb hb h.2.1, cellb hb h.2.2.1, cellb hb h.2.2.2.1, cellb hb h.2.2.2.2.1, cellb hb h.2.2.2.2.2.1, cellb hb h.2.2.2.2.2.2.1, cellb hb h.2.2.2.2.2.2.2.1, cellb hb h.2.2.2.2.2.2.2.2.1, cellb hb h.2.2.2.2.2.2.2.2.2.1, cellb hb h.2.2.2.2.2.2.2.2.2.2.1, cellb hb h.2.2.2.2.2.2.2.2.2.2.2.1, cellb hb h.2.2.2.2.2.2.2.2.2.2.2.2.1, (h.2.2.2.2.2.2.2.2.2.2.2.2.2.1).below hb, (h.2.2.2.2.2.2.2.2.2.2.2.2.2.2).below hb⟩

set_option maxHeartbeats 4000000 in
theorem lawFB_walk (zs : List Int) (a : Option Addr) (cap : Nat) (w : World) (hv : ReadAt .u8 w (.slice a zs.length cap) zs) (hz : ∀ z ∈ zs, 0 ≤ z ∧ z ≤ 255) (hlen : zs.length ≤ 1048576) :
    Calls Try.prog 4 #[.slice a zs.length cap] w fun e w' => e = .returned (.bool true) ∧ Below w.heap.size w w' := by
  have HZ := hide hz
  clear hz
  have hle : ¬ ((1048576 : Int) < (zs.length : Int)) := by omega
  have fd0 := fld_dec0
  have fd1 := fld_dec1
  have fb0 := fld_bytes0
  have fi0 := fld_ints0
  have fi1 := fld_ints1
  go_enter Try.func4, Try.ntmps4
  go_wp2_with (first | (go_at_call 5; go_in))
  refine (drawStep_calls zs a cap _ hv HZ.out hlen).mono ?_
  rintro e w1 ⟨l, lo, v, b, rfl, h0, h1, q1⟩
  go_wp2_with fail
  refine (implStep_calls l lo v b _ h0 h1).mono ?_
  rintro e w2 ⟨x, rfl, hx, hb2⟩
  have d0 : w2.cell? ⟨w1.heap.size, 0, none⟩ = some (.int .i64 l) := cellb hb2 (by simp)
  have d1 : w2.cell? ⟨w1.heap.size, 1, none⟩ = some (.int .i64 lo) := cellb hb2 (by simp)
  have d2 : w2.cell? ⟨w1.heap.size, 2, none⟩ = some (.int .i64 v) := cellb hb2 (by simp)
  have z2 : w1.heap.size < w2.heap.size := lt_of_cell d0
  have q2 : Below w.heap.size w w2 := q1.trans (((Below.refl _ _).alloc (Nat.le_refl _) _).trans (hb2.mono (by simp)) |>.mono q1.size)
  have hx2 := hx.read
  obtain ⟨ax, cx, rfl, hxx⟩ := hx
  clear hb2 q1 hxx
  rcases dfault_cases l lo v with hf | hf
  · have eT : sdT l lo v b = stepT l lo v b := by unfold sdT; rw [if_pos hf]
    have eL : sdL l lo v b = stepL l lo v b := by unfold sdL; rw [if_pos hf]
    have eLo : sdLo l lo v b = stepLo l lo v b := by unfold sdLo; rw [if_pos hf]
    have eV : sdV l lo v b = stepV l lo v b := by unfold sdV; rw [if_pos hf]
    rw [eT] at hx2
    rw [eT, eL, eLo, eV, hf]
    have hchars := hide (stepT_chars l lo v b h0)
    have hor := hide (stepT_or l lo v b)
    have hfs := hide (step_fault l lo v b hf h0 h1)
    have hl2 := stepT_length l lo v b
    have HE := hide (And.intro eT hf)
    clear eT eL eLo eV hf
    go_wp2_with fail
    have hFB : FB (w2.alloc (.cells #[.int .i64 0, .slice ax (stepT l lo v b).length cx, .int .i64 (stepL l lo v b), .int .i64 (stepLo l lo v b), .int .i64 (stepV l lo v b)] 30)) w1.heap.size w2.heap.size l lo v 0 (stepL l lo v b) (stepLo l lo v b) (stepV l lo v b) (.slice ax (stepT l lo v b).length cx) :=
      ⟨cellb ((Below.refl _ _).alloc (Nat.le_refl _) _) d0, cellb ((Below.refl _ _).alloc (Nat.le_refl _) _) d1, cellb ((Below.refl _ _).alloc (Nat.le_refl _) _) d2, by simp, by simp, by simp, by simp, by simp⟩
    have q3 : Below w.heap.size w (w2.alloc (.cells #[.int .i64 0, .slice ax (stepT l lo v b).length cx, .int .i64 (stepL l lo v b), .int .i64 (stepLo l lo v b), .int .i64 (stepV l lo v b)] 30)) := q2.alloc q2.size _
    have hx3 : ReadAt .i64 (w2.alloc (.cells #[.int .i64 0, .slice ax (stepT l lo v b).length cx, .int .i64 (stepL l lo v b), .int .i64 (stepLo l lo v b), .int .i64 (stepV l lo v b)] 30)) (.slice ax (stepT l lo v b).length cx) (stepT l lo v b) := hx2.below ((Below.refl _ _).alloc (Nat.le_refl _) _)
    generalize (w2.alloc (.cells #[.int .i64 0, .slice ax (stepT l lo v b).length cx, .int .i64 (stepL l lo v b), .int .i64 (stepLo l lo v b), .int .i64 (stepV l lo v b)] 30)) = W3 at *
    clear hx2 d0 d1 d2 q2
    go_loopw [6] (fun i wr => ∃ k : Nat, k ≤ (stepT l lo v b).length ∧ i = .int .i64 k ∧ Below W3.heap.size W3 wr) (fun i _ => (stepT l lo v b).length - (intOf i).toNat)
    case atStart => exact ⟨0, Nat.zero_le _, rfl, Below.refl _ _⟩
    case round =>
      obtain ⟨k, hkk, rfl, hb⟩ := hrel
      have hFr := hFB.below hb
      have b1 := hFr.b1
      by_cases hlt : k < (stepT l lo v b).length
      · have hltI : (k : Int) < ((stepT l lo v b).length : Int) := by omega
        obtain ⟨g1, o1, rfl, g0⟩ := (hx3.below hb).spot k hlt
        have hc := hchars.out _ (getD_mem hlt)
        generalize (stepT l lo v b).getD k 0 = c at *
        have ec : encCode c = 0 := by unfold encCode; simp [hc]
        clear hFB hc hx3 hFr
        go_wp2_with fail
        refine (implEncodeChar_calls c _).mono ?_
        rintro e w4 ⟨x4, rfl, hx4, hb4⟩
        rw [ec]
        obtain ⟨a4, c4, rfl, hx4⟩ := hx4
        clear hx4 ec
        go_wp2
        go_roundw
        case rel => exact ⟨k + 1, by omega, by go_num, hb.trans (hb4.mono hb.size)⟩
        case measure => simp [intOf]; omega
      · have hge : ¬ ((k : Int) < ((stepT l lo v b).length : Int)) := by omega
        have hv4 := (hv.below q3).below hb
        have hx4 := hx3.below hb
        have q4 := q3.trans (hb.mono q3.size)
        clear hFB hx3 q3 hb hkk
        go_wp2_with fail
        refine (drawChar_calls zs a cap _ hv4 HZ.out hlen).mono ?_
        rintro e w5 ⟨c, rfl, q5⟩
        replace hv4 := hv4.below q5
        replace hx4 := hx4.below q5
        replace hFr := hFr.below q5
        replace q4 := q4.trans (q5.mono q4.size)
        clear q5 b1
        go_wp2_with fail
        refine (drawEnd_calls zs a cap _ hv4 HZ.out hlen).mono ?_
        rintro e w6 ⟨xl, xlo, xv, rfl, q6⟩
        replace hx4 := hx4.below q6
        replace hFr := hFr.below q6
        replace q4 := q4.trans (q6.mono q4.size)
        clear q6 hv4
        go_wp2_with fail
        refine (implEnd_calls xl xlo xv _).mono ?_
        rintro e w7 ⟨x7, rfl, hx7, q7⟩
        have e0 : w7.cell? ⟨w6.heap.size, 0, none⟩ = some (.int .i64 xl) := cellb q7 (by simp)
        have e1 : w7.cell? ⟨w6.heap.size, 1, none⟩ = some (.int .i64 xlo) := cellb q7 (by simp)
        have e2 : w7.cell? ⟨w6.heap.size, 2, none⟩ = some (.int .i64 xv) := cellb q7 (by simp)
        have r7 : Below w6.heap.size w6 w7 := ((Below.refl _ _).alloc (Nat.le_refl _) _).trans (q7.mono (by simp))
        replace hx4 := hx4.below r7
        replace hFr := hFr.below r7
        replace q4 := q4.trans (r7.mono q4.size)
        have hx7r := hx7.read
        obtain ⟨a7, c7, rfl, hx7⟩ := hx7
        clear hx7 q7 r7 hv
        have z7 : w6.heap.size < w7.heap.size := lt_of_cell e0
        go_wp2_with fail
        have k0 : Below w7.heap.size w7 (w7.alloc (.cells #[.int .i64 (dfault xl xlo xv), .slice a7 (endList xl xlo xv).length c7] 46)) := (Below.refl _ _).alloc (Nat.le_refl _) _
        have m0 := cellb k0 hFr.a0
        have m1 := cellb k0 hFr.a1
        have m2 := cellb k0 hFr.a2
        have m3 := cellb k0 hFr.b1
        have m4 := cellb k0 hFr.b2
        have m5 := cellb k0 hFr.b3
        have m6 := cellb k0 hFr.b4
        have m7 := cellb k0 e0
        have m8 := cellb k0 e1
        have m9 := cellb k0 e2
        have m10 : (w7.alloc (.cells #[.int .i64 (dfault xl xlo xv), .slice a7 (endList xl xlo xv).length c7] 46)).cell? ⟨w7.heap.size, 0, none⟩ = some (.int .i64 (dfault xl xlo xv)) := by simp
        have m11 : (w7.alloc (.cells #[.int .i64 (dfault xl xlo xv), .slice a7 (endList xl xlo xv).length c7] 46)).cell? ⟨w7.heap.size, 1, none⟩ = some (.slice a7 (endList xl xlo xv).length c7) := by simp
        have m12 := hx4.below k0
        have m13 := hx7r.below k0
        have q8 := q4.alloc q4.size (.cells #[.int .i64 (dfault xl xlo xv), .slice a7 (endList xl xlo xv).length c7] 46)
        generalize (w7.alloc (.cells #[.int .i64 (dfault xl xlo xv), .slice a7 (endList xl xlo xv).length c7] 46)) = W8 at *
        clear hFr e0 e1 e2 hx4 hx7r q4 k0 z7
        have hlE : (endList xl xlo xv).length ≤ 1 := endList_len xl xlo xv
        have fdN : (dfault xl xlo xv == dfault xl xlo xv) = true := by simp
        have fcN : (encCode c == encCode c) = true := by simp
        by_cases hnil : 0 < (stepT l lo v b).length
        · have hnI : (0 : Int) < ((stepT l lo v b).length : Int) := by omega
          have hd0 : decide ((0 : Int) < ((stepT l lo v b).length : Int)) = true := decide_eq_true hnI
          have h2I : ((stepT l lo v b).length : Int) ≤ 2 := by omega
          refine wp_region_held_drew (S := (fun w' => Below W8.heap.size W8 w' ∧ w'.cell? ⟨w1.heap.size, 0, none⟩ = some (.int .i64 l) ∧ w'.cell? ⟨w1.heap.size, 1, none⟩ = some (.int .i64 lo) ∧ w'.cell? ⟨w1.heap.size, 2, none⟩ = some (.int .i64 v) ∧ w'.cell? ⟨w2.heap.size, 1, none⟩ = some (.slice ax (stepT l lo v b).length cx) ∧ w'.cell? ⟨w2.heap.size, 2, none⟩ = some (.int .i64 (stepL l lo v b)) ∧ w'.cell? ⟨w2.heap.size, 3, none⟩ = some (.int .i64 (stepLo l lo v b)) ∧ w'.cell? ⟨w2.heap.size, 4, none⟩ = some (.int .i64 (stepV l lo v b)) ∧ w'.cell? ⟨w6.heap.size, 0, none⟩ = some (.int .i64 xl) ∧ w'.cell? ⟨w6.heap.size, 1, none⟩ = some (.int .i64 xlo) ∧ w'.cell? ⟨w6.heap.size, 2, none⟩ = some (.int .i64 xv) ∧ w'.cell? ⟨w7.heap.size, 0, none⟩ = some (.int .i64 (dfault xl xlo xv)) ∧ w'.cell? ⟨w7.heap.size, 1, none⟩ = some (.slice a7 (endList xl xlo xv).length c7) ∧ ReadAt .i64 w' (.slice ax (stepT l lo v b).length cx) (stepT l lo v b) ∧ ReadAt .i64 w' (.slice a7 (endList xl xlo xv).length c7) (endList xl xlo xv))) (by kernel_rfl) ?_ (fun hHeld => ?_)
          · (try dsimp only); exact ⟨Below.drew (Below.refl _ W8), m0, m1, m2, m3, m4, m5, m6, m7, m8, m9, m10, m11, m12, m13⟩
          refine wpAnyH_take (i := 0) (oi := ⟨_, _, _, _, _, _⟩) (v := ?_) rfl (by kernel_rfl) (by kernel_rfl) (by kernel_rfl) (fun _ _ _ h => h) (Or.inl ⟨by rfl, ?_⟩) hHeld ?_
          rotate_left
          · (intro w hSw; (try dsimp only at hSw); go_simp; try (with_reducible rfl))
          try simp only [Act.put, List.setIfInBounds_toArray, List.set_cons_zero, List.set_cons_succ]
          refine wpAnyH_take (i := 1) (oi := ⟨_, _, _, _, _, _⟩) (v := ?_) rfl (by kernel_rfl) (by kernel_rfl) (by kernel_rfl) (fun _ _ _ h => h) (Or.inl ⟨by rfl, ?_⟩) hHeld ?_
          rotate_left
          · (intro w hSw; (try dsimp only at hSw); go_simp; try (with_reducible rfl))
          try simp only [Act.put, List.setIfInBounds_toArray, List.set_cons_zero, List.set_cons_succ]
          refine wpAnyH_take (i := 2) (oi := ⟨_, _, _, _, _, _⟩) (v := ?_) rfl (by kernel_rfl) (by kernel_rfl) (by kernel_rfl) (fun _ _ _ h => h) (Or.inl ⟨by rfl, ?_⟩) hHeld ?_
          rotate_left
          · (intro w hSw; (try dsimp only at hSw); go_simp; try (with_reducible rfl))
          try simp only [Act.put, List.setIfInBounds_toArray, List.set_cons_zero, List.set_cons_succ]
          refine wpAnyH_take (i := 3) (oi := ⟨_, _, _, _, _, _⟩) (v := ?_) rfl (by kernel_rfl) (by kernel_rfl) (by kernel_rfl) (fun _ _ _ h => h) (Or.inl ⟨by rfl, ?_⟩) hHeld ?_
          rotate_left
          · (intro w hSw; (try dsimp only at hSw); go_simp; try (with_reducible rfl))
          try simp only [Act.put, List.setIfInBounds_toArray, List.set_cons_zero, List.set_cons_succ]
          refine wpAnyH_take (i := 4) (oi := ⟨_, _, _, _, _, _⟩) (v := ?_) rfl (by kernel_rfl) (by kernel_rfl) (by kernel_rfl) (fun _ _ _ h => h) (Or.inl ⟨by rfl, ?_⟩) hHeld ?_
          rotate_left
          · (intro w hSw; (try dsimp only at hSw); go_simp; try (with_reducible rfl))
          try simp only [Act.put, List.setIfInBounds_toArray, List.set_cons_zero, List.set_cons_succ]
          refine wpAnyH_take (i := 5) (oi := ⟨_, _, _, _, _, _⟩) (v := undef) rfl (by kernel_rfl) (by kernel_rfl) (by kernel_rfl) (fun _ _ _ h => h) (Or.inr ⟨by rfl, rfl⟩) hHeld ?_
          try simp only [Act.put, List.setIfInBounds_toArray, List.set_cons_zero, List.set_cons_succ]
          refine wpAnyH_take (i := 6) (oi := ⟨_, _, _, _, _, _⟩) (v := undef) rfl (by kernel_rfl) (by kernel_rfl) (by kernel_rfl) (fun _ _ _ h => h) (Or.inr ⟨by rfl, rfl⟩) hHeld ?_
          try simp only [Act.put, List.setIfInBounds_toArray, List.set_cons_zero, List.set_cons_succ]
          refine wpAnyH_take (i := 7) (oi := ⟨_, _, _, _, _, _⟩) (v := undef) rfl (by kernel_rfl) (by kernel_rfl) (by kernel_rfl) (fun _ _ _ h => h) (Or.inr ⟨by rfl, rfl⟩) hHeld ?_
          try simp only [Act.put, List.setIfInBounds_toArray, List.set_cons_zero, List.set_cons_succ]
          refine wpAnyH_take (i := 8) (oi := ⟨_, _, _, _, _, _⟩) (v := undef) rfl (by kernel_rfl) (by kernel_rfl) (by kernel_rfl) (fun _ _ _ h => h) (Or.inr ⟨by rfl, rfl⟩) hHeld ?_
          try simp only [Act.put, List.setIfInBounds_toArray, List.set_cons_zero, List.set_cons_succ]
          refine wpAnyH_take (i := 9) (oi := ⟨_, _, _, _, _, _⟩) (v := ?_) rfl (by kernel_rfl) (by kernel_rfl) (by kernel_rfl) (fun _ _ _ h => h) (Or.inl ⟨by rfl, ?_⟩) hHeld ?_
          rotate_left
          · (intro w hSw; (try dsimp only at hSw); go_simp; try (with_reducible rfl))
          try simp only [Act.put, List.setIfInBounds_toArray, List.set_cons_zero, List.set_cons_succ]
          refine wpAnyH_take (i := 10) (oi := ⟨_, _, _, _, _, _⟩) (v := ?_) rfl (by kernel_rfl) (by kernel_rfl) (by kernel_rfl) (fun _ _ _ h => h) (Or.inl ⟨by rfl, ?_⟩) hHeld ?_
          rotate_left
          · (intro w hSw; (try dsimp only at hSw); go_simp; try (with_reducible rfl))
          try simp only [Act.put, List.setIfInBounds_toArray, List.set_cons_zero, List.set_cons_succ]
          refine wpAnyH_take (i := 11) (oi := ⟨_, _, _, _, _, _⟩) (v := ?_) rfl (by kernel_rfl) (by kernel_rfl) (by kernel_rfl) (fun _ _ _ h => h) (Or.inl ⟨by rfl, ?_⟩) hHeld ?_
          rotate_left
          · (intro w hSw; (try dsimp only at hSw); go_simp; try (with_reducible rfl))
          try simp only [Act.put, List.setIfInBounds_toArray, List.set_cons_zero, List.set_cons_succ]
          refine wpAnyH_take (i := 12) (oi := ⟨_, _, _, _, _, _⟩) (v := ?_) rfl (by kernel_rfl) (by kernel_rfl) (by kernel_rfl) (fun _ _ _ h => h) (Or.inl ⟨by rfl, ?_⟩) hHeld ?_
          rotate_left
          · (intro w hSw; (try dsimp only at hSw); go_simp; try (with_reducible rfl))
          try simp only [Act.put, List.setIfInBounds_toArray, List.set_cons_zero, List.set_cons_succ]
          refine wpAnyH_take (i := 13) (oi := ⟨_, _, _, _, _, _⟩) (v := ?_) rfl (by kernel_rfl) (by kernel_rfl) (by kernel_rfl) (fun _ _ _ h => h) (Or.inl ⟨by rfl, ?_⟩) hHeld ?_
          rotate_left
          · (intro w hSw; (try dsimp only at hSw); go_simp; try (with_reducible rfl))
          try simp only [Act.put, List.setIfInBounds_toArray, List.set_cons_zero, List.set_cons_succ]
          refine wpAnyH_take (i := 14) (oi := ⟨_, _, _, _, _, _⟩) (v := ?_) rfl (by kernel_rfl) (by kernel_rfl) (by kernel_rfl) (fun _ _ _ h => h) (Or.inl ⟨by rfl, ?_⟩) hHeld ?_
          rotate_left
          · (intro w hSw; (try dsimp only at hSw); go_simp; try (with_reducible rfl))
          try simp only [Act.put, List.setIfInBounds_toArray, List.set_cons_zero, List.set_cons_succ]
          refine wpAnyH_take (i := 15) (oi := ⟨_, _, _, _, _, _⟩) (v := ?_) rfl (by kernel_rfl) (by kernel_rfl) (by kernel_rfl) (fun _ _ _ h => h) (Or.inl ⟨by rfl, ?_⟩) hHeld ?_
          rotate_left
          · (intro w hSw; (try dsimp only at hSw); go_simp; try (with_reducible rfl))
          try simp only [Act.put, List.setIfInBounds_toArray, List.set_cons_zero, List.set_cons_succ]
          refine wpAnyH_take (i := 16) (oi := ⟨_, _, _, _, _, _⟩) (v := ?_) rfl (by kernel_rfl) (by kernel_rfl) (by kernel_rfl) (fun _ _ _ h => h) (Or.inl ⟨by rfl, ?_⟩) hHeld ?_
          rotate_left
          · (intro w hSw; (try dsimp only at hSw); go_simp; try (with_reducible rfl))
          try simp only [Act.put, List.setIfInBounds_toArray, List.set_cons_zero, List.set_cons_succ]
          refine wpAnyH_take (i := 17) (oi := ⟨_, _, _, _, _, _⟩) (v := ?_) rfl (by kernel_rfl) (by kernel_rfl) (by kernel_rfl) (fun _ _ _ h => h) (Or.inl ⟨by rfl, ?_⟩) hHeld ?_
          rotate_left
          · (intro w hSw; (try dsimp only at hSw); go_simp; try (with_reducible rfl))
          try simp only [Act.put, List.setIfInBounds_toArray, List.set_cons_zero, List.set_cons_succ]
          refine wpAnyH_take (i := 18) (oi := ⟨_, _, _, _, _, _⟩) (v := ?_) rfl (by kernel_rfl) (by kernel_rfl) (by kernel_rfl) (fun _ _ _ h => h) (Or.inl ⟨by rfl, ?_⟩) hHeld ?_
          rotate_left
          · (intro w hSw; (try dsimp only at hSw); go_simp; try (with_reducible rfl))
          try simp only [Act.put, List.setIfInBounds_toArray, List.set_cons_zero, List.set_cons_succ]
          refine wpAnyH_ready (rs := [19]) (by kernel_rfl) (by simp) ?_
          refine AllReadyH.cons (o := ⟨_, _, _, _, _, _⟩) rfl (fun K hK => ?_) AllReadyH.nil
          go_simp
          go_at_call 14
          refine (implFault_calls (stepL l lo v b) (stepLo l lo v b) (stepV l lo v b) _).mono ?_
          rintro e w9 ⟨rfl, hb9⟩
          rw [hfs.out]
          try go_wp2_with fail
          refine hK.out _ _ ?_ ?_
          · (try dsimp only); exact keep15 hHeld (by assumption)
          clear hHeld hK K
          intro hHeld
          try simp only [Act.put, List.setIfInBounds_toArray, List.set_cons_zero, List.set_cons_succ]
          refine wpAnyH_take (i := 20) (oi := ⟨_, _, _, _, _, _⟩) (v := ?_) rfl (by kernel_rfl) (by kernel_rfl) (by kernel_rfl) (fun _ _ _ h => h) (Or.inl ⟨by rfl, ?_⟩) hHeld ?_
          rotate_left
          · (intro w hSw; (try dsimp only at hSw); go_simp; try (with_reducible rfl))
          try simp only [Act.put, List.setIfInBounds_toArray, List.set_cons_zero, List.set_cons_succ]
          refine wpAnyH_take (i := 21) (oi := ⟨_, _, _, _, _, _⟩) (v := ?_) rfl (by kernel_rfl) (by kernel_rfl) (by kernel_rfl) (fun _ _ _ h => h) (Or.inl ⟨by rfl, ?_⟩) hHeld ?_
          rotate_left
          · (intro w hSw; (try dsimp only at hSw); go_simp; try (with_reducible rfl))
          try simp only [Act.put, List.setIfInBounds_toArray, List.set_cons_zero, List.set_cons_succ]
          refine wpAnyH_take (i := 22) (oi := ⟨_, _, _, _, _, _⟩) (v := ?_) rfl (by kernel_rfl) (by kernel_rfl) (by kernel_rfl) (fun _ _ _ h => h) (Or.inl ⟨by rfl, ?_⟩) hHeld ?_
          rotate_left
          · (intro w hSw; (try dsimp only at hSw); go_simp; try (with_reducible rfl))
          try simp only [Act.put, List.setIfInBounds_toArray, List.set_cons_zero, List.set_cons_succ]
          refine wpAnyH_take (i := 23) (oi := ⟨_, _, _, _, _, _⟩) (v := ?_) rfl (by kernel_rfl) (by kernel_rfl) (by kernel_rfl) (fun _ _ _ h => h) (Or.inl ⟨by rfl, ?_⟩) hHeld ?_
          rotate_left
          · (intro w hSw; (try dsimp only at hSw); go_simp; try (with_reducible rfl))
          try simp only [Act.put, List.setIfInBounds_toArray, List.set_cons_zero, List.set_cons_succ]
          refine wpAnyH_take (i := 26) (oi := ⟨_, _, _, _, _, _⟩) (v := ?_) rfl (by kernel_rfl) (by kernel_rfl) (by kernel_rfl) (fun _ _ _ h => h) (Or.inl ⟨by rfl, ?_⟩) hHeld ?_
          rotate_left
          · (intro w hSw; (try dsimp only at hSw); go_simp; try (with_reducible rfl))
          try simp only [Act.put, List.setIfInBounds_toArray, List.set_cons_zero, List.set_cons_succ]
          refine wpAnyH_ready (rs := [24]) (by kernel_rfl) (by simp) ?_
          refine AllReadyH.cons (o := ⟨_, _, _, _, _, _⟩) rfl (fun K hK => ?_) AllReadyH.nil
          go_simp
          go_at_call 18
          refine (implEncodeChar_calls c _).mono ?_
          rintro e w9 ⟨x9, rfl, hx9, hb9⟩
          obtain ⟨a9, c9, rfl, hx9⟩ := hx9
          clear hx9
          try go_wp2_with fail
          refine hK.out _ _ ?_ ?_
          · (try dsimp only); exact keep15 hHeld (by assumption)
          clear hHeld hK K
          intro hHeld
          try simp only [Act.put, List.setIfInBounds_toArray, List.set_cons_zero, List.set_cons_succ]
          refine wpAnyH_take (i := 25) (oi := ⟨_, _, _, _, _, _⟩) (v := ?_) rfl (by kernel_rfl) (by kernel_rfl) (by kernel_rfl) (fun _ _ _ h => h) (Or.inl ⟨by rfl, ?_⟩) hHeld ?_
          rotate_left
          · (intro w hSw; (try dsimp only at hSw); go_simp; try (with_reducible rfl))
          try simp only [Act.put, List.setIfInBounds_toArray, List.set_cons_zero, List.set_cons_succ]
          refine wpAnyH_ready (rs := [27]) (by kernel_rfl) (by simp) ?_
          refine AllReadyH.cons (o := ⟨_, _, _, _, _, _⟩) rfl (fun K hK => ?_) AllReadyH.nil
          go_simp
          go_at_call 22
          refine (specEncodeChar_calls c _).mono ?_
          rintro e w9 ⟨x9, rfl, hx9, hb9⟩
          obtain ⟨a9, c9, rfl, hx9⟩ := hx9
          clear hx9
          try go_wp2_with fail
          refine hK.out _ _ ?_ ?_
          · (try dsimp only); exact keep15 hHeld (by assumption)
          clear hHeld hK K
          intro hHeld
          try simp only [Act.put, List.setIfInBounds_toArray, List.set_cons_zero, List.set_cons_succ]
          refine wpAnyH_take (i := 28) (oi := ⟨_, _, _, _, _, _⟩) (v := ?_) rfl (by kernel_rfl) (by kernel_rfl) (by kernel_rfl) (fun _ _ _ h => h) (Or.inl ⟨by rfl, ?_⟩) hHeld ?_
          rotate_left
          · (intro w hSw; (try dsimp only at hSw); go_simp; try (with_reducible rfl))
          try simp only [Act.put, List.setIfInBounds_toArray, List.set_cons_zero, List.set_cons_succ]
          refine wpAnyH_take (i := 29) (oi := ⟨_, _, _, _, _, _⟩) (v := ?_) rfl (by kernel_rfl) (by kernel_rfl) (by kernel_rfl) (fun _ _ _ h => h) (Or.inl ⟨by rfl, ?_⟩) hHeld ?_
          rotate_left
          · (intro w hSw; (try dsimp only at hSw); go_simp; try (with_reducible rfl))
          try simp only [Act.put, List.setIfInBounds_toArray, List.set_cons_zero, List.set_cons_succ]
          refine wpAnyH_take (i := 30) (oi := ⟨_, _, _, _, _, _⟩) (v := ?_) rfl (by kernel_rfl) (by kernel_rfl) (by kernel_rfl) (fun _ _ _ h => h) (Or.inl ⟨by rfl, ?_⟩) hHeld ?_
          rotate_left
          · (intro w hSw; (try dsimp only at hSw); go_simp; try (with_reducible rfl))
          try simp only [Act.put, List.setIfInBounds_toArray, List.set_cons_zero, List.set_cons_succ]
          refine wpAnyH_take (i := 31) (oi := ⟨_, _, _, _, _, _⟩) (v := ?_) rfl (by kernel_rfl) (by kernel_rfl) (by kernel_rfl) (fun _ _ _ h => h) (Or.inl ⟨by rfl, ?_⟩) hHeld ?_
          rotate_left
          · (intro w hSw; (try dsimp only at hSw); go_simp; try (with_reducible rfl))
          try simp only [Act.put, List.setIfInBounds_toArray, List.set_cons_zero, List.set_cons_succ]
          refine wpAnyH_take (i := 32) (oi := ⟨_, _, _, _, _, _⟩) (v := ?_) rfl (by kernel_rfl) (by kernel_rfl) (by kernel_rfl) (fun _ _ _ h => h) (Or.inl ⟨by rfl, ?_⟩) hHeld ?_
          rotate_left
          · (intro w hSw; (try dsimp only at hSw); go_simp; try (with_reducible rfl))
          try simp only [Act.put, List.setIfInBounds_toArray, List.set_cons_zero, List.set_cons_succ]
          refine wpAnyH_take (i := 33) (oi := ⟨_, _, _, _, _, _⟩) (v := ?_) rfl (by kernel_rfl) (by kernel_rfl) (by kernel_rfl) (fun _ _ _ h => h) (Or.inl ⟨by rfl, ?_⟩) hHeld ?_
          rotate_left
          · (intro w hSw; (try dsimp only at hSw); go_simp; try (with_reducible rfl))
          try simp only [Act.put, List.setIfInBounds_toArray, List.set_cons_zero, List.set_cons_succ]
          refine wpAnyH_take (i := 34) (oi := ⟨_, _, _, _, _, _⟩) (v := ?_) rfl (by kernel_rfl) (by kernel_rfl) (by kernel_rfl) (fun _ _ _ h => h) (Or.inl ⟨by rfl, ?_⟩) hHeld ?_
          rotate_left
          · (intro w hSw; (try dsimp only at hSw); go_simp; try (with_reducible rfl))
          try simp only [Act.put, List.setIfInBounds_toArray, List.set_cons_zero, List.set_cons_succ]
          refine wpAnyH_ready (rs := [35]) (by kernel_rfl) (by simp) ?_
          refine AllReadyH.cons (o := ⟨_, _, _, _, _, _⟩) rfl (fun K hK => ?_) AllReadyH.nil
          go_simp
          go_at_call 23
          refine (specEnd_calls xl xlo xv _).mono ?_
          rintro e w9 ⟨x9, rfl, hx9, hb9⟩
          obtain ⟨a9, c9, rfl, hx9⟩ := hx9
          clear hx9
          try go_wp2_with fail
          refine hK.out _ _ ?_ ?_
          · (try dsimp only); exact keep15 hHeld (by assumption)
          clear hHeld hK K
          intro hHeld
          try simp only [Act.put, List.setIfInBounds_toArray, List.set_cons_zero, List.set_cons_succ]
          refine wpAnyH_take (i := 36) (oi := ⟨_, _, _, _, _, _⟩) (v := ?_) rfl (by kernel_rfl) (by kernel_rfl) (by kernel_rfl) (fun _ _ _ h => h) (Or.inl ⟨by rfl, ?_⟩) hHeld ?_
          rotate_left
          · (intro w hSw; (try dsimp only at hSw); go_simp; try (with_reducible rfl))
          try simp only [Act.put, List.setIfInBounds_toArray, List.set_cons_zero, List.set_cons_succ]
          refine wpAnyH_take (i := 37) (oi := ⟨_, _, _, _, _, _⟩) (v := ?_) rfl (by kernel_rfl) (by kernel_rfl) (by kernel_rfl) (fun _ _ _ h => h) (Or.inl ⟨by rfl, ?_⟩) hHeld ?_
          rotate_left
          · (intro w hSw; (try dsimp only at hSw); go_simp; try (with_reducible rfl))
          try simp only [Act.put, List.setIfInBounds_toArray, List.set_cons_zero, List.set_cons_succ]
          refine wpAnyH_take (i := 38) (oi := ⟨_, _, _, _, _, _⟩) (v := ?_) rfl (by kernel_rfl) (by kernel_rfl) (by kernel_rfl) (fun _ _ _ h => h) (Or.inl ⟨by rfl, ?_⟩) hHeld ?_
          rotate_left
          · (intro w hSw; (try dsimp only at hSw); go_simp; try (with_reducible rfl))
          try simp only [Act.put, List.setIfInBounds_toArray, List.set_cons_zero, List.set_cons_succ]
          refine wpAnyH_take (i := 39) (oi := ⟨_, _, _, _, _, _⟩) (v := ?_) rfl (by kernel_rfl) (by kernel_rfl) (by kernel_rfl) (fun _ _ _ h => h) (Or.inl ⟨by rfl, ?_⟩) hHeld ?_
          rotate_left
          · (intro w hSw; (try dsimp only at hSw); go_simp; try (with_reducible rfl))
          try simp only [Act.put, List.setIfInBounds_toArray, List.set_cons_zero, List.set_cons_succ]
          refine wpAnyH_take (i := 40) (oi := ⟨_, _, _, _, _, _⟩) (v := ?_) rfl (by kernel_rfl) (by kernel_rfl) (by kernel_rfl) (fun _ _ _ h => h) (Or.inl ⟨by rfl, ?_⟩) hHeld ?_
          rotate_left
          · (intro w hSw; (try dsimp only at hSw); go_simp; try (with_reducible rfl))
          try simp only [Act.put, List.setIfInBounds_toArray, List.set_cons_zero, List.set_cons_succ]
          refine wpAnyH_take (i := 41) (oi := ⟨_, _, _, _, _, _⟩) (v := ?_) rfl (by kernel_rfl) (by kernel_rfl) (by kernel_rfl) (fun _ _ _ h => h) (Or.inl ⟨by rfl, ?_⟩) hHeld ?_
          rotate_left
          · (intro w hSw; (try dsimp only at hSw); go_simp; try (with_reducible rfl))
          try simp only [Act.put, List.setIfInBounds_toArray, List.set_cons_zero, List.set_cons_succ]
          refine wpAnyH_take (i := 42) (oi := ⟨_, _, _, _, _, _⟩) (v := ?_) rfl (by kernel_rfl) (by kernel_rfl) (by kernel_rfl) (fun _ _ _ h => h) (Or.inl ⟨by rfl, ?_⟩) hHeld ?_
          rotate_left
          · (intro w hSw; (try dsimp only at hSw); go_simp; try (with_reducible rfl))
          try simp only [Act.put, List.setIfInBounds_toArray, List.set_cons_zero, List.set_cons_succ]
          refine wpAnyH_ready (rs := [43]) (by kernel_rfl) (by simp) ?_
          refine AllReadyH.cons (o := ⟨_, _, _, _, _, _⟩) rfl (fun K hK => ?_) AllReadyH.nil
          go_simp
          go_at_call 23
          refine (specEnd_calls xl xlo xv _).mono ?_
          rintro e w9 ⟨x9, rfl, hx9, hb9⟩
          have hr9 := hx9.read
          obtain ⟨a9, c9, rfl, hx9⟩ := hx9
          clear hx9
          try go_wp2_with fail
          refine hK.out _ _ ?_ ?_
          · (try dsimp only); exact keep15 hHeld (by assumption)
          clear hHeld hK K
          intro hHeld
          try simp only [Act.put, List.setIfInBounds_toArray, List.set_cons_zero, List.set_cons_succ]
          refine wpAnyH_take (i := 44) (oi := ⟨_, _, _, _, _, _⟩) (v := ?_) rfl (by kernel_rfl) (by kernel_rfl) (by kernel_rfl) (fun _ _ _ h => h) (Or.inl ⟨by rfl, ?_⟩) hHeld ?_
          rotate_left
          · (intro w hSw; (try dsimp only at hSw); go_simp; try (with_reducible rfl))
          try simp only [Act.put, List.setIfInBounds_toArray, List.set_cons_zero, List.set_cons_succ]
          refine wpAnyH_ready (rs := [45]) (by kernel_rfl) (by simp) ?_
          refine AllReadyH.cons (o := ⟨_, _, _, _, _, _⟩) rfl (fun K hK => ?_) AllReadyH.nil
          go_simp
          go_at_call 13
          refine (lwNums_below (endList xl xlo xv) _ _ _ (by omega) (hHeld.2.2.2.2.2.2.2.2.2.2.2.2.2.2) hr9).mono ?_
          rintro e w9 ⟨rfl, hb9⟩
          clear hr9
          try go_wp2_with fail
          refine hK.out _ _ ?_ ?_
          · (try dsimp only); exact keep15 hHeld (by assumption)
          clear hHeld hK K
          intro hHeld
          try simp only [Act.put, List.setIfInBounds_toArray, List.set_cons_zero, List.set_cons_succ]
          refine wpAnyH_take (i := 46) (oi := ⟨_, _, _, _, _, _⟩) (v := ?_) rfl (by kernel_rfl) (by kernel_rfl) (by kernel_rfl) (fun _ _ _ h => h) (Or.inl ⟨by rfl, ?_⟩) hHeld ?_
          rotate_left
          · (intro w hSw; (try dsimp only at hSw); go_simp; try (with_reducible rfl))
          try simp only [Act.put, List.setIfInBounds_toArray, List.set_cons_zero, List.set_cons_succ]
          refine wpAnyH_take (i := 47) (oi := ⟨_, _, _, _, _, _⟩) (v := ?_) rfl (by kernel_rfl) (by kernel_rfl) (by kernel_rfl) (fun _ _ _ h => h) (Or.inl ⟨by rfl, ?_⟩) hHeld ?_
          rotate_left
          · (intro w hSw; (try dsimp only at hSw); go_simp; try (with_reducible rfl))
          try simp only [Act.put, List.setIfInBounds_toArray, List.set_cons_zero, List.set_cons_succ]
          refine wpAnyH_take (i := 48) (oi := ⟨_, _, _, _, _, _⟩) (v := ?_) rfl (by kernel_rfl) (by kernel_rfl) (by kernel_rfl) (fun _ _ _ h => h) (Or.inl ⟨by rfl, ?_⟩) hHeld ?_
          rotate_left
          · (intro w hSw; (try dsimp only at hSw); go_simp; try (with_reducible rfl))
          try simp only [Act.put, List.setIfInBounds_toArray, List.set_cons_zero, List.set_cons_succ]
          refine wpAnyH_take (i := 49) (oi := ⟨_, _, _, _, _, _⟩) (v := ?_) rfl (by kernel_rfl) (by kernel_rfl) (by kernel_rfl) (fun _ _ _ h => h) (Or.inl ⟨by rfl, ?_⟩) hHeld ?_
          rotate_left
          · (intro w hSw; (try dsimp only at hSw); go_simp; try (with_reducible rfl))
          try simp only [Act.put, List.setIfInBounds_toArray, List.set_cons_zero, List.set_cons_succ]
          refine wpAnyH_take (i := 50) (oi := ⟨_, _, _, _, _, _⟩) (v := ?_) rfl (by kernel_rfl) (by kernel_rfl) (by kernel_rfl) (fun _ _ _ h => h) (Or.inl ⟨by rfl, ?_⟩) hHeld ?_
          rotate_left
          · (intro w hSw; (try dsimp only at hSw); go_simp; try (with_reducible rfl))
          try simp only [Act.put, List.setIfInBounds_toArray, List.set_cons_zero, List.set_cons_succ]
          refine wpAnyH_take (i := 51) (oi := ⟨_, _, _, _, _, _⟩) (v := ?_) rfl (by kernel_rfl) (by kernel_rfl) (by kernel_rfl) (fun _ _ _ h => h) (Or.inl ⟨by rfl, ?_⟩) hHeld ?_
          rotate_left
          · (intro w hSw; (try dsimp only at hSw); go_simp; try (with_reducible rfl))
          try simp only [Act.put, List.setIfInBounds_toArray, List.set_cons_zero, List.set_cons_succ]
          refine wpAnyH_ready (rs := [52]) (by kernel_rfl) (by simp) ?_
          refine AllReadyH.cons (o := ⟨_, _, _, _, _, _⟩) rfl (fun K hK => ?_) AllReadyH.nil
          go_simp
          go_at_call 17
          refine (specStep_calls l lo v b _ h0 h1).mono ?_
          rintro e w9 ⟨x9, rfl, hx9, hb9⟩
          rw [HE.out.1] at hx9
          have hr9 := hx9.read
          obtain ⟨a9, c9, rfl, hx9⟩ := hx9
          clear hx9
          try go_wp2_with fail
          refine hK.out _ _ ?_ ?_
          · (try dsimp only); exact keep15 hHeld (by assumption)
          clear hHeld hK K
          intro hHeld
          try simp only [Act.put, List.setIfInBounds_toArray, List.set_cons_zero, List.set_cons_succ]
          refine wpAnyH_take (i := 53) (oi := ⟨_, _, _, _, _, _⟩) (v := ?_) rfl (by kernel_rfl) (by kernel_rfl) (by kernel_rfl) (fun _ _ _ h => h) (Or.inl ⟨by rfl, ?_⟩) hHeld ?_
          rotate_left
          · (intro w hSw; (try dsimp only at hSw); go_simp; try (with_reducible rfl))
          try simp only [Act.put, List.setIfInBounds_toArray, List.set_cons_zero, List.set_cons_succ]
          refine wpAnyH_ready (rs := [54]) (by kernel_rfl) (by simp) ?_
          refine AllReadyH.cons (o := ⟨_, _, _, _, _, _⟩) rfl (fun K hK => ?_) AllReadyH.nil
          go_simp
          go_at_call 13
          refine (lwNums_below (stepT l lo v b) _ _ _ (by omega) (hHeld.2.2.2.2.2.2.2.2.2.2.2.2.2.1) hr9).mono ?_
          rintro e w9 ⟨rfl, hb9⟩
          clear hr9
          try go_wp2_with fail
          refine hK.out _ _ ?_ ?_
          · (try dsimp only); exact keep15 hHeld (by assumption)
          clear hHeld hK K
          intro hHeld
          try simp only [Act.put, List.setIfInBounds_toArray, List.set_cons_zero, List.set_cons_succ]
          refine wpAnyH_take (i := 55) (oi := ⟨_, _, _, _, _, _⟩) (v := ?_) rfl (by kernel_rfl) (by kernel_rfl) (by kernel_rfl) (fun _ _ _ h => h) (Or.inl ⟨by rfl, ?_⟩) hHeld ?_
          rotate_left
          · (intro w hSw; (try dsimp only at hSw); go_simp; try (with_reducible rfl))
          try simp only [Act.put, List.setIfInBounds_toArray, List.set_cons_zero, List.set_cons_succ]
          refine wpAnyH_take (i := 56) (oi := ⟨_, _, _, _, _, _⟩) (v := ?_) rfl (by kernel_rfl) (by kernel_rfl) (by kernel_rfl) (fun _ _ _ h => h) (Or.inl ⟨by rfl, ?_⟩) hHeld ?_
          rotate_left
          · (intro w hSw; (try dsimp only at hSw); go_simp; try (with_reducible rfl))
          try simp only [Act.put, List.setIfInBounds_toArray, List.set_cons_zero, List.set_cons_succ]
          refine wpAnyH_done (by kernel_rfl) ?_ _
          go_wp2
          go_ret
          exact ⟨rfl, q8.trans (hHeld.1.mono q8.size)⟩
        · have hnI : ¬ ((0 : Int) < ((stepT l lo v b).length : Int)) := by omega
          have hd0 : decide ((0 : Int) < ((stepT l lo v b).length : Int)) = false := decide_eq_false hnI
          have hLpos : 0 < stepL l lo v b := by
            rcases hor.out with h | h
            · exact absurd (List.length_eq_zero_iff.1 (by omega)) h
            · exact h
          have h2I : ((stepT l lo v b).length : Int) ≤ 2 := by omega
          go_region_held3 (fun w' => Below W8.heap.size W8 w' ∧ w'.cell? ⟨w1.heap.size, 0, none⟩ = some (.int .i64 l) ∧ w'.cell? ⟨w1.heap.size, 1, none⟩ = some (.int .i64 lo) ∧ w'.cell? ⟨w1.heap.size, 2, none⟩ = some (.int .i64 v) ∧ w'.cell? ⟨w2.heap.size, 1, none⟩ = some (.slice ax (stepT l lo v b).length cx) ∧ w'.cell? ⟨w2.heap.size, 2, none⟩ = some (.int .i64 (stepL l lo v b)) ∧ w'.cell? ⟨w2.heap.size, 3, none⟩ = some (.int .i64 (stepLo l lo v b)) ∧ w'.cell? ⟨w2.heap.size, 4, none⟩ = some (.int .i64 (stepV l lo v b)) ∧ w'.cell? ⟨w6.heap.size, 0, none⟩ = some (.int .i64 xl) ∧ w'.cell? ⟨w6.heap.size, 1, none⟩ = some (.int .i64 xlo) ∧ w'.cell? ⟨w6.heap.size, 2, none⟩ = some (.int .i64 xv) ∧ w'.cell? ⟨w7.heap.size, 0, none⟩ = some (.int .i64 (dfault xl xlo xv)) ∧ w'.cell? ⟨w7.heap.size, 1, none⟩ = some (.slice a7 (endList xl xlo xv).length c7) ∧ ReadAt .i64 w' (.slice ax (stepT l lo v b).length cx) (stepT l lo v b) ∧ ReadAt .i64 w' (.slice a7 (endList xl xlo xv).length c7) (endList xl xlo xv))
            (first
              | exact ⟨Below.drew (Below.refl _ W8), m0, m1, m2, m3, m4, m5, m6, m7, m8, m9, m10, m11, m12, m13⟩
              | exact keep15 (by assumption) (by assumption))
            (first
              | (go_at_call 14; refine (implFault_calls (stepL l lo v b) (stepLo l lo v b) (stepV l lo v b) _).mono ?_; rintro e w9 ⟨rfl, hb9⟩; rw [hfs.out])
              | (go_at_call 18; refine (implEncodeChar_calls c _).mono ?_; rintro e w9 ⟨x9, rfl, hx9, hb9⟩; obtain ⟨a9, c9, rfl, _⟩ := hx9)
              | (go_at_call 22; refine (specEncodeChar_calls c _).mono ?_; rintro e w9 ⟨x9, rfl, hx9, hb9⟩; obtain ⟨a9, c9, rfl, _⟩ := hx9)
              | (go_at_call 23; refine (specEnd_calls xl xlo xv _).mono ?_; rintro e w9 ⟨x9, rfl, hx9, hb9⟩; have hr9 := hx9.read; obtain ⟨a9, c9, rfl, _⟩ := hx9)
              | (go_at_call_of 13 (Value.slice a7 (endList xl xlo xv).length c7); refine (lwNums_below (endList xl xlo xv) _ _ _ (by omega) (by simp_all) (by assumption)).mono ?_; rintro e w9 ⟨rfl, hb9⟩)
              | (go_at_call 17; refine (specStep_calls l lo v b _ h0 h1).mono ?_; rintro e w9 ⟨x9, rfl, hx9, hb9⟩; rw [HE.out.1] at hx9; have hr9 := hx9.read; obtain ⟨a9, c9, rfl, _⟩ := hx9)
              | (go_at_call 13; refine (lwNums_below (stepT l lo v b) _ _ _ (by omega) (by simp_all) (by assumption)).mono ?_; rintro e w9 ⟨rfl, hb9⟩))
          go_wp2
          go_ret
          exact ⟨rfl, q8.trans ((‹Below W8.heap.size W8 _ ∧ _›.1).mono q8.size)⟩
  · rw [hf]
    go_wp2_with fail
    have hFB : FB (w2.alloc (.cells #[.int .i64 3, .slice ax (sdT l lo v b).length cx, .int .i64 (sdL l lo v b), .int .i64 (sdLo l lo v b), .int .i64 (sdV l lo v b)] 30)) w1.heap.size w2.heap.size l lo v 3 (sdL l lo v b) (sdLo l lo v b) (sdV l lo v b) (.slice ax (sdT l lo v b).length cx) :=
      ⟨cellb ((Below.refl _ _).alloc (Nat.le_refl _) _) d0, cellb ((Below.refl _ _).alloc (Nat.le_refl _) _) d1, cellb ((Below.refl _ _).alloc (Nat.le_refl _) _) d2, by simp, by simp, by simp, by simp, by simp⟩
    have q3 : Below w.heap.size w (w2.alloc (.cells #[.int .i64 3, .slice ax (sdT l lo v b).length cx, .int .i64 (sdL l lo v b), .int .i64 (sdLo l lo v b), .int .i64 (sdV l lo v b)] 30)) := q2.alloc q2.size _
    generalize (w2.alloc (.cells #[.int .i64 3, .slice ax (sdT l lo v b).length cx, .int .i64 (sdL l lo v b), .int .i64 (sdLo l lo v b), .int .i64 (sdV l lo v b)] 30)) = W3 at *
    obtain ⟨a0, a1, a2, b0, b1, b2, b3, b4⟩ := hFB
    clear hx2 d0 d1 d2
    go_region_held3 (fun w' => Below W3.heap.size W3 w' ∧ w'.cell? ⟨w1.heap.size, 0, none⟩ = some (.int .i64 l) ∧ w'.cell? ⟨w1.heap.size, 1, none⟩ = some (.int .i64 lo) ∧ w'.cell? ⟨w1.heap.size, 2, none⟩ = some (.int .i64 v) ∧ w'.cell? ⟨w2.heap.size, 0, none⟩ = some (.int .i64 3))
      (first
        | exact ⟨Below.drew (Below.refl _ W3), a0, a1, a2, b0⟩
        | exact keep6 (by assumption) (by assumption))
      (first
        | (go_at_call 17; refine (specStep_calls l lo v b _ h0 h1).mono ?_; rintro e w4 ⟨x4, rfl, hx4, hb4⟩; rw [hf]; obtain ⟨a4, c4, rfl, _⟩ := hx4)
        | (go_at_call 14; refine (implFault_calls l lo v _).mono ?_; rintro e w5 ⟨rfl, hb5⟩; rw [hf]))
    go_wp2
    go_ret
    exact ⟨rfl, q3.trans ((‹Below W3.heap.size W3 _ ∧ _›.1).mono q3.size)⟩

end Go.Proofs.Ytoedmfflokknjaa
