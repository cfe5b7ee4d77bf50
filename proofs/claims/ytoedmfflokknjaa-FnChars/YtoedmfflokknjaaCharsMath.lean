/-
  Characters are read back from their bytes, and bytes in two parts tell what they tell at once: the plain functions alone.
-/
import Derived.Test.YtoedmfflokknjaaManyImpl
import Derived.Test.YtoedmfflokknjaaEncAll
namespace Go.Proofs.Ytoedmfflokknjaa
set_option linter.unusedVariables false
set_option linter.unusedSimpArgs false

abbrev DS := List Int × Int × Int × Int
theorem runs_told (bs : List Int) : ∀ (T : List Int) (l lo v : Int), bs.foldl run1 (T, l, lo, v) = (T ++ (bs.foldl run1 ([], l, lo, v)).1, (bs.foldl run1 ([], l, lo, v)).2) := by
  induction bs with
  | nil => intro T l lo v; simp
  | cons b bs ih =>
    intro T l lo v
    simp only [List.foldl_cons, run1]
    rw [ih, ih ([] ++ stepT l lo v b)]
    simp [List.append_assoc]

theorem step_two (c : Int) (h : chB c = true) (h0 : 128 ≤ c) (h1 : c < 2048) : [192 + c / 64, 128 + c % 64].foldl run1 ([], 0, 0, 0) = ([c], 0, 0, 0) := by
  have a1 : stepT 0 0 0 (192 + c / 64) = [] := by unfold stepT freshT; rw [if_pos rfl, if_neg (by omega), if_pos (by omega)]
  have a2 : stepL 0 0 0 (192 + c / 64) = 1 := by unfold stepL freshL; rw [if_pos (Or.inl rfl), if_pos (by omega)]
  have a3 : stepLo 0 0 0 (192 + c / 64) = 128 := by unfold stepLo freshLo; rw [if_pos (Or.inl rfl), if_pos (by omega)]
  have a4 : stepV 0 0 0 (192 + c / 64) = c / 64 := by unfold stepV freshV; rw [if_pos (Or.inl rfl), if_pos (by omega)]; omega
  have e : 64 * (c / 64) + (128 + c % 64) - 128 = c := by omega
  have b1 : stepT 1 128 (c / 64) (128 + c % 64) = [c] := by unfold stepT; rw [if_neg (by omega), if_neg (by omega), if_neg (by omega), e, if_pos ⟨h, h0⟩]
  have b2 : stepL 1 128 (c / 64) (128 + c % 64) = 0 := by unfold stepL; rw [if_neg (by omega), if_neg (by omega)]
  have b3 : stepLo 1 128 (c / 64) (128 + c % 64) = 0 := by unfold stepLo; rw [if_neg (by omega), if_neg (by omega)]
  have b4 : stepV 1 128 (c / 64) (128 + c % 64) = 0 := by unfold stepV; rw [if_neg (by omega), if_neg (by omega)]
  simp only [List.foldl_cons, List.foldl_nil, run1, a1, a2, a3, a4, b1, b2, b3, b4, List.nil_append]

theorem step_three (c : Int) (h : chB c = true) (h0 : 2048 ≤ c) (h1 : c ≤ 65535) : [224 + c / 4096, 128 + c / 64 % 64, 128 + c % 64].foldl run1 ([], 0, 0, 0) = ([c], 0, 0, 0) := by
  have a1 : stepT 0 0 0 (224 + c / 4096) = [] := by unfold stepT freshT; rw [if_pos rfl, if_neg (by omega), if_pos (by omega)]
  have a2 : stepL 0 0 0 (224 + c / 4096) = 2 := by unfold stepL freshL; rw [if_pos (Or.inl rfl), if_neg (by omega), if_pos (by omega)]
  have a3 : stepLo 0 0 0 (224 + c / 4096) = 2048 := by unfold stepLo freshLo; rw [if_pos (Or.inl rfl), if_neg (by omega), if_pos (by omega)]
  have a4 : stepV 0 0 0 (224 + c / 4096) = c / 4096 := by unfold stepV freshV; rw [if_pos (Or.inl rfl), if_neg (by omega), if_pos (by omega)]; omega
  have e1 : 64 * (c / 4096) + (128 + c / 64 % 64) - 128 = c / 64 := by omega
  have m1 : stepT 2 2048 (c / 4096) (128 + c / 64 % 64) = [] := by unfold stepT; rw [if_neg (by omega), if_neg (by omega), if_pos rfl]
  have m2 : stepL 2 2048 (c / 4096) (128 + c / 64 % 64) = 1 := by unfold stepL; rw [if_neg (by omega), if_pos rfl]
  have m3 : stepLo 2 2048 (c / 4096) (128 + c / 64 % 64) = 2048 := by unfold stepLo; rw [if_neg (by omega), if_pos rfl]
  have m4 : stepV 2 2048 (c / 4096) (128 + c / 64 % 64) = c / 64 := by unfold stepV; rw [if_neg (by omega), if_pos rfl, e1]
  have e : 64 * (c / 64) + (128 + c % 64) - 128 = c := by omega
  have b1 : stepT 1 2048 (c / 64) (128 + c % 64) = [c] := by unfold stepT; rw [if_neg (by omega), if_neg (by omega), if_neg (by omega), e, if_pos ⟨h, h0⟩]
  have b2 : stepL 1 2048 (c / 64) (128 + c % 64) = 0 := by unfold stepL; rw [if_neg (by omega), if_neg (by omega)]
  have b3 : stepLo 1 2048 (c / 64) (128 + c % 64) = 0 := by unfold stepLo; rw [if_neg (by omega), if_neg (by omega)]
  have b4 : stepV 1 2048 (c / 64) (128 + c % 64) = 0 := by unfold stepV; rw [if_neg (by omega), if_neg (by omega)]
  simp only [List.foldl_cons, List.foldl_nil, run1, a1, a2, a3, a4, m1, m2, m3, m4, b1, b2, b3, b4, List.nil_append]

theorem step_char (c : Int) (h : chB c = true) : (encL c).foldl run1 ([], 0, 0, 0) = ([c], 0, 0, 0) := by
  have hb := chB_bounds h
  by_cases c1 : c < 128
  · have e : encL c = [c] := by unfold encL; rw [if_pos c1]
    rw [e]
    have a1 : stepT 0 0 0 c = [c] := by unfold stepT freshT; rw [if_pos rfl, if_pos c1]
    have a2 : stepL 0 0 0 c = 0 := by unfold stepL freshL; rw [if_pos (Or.inl rfl), if_neg (by omega), if_neg (by omega)]
    have a3 : stepLo 0 0 0 c = 0 := by unfold stepLo freshLo; rw [if_pos (Or.inl rfl), if_neg (by omega), if_neg (by omega)]
    have a4 : stepV 0 0 0 c = 0 := by unfold stepV freshV; rw [if_pos (Or.inl rfl), if_neg (by omega), if_neg (by omega)]
    simp only [List.foldl_cons, List.foldl_nil, run1, a1, a2, a3, a4, List.nil_append]
  · by_cases c2 : c < 2048
    · have e : encL c = [192 + c / 64, 128 + c % 64] := by unfold encL; rw [if_neg c1, if_pos c2]
      rw [e]; exact step_two c h (by omega) c2
    · have e : encL c = [224 + c / 4096, 128 + c / 64 % 64, 128 + c % 64] := by unfold encL; rw [if_neg c1, if_neg c2]
      rw [e]; exact step_three c h (by omega) hb.2

/-- Characters are read back from their bytes. -/
theorem decode_encode (zs : List Int) (h : zs.all chB = true) : (zs.flatMap encL).foldl run1 ([], 0, 0, 0) = (zs, 0, 0, 0) := by
  induction zs with
  | nil => rfl
  | cons z zs ih =>
    simp only [List.all_cons, Bool.and_eq_true] at h
    rw [List.flatMap_cons, List.foldl_append, step_char z h.1, runs_told, ih h.2]
    simp
theorem encL_bytes (c : Int) (h : chB c = true) : ∀ b ∈ encL c, 0 ≤ b ∧ b ≤ 255 := by
  have hb := chB_bounds h
  unfold encL
  intro b hm
  split at hm
  · simp at hm; omega
  · split at hm
    · simp at hm; omega
    · simp at hm; omega
theorem flat_bytes (zs : List Int) (h : zs.all chB = true) : ∀ b ∈ zs.flatMap encL, 0 ≤ b ∧ b ≤ 255 := by
  intro b hm
  obtain ⟨c, hc, hbc⟩ := List.mem_flatMap.1 hm
  exact encL_bytes c (by simpa using List.all_eq_true.1 h c hc) b hbc
/-- Bytes in two parts tell what they tell at once. -/
theorem run_parts (l lo v : Int) (zs : List Int) (k : Nat) (h : k ≤ zs.length) :
    runTo l lo v zs zs.length = ((runTo l lo v (zs.take k) k).1 ++ (runTo (runTo l lo v (zs.take k) k).2.1 (runTo l lo v (zs.take k) k).2.2.1 (runTo l lo v (zs.take k) k).2.2.2 (zs.drop k) (zs.length - k)).1, (runTo (runTo l lo v (zs.take k) k).2.1 (runTo l lo v (zs.take k) k).2.2.1 (runTo l lo v (zs.take k) k).2.2.2 (zs.drop k) (zs.length - k)).2) := by
  unfold runTo
  rw [List.take_length, List.take_take, Nat.min_self]
  have e : zs = zs.take k ++ zs.drop k := (List.take_append_drop k zs).symm
  have e2 : (zs.drop k).take (zs.length - k) = zs.drop k := List.take_of_length_le (by simp)
  rw [e2]
  conv => lhs; rw [e, List.foldl_append]
  generalize hs : (zs.take k).foldl run1 ([], l, lo, v) = s
  obtain ⟨T, l', lo', v'⟩ := s
  exact runs_told _ _ _ _ _

end Go.Proofs.Ytoedmfflokknjaa
