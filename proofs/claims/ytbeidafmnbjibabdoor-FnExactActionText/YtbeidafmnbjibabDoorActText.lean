/-
  The text of an action: numberText, ActionText of the program and of the model.
-/
import Derived.Test.YtbeidafmnbjibabDoorActFaults
import Derived.Test.YtbeidafmnbjibabDoorDigFns
import Derived.Test.YtbeidafmnbjibabDoorBlk
import Derived.Test.YtbeidafmnbjibabDoorParFns
import Derived.Shelf.Strconv.Itoa4
import Derived.Shelf.Strings.OnBuilder
import Derived.Lib.LaidTab
namespace Go.Proofs.YtbeidafmnbjibabDoor
open Go.ChangeShapes Go.WideShapes Go.ChangeAt Go.RowKit
open Go.Shelf
set_option linter.unusedVariables false
set_option linter.unusedSimpArgs false
set_option maxRecDepth 20000

def at_lays156_ren : Go.Shelf.Ren := ⟨fun | 156 => 16 | 165 => 26 | 166 => 27 | 169 => 28 | 240 => 34 | 241 => 35 | 276 => 42 | 277 => 43 | n => n, fun | 31 => 37 | 9 => 9 | 3 => 3 | 4 => 4 | 0 => 0 | 20 => 20 | 72 => 53 | 76 => 57 | 70 => 51 | 37 => 46 | 75 => 56 | 127 => 61 | 164 => 69 | 5 => 5 | 80 => 59 | n => n, fun  | n => n⟩
theorem at_lays156 : Go.Proofs.Lays.n156 Tryd.prog at_lays156_ren := {
  mixed := by kernel_rfl
  f156 := Tryd.func16.trans (congrArg some (by kernel_rfl))
  f165 := Tryd.func26.trans (congrArg some (by kernel_rfl))
  f166 := Tryd.func27.trans (congrArg some (by kernel_rfl))
  f169 := Tryd.func28.trans (congrArg some (by kernel_rfl))
  f240 := Tryd.func34.trans (congrArg some (by kernel_rfl))
  f241 := Tryd.func35.trans (congrArg some (by kernel_rfl))
  f276 := Tryd.func42.trans (congrArg some (by kernel_rfl))
  f277 := Tryd.func43.trans (congrArg some (by kernel_rfl))
  t0 := Tryd.underlying0
  a0 := Tryd.isAgg0
  z0 := Tryd.sizeOf0
  v0 := Tryd.zeroValue0
  t3 := Tryd.underlying3
  a3 := Tryd.isAgg3
  z3 := Tryd.sizeOf3
  v3 := Tryd.zeroValue3
  t4 := Tryd.underlying4
  a4 := Tryd.isAgg4
  z4 := Tryd.sizeOf4
  v4 := Tryd.zeroValue4
  t9 := Tryd.underlying9
  a9 := Tryd.isAgg9
  z9 := Tryd.sizeOf9
  v9 := Tryd.zeroValue9
  t20 := Tryd.underlying20
  a20 := Tryd.isAgg20
  z20 := Tryd.sizeOf20
  v20 := Tryd.zeroValue20
  t31 := Tryd.underlying37
  a31 := Tryd.isAgg37
  z31 := Tryd.sizeOf37
  v31 := Tryd.zeroValue37
  t37 := Tryd.underlying46
  a37 := Tryd.isAgg46
  z37 := Tryd.sizeOf46
  v37 := Tryd.zeroValue46
  t70 := Tryd.underlying51
  a70 := Tryd.isAgg51
  z70 := Tryd.sizeOf51
  v70 := Tryd.zeroValue51
  t72 := Tryd.underlying53
  a72 := Tryd.isAgg53
  z72 := Tryd.sizeOf53
  v72 := Tryd.zeroValue53
  t75 := Tryd.underlying56
  a75 := Tryd.isAgg56
  z75 := Tryd.sizeOf56
  v75 := Tryd.zeroValue56
  t76 := Tryd.underlying57
  a76 := Tryd.isAgg57
  z76 := Tryd.sizeOf57
  v76 := Tryd.zeroValue57
  t127 := Tryd.underlying61
  a127 := Tryd.isAgg61
  z127 := Tryd.sizeOf61
  v127 := Tryd.zeroValue61
  t164 := Tryd.underlying69
  a164 := Tryd.isAgg69
  z164 := Tryd.sizeOf69
  v164 := Tryd.zeroValue69 }
def at_laysM173_ren : Go.Shelf.Ren := ⟨fun | 173 => 25 | 246 => 33 | 283 => 38 | 284 => 39 | 285 => 40 | 286 => 41 | 129 => 45 | 317 => 44 | 318 => 46 | 319 => 47 | 320 => 48 | 337 => 49 | 338 => 50 | n => n, fun | 2 => 2 | 3 => 3 | 9 => 9 | 4 => 4 | 171 => 63 | 0 => 0 | 53 => 64 | 37 => 46 | 5 => 5 | 173 => 67 | 212 => 74 | 51 => 75 | 20 => 20 | 213 => 76 | 46 => 78 | 232 => 81 | 233 => 82 | n => n, fun | 17 => 1 | 18 => 3 | 19 => 4 | n => n⟩
theorem at_laysM173 : Go.Proofs.LaysM.n173 Tryd.prog at_laysM173_ren := {
  mixed := by kernel_rfl
  f129 := Tryd.func45.trans (congrArg some (by kernel_rfl))
  f173 := Tryd.func25.trans (congrArg some (by kernel_rfl))
  f246 := Tryd.func33.trans (congrArg some (by kernel_rfl))
  f283 := Tryd.func38.trans (congrArg some (by kernel_rfl))
  f284 := Tryd.func39.trans (congrArg some (by kernel_rfl))
  f285 := Tryd.func40.trans (congrArg some (by kernel_rfl))
  f286 := Tryd.func41.trans (congrArg some (by kernel_rfl))
  f317 := Tryd.func44.trans (congrArg some (by kernel_rfl))
  f318 := Tryd.func46.trans (congrArg some (by kernel_rfl))
  f319 := Tryd.func47.trans (congrArg some (by kernel_rfl))
  f320 := Tryd.func48.trans (congrArg some (by kernel_rfl))
  f337 := Tryd.func49.trans (congrArg some (by kernel_rfl))
  f338 := Tryd.func50.trans (congrArg some (by kernel_rfl))
  t0 := Tryd.underlying0
  a0 := Tryd.isAgg0
  z0 := Tryd.sizeOf0
  v0 := Tryd.zeroValue0
  t2 := Tryd.underlying2
  a2 := Tryd.isAgg2
  z2 := Tryd.sizeOf2
  v2 := Tryd.zeroValue2
  t3 := Tryd.underlying3
  a3 := Tryd.isAgg3
  z3 := Tryd.sizeOf3
  v3 := Tryd.zeroValue3
  t4 := Tryd.underlying4
  a4 := Tryd.isAgg4
  z4 := Tryd.sizeOf4
  v4 := Tryd.zeroValue4
  t5 := Tryd.underlying5
  a5 := Tryd.isAgg5
  z5 := Tryd.sizeOf5
  v5 := Tryd.zeroValue5
  t9 := Tryd.underlying9
  a9 := Tryd.isAgg9
  z9 := Tryd.sizeOf9
  v9 := Tryd.zeroValue9
  t20 := Tryd.underlying20
  a20 := Tryd.isAgg20
  z20 := Tryd.sizeOf20
  v20 := Tryd.zeroValue20
  t37 := Tryd.underlying46
  a37 := Tryd.isAgg46
  z37 := Tryd.sizeOf46
  v37 := Tryd.zeroValue46
  t46 := Tryd.underlying78
  a46 := Tryd.isAgg78
  z46 := Tryd.sizeOf78
  v46 := Tryd.zeroValue78
  t51 := Tryd.underlying75
  a51 := Tryd.isAgg75
  z51 := Tryd.sizeOf75
  v51 := Tryd.zeroValue75
  t53 := Tryd.underlying64
  a53 := Tryd.isAgg64
  z53 := Tryd.sizeOf64
  v53 := Tryd.zeroValue64
  t171 := Tryd.underlying63
  a171 := Tryd.isAgg63
  z171 := Tryd.sizeOf63
  v171 := Tryd.zeroValue63
  t173 := Tryd.underlying67
  a173 := Tryd.isAgg67
  z173 := Tryd.sizeOf67
  v173 := Tryd.zeroValue67
  t212 := Tryd.underlying74
  a212 := Tryd.isAgg74
  z212 := Tryd.sizeOf74
  v212 := Tryd.zeroValue74
  t213 := Tryd.underlying76
  a213 := Tryd.isAgg76
  z213 := Tryd.sizeOf76
  t232 := Tryd.underlying81
  a232 := Tryd.isAgg81
  z232 := Tryd.sizeOf81
  v232 := Tryd.zeroValue81
  t233 := Tryd.underlying82
  a233 := Tryd.isAgg82
  z233 := Tryd.sizeOf82
  v233 := Tryd.zeroValue82
  g17 := by kernel_rfl
  g18 := by kernel_rfl
  g19 := by kernel_rfl
  i0 := by kernel_rfl
  i2 := by kernel_rfl
  i3 := by kernel_rfl
  i4 := by kernel_rfl
  i5 := by kernel_rfl
  i9 := by kernel_rfl
  i20 := by kernel_rfl
  i37 := by kernel_rfl
  i46 := by kernel_rfl
  i51 := by kernel_rfl
  i53 := by kernel_rfl
  i171 := by kernel_rfl
  i173 := by kernel_rfl
  i212 := by kernel_rfl
  i232 := by kernel_rfl
  i233 := by kernel_rfl
  m17 := by kernel_rfl
  m18 := by kernel_rfl
  m19 := by kernel_rfl }
theorem at_Builder_Extra_156 : Builder.Extra Tryd.prog at_lays156_ren := {
  sizeBuilder := by kernel_rfl
  liesBuilder := by kernel_rfl
  t5 := Tryd.underlying5
  a5 := Tryd.isAgg5
  z5 := Tryd.sizeOf5
  v5 := Tryd.zeroValue5
  infoByte := by kernel_rfl
  cellsByte := by kernel_rfl
  sizeByte := by kernel_rfl
  neB5 := by decide }
theorem below_grow (w : World) (k : Nat) (os : Array Obj) : Below w.heap.size w (Sort.grow (w.drewN k) os) :=
  ⟨rfl, rfl, rfl, by simp [Sort.grow], fun j hj => by show (w.heap ++ os)[j]? = _; exact Array.getElem?_append_left hj⟩
theorem itoa_str {n : Int} (h0 : 0 ≤ n) : (⟨(Lib.itoa n).toArray⟩ : ByteArray) = strOfNums (digL n) := by
  obtain ⟨k, rfl⟩ : ∃ k : Nat, n = k := ⟨n.toNat, by omega⟩
  rw [Lib.itoa_nonneg]
  apply ByteArray.ext
  have e : ((fun (n : Int) => UInt8.ofNat n.toNat) ∘ fun (b : UInt8) => (b.toNat : Int)) = id := by funext b; simp
  simp [strOfNums, digL, e]
theorem numberText_calls (n : Int) (w : World) (h0 : 0 ≤ n) (h1 : n ≤ 999999) (htab : Lib.TabIs Tryd.prog w "internal/strconv.uint64pow10" .u64 Lib.pow10Tab) :
    Calls Tryd.prog 15 #[.int .i64 n] w fun e w' => e = .returned (.string (strOfNums (digL n))) ∧ Below w.heap.size w w' := by
  have hI := itoa_str h0
  go_enter Tryd.func15, Tryd.ntmps15
  go_wp2_with fail
  go_at_call 25
  refine (Any.strconv_FormatInt_10 at_laysM173 n (by omega) (by omega) w htab).mono ?_
  rintro e w' ⟨rfl, k, os, rfl⟩
  rw [hI]
  go_wp2
  go_ret
  exact ⟨rfl, below_grow w k os⟩
/-- The words of the kinds. -/
def wordN (k : Int) : List Int := if k = 0 then [110, 111, 110, 101] else if k = 1 then [112, 114, 105, 110, 116] else if k = 2 then [99, 111, 110, 116, 114, 111, 108] else if k = 3 then [101, 115, 99, 97, 112, 101] else if k = 4 then [112, 97, 114, 97, 109, 115] else [115, 101, 116]
def privL : List Int := [112, 114, 105, 118, 97, 116, 101]
/-- Words with a space between. -/
def joinN : List (List Int) → List Int
  | [] => []
  | x :: r => x ++ r.flatMap (fun y => 32 :: y)
theorem joinN_snoc {ws : List (List Int)} (h : ws ≠ []) (y : List Int) : joinN (ws ++ [y]) = joinN ws ++ 32 :: y := by
  cases ws with
  | nil => exact absurd rfl h
  | cons x r => simp [joinN]
theorem joinN_str (ws : List (List Int)) : strOfNums (joinN ws) = ⟨(Lib.join ((ws.map strOfNums).map (·.data.toList)) (strOfNums [32]).data.toList).toArray⟩ := by
  cases ws with
  | nil => rfl
  | cons x r =>
    rw [List.map_cons, List.map_cons, Lib.join_cons]
    apply ByteArray.ext
    simp [strOfNums, joinN, Lib.joinTail, List.flatMap, Function.comp_def]
def words0 (kd ch st : Int) (pv : Bool) : List (List Int) := wordN kd :: ((if kd = 0 then [] else [digL ch]) ++ (if kd = 5 then [digL st] else []) ++ (if pv = true then [privL] else []))
def wordsTo (kd ch st : Int) (pv : Bool) (ns : List Int) : Nat → List (List Int)
  | 0 => words0 kd ch st pv
  | k + 1 => wordsTo kd ch st pv ns k ++ [digL (ns.getD k 0)]
theorem wordsTo_ne (kd ch st : Int) (pv : Bool) (ns : List Int) : ∀ k, wordsTo kd ch st pv ns k ≠ []
  | 0 => by simp [wordsTo, words0]
  | k + 1 => by simp [wordsTo]
def textTo (kd ch st : Int) (pv : Bool) (ns : List Int) (k : Nat) : List Int := joinN (wordsTo kd ch st pv ns k)
theorem textTo_succ (kd ch st : Int) (pv : Bool) (ns : List Int) (k : Nat) : textTo kd ch st pv ns (k + 1) = textTo kd ch st pv ns k ++ 32 :: digL (ns.getD k 0) := by
  unfold textTo
  rw [wordsTo, joinN_snoc (wordsTo_ne kd ch st pv ns k)]
def actText (kd ch st : Int) (pv : Bool) (ns : List Int) : ByteArray := if actCode kd ch st pv ns = 0 then strOfNums (textTo kd ch st pv ns ns.length) else ⟨#[]⟩
/-- What an action without a fault is. -/
structure AFine (kd ch st : Int) (pv : Bool) (ns : List Int) : Prop where
  k : kd = 0 ∨ kd = 1 ∨ kd = 2 ∨ kd = 3 ∨ kd = 4 ∨ kd = 5
  c : kd = 0 ∨ (0 ≤ ch ∧ ch ≤ 65535)
  s : kd = 5 → 1 ≤ st ∧ st ≤ 2
  z : kd = 0 → pv = false ∧ ns = []
  l : ns.length ≤ 6
  n : ∀ i, i < ns.length → 0 ≤ ns.getD i 0 ∧ ns.getD i 0 ≤ 999
theorem digs_len {n : Int} (h : n ≤ 999999) : (digL n).length ≤ 6 := dig_len h
theorem words0_len {kd ch st : Int} {pv : Bool} {ns : List Int} (h : AFine kd ch st pv ns) : (textTo kd ch st pv ns 0).length ≤ 40 := by
  have h1 : ∀ k, (wordN k).length ≤ 7 := fun k => by
    unfold wordN
    repeat' split
    all_goals simp
  have a0 := h1 0
  have a5 := h1 5
  have ak := h1 kd
  unfold textTo wordsTo words0 joinN
  have h3 : (digL st).length ≤ 6 ∨ ¬ kd = 5 := by
    by_cases h5 : kd = 5
    · exact .inl (dig_len (by have := h.s h5; omega))
    · exact .inr h5
  have h2 : (digL ch).length ≤ 6 ∨ kd = 0 := by
    rcases h.c with h0 | h0
    · exact .inr h0
    · exact .inl (dig_len (by omega))
  by_cases k0 : kd = 0 <;> by_cases k5 : kd = 5 <;> cases pv <;> simp [k0, k5, privL] <;> omega
theorem textTo_len {kd ch st : Int} {pv : Bool} {ns : List Int} (h : AFine kd ch st pv ns) : ∀ k, k ≤ ns.length → (textTo kd ch st pv ns k).length ≤ 40 + 7 * k
  | 0, _ => words0_len h
  | k + 1, hk => by
    have ih := textTo_len h k (by omega)
    have h2 := dig_len (n := ns.getD k 0) (by have := h.n k (by omega); omega)
    rw [textTo_succ, List.length_append, List.length_cons]
    omega
theorem numsB_at {ns : List Int} (h : numsB ns 0 = true) (i : Nat) (hi : i < ns.length) : 0 ≤ ns.getD i 0 ∧ ns.getD i 0 ≤ 999 := by
  unfold numsB at h
  rw [List.drop_zero, List.all_eq_true] at h
  have h1 := h _ (List.getElem_mem hi)
  rw [List.getD_eq_getElem?_getD, List.getElem?_eq_getElem hi]
  simpa [numB] using h1
theorem afine_of {kd ch st : Int} {pv : Bool} {ns : List Int} (h : actCode kd ch st pv ns = 0) : AFine kd ch st pv ns := by
  unfold actCode at h
  split at h
  · simp at h
  · rename_i hf
    split at h
    · simp at h
    · rename_i hk
      split at h
      · simp at h
      · rename_i hs
        have hf' : aformB kd ch st pv ns = true := by simpa using hf
        have hk' : kindB kd ch = true := by simpa using hk
        have k : kd = 0 ∨ kd = 1 ∨ kd = 2 ∨ kd = 3 ∨ kd = 4 ∨ kd = 5 := by
          by_cases h6 : 0 ≤ kd ∧ kd ≤ 5
          · omega
          · rw [aformB_not h6] at hf'; simp at hf'
        rcases k with rfl | rfl | rfl | rfl | rfl | rfl
        · rw [aformB_0] at hf'
          simp at hf'
          obtain ⟨-, -, hp, hl⟩ := hf'
          subst hl
          exact ⟨by simp, by simp, by simp, fun _ => ⟨hp, rfl⟩, by simp, by simp⟩
        · rw [aformB_low (by omega)] at hf'
          rw [kindB_1] at hk'
          simp [shB, chB] at hf' hk'
          obtain ⟨-, -, hl⟩ := hf'
          subst hl
          exact ⟨by simp, .inr (by omega), by simp, by simp, by simp, by simp⟩
        · rw [aformB_low (by omega)] at hf'
          rw [kindB_2] at hk'
          simp [ctlB] at hf' hk'
          obtain ⟨-, -, hl⟩ := hf'
          subst hl
          exact ⟨by simp, .inr (by omega), by simp, by simp, by simp, by simp⟩
        · rw [aformB_low (by omega)] at hf'
          rw [kindB_3] at hk'
          simp [escB] at hf' hk'
          obtain ⟨-, -, hl⟩ := hf'
          subst hl
          exact ⟨by simp, .inr (by omega), by simp, by simp, by simp, by simp⟩
        · rw [kindB_4] at hk'
          simp [finB] at hk'
          rw [if_pos rfl] at h
          unfold numsCode at h
          split at h
          · simp at h
          · split at h
            · simp at h
            · split at h
              · simp at h
              · rename_i g1 g2 g3
                exact ⟨by simp, .inr (by omega), by simp, by simp, by omega, fun i hi => numsB_at (by simpa using g3) i hi⟩
        · rw [aformB_set] at hf'
          rw [kindB_5] at hk'
          simp [shB, chB] at hf' hk'
          obtain ⟨-, hl⟩ := hf'
          subst hl
          have hs' : setB st = true := by simpa using hs
          simp [setB] at hs'
          exact ⟨by simp, .inr (by omega), fun _ => hs', by simp, by simp, by simp⟩
end Go.Proofs.YtbeidafmnbjibabDoor
