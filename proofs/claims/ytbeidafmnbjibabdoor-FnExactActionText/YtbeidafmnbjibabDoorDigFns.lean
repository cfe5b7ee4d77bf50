/-
  Decimal digits of the model (l1Digits), and the bytes of a place and of an attribute (l7Place, l7Attr).
-/
import Derived.Test.YtbeidafmnbjibabDoorAppX
import Derived.Test.YtbeidafmnbjibabDoorRangeFns
import Derived.Test.YtbeidafmnbjibabDoorEncChar
import Derived.Lib.ItoaMem
import Derived.Lib.ItoaLen
import Derived.Lib.LazyBuf
import Derived.Deep.RegionHeld3
namespace Go.Proofs.YtbeidafmnbjibabDoor
open Go.ChangeShapes Go.WideShapes Go.ChangeAt Go.RowKit
set_option linter.unusedVariables false
set_option linter.unusedSimpArgs false
set_option maxRecDepth 20000

/-- The decimal digits of a number as bytes. -/
def digL (n : Int) : List Int := (Lib.decDigits n.toNat).map (fun b => (b.toNat : Int))
theorem dig_small {n : Int} (h0 : 0 ≤ n) (h1 : n < 10) : digL n = [48 + n] := by
  unfold digL
  rw [Lib.decDigits_one (by omega)]
  have : (UInt8.ofNat (48 + n.toNat)).toNat = 48 + n.toNat := by simp; omega
  simp only [List.map_cons, List.map_nil, this]
  congr 1
  omega
theorem dig_big {n : Int} (h0 : 10 ≤ n) : digL n = digL (n / 10) ++ [48 + n % 10] := by
  unfold digL
  rw [Lib.decDigits, dif_neg (by omega), List.map_append]
  have e : n.toNat / 10 = (n / 10).toNat := by omega
  have : (UInt8.ofNat (48 + n.toNat % 10)).toNat = 48 + n.toNat % 10 := by simp; omega
  rw [e]
  simp only [List.map_cons, List.map_nil, this]
  congr 2
  omega
theorem dig_len {n : Int} (h1 : n ≤ 999999) : (digL n).length ≤ 6 := by
  unfold digL
  rw [List.length_map, Lib.decDigits_length]
  by_cases h : n.toNat < 10
  · rw [Lib.nDigits_small h]; omega
  · rw [Lib.nDigits_big h]
    by_cases h2 : n.toNat / 10 < 10
    · rw [Lib.nDigits_small h2]; omega
    · rw [Lib.nDigits_big h2]
      by_cases h3 : n.toNat / 10 / 10 < 10
      · rw [Lib.nDigits_small h3]; omega
      · rw [Lib.nDigits_big h3]
        by_cases h4 : n.toNat / 10 / 10 / 10 < 10
        · rw [Lib.nDigits_small h4]; omega
        · rw [Lib.nDigits_big h4]
          by_cases h5 : n.toNat / 10 / 10 / 10 / 10 < 10
          · rw [Lib.nDigits_small h5]; omega
          · rw [Lib.nDigits_big h5, Lib.nDigits_small (by omega)]; omega
theorem byte_cells_dig {n : Int} (h0 : 0 ≤ n) : Lib.byteCells (Lib.itoa n) = (digL n).map (Value.int .u8) := by
  obtain ⟨k, rfl⟩ : ∃ k : Nat, n = k := ⟨n.toNat, by omega⟩
  rw [Lib.itoa_nonneg]
  simp [digL, Lib.byteCells]
theorem itoa_len {n : Int} (h0 : 0 ≤ n) : (Lib.itoa n).length = (digL n).length := by
  have := congrArg List.length (byte_cells_dig h0)
  simpa [Lib.byteCells] using this
theorem str_app (xs ys : List Int) : strOfNums xs ++ strOfNums ys = strOfNums (xs ++ ys) := by
  apply ByteArray.ext
  simp [strOfNums]
theorem wrap_u8 {n : Int} (h0 : 0 ≤ n) (h1 : n ≤ 255) : IntKind.u8.wrap n = n := by
  simp [IntKind.wrap, IntKind.bits, IntKind.signed]
  omega
theorem conv1 (c : Int) (b : Nat) (w : World) (h : w.cell? ⟨b, 0, none⟩ = some (.int .u8 c)) : (convert 46 9 (.slice (some ⟨b, 0, none⟩) 1 1)).run Tryd.prog w = .ok (.string (strOfNums [c])) w :=
  run_convert_bytes_arg (P := Tryd.prog) w 46 5 Tryd.underlying46 Tryd.underlying5 b 0 1 1 [c] rfl (fun i hi => by
    obtain rfl : i = 0 := by omega
    simpa using h) 9 Tryd.underlying9
theorem l1Digits_small (n : Int) (w : World) (h0 : 0 ≤ n) (h1 : n < 10) : Calls Tryd.prog 12 #[.int .i64 n] w fun e w' => e = .returned (.string (strOfNums (digL n))) ∧ Below w.heap.size w w' := by
  rw [dig_small h0 h1]
  have e1 : IntKind.i64.wrap (48 + n) = 48 + n := wrap_small (by omega) (by omega)
  have e2 : IntKind.u8.wrap (48 + n) = 48 + n := wrap_u8 (by omega) (by omega)
  have hcv := conv1 (48 + n) w.heap.size (w.alloc (.cells #[.int .u8 (48 + n)] 5)) (by simp)
  go_enter Tryd.func12, Tryd.ntmps12
  go_wp2
  go_ret
  exact ⟨rfl, (by repeat' (first | with_reducible exact Below.refl _ _ | with_reducible assumption | with_reducible refine Below.drew ?_ | with_reducible refine Below.alloc ?_ ?_ _ | with_reducible refine Below.setCell ?_ ?_ _ | (simp; done) | (simp; omega) | omega))⟩
set_option maxHeartbeats 2000000 in
theorem l1Digits_calls : ∀ (m : Nat) (n : Int) (w : World), 0 ≤ n → n ≤ 999999 → n.toNat ≤ m → Calls Tryd.prog 12 #[.int .i64 n] w fun e w' => e = .returned (.string (strOfNums (digL n))) ∧ Below w.heap.size w w'
  | 0, n, w, h0, h1, h2 => l1Digits_small n w h0 (by omega)
  | m + 1, n, w, h0, h1, h2 => by
    by_cases h10 : n < 10
    · exact l1Digits_small n w h0 h10
    have IH := fun w' => l1Digits_calls m (n / 10) w' (by omega) (by omega) (by omega)
    rw [dig_big (by omega)]
    have hl := dig_len (n := n / 10) (by omega)
    obtain ⟨D, hD⟩ : ∃ D, digL (n / 10) = D := ⟨_, rfl⟩
    rw [hD] at IH hl ⊢
    obtain ⟨x, hx⟩ : ∃ x, strOfNums D = x := ⟨_, rfl⟩
    have hfin : x ++ strOfNums [48 + n % 10] = strOfNums (D ++ [48 + n % 10]) := by rw [← hx, str_app]
    have hxs : x.size ≤ 6 := by rw [← hx, strOfNums_size]; exact hl
    rw [hx] at IH
    rw [← hfin]
    clear hfin hx hD hl
    have hlim : ¬ 9223372036854775807 < x.size + (strOfNums [48 + n % 10]).size := by
      rw [strOfNums_size, List.length_singleton]
      omega
    have e0 : IntKind.i64.wrap (n.tdiv 10) = n / 10 := by rw [Int.tdiv_eq_ediv_of_nonneg h0]; exact wrap_small (by omega) (by omega)
    have e3 : n.tmod 10 = n % 10 := Int.tmod_eq_emod_of_nonneg h0
    have e3' : IntKind.i64.wrap (n % 10) = n % 10 := wrap_small (by omega) (by omega)
    have e1 : IntKind.i64.wrap (48 + n % 10) = 48 + n % 10 := wrap_small (by omega) (by omega)
    have e2 : IntKind.u8.wrap (48 + n % 10) = 48 + n % 10 := wrap_u8 (by omega) (by omega)
    go_enter Tryd.func12, Tryd.ntmps12
    go_wp2_with fail
    refine wp_region_held_drew (S := (fun w' => Below w.heap.size w w')) (by kernel_rfl) ?_ (fun hHeld => ?_)
    · (try dsimp only); exact Below.drew (Below.refl _ w)
    refine wpAnyH_take (i := 0) (oi := ⟨_, _, _, _, _, _⟩) (v := ?_) rfl (by kernel_rfl) (by kernel_rfl) (by kernel_rfl) (fun _ _ _ h => h) (Or.inl ⟨by rfl, ?_⟩) hHeld ?_
    rotate_left
    · (intro w hSw; (try dsimp only at hSw); go_simp; try (with_reducible rfl))
    try simp only [Act.put, List.setIfInBounds_toArray, List.set_cons_zero, List.set_cons_succ]
    refine wpAnyH_take (i := 1) (oi := ⟨_, _, _, _, _, _⟩) (v := ?_) rfl (by kernel_rfl) (by kernel_rfl) (by kernel_rfl) (fun _ _ _ h => h) (Or.inl ⟨by rfl, ?_⟩) hHeld ?_
    rotate_left
    · (intro w hSw; (try dsimp only at hSw); go_simp; try (with_reducible rfl))
    try simp only [Act.put, List.setIfInBounds_toArray, List.set_cons_zero, List.set_cons_succ]
    refine wpAnyH_take (i := 3) (oi := ⟨_, _, _, _, _, _⟩) (v := ?_) rfl (by kernel_rfl) (by kernel_rfl) (by kernel_rfl) (fun _ _ _ h => h) (Or.inl ⟨by rfl, ?_⟩) hHeld ?_
    rotate_left
    · (intro w hSw; (try dsimp only at hSw); go_simp; try (with_reducible rfl))
    try simp only [Act.put, List.setIfInBounds_toArray, List.set_cons_zero, List.set_cons_succ]
    refine wpAnyH_take (i := 4) (oi := ⟨_, _, _, _, _, _⟩) (v := ?_) rfl (by kernel_rfl) (by kernel_rfl) (by kernel_rfl) (fun _ _ _ h => h) (Or.inl ⟨by rfl, ?_⟩) hHeld ?_
    rotate_left
    · (intro w hSw; (try dsimp only at hSw); go_simp; try (with_reducible rfl))
    try simp only [Act.put, List.setIfInBounds_toArray, List.set_cons_zero, List.set_cons_succ]
    refine wpAnyH_take (i := 5) (oi := ⟨_, _, _, _, _, _⟩) (v := ?_) rfl (by kernel_rfl) (by kernel_rfl) (by kernel_rfl) (fun _ _ _ h => h) (Or.inl ⟨by rfl, ?_⟩) hHeld ?_
    rotate_left
    · (intro w hSw; (try dsimp only at hSw); go_simp; try (with_reducible rfl))
    try simp only [Act.put, List.setIfInBounds_toArray, List.set_cons_zero, List.set_cons_succ]
    refine wpAnyH_take (i := 6) (oi := ⟨_, _, _, _, _, _⟩) (v := ?_) rfl (by kernel_rfl) (by kernel_rfl) (by kernel_rfl) (fun _ _ _ h => h) (Or.inl ⟨by rfl, ?_⟩) hHeld ?_
    rotate_left
    · (intro w hSw; (try dsimp only at hSw); go_simp; try (with_reducible rfl))
    try simp only [Act.put, List.setIfInBounds_toArray, List.set_cons_zero, List.set_cons_succ]
    refine wpAnyH_ready (rs := [2, 7]) (by kernel_rfl) (by simp) ?_
    refine (AllReadyH.cons (o := ⟨_, _, _, _, _, _⟩) rfl (fun K hK => ?_) (AllReadyH.cons (o := ⟨_, _, _, _, _, _⟩) rfl (fun K hK => ?_) AllReadyH.nil))
    · skip
      go_simp
      go_at_call 12
      refine (IH _).mono ?_
      rintro e w1 ⟨rfl, hb1⟩
      refine hK.out _ _ ?_ ?_
      · (try dsimp only); exact hHeld.trans (hb1.mono hHeld.size)
      clear hHeld hK K
      intro hHeld
      try simp only [Act.put, List.setIfInBounds_toArray, List.set_cons_zero, List.set_cons_succ]
      refine wpAnyH_ready (rs := [7]) (by kernel_rfl) (by simp) ?_
      refine (AllReadyH.cons (o := ⟨_, _, _, _, _, _⟩) rfl (fun K hK => ?_) AllReadyH.nil)
      go_simp
      refine hK.out _ _ ?_ ?_
      · (try dsimp only); exact hHeld.alloc hHeld.size _
      clear hHeld hK K
      intro hHeld
      try simp only [Act.put, List.setIfInBounds_toArray, List.set_cons_zero, List.set_cons_succ]
      refine wpAnyH_ready (rs := [8]) (by kernel_rfl) (by simp) ?_
      refine (AllReadyH.cons (o := ⟨_, _, _, _, _, _⟩) rfl (fun K hK => ?_) AllReadyH.nil)
      have hc8 := conv1 (48 + n % 10) w1.heap.size (w1.alloc (.cells #[.int .u8 (48 + n % 10)] 5)) (by simp)
      go_simp
      refine hK.out _ _ ?_ ?_
      · (try dsimp only); exact hHeld
      clear hHeld hK K
      intro hHeld
      try simp only [Act.put, List.setIfInBounds_toArray, List.set_cons_zero, List.set_cons_succ]
      refine wpAnyH_take (i := 9) (oi := ⟨_, _, _, _, _, _⟩) (v := ?_) rfl (by kernel_rfl) (by kernel_rfl) (by kernel_rfl) (fun _ _ _ h => h) (Or.inl ⟨by rfl, ?_⟩) hHeld ?_
      rotate_left
      · (intro w hSw; (try dsimp only at hSw); go_simp; try (with_reducible rfl))
      try simp only [Act.put, List.setIfInBounds_toArray, List.set_cons_zero, List.set_cons_succ]
      refine wpAnyH_take (i := 10) (oi := ⟨_, _, _, _, _, _⟩) (v := ?_) rfl (by kernel_rfl) (by kernel_rfl) (by kernel_rfl) (fun _ _ _ h => h) (Or.inl ⟨by rfl, ?_⟩) hHeld ?_
      rotate_left
      · (intro w hSw; (try dsimp only at hSw); go_simp; try (with_reducible rfl))
      try simp only [Act.put, List.setIfInBounds_toArray, List.set_cons_zero, List.set_cons_succ]
      refine wpAnyH_done (by kernel_rfl) ?_ _
      go_wp2
      go_ret
      exact ⟨rfl, hHeld⟩
    · skip
      go_simp
      refine hK.out _ _ ?_ ?_
      · (try dsimp only); exact hHeld.alloc hHeld.size _
      clear hHeld hK K
      intro hHeld
      try simp only [Act.put, List.setIfInBounds_toArray, List.set_cons_zero, List.set_cons_succ]
      refine wpAnyH_ready (rs := [2, 8]) (by kernel_rfl) (by simp) ?_
      refine (AllReadyH.cons (o := ⟨_, _, _, _, _, _⟩) rfl (fun K hK => ?_) (AllReadyH.cons (o := ⟨_, _, _, _, _, _⟩) rfl (fun K hK => ?_) AllReadyH.nil))
      · skip
        go_simp
        go_at_call 12
        refine (IH _).mono ?_
        rintro e w1 ⟨rfl, hb1⟩
        refine hK.out _ _ ?_ ?_
        · (try dsimp only); exact hHeld.trans (hb1.mono hHeld.size)
        clear hHeld hK K
        intro hHeld
        try simp only [Act.put, List.setIfInBounds_toArray, List.set_cons_zero, List.set_cons_succ]
        refine wpAnyH_ready (rs := [8]) (by kernel_rfl) (by simp) ?_
        refine (AllReadyH.cons (o := ⟨_, _, _, _, _, _⟩) rfl (fun K hK => ?_) AllReadyH.nil)
        have hc8 := conv1 (48 + n % 10) w.heap.size w1 (cellb hb1 (by simp))
        go_simp
        refine hK.out _ _ ?_ ?_
        · (try dsimp only); exact hHeld
        clear hHeld hK K
        intro hHeld
        try simp only [Act.put, List.setIfInBounds_toArray, List.set_cons_zero, List.set_cons_succ]
        refine wpAnyH_take (i := 9) (oi := ⟨_, _, _, _, _, _⟩) (v := ?_) rfl (by kernel_rfl) (by kernel_rfl) (by kernel_rfl) (fun _ _ _ h => h) (Or.inl ⟨by rfl, ?_⟩) hHeld ?_
        rotate_left
        · (intro w hSw; (try dsimp only at hSw); go_simp; try (with_reducible rfl))
        try simp only [Act.put, List.setIfInBounds_toArray, List.set_cons_zero, List.set_cons_succ]
        refine wpAnyH_take (i := 10) (oi := ⟨_, _, _, _, _, _⟩) (v := ?_) rfl (by kernel_rfl) (by kernel_rfl) (by kernel_rfl) (fun _ _ _ h => h) (Or.inl ⟨by rfl, ?_⟩) hHeld ?_
        rotate_left
        · (intro w hSw; (try dsimp only at hSw); go_simp; try (with_reducible rfl))
        try simp only [Act.put, List.setIfInBounds_toArray, List.set_cons_zero, List.set_cons_succ]
        refine wpAnyH_done (by kernel_rfl) ?_ _
        go_wp2
        go_ret
        exact ⟨rfl, hHeld⟩
      · skip
        have hc8 := conv1 (48 + n % 10) w.heap.size ((w.alloc (.cells #[.int .u8 (48 + n % 10)] 5)).drew) (by show (w.alloc (.cells #[.int .u8 (48 + n % 10)] 5)).cell? ⟨w.heap.size, 0, none⟩ = _; simp)
        go_simp
        refine hK.out _ _ ?_ ?_
        · (try dsimp only); exact hHeld
        clear hHeld hK K
        intro hHeld
        try simp only [Act.put, List.setIfInBounds_toArray, List.set_cons_zero, List.set_cons_succ]
        refine wpAnyH_ready (rs := [2]) (by kernel_rfl) (by simp) ?_
        refine (AllReadyH.cons (o := ⟨_, _, _, _, _, _⟩) rfl (fun K hK => ?_) AllReadyH.nil)
        go_simp
        go_at_call 12
        refine (IH _).mono ?_
        rintro e w1 ⟨rfl, hb1⟩
        refine hK.out _ _ ?_ ?_
        · (try dsimp only); exact hHeld.trans (hb1.mono hHeld.size)
        clear hHeld hK K
        intro hHeld
        try simp only [Act.put, List.setIfInBounds_toArray, List.set_cons_zero, List.set_cons_succ]
        refine wpAnyH_take (i := 9) (oi := ⟨_, _, _, _, _, _⟩) (v := ?_) rfl (by kernel_rfl) (by kernel_rfl) (by kernel_rfl) (fun _ _ _ h => h) (Or.inl ⟨by rfl, ?_⟩) hHeld ?_
        rotate_left
        · (intro w hSw; (try dsimp only at hSw); go_simp; try (with_reducible rfl))
        try simp only [Act.put, List.setIfInBounds_toArray, List.set_cons_zero, List.set_cons_succ]
        refine wpAnyH_take (i := 10) (oi := ⟨_, _, _, _, _, _⟩) (v := ?_) rfl (by kernel_rfl) (by kernel_rfl) (by kernel_rfl) (fun _ _ _ h => h) (Or.inl ⟨by rfl, ?_⟩) hHeld ?_
        rotate_left
        · (intro w hSw; (try dsimp only at hSw); go_simp; try (with_reducible rfl))
        try simp only [Act.put, List.setIfInBounds_toArray, List.set_cons_zero, List.set_cons_succ]
        refine wpAnyH_done (by kernel_rfl) ?_ _
        go_wp2
        go_ret
        exact ⟨rfl, hHeld⟩
/-- The numbers of a sequence: digits, a semicolon between; the whole sequence. -/
def joinL : List Int → List Int
  | [] => []
  | [n] => digL n
  | n :: m :: r => digL n ++ 59 :: joinL (m :: r)
def seqL (ns : List Int) (en : Int) : List Int := 27 :: 91 :: (joinL ns ++ [en])
def placeL (y x : Int) : List Int := seqL [y + 1, x + 1] 72
def boldB (a : Int) : Bool := decide (a % 16 ≥ 8)
def turnB (a : Int) : Bool := decide (a % 32 ≥ 16)
def attrNs (a : Int) : List Int := 0 :: (30 + a % 8) :: ((if boldB a then [1] else []) ++ (if turnB a then [7] else []))
def attrL (a : Int) : List Int := seqL (attrNs a) 109
theorem dig_byte {n : Int} : ∀ x ∈ digL n, 0 ≤ x ∧ x ≤ 255 := by
  intro x hx
  obtain ⟨b, _, rfl⟩ := List.mem_map.1 hx
  have := b.toNat_lt
  exact ⟨by omega, by omega⟩
theorem join_byte : ∀ (ns : List Int), ∀ x ∈ joinL ns, 0 ≤ x ∧ x ≤ 255
  | [], x, h => by cases h
  | [n], x, h => dig_byte x h
  | n :: m :: r, x, h => by
    rw [joinL, List.mem_append, List.mem_cons] at h
    rcases h with h | rfl | h
    · exact dig_byte x h
    · omega
    · exact join_byte (m :: r) x h
theorem seq_byte {ns : List Int} {en : Int} (h0 : 0 ≤ en) (h1 : en ≤ 255) : ∀ x ∈ seqL ns en, 0 ≤ x ∧ x ≤ 255 := by
  intro x h
  unfold seqL at h
  rw [List.mem_cons, List.mem_cons, List.mem_append, List.mem_singleton] at h
  rcases h with rfl | rfl | h | rfl
  · omega
  · omega
  · exact join_byte ns x h
  · exact ⟨h0, h1⟩
theorem cells_of_nums {xs : List Int} (h : ∀ x ∈ xs, 0 ≤ x ∧ x ≤ 255) : ((strOfNums xs).data.toList.map fun b => Value.int .u8 b.toNat) = xs.map (Value.int .u8) := by
  rw [strOfNums_data, List.map_map]
  apply List.map_congr_left
  intro x hx
  have := h x hx
  simp only [Function.comp]
  congr 1
  have e : (UInt8.ofNat x.toNat).toNat = x.toNat := by simp; omega
  rw [e]
  omega
theorem bytes_of_nums (xs : List Int) (w : World) (h : ∀ x ∈ xs, 0 ≤ x ∧ x ≤ 255) (hl : xs.length ≤ 1000000) :
    ∃ v w', (convert 9 46 (.string (strOfNums xs))).run Tryd.prog w = .ok v w' ∧ OwnX w' w.heap.size 5 v xs.length (xs.map (Value.int .u8)) ∧ Below w.heap.size w w' := by
  obtain ⟨v, w', h1, h2, h3⟩ := run_bytesX (P := Tryd.prog) w 9 46 5 (strOfNums xs) Tryd.underlying9 Tryd.underlying46 Tryd.underlying5 (by rw [strOfNums_size]; exact hl)
  rw [strOfNums_size, cells_of_nums h] at h2
  exact ⟨v, w', h1, h2, h3⟩
theorem dig_0 : digL 0 = [48] := dig_small (by omega) (by omega)
theorem dig_1 : digL 1 = [49] := dig_small (by omega) (by omega)
theorem dig_7 : digL 7 = [55] := dig_small (by omega) (by omega)
theorem bits8 : ∀ k : Fin 32, (bits BinOp.and IntKind.i64 ((k.val : Nat) : Int) 8 != 0) = boldB ((k.val : Nat) : Int) := by decide +kernel
theorem bits16 : ∀ k : Fin 32, (bits BinOp.and IntKind.i64 ((k.val : Nat) : Int) 16 != 0) = turnB ((k.val : Nat) : Int) := by decide +kernel
theorem bold_of {a : Int} (h0 : 0 ≤ a) (h1 : a ≤ 31) : (bits BinOp.and IntKind.i64 a 8 != 0) = boldB a := by
  obtain ⟨k, rfl⟩ : ∃ k : Nat, a = k := ⟨a.toNat, by omega⟩
  exact bits8 ⟨k, by omega⟩
theorem turn_of {a : Int} (h0 : 0 ≤ a) (h1 : a ≤ 31) : (bits BinOp.and IntKind.i64 a 16 != 0) = turnB a := by
  obtain ⟨k, rfl⟩ : ∃ k : Nat, a = k := ⟨a.toNat, by omega⟩
  exact bits16 ⟨k, by omega⟩
theorem lim {n : Nat} (h : n ≤ 1000000) : ¬ 9223372036854775807 < n := by omega
end Go.Proofs.YtbeidafmnbjibabDoor
