/-
  Contracts: sets of literals as bits; literals; clauses, of the program and of the model.
-/
import Derived.Test.YtklcfbjaodildaaLists
import Derived.Test.YtklcfbjaodildaaClMath
namespace Go.Proofs.Ytklcfbjaodildaa
open Go.ChangeShapes Go.WideShapes Go.ChangeAt Go.RowKit

theorem ofInt_u32 (a : Nat) (ha : a < 4294967296) : (BitVec.ofInt 32 (a : Int)).toNat = a := by
  rw [BitVec.ofInt_natCast, BitVec.toNat_ofNat]; exact Nat.mod_eq_of_lt (by omega)
theorem u32_and_nat (a b : Nat) (ha : a < 4294967296) (hb : b < 4294967296) : bits .and .u32 (a : Int) (b : Int) = ((a &&& b : Nat) : Int) := by
  have hx : a &&& b < 2 ^ 32 := Nat.and_lt_two_pow _ (by omega)
  show IntKind.u32.wrap ((BitVec.ofInt 32 (a : Int) &&& BitVec.ofInt 32 (b : Int)).toNat : Int) = _
  rw [BitVec.toNat_and, ofInt_u32 a ha, ofInt_u32 b hb, IntKind.wrap_u32]
  omega
theorem u32_or_nat (a b : Nat) (ha : a < 4294967296) (hb : b < 4294967296) : bits .or .u32 (a : Int) (b : Int) = ((a ||| b : Nat) : Int) := by
  have hx : a ||| b < 2 ^ 32 := Nat.or_lt_two_pow (by omega) (by omega)
  show IntKind.u32.wrap ((BitVec.ofInt 32 (a : Int) ||| BitVec.ofInt 32 (b : Int)).toNat : Int) = _
  rw [BitVec.toNat_or, ofInt_u32 a ha, ofInt_u32 b hb, IntKind.wrap_u32]
  omega
/-- a literal's bit, as the program has it -/
def bitV (x : Int) : Int := ((2 ^ bitAt x : Nat) : Int)
/-- a set, as the program has it -/
def setV (l : List Int) : Int := ((setN l : Nat) : Int)
theorem two_lt {x : Int} (h : x ≤ 12) : 2 ^ bitAt x < 4294967296 := Nat.lt_of_lt_of_le (Nat.pow_lt_pow_right (by omega) (bitAt_lt h)) (by decide)
theorem bit_wrap (x : Int) (h2 : x ≤ 12) : IntKind.u32.wrap (1 * 2 ^ (x + 12).toNat) = bitV x := by
  rw [IntKind.wrap_u32]
  have h := two_lt h2
  have e : (2 : Int) ^ (x + 12).toNat = ((2 ^ bitAt x : Nat) : Int) := by unfold bitAt; push_cast; rfl
  rw [Int.one_mul, e]
  unfold bitV
  generalize 2 ^ bitAt x = M at h ⊢
  omega
theorem set_or (l : List Int) (x : Int) (hl : In12 l) (h2 : x ≤ 12) : bits .or .u32 (setV l) (bitV x) = setV (l ++ [x]) := by
  have := setN_lt l hl
  have := two_lt h2
  unfold setV bitV
  rw [u32_or_nat _ _ (by omega) (by omega), setN_snoc]
theorem set_and (l : List Int) (x : Int) (hl : In12 l) (h1 : -12 ≤ x) (h2 : x ≤ 12) : (bits .and .u32 (setV l) (bitV x) != 0) = decide (x ∈ l) := by
  have := setN_lt l hl
  have := two_lt h2
  unfold setV bitV
  rw [u32_and_nat _ _ (by omega) (by omega), ← setN_and l x h1 hl]
  rw [Bool.eq_iff_iff]
  simp
set_option maxRecDepth 100000 in
set_option maxHeartbeats 400000 in
theorem bitOf_any (x : Int) (w : World) (h1 : -12 ≤ x) (h2 : x ≤ 12) :
    Calls Try.prog 154 #[.int .i64 x] w fun e w' => e = .returned (.int .u32 (bitV x)) ∧ w = w' := by
  have HB := Lib.hid (bit_wrap x h2)
  go_enter Try.func154, Try.ntmps154
  go_wp2
  go_ret
  exact ⟨ret_int (by rw [← HB.out]; simp [IntKind.wrap_u32]), rfl⟩
set_option maxRecDepth 100000 in
set_option maxHeartbeats 400000 in
theorem has_any (l : List Int) (x : Int) (w : World) (hl : Hid (In12 l)) (h1 : -12 ≤ x) (h2 : x ≤ 12) :
    Calls Try.prog 123 #[.int .u32 (setV l), .int .i64 x] w fun e w' => e = .returned (.bool (decide (x ∈ l))) ∧ w = w' := by
  have HB := Lib.hid (set_and l x hl.out h1 h2)
  obtain ⟨S, hS⟩ : ∃ S, setV l = S := ⟨_, rfl⟩
  obtain ⟨B, hB⟩ : ∃ S, bitV x = S := ⟨_, rfl⟩
  rw [hS, hB] at HB
  rw [hS]
  clear hS
  go_enter Try.func123, Try.ntmps123
  go_wp2_with (go_at_call 154; refine (bitOf_any _ _ h1 h2).mono ?_; rintro e w' ⟨rfl, rfl⟩; rw [hB])
  go_ret
  exact ⟨ret_bool HB.out, rfl⟩
set_option maxRecDepth 100000 in
set_option maxHeartbeats 400000 in
theorem with_any (l : List Int) (x : Int) (w : World) (hl : Hid (In12 l)) (h1 : -12 ≤ x) (h2 : x ≤ 12) :
    Calls Try.prog 124 #[.int .u32 (setV l), .int .i64 x] w fun e w' => e = .returned (.int .u32 (setV (l ++ [x]))) ∧ w = w' := by
  have HB := Lib.hid (set_or l x hl.out h2)
  obtain ⟨S, hS⟩ : ∃ S, setV l = S := ⟨_, rfl⟩
  obtain ⟨B, hB⟩ : ∃ S, bitV x = S := ⟨_, rfl⟩
  rw [hS, hB] at HB
  rw [hS]
  clear hS
  go_enter Try.func124, Try.ntmps124
  go_wp2_with (go_at_call 154; refine (bitOf_any _ _ h1 h2).mono ?_; rintro e w' ⟨rfl, rfl⟩; rw [hB])
  go_ret
  exact ⟨ret_int HB.out, rfl⟩
set_option maxRecDepth 100000 in
set_option maxHeartbeats 2000000 in
theorem setOf_any (A : Option Addr) (n cap : Nat) (l : List Int) (w : World) (hl : Hid (ILies w A l)) (HX : Hid (l.length = n)) (HI : Hid (In12 l)) (hn : n ≤ 1048576) :
    Calls Try.prog 145 #[.slice A n cap] w fun e w' => e = .returned (.int .u32 (setV l)) ∧ w = w' := by
  go_enter Try.func145, Try.ntmps145
  go_wp2_with fail
  go_loop [3, 8] (fun s i => ∃ k : Nat, k ≤ n ∧ i = .int .i64 k ∧ s = .int .u32 (setV (l.take k))) (fun _ i => n - (intOf i).toNat)
  case atStart => exact ⟨0, Nat.zero_le _, rfl, rfl⟩
  case round =>
    obtain ⟨k, hk, rfl, rfl⟩ := hrel
    by_cases hlt : k < n
    · obtain ⟨x, hx⟩ : ∃ x, l[k]? = some x := ⟨_, List.getElem?_eq_getElem (by have := HX.out; omega)⟩
      obtain ⟨b, off, rfl, hbl, ha⟩ := hl.out k x hx
      have hxr := HI.out x (List.mem_of_getElem? hx)
      have HT : Hid (l.take (k + 1) = l.take k ++ [x]) := Lib.hid (by have h1 := (List.getElem?_eq_some_iff.1 hx).1; have h2 := (List.getElem?_eq_some_iff.1 hx).2; rw [List.take_succ_eq_append_getElem h1, h2])
      have HI2 : Hid (In12 (l.take k)) := Lib.hid (fun y hy => HI.out y (List.mem_of_mem_take hy))
      clear hx
      go_wp2_with (go_at_call 124; refine (with_any _ _ _ HI2 hxr.1 hxr.2).mono ?_; rintro e w' ⟨rfl, rfl⟩)
      go_round
      case rel => exact ⟨k + 1, by omega, by go_num, by rw [HT.out]⟩
      case measure => simp [intOf]; omega
    · obtain rfl : k = n := by omega
      go_wp2
      go_ret
      exact ⟨ret_int (by rw [List.take_of_length_le (by have := HX.out; omega)]), rfl⟩
set_option maxRecDepth 100000 in
set_option maxHeartbeats 400000 in
theorem isLiteral_any (v x : Int) (w : World) (h1 : 0 ≤ v) (h2 : v ≤ 12) :
    Calls Try.prog 144 #[.int .i64 v, .int .i64 x] w fun e w' => e = .returned (.bool (litB v x)) ∧ w = w' := by
  by_cases q1 : x = 0
  · have e1 : (x != 0) = false := by simp [q1]
    have E : Hid (litB v x = false) := Lib.hid (by simp [litB, q1])
    clear q1
    go_enter Try.func144, Try.ntmps144
    go_wp2
    go_ret
    exact ⟨ret_bool E.out.symm, rfl⟩
  · have e1 : (x != 0) = true := by simp [q1]
    by_cases q2 : -v ≤ x
    · have E : Hid (litB v x = decide (x ≤ v)) := Lib.hid (by simp [litB, q1, q2])
      clear q1
      go_enter Try.func144, Try.ntmps144
      go_wp2
      go_ret
      exact ⟨ret_bool E.out.symm, rfl⟩
    · have E : Hid (litB v x = false) := Lib.hid (by simp [litB, q2])
      clear q1
      go_enter Try.func144, Try.ntmps144
      go_wp2
      go_ret
      exact ⟨ret_bool E.out.symm, rfl⟩

set_option maxRecDepth 100000 in
set_option maxHeartbeats 2000000 in
theorem isClause_any (v : Int) (A : Option Addr) (n cap : Nat) (l : List Int) (w : World) (hl : Hid (ILies w A l)) (HX : Hid (l.length = n)) (hn : n ≤ 9223372036854775807) (h1 : 0 ≤ v) (h2 : v ≤ 12) :
    Calls Try.prog 110 #[.int .i64 v, .slice A n cap] w fun e w' => e = .returned (.bool (clauseB v l)) ∧ w = w' := by
  by_cases hbig : 12 < n
  · have E : Hid (clauseB v l = false) := Lib.hid (by have := HX.out; unfold clauseB; rw [decide_eq_false (by omega)]; rfl)
    go_enter Try.func110, Try.ntmps110
    go_wp2
    go_ret
    exact ⟨ret_bool E.out.symm, rfl⟩
  have hsm : n ≤ 12 := by omega
  have E : Hid (clauseB v l = clOk v [] l) := Lib.hid (by have := HX.out; unfold clauseB; rw [decide_eq_true (by omega)]; rfl)
  rw [E.out]
  clear E
  go_enter Try.func110, Try.ntmps110
  go_wp2_with fail
  go_loop [5, 13] (fun s i => ∃ k : Nat, k ≤ n ∧ i = .int .i64 k ∧ s = .int .u32 (setV (l.take k)) ∧ clOk v [] l = clOk v (l.take k) (l.drop k) ∧ In12 (l.take k)) (fun _ i => n - (intOf i).toNat)
  case atStart => exact ⟨0, Nat.zero_le _, rfl, rfl, rfl, In12.nil⟩
  case round =>
    obtain ⟨k, hk, rfl, rfl, hcl, hin⟩ := hrel
    have HC := Lib.hid hcl
    have HI := Lib.hid hin
    clear hcl hin
    by_cases hlt : k < n
    · obtain ⟨x, hx⟩ : ∃ x, l[k]? = some x := ⟨_, List.getElem?_eq_getElem (by have := HX.out; omega)⟩
      obtain ⟨b, off, rfl, hbl, ha⟩ := hl.out k x hx
      have HS := Lib.hid (clOk_at v l k x hx)
      have HT : Hid (l.take (k + 1) = l.take k ++ [x]) := Lib.hid (by have h1 := (List.getElem?_eq_some_iff.1 hx).1; have h2 := (List.getElem?_eq_some_iff.1 hx).2; rw [List.take_succ_eq_append_getElem h1, h2])
      clear hx
      cases q1 : litB v x
      · have E : Hid (clOk v [] l = false) := Lib.hid (by rw [HC.out, HS.out, q1]; rfl)
        go_wp2_with (go_at_call 144; refine (isLiteral_any _ _ _ h1 h2).mono ?_; rintro e w' ⟨rfl, rfl⟩; rw [q1])
        go_ret
        exact ⟨ret_bool E.out.symm, rfl⟩
      · have hxr := litB_iff.1 q1
        have hxa : -12 ≤ x := by omega
        have hxb : x ≤ 12 := by omega
        clear hxr
        cases q2 : decide (x ∈ l.take k)
        · cases q3 : decide (-x ∈ l.take k)
          · have E : Hid (clOk v [] l = clOk v (l.take (k + 1)) (l.drop (k + 1))) := Lib.hid (by rw [HC.out, HS.out, q1]; simp only [List.contains_eq_mem, q2, q3]; rfl)
            go_wp2_with (first
              | (go_at_call 144; refine (isLiteral_any _ _ _ h1 h2).mono ?_; rintro e w' ⟨rfl, rfl⟩; rw [q1])
              | (go_at_call 123; refine (has_any _ _ _ HI (by omega) (by omega)).mono ?_; rintro e w' ⟨rfl, rfl⟩; first | rw [q2] | rw [q3])
              | (go_at_call 124; refine (with_any _ _ _ HI (by omega) (by omega)).mono ?_; rintro e w' ⟨rfl, rfl⟩))
            go_round
            case rel => exact ⟨k + 1, by omega, by go_num, by rw [HT.out], E.out, by rw [HT.out]; exact HI.out.snoc ⟨hxa, hxb⟩⟩
            case measure => simp [intOf]; omega
          · have E : Hid (clOk v [] l = false) := Lib.hid (by rw [HC.out, HS.out, q1]; simp only [List.contains_eq_mem, q2, q3]; rfl)
            go_wp2_with (first
              | (go_at_call 144; refine (isLiteral_any _ _ _ h1 h2).mono ?_; rintro e w' ⟨rfl, rfl⟩; rw [q1])
              | (go_at_call 123; refine (has_any _ _ _ HI (by omega) (by omega)).mono ?_; rintro e w' ⟨rfl, rfl⟩; first | rw [q2] | rw [q3]))
            go_ret
            exact ⟨ret_bool E.out.symm, rfl⟩
        · have E : Hid (clOk v [] l = false) := Lib.hid (by rw [HC.out, HS.out, q1]; simp only [List.contains_eq_mem, q2]; rfl)
          go_wp2_with (first
            | (go_at_call 144; refine (isLiteral_any _ _ _ h1 h2).mono ?_; rintro e w' ⟨rfl, rfl⟩; rw [q1])
            | (go_at_call 123; refine (has_any _ _ _ HI (by omega) (by omega)).mono ?_; rintro e w' ⟨rfl, rfl⟩; rw [q2]))
          go_ret
          exact ⟨ret_bool E.out.symm, rfl⟩
    · obtain rfl : k = n := by omega
      have E : Hid (clOk v [] l = true) := Lib.hid (by rw [HC.out, ← HX.out]; exact clOk_end v l)
      go_wp2
      go_ret
      exact ⟨ret_bool E.out.symm, rfl⟩

theorem take_snoc {l : List Int} {k : Nat} {x : Int} (hx : l[k]? = some x) : l.take (k + 1) = l.take k ++ [x] := by
  have h1 := (List.getElem?_eq_some_iff.1 hx).1
  have h2 := (List.getElem?_eq_some_iff.1 hx).2
  rw [List.take_succ_eq_append_getElem h1, h2]
set_option maxRecDepth 100000 in
set_option maxHeartbeats 1000000 in
theorem l1Has_any (A : Option Addr) (n cap : Nat) (l : List Int) (y : Int) (w : World) (hl : Hid (ILies w A l)) (HX : Hid (l.length = n)) (hn : n ≤ 9223372036854775807) :
    Calls Try.prog 163 #[.slice A n cap, .int .i64 y] w fun e w' => e = .returned (.bool (decide (y ∈ l))) ∧ w = w' := by
  go_enter Try.func163, Try.ntmps163
  go_wp2_with fail
  go_loop [9] (fun i => ∃ k : Nat, k ≤ n ∧ i = .int .i64 k ∧ y ∉ l.take k) (fun i => n - (intOf i).toNat)
  case atStart => exact ⟨0, Nat.zero_le _, rfl, by simp⟩
  case round =>
    obtain ⟨k, hk, rfl, hnot⟩ := hrel
    have HN := Lib.hid hnot
    clear hnot
    by_cases hlt : k < n
    · obtain ⟨x, hx⟩ : ∃ x, l[k]? = some x := ⟨_, List.getElem?_eq_getElem (by have := HX.out; omega)⟩
      obtain ⟨b, off, rfl, hbl, ha⟩ := hl.out k x hx
      have HT := Lib.hid (take_snoc hx)
      have HM := Lib.hid (List.mem_of_getElem? hx)
      clear hx
      cases q : (x == y)
      · go_wp2
        go_round
        case rel => exact ⟨k + 1, by omega, by go_num, by rw [HT.out]; simp at q; simp; exact ⟨HN.out, fun e => q e.symm⟩⟩
        case measure => simp [intOf]; omega
      · have E : Hid (decide (y ∈ l) = true) := Lib.hid (by simp at q; subst q; simpa using HM.out)
        go_wp2
        go_ret
        exact ⟨ret_bool E.out.symm, rfl⟩
    · obtain rfl : k = n := by omega
      have E : Hid (decide (y ∈ l) = false) := Lib.hid (by have := HN.out; rw [List.take_of_length_le (by have := HX.out; omega)] at this; simpa using this)
      go_wp2
      go_ret
      exact ⟨ret_bool E.out.symm, rfl⟩
theorem ILies.take {w : World} {A : Option Addr} {l : List Int} (h : ILies w A l) (k : Nat) : ILies w A (l.take k) := by
  intro i y hy
  rw [List.getElem?_take] at hy
  split at hy
  · exact h i y hy
  · simp at hy
end Go.Proofs.Ytklcfbjaodildaa
