/-
  Contracts: DoOp, of the program (its shifts by the table of powers) and of the model, return the same value.
-/
import Derived.Test.YtilnegmjnbffhaaDoorOWords
namespace Go.Proofs.YtilnegmjnbffhaaDoor.Op
open Go.ChangeShapes Go.WideShapes Go.ChangeAt Go.RowKit

/-- 2^(b modulo 16) -/
def sf (b : Int) : Int := 2 ^ (b % 16).toNat
/-- the table of powers, as it lies in memory -/
def PowTab (w : World) : Prop := ∀ i : Nat, i < 16 → w.cell? ⟨0, i, none⟩ = some (.int .i64 ((2 ^ i : Nat) : Int))
def qt (a b : Int) : Int := if b = 0 then 0 else a / b
def rm (a b : Int) : Int := if b = 0 then a else a % b
/-- what an operation gives -/
def opv (op a b : Int) : Int :=
  if op = 1 then wd (a + b) else if op = 2 then wd (a - b) else if op = 3 then wd (a * b)
  else if op = 4 then qt a b else if op = 5 then rm a b
  else if op = 6 then bits .and .i64 a b else if op = 7 then bits .or .i64 a b else if op = 8 then bits .xor .i64 a b
  else if op = 9 then wd (a * sf b) else a / sf b
def isOp (op : Int) : Bool := decide (1 ≤ op ∧ op ≤ 10)
def opOf (op a b : Int) : Int := if isOp op && isW a && isW b then opv op a b else 0

set_option maxRecDepth 100000 in
set_option maxHeartbeats 400000 in
theorem shiftFactor_any (b : Int) (w : World) (h1 : 0 ≤ b) (h2 : b < 65536) (ht : Hid (PowTab w)) :
    Calls Tryd.prog 82 #[.int .i64 b] w fun e w' => e = .returned (.int .i64 (sf b)) ∧ w = w' := by
  obtain ⟨n, rfl⟩ := Int.eq_ofNat_of_zero_le h1
  have hc := ht.out (n % 16) (by omega)
  go_enter Tryd.func82, Tryd.ntmps82
  go_wp2
  go_ret
  exact ⟨ret_int (by rw [sf, show ((n : Int) % 16).toNat = n % 16 from by omega]), rfl⟩

set_option maxRecDepth 100000 in
set_option maxHeartbeats 400000 in
theorem quotient_any (a b : Int) (w : World) (a1 : 0 ≤ a) (a2 : a < 65536) (b1 : 0 ≤ b) (b2 : b < 65536) :
    Calls Tryd.prog 80 #[.int .i64 a, .int .i64 b] w fun e w' => e = .returned (.int .i64 (qt a b)) ∧ w = w' := by
  by_cases h : b = 0
  · subst h
    go_enter Tryd.func80, Tryd.ntmps80
    go_wp2
    go_ret
    exact ⟨ret_int (by simp [qt]), rfl⟩
  · have hb : (b == 0) = false := by simpa using h
    have hb' : 0 < b := by omega
    go_enter Tryd.func80, Tryd.ntmps80
    go_wp2
    go_ret
    exact ⟨ret_int (by simp [qt, h]), rfl⟩

set_option maxRecDepth 100000 in
set_option maxHeartbeats 400000 in
theorem remainder_any (a b : Int) (w : World) (a1 : 0 ≤ a) (a2 : a < 65536) (b1 : 0 ≤ b) (b2 : b < 65536) :
    Calls Tryd.prog 81 #[.int .i64 a, .int .i64 b] w fun e w' => e = .returned (.int .i64 (rm a b)) ∧ w = w' := by
  by_cases h : b = 0
  · subst h
    go_enter Tryd.func81, Tryd.ntmps81
    go_wp2
    go_ret
    exact ⟨ret_int (by simp [rm]), rfl⟩
  · have hb : (b == 0) = false := by simpa using h
    have hb' : 0 < b := by omega
    go_enter Tryd.func81, Tryd.ntmps81
    go_wp2
    go_ret
    exact ⟨ret_int (by simp [rm, h]), rfl⟩

theorem sf_le (b : Int) : 1 ≤ sf b ∧ sf b ≤ 32768 := by
  unfold sf
  have h : (b % 16).toNat ≤ 15 := by omega
  have h2 : 2 ^ (b % 16).toNat ≤ 2 ^ 15 := Nat.pow_le_pow_right (by decide) h
  have h3 : 1 ≤ 2 ^ (b % 16).toNat := Nat.one_le_two_pow
  have e : ((2 : Int) ^ (b % 16).toNat) = ((2 ^ (b % 16).toNat : Nat) : Int) := by simp
  rw [e]
  omega
theorem mul_sf (a b : Int) (a1 : 0 ≤ a) (a2 : a < 65536) : 0 ≤ a * sf b ∧ a * sf b ≤ 2147483648 := by
  have h := sf_le b
  refine ⟨Int.mul_nonneg a1 (by omega), ?_⟩
  have h1 : a * sf b ≤ 65536 * sf b := Int.mul_le_mul_of_nonneg_right (by omega) (by omega)
  omega
theorem wrap_sf (a b : Int) (a1 : 0 ≤ a) (a2 : a < 65536) : wrap64 (a * 2 ^ (b % 16).toNat) = a * sf b := by
  have h := mul_sf a b a1 a2
  have e : a * 2 ^ (b % 16).toNat = a * sf b := rfl
  rw [e]
  unfold wrap64
  omega
theorem mul_words (a b : Int) (a1 : 0 ≤ a) (a2 : a < 65536) (b1 : 0 ≤ b) (b2 : b < 65536) : 0 ≤ a * b ∧ a * b ≤ 4294967296 := by
  refine ⟨Int.mul_nonneg a1 b1, ?_⟩
  have h1 : a * b ≤ 65536 * b := Int.mul_le_mul_of_nonneg_right (by omega) b1
  omega

set_option maxRecDepth 100000 in
set_option maxHeartbeats 2000000 in
theorem doOp_yes (op a b : Int) (w : World) (ht : Hid (PowTab w)) (o1 : 1 ≤ op) (o2 : op ≤ 10) (HA : Hid (isW a = true)) (HB : Hid (isW b = true)) :
    Calls Tryd.prog 74 #[.int .i64 op, .int .i64 a, .int .i64 b] w fun e w' => e = .returned (.tuple #[.int .i64 (opv op a b), .bool true]) ∧ w = w' := by
  obtain ⟨a1, a2⟩ := isW_yes HA.out
  obtain ⟨b1, b2⟩ := isW_yes HB.out
  have hm := mul_words a b a1 a2 b1 b2
  have hs := mul_sf a b a1 a2
  have hsf := sf_le b
  rcases (by omega : op = 1 ∨ op = 2 ∨ op = 3 ∨ op = 4 ∨ op = 5 ∨ op = 6 ∨ op = 7 ∨ op = 8 ∨ op = 9 ∨ op = 10) with rfl | rfl | rfl | rfl | rfl | rfl | rfl | rfl | rfl | rfl
  all_goals
    go_enter Tryd.func74, Tryd.ntmps74
    go_wp2_with (first | (go_at_call 72; refine (isWord_any _ _ true (by first | exact HA.out | exact HB.out)).mono ?_; rintro e w' ⟨rfl, rfl⟩) | (go_at_call 79; refine (wordOf_any _ _).mono ?_; rintro e w' ⟨rfl, rfl⟩) | (go_at_call 80; refine (quotient_any _ _ _ a1 a2 b1 b2).mono ?_; rintro e w' ⟨rfl, rfl⟩) | (go_at_call 81; refine (remainder_any _ _ _ a1 a2 b1 b2).mono ?_; rintro e w' ⟨rfl, rfl⟩) | (go_at_call 82; refine (shiftFactor_any _ _ b1 b2 ht).mono ?_; rintro e w' ⟨rfl, rfl⟩))
    go_ret2
    exact ⟨ret_two (by first | rfl | (simp [opv])) rfl, rfl⟩

set_option maxRecDepth 100000 in
set_option maxHeartbeats 1000000 in
theorem doOp_noOp (op a b : Int) (w : World) (ho : isOp op = false) (HA : Hid (isW a = true)) (HB : Hid (isW b = true)) :
    Calls Tryd.prog 74 #[.int .i64 op, .int .i64 a, .int .i64 b] w fun e w' => e = .returned (.tuple #[.int .i64 0, .bool false]) ∧ w = w' := by
  have ho' : ¬ (1 ≤ op ∧ op ≤ 10) := by simpa [isOp] using ho
  clear ho
  have o1 : (op == 1) = false := beq_eq_false_iff_ne.2 (by omega)
  have o2 : (op == 2) = false := beq_eq_false_iff_ne.2 (by omega)
  have o3 : (op == 3) = false := beq_eq_false_iff_ne.2 (by omega)
  have o4 : (op == 4) = false := beq_eq_false_iff_ne.2 (by omega)
  have o5 : (op == 5) = false := beq_eq_false_iff_ne.2 (by omega)
  have o6 : (op == 6) = false := beq_eq_false_iff_ne.2 (by omega)
  have o7 : (op == 7) = false := beq_eq_false_iff_ne.2 (by omega)
  have o8 : (op == 8) = false := beq_eq_false_iff_ne.2 (by omega)
  have o9 : (op == 9) = false := beq_eq_false_iff_ne.2 (by omega)
  have o10 : (op == 10) = false := beq_eq_false_iff_ne.2 (by omega)
  clear ho'
  go_enter Tryd.func74, Tryd.ntmps74
  go_wp2_with (go_at_call 72; refine (isWord_any _ _ true (by first | exact HA.out | exact HB.out)).mono ?_; rintro e w' ⟨rfl, rfl⟩)
  go_ret2
  exact ⟨rfl, rfl⟩

set_option maxRecDepth 100000 in
set_option maxHeartbeats 1000000 in
theorem doOp_any (op a b : Int) (w : World) (ht : Hid (PowTab w)) :
    Calls Tryd.prog 74 #[.int .i64 op, .int .i64 a, .int .i64 b] w fun e w' => e = .returned (.tuple #[.int .i64 (opOf op a b), .bool (isOp op && isW a && isW b)]) ∧ w = w' := by
  cases ha : isW a <;> cases hb : isW b
  case true.true =>
    cases ho : isOp op
    · refine (doOp_noOp op a b w ho ha hb).mono ?_
      rintro e w' ⟨rfl, rfl⟩
      exact ⟨ret_two (by simp [opOf, ho]) rfl, rfl⟩
    · have ho' : 1 ≤ op ∧ op ≤ 10 := by simpa [isOp] using ho
      refine (doOp_yes op a b w ht ho'.1 ho'.2 ha hb).mono ?_
      rintro e w' ⟨rfl, rfl⟩
      exact ⟨ret_two (by simp [opOf, ho, ha, hb]) rfl, rfl⟩
  all_goals
    have HA := Lib.hid ha
    have HB := Lib.hid hb
    clear ha hb
    go_enter Tryd.func74, Tryd.ntmps74
    go_wp2_with (go_at_call 72; refine (isWord_any _ _ _ (by first | exact HA.out | exact HB.out)).mono ?_; rintro e w' ⟨rfl, rfl⟩)
    go_ret2
    exact ⟨ret_two (by simp [opOf, HA.out, HB.out]) (by simp), rfl⟩

end Go.Proofs.YtilnegmjnbffhaaDoor.Op
