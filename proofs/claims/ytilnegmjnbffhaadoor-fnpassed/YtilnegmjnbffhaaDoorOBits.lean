/-
  Plain arithmetic of chapter 1: words, signed values, the number of 1 bits. No program in sight.
-/
import Derived.WalkKit
import Derived.Laws.BitsAllLaws
import Derived.Laws.BitsLemmas
namespace Go.Proofs.YtilnegmjnbffhaaDoor.Op
open Go.RowKit

/-- a word -/
def isW (a : Int) : Bool := decide (0 ≤ a ∧ a < 65536)
/-- the word congruent to n -/
def wd (n : Int) : Int := n % 65536
def sg (a : Int) : Int := if a < 32768 then a else a - 65536
def sgOf (a : Int) : Int := if isW a then sg a else 0
def ngOf (a : Int) : Int := if isW a then wd (-a) else 0
def exOf (a : Int) : Int := if isW a then (if a % 256 < 128 then a % 256 else a % 256 + 65280) else 0
def swOf (a : Int) : Int := if isW a then a % 256 * 256 + a / 256 else 0
def lsOf (a b : Int) : Bool := isW a && isW b && decide (sg a < sg b)

theorem isW_yes {a : Int} (h : isW a = true) : 0 ≤ a ∧ a < 65536 := by simpa [isW] using h
theorem isW_no {a : Int} (h : isW a = false) : ¬ (0 ≤ a ∧ a < 65536) := by
  intro h'; simp [isW] at h; omega
theorem isW_mk {a : Int} (h1 : 0 ≤ a) (h2 : a < 65536) : isW a = true := by simp [isW, h1, h2]

theorem wd_tmod (n : Int) : (wrap64 (n.tmod 65536 + 65536)).tmod 65536 = wd n := by
  have h := Int.tmod_def n 65536
  have hr := Int.tmod_lt_of_pos n (show (0 : Int) < 65536 by decide)
  have hl := Int.lt_tmod_of_pos n (show (0 : Int) < 65536 by decide)
  have e : wrap64 (n.tmod 65536 + 65536) = n.tmod 65536 + 65536 := by unfold wrap64; omega
  rw [e, Int.tmod_eq_emod_of_nonneg (by omega)]
  unfold wd
  omega

theorem wd_neg (n : Int) (h : n.tmod 65536 < 0) : wrap64 (n.tmod 65536 + 65536) = wd n := by
  have hd := Int.tmod_def n 65536
  have hr := Int.tmod_lt_of_pos n (show (0 : Int) < 65536 by decide)
  have hl := Int.lt_tmod_of_pos n (show (0 : Int) < 65536 by decide)
  have e : wrap64 (n.tmod 65536 + 65536) = n.tmod 65536 + 65536 := by unfold wrap64; omega
  rw [e]
  unfold wd
  omega

theorem wd_pos (n : Int) (h : 0 ≤ n.tmod 65536) : n.tmod 65536 = wd n := by
  have hd := Int.tmod_def n 65536
  have hr := Int.tmod_lt_of_pos n (show (0 : Int) < 65536 by decide)
  unfold wd
  omega

theorem wd_lt (n : Int) : 0 ≤ wd n ∧ wd n < 65536 := by unfold wd; omega

theorem ret_int {k : IntKind} {a b : Int} (h : a = b) : Ending.returned (.int k a) = .returned (.int k b) := by rw [h]
theorem ret_two {k : IntKind} {a b : Int} {c d : Bool} (h : a = b) (h' : c = d) : Ending.returned (.tuple #[.int k a, .bool c]) = .returned (.tuple #[.int k b, .bool d]) := by rw [h, h']
theorem ret_bools {a b : Bool} {c d : Bool} (h : a = b) (h' : c = d) : Ending.returned (.tuple #[.bool a, .bool c]) = .returned (.tuple #[.bool b, .bool d]) := by rw [h, h']
theorem ret_bool {a b : Bool} (h : a = b) : Ending.returned (.bool a) = .returned (.bool b) := by rw [h]

/-- the number of 1 bits among the lowest k -/
def pcF : Nat → Nat → Nat
  | 0, _ => 0
  | k + 1, n => n % 2 + pcF k (n / 2)
def pc (n : Nat) : Nat := pcF 16 n
def cbOf (a : Int) : Int := if isW a then (pc a.toNat : Int) else 0
theorem pcF_zero (k : Nat) : pcF k 0 = 0 := by induction k with
  | zero => rfl
  | succ k ih => simp [pcF, ih]
theorem pcF_le (k n : Nat) : pcF k n ≤ k := by induction k generalizing n with
  | zero => simp [pcF]
  | succ k ih => have := ih (n / 2); simp only [pcF]; omega
/-- the number of 1 bits of a nibble -/
def nib (i : Nat) : Nat := i % 2 + i / 2 % 2 + i / 4 % 2 + i / 8 % 2
theorem pcF_four (k n : Nat) : pcF (k + 4) n = nib (n % 16) + pcF k (n / 16) := by
  have e1 : n / 2 / 2 = n / 4 := by omega
  have e2 : n / 4 / 2 = n / 8 := by omega
  have e3 : n / 8 / 2 = n / 16 := by omega
  show n % 2 + (n / 2 % 2 + (n / 2 / 2 % 2 + (n / 2 / 2 / 2 % 2 + pcF k (n / 2 / 2 / 2 / 2)))) = _
  rw [e1, e2, e3]
  unfold nib
  omega

/-! The bitwise operations on words. -/
theorem ofInt_i64 (a : Nat) (ha : a < 9223372036854775808) : (BitVec.ofInt 64 (a : Int)).toNat = a := by
  rw [BitVec.ofInt_natCast, BitVec.toNat_ofNat]; exact Nat.mod_eq_of_lt (by omega)
theorem i64_and_nat (a b : Nat) (ha : a < 9223372036854775808) (hb : b < 9223372036854775808) : bits .and .i64 (a : Int) (b : Int) = ((a &&& b : Nat) : Int) := by
  have hx : a &&& b < 2 ^ 63 := Nat.and_lt_two_pow _ (by omega)
  show IntKind.i64.wrap ((BitVec.ofInt 64 (a : Int) &&& BitVec.ofInt 64 (b : Int)).toNat : Int) = _
  rw [BitVec.toNat_and, ofInt_i64 a ha, ofInt_i64 b hb, IntKind.wrap_i64]
  omega
theorem i64_or_nat (a b : Nat) (ha : a < 9223372036854775808) (hb : b < 9223372036854775808) : bits .or .i64 (a : Int) (b : Int) = ((a ||| b : Nat) : Int) := by
  have hx : a ||| b < 2 ^ 63 := Nat.or_lt_two_pow (by omega) (by omega)
  show IntKind.i64.wrap ((BitVec.ofInt 64 (a : Int) ||| BitVec.ofInt 64 (b : Int)).toNat : Int) = _
  rw [BitVec.toNat_or, ofInt_i64 a ha, ofInt_i64 b hb, IntKind.wrap_i64]
  omega
theorem i64_xor_nat (a b : Nat) (ha : a < 9223372036854775808) (hb : b < 9223372036854775808) : bits .xor .i64 (a : Int) (b : Int) = ((a ^^^ b : Nat) : Int) := by
  have hx : a ^^^ b < 2 ^ 63 := Nat.xor_lt_two_pow (by omega) (by omega)
  show IntKind.i64.wrap ((BitVec.ofInt 64 (a : Int) ^^^ BitVec.ofInt 64 (b : Int)).toNat : Int) = _
  rw [BitVec.toNat_xor, ofInt_i64 a ha, ofInt_i64 b hb, IntKind.wrap_i64]
  omega
end Go.Proofs.YtilnegmjnbffhaaDoor.Op
