/-
  Contracts: DoOp, of the program (its shifts by the table of powers) and of the model, return the same value.
-/
import Derived.Test.YtmfganodnlnjcaaOWords
namespace Go.Proofs.Ytmfganodnlnjcaa.Op
open Go.ChangeShapes Go.WideShapes Go.ChangeAt Go.RowKit

/-- 2^(b modulo 16) -/
def sf (b : Int) : Int := 2 ^ (b % 16).toNat
def qt (a b : Int) : Int := if b = 0 then 0 else a / b
def rm (a b : Int) : Int := if b = 0 then a else a % b
/-- what an operation gives -/
def opv (op a b : Int) : Int :=
  if op = 1 then wd (a + b) else if op = 2 then wd (a - b) else if op = 3 then wd (a * b)
  else if op = 4 then qt a b else if op = 5 then rm a b
  else if op = 6 then bits .and .i64 a b else if op = 7 then bits .or .i64 a b else if op = 8 then bits .xor .i64 a b
  else if op = 9 then wd (a * sf b) else a / sf b
def isOp (op : Int) : Bool := decide (1 ≤ op ∧ op ≤ 10)
def opOf (op a b : Int) : Int := if isOp op && isW a && isW b then opv op a b else 0

theorem sf_le (b : Int) : 1 ≤ sf b ∧ sf b ≤ 32768 := by
  unfold sf
  have h : (b % 16).toNat ≤ 15 := by omega
  have h2 : 2 ^ (b % 16).toNat ≤ 2 ^ 15 := Nat.pow_le_pow_right (by decide) h
  have h3 : 1 ≤ 2 ^ (b % 16).toNat := Nat.one_le_two_pow
  have e : ((2 : Int) ^ (b % 16).toNat) = ((2 ^ (b % 16).toNat : Nat) : Int) := by simp
  rw [e]
  omega
theorem mul_sf (a b : Int) (a1 : 0 ≤ a) (a2 : a < 65536) : 0 ≤ a * sf b ∧ a * sf b ≤ 2147483648 := by
  have h := sf_le b
  refine ⟨Int.mul_nonneg a1 (by omega), ?_⟩
  have h1 : a * sf b ≤ 65536 * sf b := Int.mul_le_mul_of_nonneg_right (by omega) (by omega)
  omega
theorem wrap_sf (a b : Int) (a1 : 0 ≤ a) (a2 : a < 65536) : wrap64 (a * 2 ^ (b % 16).toNat) = a * sf b := by
  have h := mul_sf a b a1 a2
  have e : a * 2 ^ (b % 16).toNat = a * sf b := rfl
  rw [e]
  unfold wrap64
  omega
theorem mul_words (a b : Int) (a1 : 0 ≤ a) (a2 : a < 65536) (b1 : 0 ≤ b) (b2 : b < 65536) : 0 ≤ a * b ∧ a * b ≤ 4294967296 := by
  refine ⟨Int.mul_nonneg a1 b1, ?_⟩
  have h1 : a * b ≤ 65536 * b := Int.mul_le_mul_of_nonneg_right (by omega) b1
  omega

end Go.Proofs.Ytmfganodnlnjcaa.Op
