/-
  Plain laws of words: subtraction undoes addition, quotient and remainder recompose the dividend, the bitwise operations and the numbers of their 1 bits.
-/
import Derived.Test.YtcacceapdjkgeaaDoorDoOps
import Derived.Test.YtcacceapdjkgeaaDoorCount
namespace Go.Proofs.YtcacceapdjkgeaaDoor
open Go.RowKit

theorem and_mod (n m : Nat) : (n &&& m) % 2 = n % 2 * (m % 2) := by
  have h : (n &&& m) % 2 = 1 ↔ n % 2 = 1 ∧ m % 2 = 1 := Nat.and_mod_two_eq_one
  rcases Nat.mod_two_eq_zero_or_one n with a | a <;> rcases Nat.mod_two_eq_zero_or_one m with b | b <;> rcases Nat.mod_two_eq_zero_or_one (n &&& m) with c | c <;> simp [a, b, c] at h ⊢
theorem or_mod (n m : Nat) : (n ||| m) % 2 + n % 2 * (m % 2) = n % 2 + m % 2 := by
  have h : (n ||| m) % 2 = 1 ↔ n % 2 = 1 ∨ m % 2 = 1 := Nat.or_mod_two_eq_one
  rcases Nat.mod_two_eq_zero_or_one n with a | a <;> rcases Nat.mod_two_eq_zero_or_one m with b | b <;> rcases Nat.mod_two_eq_zero_or_one (n ||| m) with c | c <;> simp [a, b, c] at h ⊢
theorem and_or_add (k n m : Nat) (hn : n < 2 ^ k) (hm : m < 2 ^ k) : (n &&& m) + (n ||| m) = n + m := by
  induction k generalizing n m with
  | zero => simp at hn hm; subst hn; subst hm; rfl
  | succ k ih =>
    rw [Nat.pow_succ] at hn hm
    have h := ih (n / 2) (m / 2) (by omega) (by omega)
    rw [← Nat.and_div_two, ← Nat.or_div_two] at h
    have h1 := and_mod n m
    have h2 := or_mod n m
    generalize n % 2 * (m % 2) = z at h1 h2
    omega
theorem pcF_and_or (k n m : Nat) : pcF k (n &&& m) + pcF k (n ||| m) = pcF k n + pcF k m := by
  induction k generalizing n m with
  | zero => rfl
  | succ k ih =>
    have h := ih (n / 2) (m / 2)
    rw [← Nat.and_div_two, ← Nat.or_div_two] at h
    have h1 := and_mod n m
    have h2 := or_mod n m
    simp only [pcF]
    generalize n % 2 * (m % 2) = z at h1 h2
    omega

theorem opOf_yes {op a b : Int} (ho : isOp op = true) (ha : isW a = true) (hb : isW b = true) : opOf op a b = opv op a b := by simp [opOf, ho, ha, hb]
theorem word_nat {a : Int} (h : isW a = true) : ∃ n : Nat, a = n ∧ n < 65536 := by
  obtain ⟨h1, h2⟩ := isW_yes h
  exact ⟨a.toNat, by omega, by omega⟩
theorem isW_nat {n : Nat} (h : n < 65536) : isW (n : Int) = true := isW_mk (by omega) (by omega)

theorem w_add {a b : Int} (ha : isW a = true) (hb : isW b = true) : opOf 1 a b = wd (a + b) := opOf_yes (by decide) ha hb
theorem isW_add {a b : Int} (ha : isW a = true) (hb : isW b = true) : isW (opOf 1 a b) = true := by rw [w_add ha hb]; have := wd_lt (a + b); exact isW_mk this.1 this.2
theorem sub_add {a b : Int} (ha : isW a = true) (hb : isW b = true) : opOf 2 (opOf 1 a b) b = a := by
  obtain ⟨a1, a2⟩ := isW_yes ha
  rw [opOf_yes (by decide) (isW_add ha hb) hb, w_add ha hb]
  show wd (wd (a + b) - b) = a
  unfold wd; omega
theorem w_quo {a b : Int} (ha : isW a = true) (hb : isW b = true) : opOf 4 a b = qt a b := opOf_yes (by decide) ha hb
theorem isW_quo {a b : Int} (ha : isW a = true) (hb : isW b = true) : isW (opOf 4 a b) = true := by
  obtain ⟨a1, a2⟩ := isW_yes ha
  obtain ⟨b1, b2⟩ := isW_yes hb
  rw [w_quo ha hb]; unfold qt
  split
  · decide
  · exact isW_mk (Int.ediv_nonneg a1 b1) (Int.lt_of_le_of_lt (Int.ediv_le_self _ a1) a2)
theorem w_rem {a b : Int} (ha : isW a = true) (hb : isW b = true) : opOf 5 a b = rm a b := opOf_yes (by decide) ha hb
theorem mul_quo {a b : Int} (ha : isW a = true) (hb : isW b = true) : opOf 3 (opOf 4 a b) b + opOf 5 a b = a ∧ 0 ≤ opOf 3 (opOf 4 a b) b ∧ opOf 3 (opOf 4 a b) b < 65536 ∧ 0 ≤ opOf 5 a b ∧ opOf 5 a b < 65536 := by
  obtain ⟨a1, a2⟩ := isW_yes ha
  obtain ⟨b1, b2⟩ := isW_yes hb
  rw [opOf_yes (by decide) (isW_quo ha hb) hb, w_quo ha hb, w_rem ha hb]
  have hv : ∀ x, opv 3 x b = wd (x * b) := fun _ => rfl
  rw [hv]
  by_cases h0 : b = 0
  · subst h0
    unfold qt rm
    simp [wd]
    omega
  · unfold qt rm
    simp only [h0, if_false]
    have h := Int.ediv_mul_add_emod a b
    have h1 : 0 ≤ a % b := Int.emod_nonneg a h0
    have h2 : a % b < b := Int.emod_lt_of_pos a (by omega)
    have h3 : 0 ≤ a / b * b := Int.mul_nonneg (Int.ediv_nonneg a1 b1) b1
    generalize a / b * b = z at h h3
    unfold wd
    omega
theorem bit_ops {a b : Int} (ha : isW a = true) (hb : isW b = true) : ∃ n m : Nat, a = n ∧ b = m ∧ n < 65536 ∧ m < 65536 ∧ opOf 6 a b = ((n &&& m : Nat) : Int) ∧ opOf 7 a b = ((n ||| m : Nat) : Int) ∧ opOf 8 a b = ((n ^^^ m : Nat) : Int) := by
  obtain ⟨n, en, hn⟩ := word_nat ha
  obtain ⟨m, em, hm⟩ := word_nat hb
  refine ⟨n, m, en, em, hn, hm, ?_, ?_, ?_⟩
  · rw [opOf_yes (by decide) ha hb, en, em]; exact i64_and_nat n m (by omega) (by omega)
  · rw [opOf_yes (by decide) ha hb, en, em]; exact i64_or_nat n m (by omega) (by omega)
  · rw [opOf_yes (by decide) ha hb, en, em]; exact i64_xor_nat n m (by omega) (by omega)
theorem isW_and {a b : Int} (ha : isW a = true) (hb : isW b = true) : isW (opOf 6 a b) = true := by
  obtain ⟨n, m, -, -, hn, hm, h6, h7, h8⟩ := bit_ops ha hb
  rw [h6]; exact isW_nat (Nat.lt_of_lt_of_le (Nat.and_lt_two_pow n (n := 16) (by omega)) (by decide))
theorem isW_or {a b : Int} (ha : isW a = true) (hb : isW b = true) : isW (opOf 7 a b) = true := by
  obtain ⟨n, m, -, -, hn, hm, h6, h7, h8⟩ := bit_ops ha hb
  rw [h7]; exact isW_nat (Nat.lt_of_lt_of_le (Nat.or_lt_two_pow (n := 16) (by omega) (by omega)) (by decide))
theorem isW_xor {a b : Int} (ha : isW a = true) (hb : isW b = true) : isW (opOf 8 a b) = true := by
  obtain ⟨n, m, -, -, hn, hm, h6, h7, h8⟩ := bit_ops ha hb
  rw [h8]; exact isW_nat (Nat.lt_of_lt_of_le (Nat.xor_lt_two_pow (n := 16) (by omega) (by omega)) (by decide))
theorem xor_xor {a b : Int} (ha : isW a = true) (hb : isW b = true) : opOf 8 (opOf 8 a b) b = a := by
  obtain ⟨n, m, en, em, hn, hm, h6, h7, h8⟩ := bit_ops ha hb
  obtain ⟨n', m', en', em', hn', hm', k6, k7, k8⟩ := bit_ops (isW_xor ha hb) hb
  rw [k8]
  have e1 : n' = n ^^^ m := by omega
  have e2 : m' = m := by omega
  rw [e1, e2, Nat.xor_assoc, Nat.xor_self, Nat.xor_zero]; exact en.symm
theorem and_or_sum {a b : Int} (ha : isW a = true) (hb : isW b = true) : opOf 6 a b + opOf 7 a b = a + b := by
  obtain ⟨n, m, en, em, hn, hm, h6, h7, h8⟩ := bit_ops ha hb
  rw [h6, h7, en, em]
  have := and_or_add 16 n m (by omega) (by omega)
  omega
theorem and_or_count {a b : Int} (ha : isW a = true) (hb : isW b = true) : cbOf (opOf 6 a b) + cbOf (opOf 7 a b) = cbOf a + cbOf b := by
  have u := isW_and ha hb
  have v := isW_or ha hb
  unfold cbOf
  simp only [u, v, ha, hb, if_true]
  obtain ⟨n, m, en, em, hn, hm, h6, h7, h8⟩ := bit_ops ha hb
  rw [h6, h7, en, em]
  have := pcF_and_or 16 n m
  simp only [Int.toNat_natCast]
  unfold pc
  omega
theorem cb_le (a : Int) : 0 ≤ cbOf a ∧ cbOf a ≤ 16 := by
  unfold cbOf
  split
  · have := pcF_le 16 a.toNat
    unfold pc
    omega
  · omega
theorem sw_twice {a : Int} (h : isW a = true) : isW (swOf a) = true ∧ swOf (swOf a) = a := by
  obtain ⟨h1, h2⟩ := isW_yes h
  have e : swOf a = a % 256 * 256 + a / 256 := by simp [swOf, h]
  have hw : isW (swOf a) = true := by rw [e]; exact isW_mk (by omega) (by omega)
  refine ⟨hw, ?_⟩
  have e2 : ∀ x, isW x = true → swOf x = x % 256 * 256 + x / 256 := fun x hx => by simp [swOf, hx]
  rw [e2 _ hw, e]
  omega
end Go.Proofs.YtcacceapdjkgeaaDoor
