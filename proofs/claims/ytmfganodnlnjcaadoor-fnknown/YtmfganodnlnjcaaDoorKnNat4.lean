/-
  Known bits: shifts, the whole table, and what it says of DoOp. Plain mathematics.
-/
import Derived.Test.YtmfganodnlnjcaaDoorKnNat3
namespace Go.Proofs.YtmfganodnlnjcaaDoor.Op
open Go.Proofs.YtmfganodnlnjcaaDoor

/-- DoOp over natural numbers -/
def opN (op : Int) (x y : Nat) : Nat :=
  if op = 1 then addN x y else if op = 2 then subN x y else if op = 3 then x * y % 65536
  else if op = 4 then (if y = 0 then 0 else x / y) else if op = 5 then (if y = 0 then x else x % y)
  else if op = 6 then x &&& y else if op = 7 then x ||| y else if op = 8 then x ^^^ y
  else if op = 9 then x * 2 ^ (y % 16) % 65536 else x / 2 ^ (y % 16)
theorem sf_nat (y : Nat) : sf (y : Int) = ((2 ^ (y % 16) : Nat) : Int) := by
  unfold sf
  have : ((y : Int) % 16).toNat = y % 16 := by omega
  rw [this]; simp
theorem opv_nat {op : Int} {x y : Nat} (hx : x < 65536) (hy : y < 65536) : opv op (x : Int) (y : Int) = (opN op x y : Int) := by
  unfold opv opN
  split
  · unfold wd addN; omega
  split
  · unfold wd subN; omega
  split
  · unfold wd; rw [← Int.natCast_mul]; omega
  split
  · unfold qt
    by_cases h : y = 0
    · subst h; simp
    · rw [if_neg (by omega), if_neg h]; push_cast; rfl
  split
  · unfold rm
    by_cases h : y = 0
    · subst h; simp
    · rw [if_neg (by omega), if_neg h]; push_cast; rfl
  split
  · exact i64_and_nat x y (by omega) (by omega)
  split
  · exact i64_or_nat x y (by omega) (by omega)
  split
  · exact i64_xor_nat x y (by omega) (by omega)
  split
  · rw [sf_nat]; unfold wd; rw [← Int.natCast_mul]; omega
  · rw [sf_nat]; push_cast; rfl
theorem opN_lt {op : Int} {x y : Nat} (hx : x < 65536) (hy : y < 65536) : opN op x y < 65536 := by
  unfold opN
  split
  · exact addN_lt _ _
  split
  · exact subN_lt _ _
  split
  · exact Nat.mod_lt _ (by decide)
  split
  · split
    · decide
    · exact Nat.lt_of_le_of_lt (Nat.div_le_self _ _) hx
  split
  · split
    · exact hx
    · exact Nat.lt_of_le_of_lt (Nat.mod_le _ _) hx
  split
  · exact and_lt16 hx
  split
  · exact or_lt16 hx hy
  split
  · exact xor_lt16 hx hy
  split
  · exact Nat.mod_lt _ (by decide)
  · exact Nat.lt_of_le_of_lt (Nat.div_le_self _ _) hx
theorem shl_bit (x s i : Nat) : (x * 2 ^ s % 65536).testBit i = (decide (i < 16) && (decide (s ≤ i) && x.testBit (i - s))) := by
  rw [show (65536 : Nat) = 2 ^ 16 by decide, Nat.testBit_mod_two_pow, ← Nat.shiftLeft_eq, Nat.testBit_shiftLeft]
theorem shr_bit (x s i : Nat) : (x / 2 ^ s).testBit i = x.testBit (s + i) := by
  rw [← Nat.shiftRight_eq_div_pow, Nat.testBit_shiftRight]
def allK : Kn := ⟨0, 65535⟩
theorem ones_bit (i : Nat) : (65535 : Nat).testBit i = decide (i < 16) := by
  rw [show (65535 : Nat) = 2 ^ 16 - 1 by decide, Nat.testBit_two_pow_sub_one]
theorem all_may {n : Nat} (hn : n < 65536) : mayK allK n = true := by
  rw [mayK_iff]; intro i
  show (n.testBit i && !(65535 : Nat).testBit i) = (0 : Nat).testBit i
  rw [ones_bit, Nat.zero_testBit]
  by_cases h : i < 16
  · simp [h]
  · rw [lt16_bit hn (by omega)]; rfl
/-- the document's table -/
def doK (op : Int) (a b : Kn) : Kn :=
  if op = 1 then sumK a b else if op = 2 then difK a b
  else if op = 6 then andK a b else if op = 7 then orK a b else if op = 8 then xorK a b
  else if op = 9 ∨ op = 10 then (if b.m = 0 then ⟨opN op a.v b.v, opN op a.m b.v⟩ else allK)
  else (if a.m = 0 ∧ b.m = 0 then ⟨opN op a.v b.v, 0⟩ else allK)
theorem may_known {k : Kn} {n : Nat} (h0 : k.m = 0) (h : mayK k n = true) : n = k.v := by
  rw [mayK_iff] at h
  apply Nat.eq_of_testBit_eq; intro i
  rw [← h i, h0, Nat.zero_testBit]; simp
theorem known_may (v : Nat) : mayK ⟨v, 0⟩ v = true := by rw [mayK_iff]; intro i; simp
theorem shl_may {a : Kn} {x s : Nat} (h : mayK a x = true) : mayK ⟨a.v * 2 ^ s % 65536, a.m * 2 ^ s % 65536⟩ (x * 2 ^ s % 65536) = true := by
  rw [mayK_iff] at h ⊢; intro i
  have := h (i - s)
  simp only [shl_bit]
  by_cases h1 : i < 16 <;> by_cases h2 : s ≤ i <;> simp [h1, h2, this]
theorem shr_may {a : Kn} {x s : Nat} (h : mayK a x = true) : mayK ⟨a.v / 2 ^ s, a.m / 2 ^ s⟩ (x / 2 ^ s) = true := by
  rw [mayK_iff] at h ⊢; intro i
  simp only [shr_bit]; exact h (s + i)
/-- what an operation gives on words of two knowns is a word of what the table says -/
theorem doK_may {op : Int} {a b : Kn} {x y : Nat} (ho : isOp op = true) (ga : goodK a = true) (gb : goodK b = true) (hx : x < 65536) (hy : y < 65536) (ha : mayK a x = true) (hb : mayK b y = true) :
    mayK (doK op a b) (opN op x y) = true := by
  have hz := opN_lt (op := op) hx hy
  have ho' : 1 ≤ op ∧ op ≤ 10 := by simpa [isOp] using ho
  have keep : op = 3 ∨ op = 4 ∨ op = 5 → mayK (doK op a b) (opN op x y) = true := by
    intro h
    have e : doK op a b = if a.m = 0 ∧ b.m = 0 then ⟨opN op a.v b.v, 0⟩ else allK := by
      unfold doK
      rw [if_neg (by omega), if_neg (by omega), if_neg (by omega), if_neg (by omega), if_neg (by omega), if_neg (by omega)]
    rw [e]
    split
    · rename_i h0
      rw [may_known h0.1 ha, may_known h0.2 hb]; exact known_may _
    · exact all_may hz
  rcases (by omega : op = 1 ∨ op = 2 ∨ op = 3 ∨ op = 4 ∨ op = 5 ∨ op = 6 ∨ op = 7 ∨ op = 8 ∨ op = 9 ∨ op = 10) with rfl | rfl | h | h | h | rfl | rfl | rfl | rfl | rfl
  · exact sum_may ga gb hx hy ha hb
  · exact dif_may ga gb hx hy ha hb
  · exact keep (by omega)
  · exact keep (by omega)
  · exact keep (by omega)
  · exact and_may ga gb ha hb
  · exact or_may ga gb ha hb
  · exact xor_may ha hb
  · show mayK (if b.m = 0 then ⟨opN 9 a.v b.v, opN 9 a.m b.v⟩ else allK) (opN 9 x y) = true
    split
    · rename_i h0
      rw [may_known h0 hb]; exact shl_may ha
    · exact all_may hz
  · show mayK (if b.m = 0 then ⟨opN 10 a.v b.v, opN 10 a.m b.v⟩ else allK) (opN 10 x y) = true
    split
    · rename_i h0
      rw [may_known h0 hb]; exact shr_may ha
    · exact all_may hz
theorem goodK_mk {v m : Nat} (hv : v < 65536) (hm : m < 65536) (h : ∀ i, ¬ (v.testBit i = true ∧ m.testBit i = true)) : goodK ⟨v, m⟩ = true :=
  decide_eq_true ⟨hv, hm, and_zero_of h⟩
/-- what the table says is valid -/
theorem doK_good {op : Int} {a b : Kn} (ga : goodK a = true) (gb : goodK b = true) : goodK (doK op a b) = true := by
  have g1 := goodK_yes ga; have g2 := goodK_yes gb
  have z1 := and_zero_bit g1.2.2; have z2 := and_zero_bit g2.2.2
  have hall : goodK allK = true := by decide
  unfold doK
  split
  · exact sumK_good ga gb
  split
  · exact difK_good ga gb
  split
  · refine goodK_mk (and_lt16 g1.1) (lt16 fun i hi => by rw [andN_bit, Nat.testBit_and, Nat.testBit_or, lt16_bit g1.1 hi, lt16_bit g1.2.1 hi]; rfl) fun i => ?_
    rw [andN_bit]; cases (a.v &&& b.v).testBit i <;> simp
  split
  · refine goodK_mk (or_lt16 g1.1 g2.1) (lt16 fun i hi => by rw [andN_bit, Nat.testBit_or, lt16_bit g1.2.1 hi, lt16_bit g2.2.1 hi]; rfl) fun i => ?_
    rw [andN_bit]; cases (a.v ||| b.v).testBit i <;> simp
  split
  · exact notK_good (xor_lt16 g1.1 g2.1) (or_lt16 g1.2.1 g2.2.1)
  split
  · rename_i h
    split
    · refine goodK_mk (opN_lt g1.1 g2.1) (opN_lt g1.2.1 g2.1) fun i => ?_
      rcases h with rfl | rfl
      · show ¬ ((a.v * 2 ^ (b.v % 16) % 65536).testBit i = true ∧ (a.m * 2 ^ (b.v % 16) % 65536).testBit i = true)
        rw [shl_bit, shl_bit]
        have := z1 (i - b.v % 16)
        rintro ⟨h1, h2⟩
        simp only [Bool.and_eq_true] at h1 h2
        exact this ⟨h1.2.2, h2.2.2⟩
      · show ¬ ((a.v / 2 ^ (b.v % 16)).testBit i = true ∧ (a.m / 2 ^ (b.v % 16)).testBit i = true)
        rw [shr_bit, shr_bit]; exact z1 _
    · exact hall
  · split
    · exact goodK_mk (opN_lt g1.1 g2.1) (by decide) fun i => by simp
    · exact hall
end Go.Proofs.YtmfganodnlnjcaaDoor.Op
