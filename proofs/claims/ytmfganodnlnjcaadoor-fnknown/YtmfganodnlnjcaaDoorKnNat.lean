/-
  Known bits over natural numbers: what is in, the join, the meet, the table of operations, the words in their order. Plain mathematics.
-/
import Derived.Test.YtmfganodnlnjcaaDoorODoOps
namespace Go.Proofs.YtmfganodnlnjcaaDoor.Op

/-- the bits of x that are not in m -/
def andN (x m : Nat) : Nat := x ^^^ (x &&& m)
theorem andN_bit (x m i : Nat) : (andN x m).testBit i = (x.testBit i && !m.testBit i) := by
  unfold andN
  rw [Nat.testBit_xor, Nat.testBit_and]
  cases x.testBit i <;> cases m.testBit i <;> rfl
/-- known bits: a value, and which bits are not known -/
structure Kn where
  v : Nat
  m : Nat
deriving DecidableEq
def goodK (k : Kn) : Bool := decide (k.v < 65536 ∧ k.m < 65536 ∧ k.v &&& k.m = 0)
theorem goodK_yes {k : Kn} (h : goodK k = true) : k.v < 65536 ∧ k.m < 65536 ∧ k.v &&& k.m = 0 := by simpa [goodK] using h
theorem and_zero_bit {x y : Nat} (h : x &&& y = 0) (i : Nat) : ¬ (x.testBit i = true ∧ y.testBit i = true) := by
  rintro ⟨h1, h2⟩
  have := congrArg (fun n => n.testBit i) h
  simp [h1, h2] at this
theorem and_zero_of {x y : Nat} (h : ∀ i, ¬ (x.testBit i = true ∧ y.testBit i = true)) : x &&& y = 0 := by
  apply Nat.eq_of_testBit_eq; intro i
  have := h i
  rw [Nat.testBit_and, Nat.zero_testBit]
  cases h1 : x.testBit i <;> cases h2 : y.testBit i <;> simp_all
/-- n may be a word of k -/
def mayK (k : Kn) (n : Nat) : Bool := decide (andN n k.m = k.v)
theorem mayK_iff {k : Kn} {n : Nat} : mayK k n = true ↔ ∀ i, (n.testBit i && !k.m.testBit i) = k.v.testBit i := by
  unfold mayK
  rw [decide_eq_true_eq]
  constructor
  · intro h i; rw [← h, andN_bit]
  · intro h; apply Nat.eq_of_testBit_eq; intro i; rw [andN_bit]; exact h i
theorem lt16 {x : Nat} (h : ∀ i, 16 ≤ i → x.testBit i = false) : x < 65536 := by
  have : x < 2 ^ 16 := Nat.lt_pow_two_of_testBit x h
  simpa using this
theorem lt16_bit {x i : Nat} (h : x < 65536) (hi : 16 ≤ i) : x.testBit i = false := by
  apply Nat.testBit_lt_two_pow
  have := Nat.pow_le_pow_right (n := 2) (by omega) hi
  omega
/-- a value without bits that are not known -/
def notK (x m : Nat) : Kn := ⟨andN x m, m⟩
theorem notK_good {x m : Nat} (hx : x < 65536) (hm : m < 65536) : goodK (notK x m) = true := by
  apply decide_eq_true
  simp only [notK]
  refine ⟨lt16 fun i hi => by rw [andN_bit, lt16_bit hx hi]; rfl, hm, and_zero_of fun i => ?_⟩
  rw [andN_bit]; cases x.testBit i <;> cases m.testBit i <;> simp
def joinK (a b : Kn) : Kn := notK a.v (a.m ||| b.m ||| (a.v ^^^ b.v))
theorem or_lt16 {x y : Nat} (hx : x < 65536) (hy : y < 65536) : x ||| y < 65536 := by simpa using Nat.or_lt_two_pow (n := 16) (by simpa using hx) (by simpa using hy)
theorem xor_lt16 {x y : Nat} (hx : x < 65536) (hy : y < 65536) : x ^^^ y < 65536 := by simpa using Nat.xor_lt_two_pow (n := 16) (by simpa using hx) (by simpa using hy)
theorem and_lt16 {x y : Nat} (hx : x < 65536) : x &&& y < 65536 := Nat.lt_of_le_of_lt Nat.and_le_left hx
theorem joinK_good {a b : Kn} (ga : goodK a = true) (gb : goodK b = true) : goodK (joinK a b) = true := by
  have h1 := goodK_yes ga; have h2 := goodK_yes gb
  exact notK_good h1.1 (or_lt16 (or_lt16 h1.2.1 h2.2.1) (xor_lt16 h1.1 h2.1))
theorem join_left {a b : Kn} {n : Nat} (h : mayK a n = true) : mayK (joinK a b) n = true := by
  rw [mayK_iff] at h ⊢
  intro i
  have := h i
  simp only [joinK, notK, andN_bit, Nat.testBit_or, Nat.testBit_xor] at this ⊢
  revert this
  cases n.testBit i <;> cases a.m.testBit i <;> cases a.v.testBit i <;> cases b.m.testBit i <;> cases b.v.testBit i <;> simp
theorem join_right {a b : Kn} {n : Nat} (h : mayK b n = true) : mayK (joinK a b) n = true := by
  rw [mayK_iff] at h ⊢
  intro i
  have := h i
  simp only [joinK, notK, andN_bit, Nat.testBit_or, Nat.testBit_xor] at this ⊢
  revert this
  cases n.testBit i <;> cases a.m.testBit i <;> cases a.v.testBit i <;> cases b.m.testBit i <;> cases b.v.testBit i <;> simp
/-- the known bits of a join: just those known and equal in both -/
theorem join_known {a b : Kn} (i : Nat) : (joinK a b).m.testBit i = false ↔ a.m.testBit i = false ∧ b.m.testBit i = false ∧ a.v.testBit i = b.v.testBit i := by
  simp only [joinK, notK, Nat.testBit_or, Nat.testBit_xor]
  cases a.m.testBit i <;> cases a.v.testBit i <;> cases b.m.testBit i <;> cases b.v.testBit i <;> simp
theorem join_val {a b : Kn} (i : Nat) (h : (joinK a b).m.testBit i = false) : (joinK a b).v.testBit i = a.v.testBit i := by
  have h' : (a.m ||| b.m ||| (a.v ^^^ b.v)).testBit i = false := h
  simp only [joinK, notK, andN_bit, h']; simp
def meetK (a b : Kn) : Kn := ⟨a.v ||| b.v, a.m &&& b.m⟩
def metK (a b : Kn) : Bool := decide (andN (a.v ^^^ b.v) (a.m ||| b.m) = 0)
theorem metK_iff {a b : Kn} : metK a b = true ↔ ∀ i, a.m.testBit i = false → b.m.testBit i = false → a.v.testBit i = b.v.testBit i := by
  unfold metK
  rw [decide_eq_true_eq]
  constructor
  · intro h i h1 h2
    have := congrArg (fun n => n.testBit i) h
    simp only [andN_bit, Nat.testBit_xor, Nat.testBit_or, h1, h2, Nat.zero_testBit] at this
    revert this; cases a.v.testBit i <;> cases b.v.testBit i <;> simp
  · intro h; apply Nat.eq_of_testBit_eq; intro i
    have := h i
    simp only [andN_bit, Nat.testBit_xor, Nat.testBit_or, Nat.zero_testBit]
    revert this; cases a.m.testBit i <;> cases b.m.testBit i <;> cases a.v.testBit i <;> cases b.v.testBit i <;> simp
theorem meet_may {a b : Kn} {n : Nat} (ga : goodK a = true) (gb : goodK b = true) (h : metK a b = true) : mayK (meetK a b) n = true ↔ mayK a n = true ∧ mayK b n = true := by
  have h1 := and_zero_bit (goodK_yes ga).2.2; have h2 := and_zero_bit (goodK_yes gb).2.2
  rw [mayK_iff, mayK_iff, mayK_iff]
  have hm := metK_iff.1 h
  constructor
  · intro hq
    refine ⟨fun i => ?_, fun i => ?_⟩
    · have q := hq i; have p := hm i; have r := h1 i; have s := h2 i
      simp only [meetK, Nat.testBit_or, Nat.testBit_and] at q
      revert q p r s
      cases n.testBit i <;> cases a.m.testBit i <;> cases a.v.testBit i <;> cases b.m.testBit i <;> cases b.v.testBit i <;> simp
    · have q := hq i; have p := hm i; have r := h1 i; have s := h2 i
      simp only [meetK, Nat.testBit_or, Nat.testBit_and] at q
      revert q p r s
      cases n.testBit i <;> cases a.m.testBit i <;> cases a.v.testBit i <;> cases b.m.testBit i <;> cases b.v.testBit i <;> simp
  · rintro ⟨ha, hb⟩ i
    have q := ha i; have p := hb i
    simp only [meetK, Nat.testBit_or, Nat.testBit_and]
    revert q p
    cases n.testBit i <;> cases a.m.testBit i <;> cases a.v.testBit i <;> cases b.m.testBit i <;> cases b.v.testBit i <;> simp
theorem meet_none {a b : Kn} {n : Nat} (h : metK a b = false) : ¬ (mayK a n = true ∧ mayK b n = true) := by
  rintro ⟨ha, hb⟩
  rw [mayK_iff] at ha hb
  have : metK a b = true := metK_iff.2 fun i h1 h2 => by rw [← ha i, ← hb i, h1, h2]
  rw [this] at h; cases h
theorem meetK_good {a b : Kn} (ga : goodK a = true) (gb : goodK b = true) (h : metK a b = true) : goodK (meetK a b) = true := by
  have h1 := goodK_yes ga; have h2 := goodK_yes gb
  have z1 := and_zero_bit h1.2.2; have z2 := and_zero_bit h2.2.2; have hm := metK_iff.1 h
  apply decide_eq_true
  simp only [meetK]
  refine ⟨or_lt16 h1.1 h2.1, and_lt16 h1.2.1, and_zero_of fun i => ?_⟩
  have p := z1 i; have q := z2 i
  simp only [Nat.testBit_or, Nat.testBit_and]
  revert p q
  cases a.m.testBit i <;> cases a.v.testBit i <;> cases b.m.testBit i <;> cases b.v.testBit i <;> simp
/-- bit by bit -/
def andK (a b : Kn) : Kn := ⟨a.v &&& b.v, andN ((a.v ||| a.m) &&& (b.v ||| b.m)) (a.v &&& b.v)⟩
def orK (a b : Kn) : Kn := ⟨a.v ||| b.v, andN (a.m ||| b.m) (a.v ||| b.v)⟩
def xorK (a b : Kn) : Kn := notK (a.v ^^^ b.v) (a.m ||| b.m)
theorem and_may {a b : Kn} {x y : Nat} (ga : goodK a = true) (gb : goodK b = true) (hx : mayK a x = true) (hy : mayK b y = true) : mayK (andK a b) (x &&& y) = true := by
  have z1 := and_zero_bit (goodK_yes ga).2.2; have z2 := and_zero_bit (goodK_yes gb).2.2
  rw [mayK_iff] at hx hy ⊢
  intro i
  have q := hx i; have p := hy i; have r := z1 i; have s := z2 i
  simp only [andK, andN_bit, Nat.testBit_or, Nat.testBit_and]
  revert q p r s
  cases x.testBit i <;> cases y.testBit i <;> cases a.m.testBit i <;> cases a.v.testBit i <;> cases b.m.testBit i <;> cases b.v.testBit i <;> simp
theorem or_may {a b : Kn} {x y : Nat} (ga : goodK a = true) (gb : goodK b = true) (hx : mayK a x = true) (hy : mayK b y = true) : mayK (orK a b) (x ||| y) = true := by
  have z1 := and_zero_bit (goodK_yes ga).2.2; have z2 := and_zero_bit (goodK_yes gb).2.2
  rw [mayK_iff] at hx hy ⊢
  intro i
  have q := hx i; have p := hy i; have r := z1 i; have s := z2 i
  simp only [orK, andN_bit, Nat.testBit_or]
  revert q p r s
  cases x.testBit i <;> cases y.testBit i <;> cases a.m.testBit i <;> cases a.v.testBit i <;> cases b.m.testBit i <;> cases b.v.testBit i <;> simp
theorem xor_may {a b : Kn} {x y : Nat} (hx : mayK a x = true) (hy : mayK b y = true) : mayK (xorK a b) (x ^^^ y) = true := by
  rw [mayK_iff] at hx hy ⊢
  intro i
  have q := hx i; have p := hy i
  simp only [xorK, notK, andN_bit, Nat.testBit_or, Nat.testBit_xor]
  revert q p
  cases x.testBit i <;> cases y.testBit i <;> cases a.m.testBit i <;> cases a.v.testBit i <;> cases b.m.testBit i <;> cases b.v.testBit i <;> simp
end Go.Proofs.YtmfganodnlnjcaaDoor.Op
