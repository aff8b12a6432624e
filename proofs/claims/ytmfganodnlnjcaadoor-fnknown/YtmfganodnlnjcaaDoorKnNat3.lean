/-
  Known bits over natural numbers: the words in their order; no further bit of a sum or a difference could be known. Plain mathematics.
-/
import Derived.Test.YtmfganodnlnjcaaDoorKnNat2
namespace Go.Proofs.YtmfganodnlnjcaaDoor.Op
open Go.Proofs.YtmfganodnlnjcaaDoor

/-- the bits of n, lowest first, at the places where m has a 1, of k places -/
def spr : Nat → Nat → Nat → Nat
  | 0, _, _ => 0
  | k + 1, m, n => if m % 2 = 1 then n % 2 + 2 * spr k (m / 2) (n / 2) else 2 * spr k (m / 2) n
/-- the bits of x at the places where m has a 1, put together -/
def gat : Nat → Nat → Nat → Nat
  | 0, _, _ => 0
  | k + 1, m, x => if m % 2 = 1 then x % 2 + 2 * gat k (m / 2) (x / 2) else gat k (m / 2) (x / 2)
theorem spr_lt (k m n : Nat) : spr k m n < 2 ^ k := by
  induction k generalizing m n with
  | zero => simp [spr]
  | succ k ih =>
    unfold spr; rw [Nat.pow_succ]
    split
    · have := ih (m / 2) (n / 2); omega
    · have := ih (m / 2) n; omega
theorem spr_sub (k m n i : Nat) (h : (spr k m n).testBit i = true) : m.testBit i = true := by
  induction k generalizing m n i with
  | zero => simp [spr] at h
  | succ k ih =>
    unfold spr at h
    cases i with
    | zero =>
      rw [Nat.testBit_zero] at h ⊢
      split at h
      · simp_all
      · simp at h
    | succ i =>
      rw [Nat.testBit_succ] at h ⊢
      split at h
      · have e : (n % 2 + 2 * spr k (m / 2) (n / 2)) / 2 = spr k (m / 2) (n / 2) := by omega
        rw [e] at h; exact ih _ _ _ h
      · have e : 2 * spr k (m / 2) n / 2 = spr k (m / 2) n := by omega
        rw [e] at h; exact ih _ _ _ h
theorem gat_lt (k m x : Nat) : gat k m x < 2 ^ pcF k m := by
  induction k generalizing m x with
  | zero => simp [gat, pcF]
  | succ k ih =>
    have := ih (m / 2) (x / 2)
    unfold gat pcF
    split
    · rename_i h; rw [h, Nat.pow_add, Nat.pow_one]; omega
    · rename_i h; have h0 : m % 2 = 0 := by omega
      rw [h0, Nat.zero_add]; exact this
theorem spr_gat (k m x : Nat) (hx : x < 2 ^ k) (hs : ∀ i, x.testBit i = true → m.testBit i = true) : spr k m (gat k m x) = x := by
  induction k generalizing m x with
  | zero => simp [spr] at hx ⊢; omega
  | succ k ih =>
    rw [Nat.pow_succ] at hx
    have h2 := ih (m / 2) (x / 2) (by omega) (fun i hi => by
      have := hs (i + 1) (by rw [Nat.testBit_succ]; exact hi)
      rwa [Nat.testBit_succ] at this)
    have h0 := hs 0
    rw [Nat.testBit_zero, Nat.testBit_zero] at h0
    unfold spr gat
    split
    · have e1 : (x % 2 + 2 * gat k (m / 2) (x / 2)) % 2 = x % 2 := by omega
      have e2 : (x % 2 + 2 * gat k (m / 2) (x / 2)) / 2 = gat k (m / 2) (x / 2) := by omega
      rw [e1, e2, h2]; omega
    · have : x % 2 = 0 := by
        have hx2 : x % 2 = 0 ∨ x % 2 = 1 := by omega
        rcases hx2 with h | h
        · exact h
        · have := h0 (by simp [h]); simp at this; omega
      rw [h2]; omega
/-- how many words, and the n-th of them -/
def waysN (k : Kn) : Nat := 2 ^ pcF 16 k.m
def numAt (k : Kn) (n : Nat) : Nat := k.v ||| spr 16 k.m n
theorem numAt_lt {k : Kn} (g : goodK k = true) (n : Nat) : numAt k n < 65536 := or_lt16 (goodK_yes g).1 (by have := spr_lt 16 k.m n; simpa using this)
theorem numAt_may {k : Kn} (g : goodK k = true) (n : Nat) : mayK k (numAt k n) = true := by
  rw [mayK_iff]; intro i
  have h1 := and_zero_bit (goodK_yes g).2.2 i
  have h2 := spr_sub 16 k.m n i
  unfold numAt
  rw [Nat.testBit_or]
  revert h1 h2
  cases k.v.testBit i <;> cases k.m.testBit i <;> cases (spr 16 k.m n).testBit i <;> simp
/-- every word of k is one of them -/
theorem numAt_all {k : Kn} {x : Nat} (hx : x < 65536) (h : mayK k x = true) : ∃ n, n < waysN k ∧ numAt k n = x := by
  rw [mayK_iff] at h
  refine ⟨gat 16 k.m (x &&& k.m), gat_lt _ _ _, ?_⟩
  unfold numAt
  rw [spr_gat 16 k.m (x &&& k.m) (by have := and_lt16 (y := k.m) hx; simpa using this) (fun i hi => by rw [Nat.testBit_and, Bool.and_eq_true] at hi; exact hi.2)]
  apply Nat.eq_of_testBit_eq; intro i
  rw [Nat.testBit_or, Nat.testBit_and, ← h i]
  cases x.testBit i <;> cases k.m.testBit i <;> rfl
/-- the least and the greatest word, and one with a bit turned -/
theorem may_least {k : Kn} (g : goodK k = true) : mayK k k.v = true := by
  rw [mayK_iff]; intro i
  have := and_zero_bit (goodK_yes g).2.2 i
  revert this; cases k.v.testBit i <;> cases k.m.testBit i <;> simp
theorem add_or {k : Kn} (g : goodK k = true) : addN k.v k.m = k.v ||| k.m := by
  have hg := goodK_yes g
  have h := bv_or g
  rw [bv_add, bv_lor hg.1 hg.2.1] at h
  have := congrArg BitVec.toNat h
  rw [bv_nat (addN_lt _ _), bv_nat (or_lt16 hg.1 hg.2.1)] at this
  exact this.symm
theorem may_most {k : Kn} (g : goodK k = true) : mayK k (addN k.v k.m) = true := by
  rw [add_or g, mayK_iff]; intro i
  have := and_zero_bit (goodK_yes g).2.2 i
  rw [Nat.testBit_or]
  revert this; cases k.v.testBit i <;> cases k.m.testBit i <;> simp
theorem may_turn {k : Kn} (g : goodK k = true) {i : Nat} (hi : k.m.testBit i = true) : mayK k (k.v ^^^ 2 ^ i) = true := by
  rw [mayK_iff]; intro j
  have := and_zero_bit (goodK_yes g).2.2 j
  rw [Nat.testBit_xor, Nat.testBit_two_pow]
  by_cases h : i = j
  · subst h; rw [hi]; revert this; cases k.v.testBit i <;> simp [hi]
  · simp only [h, decide_false, Bool.xor_false]
    revert this; cases k.v.testBit j <;> cases k.m.testBit j <;> simp
theorem mod_turn (x i : Nat) : (x ^^^ 2 ^ i) % 2 ^ i = x % 2 ^ i := by
  apply Nat.eq_of_testBit_eq; intro j
  rw [Nat.testBit_mod_two_pow, Nat.testBit_mod_two_pow, Nat.testBit_xor, Nat.testBit_two_pow]
  by_cases h : j < i
  · have : i ≠ j := by omega
    simp [h, this]
  · simp [h]
theorem turn_lt {x i : Nat} (hx : x < 65536) (hi : i < 16) : x ^^^ 2 ^ i < 65536 := xor_lt16 hx (by have := Nat.pow_lt_pow_right (a := 2) (by omega) hi; omega)
theorem sum_turn {x y i : Nat} (hi : i < 16) (hx : x < 65536) : (addN (x ^^^ 2 ^ i) y).testBit i = !(addN x y).testBit i := by
  rw [← bv_bit (addN_lt _ _), ← bv_bit (addN_lt _ _), ← bv_add, ← bv_add, BitVec.getLsbD_add hi, BitVec.getLsbD_add hi]
  have hc : BitVec.carry i (bv (x ^^^ 2 ^ i)) (bv y) false = BitVec.carry i (bv x) (bv y) false := by
    simp only [BitVec.carry, bv_nat (turn_lt hx hi), bv_nat hx, mod_turn]
  rw [hc, bv_bit (turn_lt hx hi), bv_bit hx, Nat.testBit_xor, Nat.testBit_two_pow]
  simp only [decide_true, Bool.xor_true]
  cases x.testBit i <;> cases (bv y).getLsbD i <;> cases BitVec.carry i (bv x) (bv y) false <;> rfl
theorem add_comm' (x y : Nat) : addN x y = addN y x := by unfold addN; rw [Nat.add_comm]
theorem sum_turn_right {x y i : Nat} (hi : i < 16) (hy : y < 65536) : (addN x (y ^^^ 2 ^ i)).testBit i = !(addN x y).testBit i := by
  rw [add_comm', sum_turn hi hy, add_comm']
theorem sub_add {x y : Nat} (hx : x < 65536) (hy : y < 65536) : subN x y = addN x (subN 0 y) := by unfold subN addN; omega
theorem dif_turn {x y i : Nat} (hi : i < 16) (hx : x < 65536) (hy : y < 65536) : (subN (x ^^^ 2 ^ i) y).testBit i = !(subN x y).testBit i := by
  rw [sub_add (turn_lt hx hi) hy, sub_add hx hy, sum_turn hi hx]
theorem sub_back {x y : Nat} (hx : x < 65536) (hy : y < 65536) : addN (subN x y) y = x := by unfold subN addN; omega
theorem turn_turn (x i : Nat) : (x ^^^ 2 ^ i) ^^^ 2 ^ i = x := by
  apply Nat.eq_of_testBit_eq; intro j; rw [Nat.testBit_xor, Nat.testBit_xor]; cases x.testBit j <;> cases (2 ^ i).testBit j <;> rfl
/-- the bit of y turned, the difference's bit turns -/
theorem dif_turn_right {x y i : Nat} (hi : i < 16) (hx : x < 65536) (hy : y < 65536) : (subN x (y ^^^ 2 ^ i)).testBit i = !(subN x y).testBit i := by
  have key : ∀ y : Nat, y < 65536 → (subN x y).testBit i = (x.testBit i ^^ (y.testBit i ^^ BitVec.carry i (bv (subN x y)) (bv y) false)) := by
    intro y hy
    have h : (addN (subN x y) y).testBit i = x.testBit i := by rw [sub_back hx hy]
    rw [← bv_bit (addN_lt _ _), ← bv_add, BitVec.getLsbD_add hi, bv_bit (subN_lt _ _), bv_bit hy] at h
    rw [← h]
    cases (subN x y).testBit i <;> cases y.testBit i <;> cases BitVec.carry i (bv (subN x y)) (bv y) false <;> rfl
  have hc : BitVec.carry i (bv (subN x (y ^^^ 2 ^ i))) (bv (y ^^^ 2 ^ i)) false = BitVec.carry i (bv (subN x y)) (bv y) false := by
    have hy' := turn_lt hy hi
    have e : ∀ z : Nat, z < 65536 → subN x z % 2 ^ i = (x % 2 ^ i + 2 ^ i - z % 2 ^ i) % 2 ^ i := by
      intro z hz
      have p := Nat.two_pow_pos i
      have d : 65536 = 2 ^ i * 2 ^ (16 - i) := by rw [← Nat.pow_add, show i + (16 - i) = 16 by omega]
      have h1 : subN x z % 2 ^ i = (x + 65536 - z) % 2 ^ i := by unfold subN; rw [d]; exact Nat.mod_mul_right_mod _ _ _
      rw [h1]
      have q1 := Nat.div_add_mod x (2 ^ i)
      have q2 := Nat.div_add_mod z (2 ^ i)
      have q3 := Nat.mod_lt x p
      have q4 := Nat.mod_lt z p
      have hle : z / 2 ^ i ≤ x / 2 ^ i + (2 ^ (16 - i) - 1) := by
        have u1 : z / 2 ^ i < 2 ^ (16 - i) := Nat.div_lt_of_lt_mul (by rw [← d]; exact hz)
        have u2 := Nat.two_pow_pos (16 - i)
        clear q1 q2 q3 q4 h1 d
        generalize z / 2 ^ i = A at u1 ⊢
        generalize x / 2 ^ i = B
        generalize 2 ^ (16 - i) = T at u1 u2 ⊢
        omega
      have hk : x + 65536 - z = (x % 2 ^ i + 2 ^ i - z % 2 ^ i) + 2 ^ i * (x / 2 ^ i + (2 ^ (16 - i) - 1) - z / 2 ^ i) := by
        have t := Nat.two_pow_pos (16 - i)
        obtain ⟨c, hcc⟩ : ∃ c, x / 2 ^ i + (2 ^ (16 - i) - 1) = z / 2 ^ i + c := ⟨_, (Nat.add_sub_of_le hle).symm⟩
        have e2 : 2 ^ i * (x / 2 ^ i) + 2 ^ i * (2 ^ (16 - i) - 1) = 2 ^ i * (z / 2 ^ i) + 2 ^ i * c := by rw [← Nat.mul_add, hcc, Nat.mul_add]
        have e3 : 2 ^ i * (2 ^ (16 - i) - 1) + 2 ^ i = 65536 := by rw [d, ← Nat.mul_succ]; congr 1; omega
        rw [hcc, Nat.add_sub_cancel_left]
        clear hcc hle h1 hx hy hy'
        generalize 2 ^ i * (x / 2 ^ i) = X at q1 e2
        generalize 2 ^ i * (z / 2 ^ i) = Z at q2 e2
        generalize 2 ^ i * c = C at e2 ⊢
        generalize 2 ^ i * (2 ^ (16 - i) - 1) = Q at e2 e3
        generalize x % 2 ^ i = r at q1 q3 ⊢
        generalize z % 2 ^ i = s at q2 q4 ⊢
        clear d t
        generalize 2 ^ i = P at *
        omega
      rw [hk, Nat.add_mul_mod_self_left]
    simp only [BitVec.carry, bv_nat (subN_lt _ _), bv_nat hy', bv_nat hy, e _ hy', e _ hy, mod_turn]
  rw [key _ (turn_lt hy hi), key y hy, hc, Nat.testBit_xor, Nat.testBit_two_pow]
  simp only [decide_true, Bool.xor_true]
  cases x.testBit i <;> cases y.testBit i <;> cases BitVec.carry i (bv (subN x y)) (bv y) false <;> rfl
/-- a bit of a sum that is not known: two sums differ in it -/
theorem sum_opt {a b : Kn} (ga : goodK a = true) (gb : goodK b = true) {i : Nat} (h : (sumK a b).m.testBit i = true) :
    ∃ x y x' y', x < 65536 ∧ y < 65536 ∧ x' < 65536 ∧ y' < 65536 ∧ mayK a x = true ∧ mayK b y = true ∧ mayK a x' = true ∧ mayK b y' = true ∧ (addN x y).testBit i ≠ (addN x' y').testBit i := by
  have g1 := goodK_yes ga; have g2 := goodK_yes gb
  have hi : i < 16 := by
    rcases Nat.lt_or_ge i 16 with q | q
    · exact q
    · rw [lt16_bit (goodK_yes (sumK_good ga gb)).2.1 q] at h; cases h
  simp only [sumK, notK, Nat.testBit_or, Nat.testBit_xor, Bool.or_eq_true] at h
  rcases h with (h | h) | h
  · exact ⟨a.v, b.v, a.v ^^^ 2 ^ i, b.v, g1.1, g2.1, turn_lt g1.1 hi, g2.1, may_least ga, may_least gb, may_turn ga h, may_least gb, by rw [sum_turn hi g1.1]; cases (addN a.v b.v).testBit i <;> simp⟩
  · exact ⟨a.v, b.v, a.v, b.v ^^^ 2 ^ i, g1.1, g2.1, g1.1, turn_lt g2.1 hi, may_least ga, may_least gb, may_least ga, may_turn gb h, by rw [sum_turn_right hi g2.1]; cases (addN a.v b.v).testBit i <;> simp⟩
  · exact ⟨a.v, b.v, addN a.v a.m, addN b.v b.m, g1.1, g2.1, addN_lt _ _, addN_lt _ _, may_least ga, may_least gb, may_most ga, may_most gb, by revert h; cases (addN a.v b.v).testBit i <;> cases (addN (addN a.v a.m) (addN b.v b.m)).testBit i <;> simp⟩
theorem dif_most {a b : Kn} (ga : goodK a = true) (gb : goodK b = true) : addN (subN a.v b.v) a.m = subN (addN a.v a.m) b.v ∧ subN (subN a.v b.v) b.m = subN a.v (addN b.v b.m) := by
  have g1 := goodK_yes ga; have g2 := goodK_yes gb
  unfold addN subN
  omega
/-- a bit of a difference that is not known: two differences differ in it -/
theorem dif_opt {a b : Kn} (ga : goodK a = true) (gb : goodK b = true) {i : Nat} (h : (difK a b).m.testBit i = true) :
    ∃ x y x' y', x < 65536 ∧ y < 65536 ∧ x' < 65536 ∧ y' < 65536 ∧ mayK a x = true ∧ mayK b y = true ∧ mayK a x' = true ∧ mayK b y' = true ∧ (subN x y).testBit i ≠ (subN x' y').testBit i := by
  have g1 := goodK_yes ga; have g2 := goodK_yes gb
  have hi : i < 16 := by
    rcases Nat.lt_or_ge i 16 with q | q
    · exact q
    · rw [lt16_bit (goodK_yes (difK_good ga gb)).2.1 q] at h; cases h
  simp only [difK, notK, Nat.testBit_or, Nat.testBit_xor, Bool.or_eq_true] at h
  rcases h with (h | h) | h
  · exact ⟨a.v, b.v, a.v ^^^ 2 ^ i, b.v, g1.1, g2.1, turn_lt g1.1 hi, g2.1, may_least ga, may_least gb, may_turn ga h, may_least gb, by rw [dif_turn hi g1.1 g2.1]; cases (subN a.v b.v).testBit i <;> simp⟩
  · exact ⟨a.v, b.v, a.v, b.v ^^^ 2 ^ i, g1.1, g2.1, g1.1, turn_lt g2.1 hi, may_least ga, may_least gb, may_least ga, may_turn gb h, by rw [dif_turn_right hi g1.1 g2.1]; cases (subN a.v b.v).testBit i <;> simp⟩
  · rw [(dif_most ga gb).1, (dif_most ga gb).2] at h
    exact ⟨addN a.v a.m, b.v, a.v, addN b.v b.m, addN_lt _ _, g2.1, g1.1, addN_lt _ _, may_most ga, may_least gb, may_least ga, may_most gb, by revert h; cases (subN (addN a.v a.m) b.v).testBit i <;> cases (subN a.v (addN b.v b.m)).testBit i <;> simp⟩
/-- the join of words, one after another, the first one given -/
def joinL (z : Nat) (l : List Nat) : Kn := l.foldl (fun k n => joinK k ⟨n, 0⟩) ⟨z, 0⟩
theorem joinL_bit (z : Nat) (l : List Nat) (i : Nat) : ((joinL z l).m.testBit i = true ↔ ∃ n ∈ l, n.testBit i ≠ z.testBit i) ∧ ((joinL z l).m.testBit i = false → (joinL z l).v.testBit i = z.testBit i) ∧ ((joinL z l).m.testBit i = true → (joinL z l).v.testBit i = false) := by
  suffices key : ∀ (l : List Nat) (k : Kn), (k.m.testBit i = false → k.v.testBit i = z.testBit i) → (k.m.testBit i = true → k.v.testBit i = false) →
      ((l.foldl (fun k n => joinK k ⟨n, 0⟩) k).m.testBit i = true ↔ k.m.testBit i = true ∨ ∃ n ∈ l, n.testBit i ≠ z.testBit i) ∧
      ((l.foldl (fun k n => joinK k ⟨n, 0⟩) k).m.testBit i = false → (l.foldl (fun k n => joinK k ⟨n, 0⟩) k).v.testBit i = z.testBit i) ∧
      ((l.foldl (fun k n => joinK k ⟨n, 0⟩) k).m.testBit i = true → (l.foldl (fun k n => joinK k ⟨n, 0⟩) k).v.testBit i = false) by
    have := key l ⟨z, 0⟩ (by simp) (by simp)
    simpa [joinL] using this
  intro l
  induction l with
  | nil => intro k h1 h2; simp; exact ⟨h1, h2⟩
  | cons n l ih =>
    intro k h1 h2
    have hm : (joinK k ⟨n, 0⟩).m.testBit i = (k.m.testBit i || (k.v.testBit i ^^ n.testBit i)) := by simp [joinK, notK, Nat.testBit_or, Nat.testBit_xor]
    have hv : (joinK k ⟨n, 0⟩).v.testBit i = (k.v.testBit i && !(k.m.testBit i || (k.v.testBit i ^^ n.testBit i))) := by simp [joinK, notK, andN_bit, Nat.testBit_or, Nat.testBit_xor]
    have hq := ih (joinK k ⟨n, 0⟩) (by
      rw [hm, hv]; revert h1 h2; cases k.m.testBit i <;> cases k.v.testBit i <;> cases n.testBit i <;> simp) (by
      rw [hm, hv]; revert h1 h2; cases k.m.testBit i <;> cases k.v.testBit i <;> cases n.testBit i <;> simp)
    rw [List.foldl_cons]
    refine ⟨hq.1.trans ?_, hq.2⟩
    rw [hm]
    simp only [List.mem_cons, exists_eq_or_imp]
    revert h1 h2
    cases k.m.testBit i <;> cases k.v.testBit i <;> cases n.testBit i <;> cases z.testBit i <;> simp
/-- the join of all results is what the table says, where the results have each bit of it turned that is not known -/
theorem joinL_is {z : Nat} {l : List Nat} {v m : Nat} (hz : ∀ i, m.testBit i = false → z.testBit i = v.testBit i) (h1 : ∀ i, m.testBit i = false → ∀ n ∈ l, n.testBit i = v.testBit i)
    (h2 : ∀ i, m.testBit i = true → ∃ n ∈ l, n.testBit i ≠ z.testBit i) : joinL z l = notK v m := by
  have hb := joinL_bit z l
  have em : (joinL z l).m = m := by
    apply Nat.eq_of_testBit_eq; intro i
    rw [Bool.eq_iff_iff, (hb i).1]
    constructor
    · rintro ⟨n, hn, hne⟩
      cases hm : m.testBit i
      · exact absurd ((h1 i hm n hn).trans (hz i hm).symm) hne
      · rfl
    · exact h2 i
  have ev : (joinL z l).v = andN v m := by
    apply Nat.eq_of_testBit_eq; intro i
    rw [andN_bit]
    cases hm : m.testBit i
    · rw [(hb i).2.1 (by rw [em]; exact hm), hz i hm]; simp
    · rw [(hb i).2.2 (by rw [em]; exact hm)]; simp
  cases hk : joinL z l with
  | mk v' m' =>
    rw [hk] at em ev
    simp only at em ev
    rw [em, ev]; rfl
end Go.Proofs.YtmfganodnlnjcaaDoor.Op
