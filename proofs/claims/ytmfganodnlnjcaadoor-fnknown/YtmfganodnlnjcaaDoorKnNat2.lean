/-
  Known bits over natural numbers: sums and differences, and that no further bit could be known. Plain mathematics.
-/
import Derived.Test.YtmfganodnlnjcaaDoorKnNat
import Derived.Test.YtmfganodnlnjcaaDoorKnMath
namespace Go.Proofs.YtmfganodnlnjcaaDoor.Op
open Go.Proofs.YtmfganodnlnjcaaDoor

abbrev bv (n : Nat) : BitVec 16 := BitVec.ofNat 16 n
theorem bv_nat {n : Nat} (h : n < 65536) : (bv n).toNat = n := by simp; omega
theorem bv_bit {n i : Nat} (h : n < 65536) : (bv n).getLsbD i = n.testBit i := by
  show (bv n).toNat.testBit i = _
  rw [bv_nat h]
theorem bv_may {k : Kn} {n : Nat} (g : goodK k = true) (hn : n < 65536) (h : mayK k n = true) : MayB (bv k.v) (bv k.m) (bv n) := by
  have hg := goodK_yes g
  unfold MayB
  apply BitVec.eq_of_getLsbD_eq; intro i hi
  rw [BitVec.getLsbD_and, BitVec.getLsbD_not, bv_bit hn, bv_bit hg.2.1, bv_bit hg.1, ← mayK_iff.1 h i]
  simp [hi]
theorem bv_or {k : Kn} (g : goodK k = true) : bv k.v ||| bv k.m = bv k.v + bv k.m := by
  have hg := goodK_yes g
  rw [BitVec.add_eq_or_of_and_eq_zero]
  apply BitVec.eq_of_getLsbD_eq; intro i hi
  have := and_zero_bit hg.2.2 i
  rw [BitVec.getLsbD_and, bv_bit hg.1, bv_bit hg.2.1]
  simp only [BitVec.getLsbD_zero]
  revert this; cases k.v.testBit i <;> cases k.m.testBit i <;> simp
def addN (x y : Nat) : Nat := (x + y) % 65536
def subN (x y : Nat) : Nat := (x + 65536 - y) % 65536
theorem addN_lt (x y : Nat) : addN x y < 65536 := Nat.mod_lt _ (by decide)
theorem subN_lt (x y : Nat) : subN x y < 65536 := Nat.mod_lt _ (by decide)
theorem bv_add (x y : Nat) : bv x + bv y = bv (addN x y) := by
  apply BitVec.eq_of_toNat_eq; simp [addN]
theorem bv_sub {x y : Nat} (hx : x < 65536) (hy : y < 65536) : bv x - bv y = bv (subN x y) := by
  apply BitVec.eq_of_toNat_eq
  rw [BitVec.toNat_sub, bv_nat hx, bv_nat hy, bv_nat (subN_lt _ _)]
  unfold subN
  omega
def sumK (a b : Kn) : Kn := notK (addN a.v b.v) (a.m ||| b.m ||| (addN a.v b.v ^^^ addN (addN a.v a.m) (addN b.v b.m)))
def difK (a b : Kn) : Kn := notK (subN a.v b.v) (a.m ||| b.m ||| (addN (subN a.v b.v) a.m ^^^ subN (subN a.v b.v) b.m))
theorem sumK_good {a b : Kn} (ga : goodK a = true) (gb : goodK b = true) : goodK (sumK a b) = true :=
  notK_good (addN_lt _ _) (or_lt16 (or_lt16 (goodK_yes ga).2.1 (goodK_yes gb).2.1) (xor_lt16 (addN_lt _ _) (addN_lt _ _)))
theorem difK_good {a b : Kn} (ga : goodK a = true) (gb : goodK b = true) : goodK (difK a b) = true :=
  notK_good (subN_lt _ _) (or_lt16 (or_lt16 (goodK_yes ga).2.1 (goodK_yes gb).2.1) (xor_lt16 (addN_lt _ _) (subN_lt _ _)))
theorem may_of_bv {v m z : Nat} (hv : v < 65536) (hm : m < 65536) (hz : z < 65536) (h : MayB (bv v &&& ~~~(bv m)) (bv m) (bv z)) : mayK (notK v m) z = true := by
  rw [mayK_iff]; intro i
  by_cases hi : i < 16
  · have := may_bits h i hi
    rw [BitVec.getLsbD_and, BitVec.getLsbD_not, bv_bit hv, bv_bit hm, bv_bit hz] at this
    simp only [hi, decide_true, Bool.true_and] at this
    simp only [notK, andN_bit]; rw [this]
  · simp only [notK, andN_bit, lt16_bit hv (by omega : 16 ≤ i), lt16_bit hz (by omega : 16 ≤ i)]
theorem bv_lor {x y : Nat} (hx : x < 65536) (hy : y < 65536) : bv x ||| bv y = bv (x ||| y) := by
  apply BitVec.eq_of_toNat_eq; rw [BitVec.toNat_or, bv_nat hx, bv_nat hy, bv_nat (or_lt16 hx hy)]
theorem bv_lxor {x y : Nat} (hx : x < 65536) (hy : y < 65536) : bv x ^^^ bv y = bv (x ^^^ y) := by
  apply BitVec.eq_of_toNat_eq; rw [BitVec.toNat_xor, bv_nat hx, bv_nat hy, bv_nat (xor_lt16 hx hy)]
theorem sum_may {a b : Kn} {x y : Nat} (ga : goodK a = true) (gb : goodK b = true) (hx : x < 65536) (hy : y < 65536) (ha : mayK a x = true) (hb : mayK b y = true) :
    mayK (sumK a b) (addN x y) = true := by
  have g1 := goodK_yes ga; have g2 := goodK_yes gb
  have h := may_sum (bv_may ga hx ha) (bv_may gb hy hb)
  rw [bv_or ga, bv_or gb, bv_add a.v a.m, bv_add b.v b.m, bv_add a.v b.v, bv_add (addN a.v a.m), bv_add x y, bv_lor g1.2.1 g2.2.1, bv_lxor (addN_lt _ _) (addN_lt _ _), bv_lor (or_lt16 g1.2.1 g2.2.1) (xor_lt16 (addN_lt _ _) (addN_lt _ _))] at h
  exact may_of_bv (addN_lt _ _) (or_lt16 (or_lt16 g1.2.1 g2.2.1) (xor_lt16 (addN_lt _ _) (addN_lt _ _))) (addN_lt _ _) h
theorem dif_may {a b : Kn} {x y : Nat} (ga : goodK a = true) (gb : goodK b = true) (hx : x < 65536) (hy : y < 65536) (ha : mayK a x = true) (hb : mayK b y = true) :
    mayK (difK a b) (subN x y) = true := by
  have g1 := goodK_yes ga; have g2 := goodK_yes gb
  have e1 : (bv a.v ||| bv a.m) - bv b.v = bv (addN (subN a.v b.v) a.m) := by
    rw [bv_or ga, ← bv_add, ← bv_sub g1.1 g2.1, BitVec.sub_eq_add_neg, BitVec.sub_eq_add_neg, BitVec.add_assoc, BitVec.add_assoc, BitVec.add_comm (bv a.m)]
  have e2 : bv a.v - (bv b.v ||| bv b.m) = bv (subN (subN a.v b.v) b.m) := by
    rw [bv_or gb, ← bv_sub (subN_lt _ _) g2.2.1, ← bv_sub g1.1 g2.1]
    apply BitVec.eq_of_toNat_eq
    simp only [BitVec.toNat_sub, BitVec.toNat_add, bv_nat g1.1, bv_nat g2.1, bv_nat g2.2.1]
    omega
  have h := may_dif (bv_may ga hx ha) (bv_may gb hy hb)
  rw [e1, e2, bv_sub g1.1 g2.1, bv_sub hx hy, bv_lor g1.2.1 g2.2.1, bv_lxor (addN_lt _ _) (subN_lt _ _), bv_lor (or_lt16 g1.2.1 g2.2.1) (xor_lt16 (addN_lt _ _) (subN_lt _ _))] at h
  exact may_of_bv (subN_lt _ _) (or_lt16 (or_lt16 g1.2.1 g2.2.1) (xor_lt16 (addN_lt _ _) (subN_lt _ _))) (subN_lt _ _) h
end Go.Proofs.YtmfganodnlnjcaaDoor.Op
