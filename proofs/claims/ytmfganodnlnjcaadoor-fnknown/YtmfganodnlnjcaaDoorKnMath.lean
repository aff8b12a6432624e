/-
  Known bits: sums and differences of words of which some bits are known. Plain mathematics over bit vectors.
-/
import Derived.WalkKit
namespace Go.Proofs.YtmfganodnlnjcaaDoor

theorem and_mod_le {x y : Nat} (i : Nat) (h : x &&& y = x) : x % 2 ^ i ≤ y % 2 ^ i := by
  have h1 : x % 2 ^ i = (x % 2 ^ i) &&& (y % 2 ^ i) := by rw [← Nat.and_mod_two_pow, h]
  rw [h1]; exact Nat.and_le_right
theorem carry_mono {w i : Nat} {x y p q : BitVec w} {c : Bool} (h1 : p &&& x = p) (h2 : q &&& y = q) (h : BitVec.carry i p q c = true) :
    BitVec.carry i x y c = true := by
  have e1 : p.toNat &&& x.toNat = p.toNat := by rw [← BitVec.toNat_and, h1]
  have e2 : q.toNat &&& y.toNat = q.toNat := by rw [← BitVec.toNat_and, h2]
  have m1 := and_mod_le i e1
  have m2 := and_mod_le i e2
  simp only [BitVec.carry, decide_eq_true_eq] at h ⊢
  omega
theorem bit_le {w : Nat} {p x : BitVec w} (h : p &&& x = p) (i : Nat) (hp : p.getLsbD i = true) : x.getLsbD i = true := by
  rw [← h, BitVec.getLsbD_and, Bool.and_eq_true] at hp; exact hp.2
/-- where the least and the greatest sum have the same bit, every sum between has it -/
theorem sum_bit {w i : Nat} (hi : i < w) {p q x y P Q : BitVec w} {c : Bool} (h1 : p &&& x = p) (h2 : q &&& y = q) (h3 : x &&& P = x) (h4 : y &&& Q = y)
    (hp : p.getLsbD i = P.getLsbD i) (hq : q.getLsbD i = Q.getLsbD i)
    (hs : (p + q + BitVec.setWidth w (BitVec.ofBool c)).getLsbD i = (P + Q + BitVec.setWidth w (BitVec.ofBool c)).getLsbD i) :
    (x + y + BitVec.setWidth w (BitVec.ofBool c)).getLsbD i = (p + q + BitVec.setWidth w (BitVec.ofBool c)).getLsbD i := by
  rw [BitVec.getLsbD_add_add_bool hi, BitVec.getLsbD_add_add_bool hi] at hs ⊢
  have a1 := bit_le h1 i; have a2 := bit_le h2 i; have a3 := bit_le h3 i; have a4 := bit_le h4 i
  have c1 := carry_mono (i := i) (c := c) h1 h2
  have c2 := carry_mono (i := i) (c := c) h3 h4
  revert hp hq hs a1 a2 a3 a4 c1 c2
  generalize p.getLsbD i = b1; generalize q.getLsbD i = b2; generalize x.getLsbD i = b3; generalize y.getLsbD i = b4
  generalize P.getLsbD i = b5; generalize Q.getLsbD i = b6
  generalize BitVec.carry i p q c = d1; generalize BitVec.carry i x y c = d2; generalize BitVec.carry i P Q c = d3
  cases b1 <;> cases b2 <;> cases b3 <;> cases b4 <;> cases b5 <;> cases b6 <;> cases d1 <;> cases d2 <;> cases d3 <;> simp
/-- x may be a word whose known bits are v, whose unknown bits are in m -/
def MayB {w : Nat} (v m x : BitVec w) : Prop := x &&& ~~~m = v
theorem may_bits {w : Nat} {v m x : BitVec w} (h : MayB v m x) (i : Nat) (hi : i < w) : v.getLsbD i = (x.getLsbD i && !m.getLsbD i) := by
  rw [← h]; simp [hi]
theorem may_low {w : Nat} {v m x : BitVec w} (h : MayB v m x) : v &&& x = v := by
  apply BitVec.eq_of_getLsbD_eq; intro i hi
  simp only [BitVec.getLsbD_and, may_bits h i hi]; cases x.getLsbD i <;> cases m.getLsbD i <;> rfl
theorem may_high {w : Nat} {v m x : BitVec w} (h : MayB v m x) : x &&& (v ||| m) = x := by
  apply BitVec.eq_of_getLsbD_eq; intro i hi
  simp only [BitVec.getLsbD_and, BitVec.getLsbD_or, may_bits h i hi]; cases x.getLsbD i <;> cases m.getLsbD i <;> rfl
theorem not_mono {w : Nat} {x y : BitVec w} (h : x &&& y = x) : ~~~y &&& ~~~x = ~~~y := by
  apply BitVec.eq_of_getLsbD_eq; intro i hi
  have := congrArg (fun b => b.getLsbD i) h
  simp only [BitVec.getLsbD_and] at this
  simp only [BitVec.getLsbD_and, BitVec.getLsbD_not, hi, decide_true, Bool.true_and]
  revert this; cases x.getLsbD i <;> cases y.getLsbD i <;> simp
theorem add_none {w : Nat} (x : BitVec w) : x + BitVec.setWidth w (BitVec.ofBool false) = x := by
  apply BitVec.eq_of_toNat_eq; simp
/-- what a sum is known to be -/
theorem may_sum {w : Nat} {va ma vb mb x y : BitVec w} (ha : MayB va ma x) (hb : MayB vb mb y) :
    MayB ((va + vb) &&& ~~~(ma ||| mb ||| ((va + vb) ^^^ ((va ||| ma) + (vb ||| mb))))) (ma ||| mb ||| ((va + vb) ^^^ ((va ||| ma) + (vb ||| mb)))) (x + y) := by
  unfold MayB
  apply BitVec.eq_of_getLsbD_eq; intro i hi
  have key : ma.getLsbD i = false → mb.getLsbD i = false → (va + vb).getLsbD i = ((va ||| ma) + (vb ||| mb)).getLsbD i → (x + y).getLsbD i = (va + vb).getLsbD i := by
    intro m1 m2 hs
    have := sum_bit (c := false) hi (may_low ha) (may_low hb) (may_high ha) (may_high hb) (by simp [m1]) (by simp [m2])
    simp only [add_none] at this
    exact this hs
  simp only [BitVec.getLsbD_and, BitVec.getLsbD_not, BitVec.getLsbD_or, BitVec.getLsbD_xor, hi, decide_true, Bool.true_and]
  revert key
  generalize (x + y).getLsbD i = b1; generalize (va + vb).getLsbD i = b2; generalize ((va ||| ma) + (vb ||| mb)).getLsbD i = b3
  cases ma.getLsbD i <;> cases mb.getLsbD i <;> cases b1 <;> cases b2 <;> cases b3 <;> simp
theorem sub_as_sum {w : Nat} (x y : BitVec w) : x + ~~~y + BitVec.setWidth w (BitVec.ofBool true) = x - y := by
  rw [BitVec.sub_eq_add_neg, BitVec.neg_eq_not_add, BitVec.add_assoc]
  congr 2
  apply BitVec.eq_of_toNat_eq; simp
/-- what a difference is known to be -/
theorem may_dif {w : Nat} {va ma vb mb x y : BitVec w} (ha : MayB va ma x) (hb : MayB vb mb y) :
    MayB ((va - vb) &&& ~~~(ma ||| mb ||| (((va ||| ma) - vb) ^^^ (va - (vb ||| mb))))) (ma ||| mb ||| (((va ||| ma) - vb) ^^^ (va - (vb ||| mb)))) (x - y) := by
  unfold MayB
  apply BitVec.eq_of_getLsbD_eq; intro i hi
  have key : ∀ x' y' : BitVec w, MayB va ma x' → MayB vb mb y' → ma.getLsbD i = false → mb.getLsbD i = false →
      (va - (vb ||| mb)).getLsbD i = ((va ||| ma) - vb).getLsbD i → (x' - y').getLsbD i = (va - (vb ||| mb)).getLsbD i := by
    intro x' y' h1 h2 m1 m2 hs
    have := sum_bit (c := true) (p := va) (q := ~~~(vb ||| mb)) (x := x') (y := ~~~y') (P := va ||| ma) (Q := ~~~vb) hi (may_low h1) (not_mono (may_high h2)) (may_high h1) (not_mono (may_low h2)) (by simp [m1]) (by simp [m2])
    simp only [sub_as_sum] at this
    exact this hs
  have hv : MayB va ma va := by
    unfold MayB
    apply BitVec.eq_of_getLsbD_eq; intro j hj
    simp only [BitVec.getLsbD_and, BitVec.getLsbD_not, may_bits ha j hj, hj, decide_true, Bool.true_and]
    cases x.getLsbD j <;> cases ma.getLsbD j <;> rfl
  have hw : MayB vb mb vb := by
    unfold MayB
    apply BitVec.eq_of_getLsbD_eq; intro j hj
    simp only [BitVec.getLsbD_and, BitVec.getLsbD_not, may_bits hb j hj, hj, decide_true, Bool.true_and]
    cases y.getLsbD j <;> cases mb.getLsbD j <;> rfl
  have k1 := key x y ha hb
  have k2 := key va vb hv hw
  simp only [BitVec.getLsbD_and, BitVec.getLsbD_not, BitVec.getLsbD_or, BitVec.getLsbD_xor, hi, decide_true, Bool.true_and]
  revert k1 k2
  generalize (x - y).getLsbD i = b1; generalize (va - vb).getLsbD i = b2; generalize ((va ||| ma) - vb).getLsbD i = b3; generalize (va - (vb ||| mb)).getLsbD i = b4
  cases ma.getLsbD i <;> cases mb.getLsbD i <;> cases b1 <;> cases b2 <;> cases b3 <;> cases b4 <;> simp
end Go.Proofs.YtmfganodnlnjcaaDoor
