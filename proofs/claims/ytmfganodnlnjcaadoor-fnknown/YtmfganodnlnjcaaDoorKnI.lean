/-
  Known bits: arguments and answers over Int; the program's own ways of joins and meets; words in their order. Plain mathematics.
-/
import Derived.Test.YtmfganodnlnjcaaDoorKnNat4
namespace Go.Proofs.YtmfganodnlnjcaaDoor.Op
open Go.Proofs.YtmfganodnlnjcaaDoor
open Go.RowKit

theorem i64_andNot_nat (a b : Nat) (ha : a < 9223372036854775808) (hb : b < 9223372036854775808) : bits .andNot .i64 (a : Int) (b : Int) = ((andN a b : Nat) : Int) := by
  have e : ∀ x y : BitVec 64, x &&& ~~~y = x ^^^ (x &&& y) := by
    intro x y
    apply BitVec.eq_of_getLsbD_eq; intro i hi
    rw [BitVec.getLsbD_and, BitVec.getLsbD_not, BitVec.getLsbD_xor, BitVec.getLsbD_and]
    simp only [hi, decide_true, Bool.true_and]
    cases x.getLsbD i <;> cases y.getLsbD i <;> rfl
  have hx : andN a b < 2 ^ 63 := Nat.xor_lt_two_pow (by omega) (Nat.and_lt_two_pow _ (by omega))
  unfold andN at hx ⊢
  show IntKind.i64.wrap ((BitVec.ofInt 64 (a : Int) &&& ~~~BitVec.ofInt 64 (b : Int)).toNat : Int) = _
  rw [e, BitVec.toNat_xor, BitVec.toNat_and, ofInt_i64 a ha, ofInt_i64 b hb, IntKind.wrap_i64]
  omega
def gK (v m : Int) : Bool := isW v && isW m && decide (v.toNat &&& m.toNat = 0)
def kn (v m : Int) : Kn := ⟨v.toNat, m.toNat⟩
theorem kn_nat (v m : Nat) : kn (v : Int) (m : Int) = ⟨v, m⟩ := rfl
theorem isW_nat (v : Nat) : isW (v : Int) = decide (v < 65536) := by unfold isW; rw [decide_eq_decide]; omega
theorem gK_nat (v m : Nat) : gK (v : Int) (m : Int) = goodK ⟨v, m⟩ := by
  unfold gK goodK
  rw [isW_nat, isW_nat]
  simp only [Int.toNat_natCast, Bool.decide_and, Bool.and_assoc]
theorem gK_open {v m : Int} (h : gK v m = true) : ∃ a b : Nat, v = a ∧ m = b ∧ goodK ⟨a, b⟩ = true := by
  have h' := h
  unfold gK at h'
  simp only [Bool.and_eq_true] at h'
  have h1 := isW_yes h'.1.1; have h2 := isW_yes h'.1.2
  obtain ⟨a, rfl⟩ := Int.eq_ofNat_of_zero_le h1.1
  obtain ⟨b, rfl⟩ := Int.eq_ofNat_of_zero_le h2.1
  exact ⟨a, b, rfl, rfl, by rw [← gK_nat]; exact h⟩
theorem gK_and {v m : Int} (h1 : isW v = true) (h2 : isW m = true) : gK v m = (bits .and .i64 v m == 0) := by
  have b1 := isW_yes h1; have b2 := isW_yes h2
  obtain ⟨a, rfl⟩ := Int.eq_ofNat_of_zero_le b1.1
  obtain ⟨b, rfl⟩ := Int.eq_ofNat_of_zero_le b2.1
  unfold gK
  rw [h1, h2, i64_and_nat a b (by omega) (by omega)]
  simp only [Int.toNat_natCast, Bool.true_and]
  rw [Bool.eq_iff_iff, decide_eq_true_eq, beq_iff_eq]
  omega
theorem gK_no1 {v m : Int} (h : isW v = false) : gK v m = false := by unfold gK; rw [h]; rfl
theorem gK_no2 {v m : Int} (h : isW m = false) : gK v m = false := by unfold gK; rw [h]; simp
/-- what the functions answer -/
def joinA (al ah bl bh : Int) : Kn × Bool := if gK al ah && gK bl bh then (joinK (kn al ah) (kn bl bh), true) else (⟨0, 0⟩, false)
def meetA (al ah bl bh : Int) : Kn × Bool := if gK al ah && gK bl bh && metK (kn al ah) (kn bl bh) then (meetK (kn al ah) (kn bl bh), true) else (⟨0, 0⟩, false)
def doA (op al ah bl bh : Int) : Kn × Bool := if isOp op && gK al ah && gK bl bh then (doK op (kn al ah) (kn bl bh), true) else (⟨0, 0⟩, false)
def mayA (v m n : Int) : Bool × Bool := (gK v m && isW n && mayK (kn v m) n.toNat, gK v m && isW n)
def waysA (v m : Int) : Int × Bool := if gK v m then ((waysN (kn v m) : Int), true) else (0, false)
def numA (v m n : Int) : Int × Bool := if gK v m && decide (0 ≤ n ∧ n < (waysN (kn v m) : Int)) then ((numAt (kn v m) n.toNat : Int), true) else (0, false)
def natsOf (l : List Int) : List Nat := l.map Int.toNat
def ofA (l : List Int) : Kn × Bool := if decide (1 ≤ l.length ∧ l.length ≤ 40) && l.all isW then (joinL (natsOf l).head! (natsOf l), true) else (⟨0, 0⟩, false)
/-- the bits that are 1 in all, in some -/
def allOf (l : List Nat) : Nat := l.foldl (· &&& ·) 65535
def someOf (l : List Nat) : Nat := l.foldl (· ||| ·) 0
def ofK (l : List Nat) : Kn := notK (allOf l) (andN (someOf l) (allOf l))
theorem all_bit (l : List Nat) (i : Nat) : (allOf l).testBit i = true ↔ i < 16 ∧ ∀ n ∈ l, n.testBit i = true := by
  suffices h : ∀ (l : List Nat) (x : Nat), (l.foldl (· &&& ·) x).testBit i = true ↔ x.testBit i = true ∧ ∀ n ∈ l, n.testBit i = true by
    have := h l 65535
    rw [ones_bit, decide_eq_true_eq] at this
    exact this
  intro l
  induction l with
  | nil => intro x; simp
  | cons n l ih =>
    intro x
    rw [List.foldl_cons, ih, Nat.testBit_and, Bool.and_eq_true]
    simp only [List.mem_cons, forall_eq_or_imp]
    exact and_assoc
theorem some_bit (l : List Nat) (i : Nat) : (someOf l).testBit i = true ↔ ∃ n ∈ l, n.testBit i = true := by
  suffices h : ∀ (l : List Nat) (x : Nat), (l.foldl (· ||| ·) x).testBit i = true ↔ x.testBit i = true ∨ ∃ n ∈ l, n.testBit i = true by
    have := h l 0
    unfold someOf
    simpa using this
  intro l
  induction l with
  | nil => intro x; simp
  | cons n l ih =>
    intro x
    rw [List.foldl_cons, ih, Nat.testBit_or, Bool.or_eq_true]
    simp only [List.mem_cons, exists_eq_or_imp]
    exact or_assoc
theorem ofK_join {l : List Nat} {z : Nat} (hl : ∀ n ∈ l, n < 65536) (hz : z ∈ l) : ofK l = joinL z l := by
  unfold ofK
  symm
  apply joinL_is
  · intro i hm
    rw [andN_bit] at hm
    cases ha : (allOf l).testBit i
    · rw [ha] at hm
      cases hs : z.testBit i
      · rfl
      · exfalso
        have := (some_bit l i).2 ⟨z, hz, hs⟩
        rw [this] at hm; cases hm
    · exact ((all_bit l i).1 ha).2 z hz
  · intro i hm n hn
    rw [andN_bit] at hm
    cases ha : (allOf l).testBit i
    · rw [ha] at hm
      cases hs : n.testBit i
      · rfl
      · exfalso
        have := (some_bit l i).2 ⟨n, hn, hs⟩
        rw [this] at hm; cases hm
    · exact ((all_bit l i).1 ha).2 n hn
  · intro i hm
    rw [andN_bit, Bool.and_eq_true] at hm
    obtain ⟨n, hn, hs⟩ := (some_bit l i).1 hm.1
    have hi : i < 16 := by
      rcases Nat.lt_or_ge i 16 with q | q
      · exact q
      · rw [lt16_bit (hl n hn) q] at hs; cases hs
    have ha : ¬ (∀ n ∈ l, n.testBit i = true) := by
      intro h
      have := (all_bit l i).2 ⟨hi, h⟩
      rw [this] at hm; simp at hm
    cases hzb : z.testBit i
    · exact ⟨n, hn, by rw [hs]; decide⟩
    · apply Classical.byContradiction
      intro h
      apply ha
      intro m hm'
      apply Classical.byContradiction
      intro hne
      exact h ⟨m, hm', by simpa using hne⟩
theorem four_bit (x y z t i : Nat) : (allOf [x, y, z, t]).testBit i = (decide (i < 16) && x.testBit i && y.testBit i && z.testBit i && t.testBit i) ∧ (someOf [x, y, z, t]).testBit i = (x.testBit i || y.testBit i || z.testBit i || t.testBit i) := by
  constructor
  · show ((((65535 &&& x) &&& y) &&& z) &&& t).testBit i = _
    rw [Nat.testBit_and, Nat.testBit_and, Nat.testBit_and, Nat.testBit_and, ones_bit]
  · show ((((0 ||| x) ||| y) ||| z) ||| t).testBit i = _
    rw [Nat.testBit_or, Nat.testBit_or, Nat.testBit_or, Nat.testBit_or, Nat.zero_testBit, Bool.false_or]
theorem kn_ext {a b : Kn} (hv : ∀ i, a.v.testBit i = b.v.testBit i) (hm : ∀ i, a.m.testBit i = b.m.testBit i) : a = b := by
  cases a; cases b
  simp only [Kn.mk.injEq]
  exact ⟨Nat.eq_of_testBit_eq hv, Nat.eq_of_testBit_eq hm⟩
theorem ofK_bits (l : List Nat) (i : Nat) : (ofK l).m.testBit i = ((someOf l).testBit i && !(allOf l).testBit i) ∧ (ofK l).v.testBit i = ((allOf l).testBit i && !((someOf l).testBit i && !(allOf l).testBit i)) := by
  unfold ofK notK
  simp only [andN_bit, and_self]
/-- the program joins by the least and the greatest words -/
theorem join_four {a b : Kn} (ga : goodK a = true) (gb : goodK b = true) : ofK [a.v, a.v ||| a.m, b.v, b.v ||| b.m] = joinK a b := by
  have g1 := goodK_yes ga; have g2 := goodK_yes gb
  have key : ∀ i, ((ofK [a.v, a.v ||| a.m, b.v, b.v ||| b.m]).m.testBit i = (joinK a b).m.testBit i) ∧ ((ofK [a.v, a.v ||| a.m, b.v, b.v ||| b.m]).v.testBit i = (joinK a b).v.testBit i) := by
    intro i
    have z1 := and_zero_bit g1.2.2 i; have z2 := and_zero_bit g2.2.2 i
    have f := four_bit a.v (a.v ||| a.m) b.v (b.v ||| b.m) i
    rw [(ofK_bits _ i).1, (ofK_bits _ i).2, f.1, f.2]
    simp only [joinK, notK, andN_bit, Nat.testBit_or, Nat.testBit_xor]
    by_cases hi : i < 16
    · simp only [hi, decide_true, Bool.true_and]
      revert z1 z2
      cases a.v.testBit i <;> cases a.m.testBit i <;> cases b.v.testBit i <;> cases b.m.testBit i <;> simp
    · rw [lt16_bit g1.1 (by omega), lt16_bit g1.2.1 (by omega), lt16_bit g2.1 (by omega), lt16_bit g2.2.1 (by omega)]
      simp
  exact kn_ext (fun i => (key i).2) (fun i => (key i).1)
/-- bit by bit, out of the least and the greatest words -/
theorem bits_four {op : Int} {a b : Kn} (ho : op = 6 ∨ op = 7 ∨ op = 8) (ga : goodK a = true) (gb : goodK b = true) :
    ofK [opN op a.v b.v, opN op a.v (b.v ||| b.m), opN op (a.v ||| a.m) b.v, opN op (a.v ||| a.m) (b.v ||| b.m)] = doK op a b := by
  have g1 := goodK_yes ga; have g2 := goodK_yes gb
  refine kn_ext (fun i => ?_) (fun i => ?_)
  all_goals
    have z1 := and_zero_bit g1.2.2 i; have z2 := and_zero_bit g2.2.2 i
    have f := four_bit (opN op a.v b.v) (opN op a.v (b.v ||| b.m)) (opN op (a.v ||| a.m) b.v) (opN op (a.v ||| a.m) (b.v ||| b.m)) i
    first | rw [(ofK_bits _ i).1] | rw [(ofK_bits _ i).2]
    rw [f.1, f.2]
    clear f
    rcases ho with rfl | rfl | rfl
  all_goals
    first
    | rw [show doK 6 a b = andK a b from rfl]
    | rw [show doK 7 a b = orK a b from rfl]
    | rw [show doK 8 a b = xorK a b from rfl]
    have o6 : ∀ x y, opN 6 x y = x &&& y := fun _ _ => rfl
    have o7 : ∀ x y, opN 7 x y = x ||| y := fun _ _ => rfl
    have o8 : ∀ x y, opN 8 x y = x ^^^ y := fun _ _ => rfl
    simp only [andK, orK, xorK, notK, o6, o7, o8, andN_bit, Nat.testBit_or, Nat.testBit_and, Nat.testBit_xor]
    by_cases hi : i < 16
    · simp only [hi, decide_true, Bool.true_and]
      revert z1 z2
      cases a.v.testBit i <;> cases a.m.testBit i <;> cases b.v.testBit i <;> cases b.m.testBit i <;> simp
    · rw [lt16_bit g1.1 (by omega), lt16_bit g1.2.1 (by omega), lt16_bit g2.1 (by omega), lt16_bit g2.2.1 (by omega)]
      simp
/-- two knowns meet where the least word of the meet is a word of both -/
theorem met_least {a b : Kn} (ga : goodK a = true) (gb : goodK b = true) : (mayK a (a.v ||| b.v) && mayK b (a.v ||| b.v)) = metK a b := by
  have g1 := goodK_yes ga; have g2 := goodK_yes gb
  rw [Bool.eq_iff_iff, Bool.and_eq_true]
  rw [mayK_iff, mayK_iff, metK_iff]
  simp only [Nat.testBit_or]
  constructor
  · rintro ⟨h1, h2⟩ i
    have z1 := and_zero_bit g1.2.2 i; have z2 := and_zero_bit g2.2.2 i
    have p := h1 i; have q := h2 i
    revert p q z1 z2
    cases a.v.testBit i <;> cases a.m.testBit i <;> cases b.v.testBit i <;> cases b.m.testBit i <;> simp
  · intro h
    refine ⟨fun i => ?_, fun i => ?_⟩
    all_goals
      have z1 := and_zero_bit g1.2.2 i; have z2 := and_zero_bit g2.2.2 i
      have p := h i
      revert p z1 z2
      cases a.v.testBit i <;> cases a.m.testBit i <;> cases b.v.testBit i <;> cases b.m.testBit i <;> simp
/-- numbers with no bit in common -/
theorem or_add {x y : Nat} (h : x &&& y = 0) : x ||| y = x + y := by
  induction x using Nat.strongRecOn generalizing y with
  | _ x ih =>
    by_cases hx : x = 0
    · subst hx; simp
    have h2 : x / 2 &&& y / 2 = 0 := by rw [← Nat.and_div_two, h]
    have e := ih (x / 2) (by omega) h2
    have hd : (x ||| y) / 2 = x / 2 + y / 2 := by rw [Nat.or_div_two, e]
    have h0 : ¬ (x % 2 = 1 ∧ y % 2 = 1) := by
      rintro ⟨p, q⟩
      have := and_zero_bit h 0
      rw [Nat.testBit_zero, Nat.testBit_zero] at this
      exact this ⟨by simp [p], by simp [q]⟩
    have hm : (x ||| y) % 2 = x % 2 + y % 2 := by
      have hb : (x ||| y).testBit 0 = (x.testBit 0 || y.testBit 0) := Nat.testBit_or _ _ _
      rw [Nat.testBit_zero, Nat.testBit_zero, Nat.testBit_zero, Bool.eq_iff_iff, Bool.or_eq_true, decide_eq_true_eq, decide_eq_true_eq, decide_eq_true_eq] at hb
      omega
    omega
theorem numAt_add {k : Kn} (g : goodK k = true) (n : Nat) : numAt k n = k.v + spr 16 k.m n := by
  apply or_add
  apply and_zero_of
  intro i ⟨h1, h2⟩
  exact and_zero_bit (goodK_yes g).2.2 i ⟨h1, spr_sub 16 k.m n i h2⟩
/-- the lowest 1 bit, and the number without it -/
theorem low_step (k u r : Nat) (hu : u ≠ 0) (hk : u < 2 ^ k) : ∃ low, 0 < low ∧ low ≤ u ∧ (∀ i, low.testBit i = true → u.testBit i = true) ∧ u &&& (u - 1) = u - low ∧ spr k u r = r % 2 * low + spr k (u - low) (r / 2) := by
  induction k generalizing u with
  | zero => simp at hk; omega
  | succ k ih =>
    rw [Nat.pow_succ] at hk
    by_cases ho : u % 2 = 1
    · refine ⟨1, by omega, by omega, ?_, ?_, ?_⟩
      · intro i hi
        cases i with
        | zero => rw [Nat.testBit_zero]; simp [ho]
        | succ i => rw [Nat.testBit_succ] at hi; simp at hi
      · apply Nat.eq_of_testBit_eq; intro i
        rw [Nat.testBit_and]
        cases i with
        | zero => rw [Nat.testBit_zero, Nat.testBit_zero]; have : (u - 1) % 2 = 0 := by omega
                  simp [this]
        | succ i => rw [Nat.testBit_succ, Nat.testBit_succ]; have : (u - 1) / 2 = u / 2 := by omega
                    rw [this, Bool.and_self]
      · have h1 : (u - 1) % 2 = 0 := by omega
        have h2 : (u - 1) / 2 = u / 2 := by omega
        unfold spr
        rw [if_pos ho, if_neg (by omega), h2]; omega
    · have hu2 : u / 2 ≠ 0 := by omega
      obtain ⟨low, l0, l1, l2, l3, l4⟩ := ih (u / 2) hu2 (by omega)
      have hd : (u - 2 * low) / 2 = u / 2 - low := by omega
      have hm : (u - 2 * low) % 2 = 0 := by omega
      have hd1 : (u - 1) / 2 = u / 2 - 1 := by omega
      refine ⟨2 * low, by omega, by omega, ?_, ?_, ?_⟩
      · intro i hi
        cases i with
        | zero => rw [Nat.testBit_zero] at hi; simp at hi
        | succ i =>
          rw [Nat.testBit_succ] at hi ⊢
          have : 2 * low / 2 = low := by omega
          rw [this] at hi
          exact l2 i hi
      · apply Nat.eq_of_testBit_eq; intro i
        rw [Nat.testBit_and]
        cases i with
        | zero => rw [Nat.testBit_zero, Nat.testBit_zero, Nat.testBit_zero, hm]; have : u % 2 = 0 := by omega
                  simp [this]
        | succ i => rw [Nat.testBit_succ, Nat.testBit_succ, Nat.testBit_succ, hd1, hd, ← l3, Nat.testBit_and]
      · unfold spr
        rw [if_neg ho, if_neg (by omega), hd, l4]
        have : r % 2 = 0 ∨ r % 2 = 1 := by omega
        rcases this with q | q <;> rw [q] <;> omega
theorem low_sub {u low : Nat} (h : low ≤ u) (hs : ∀ i, low.testBit i = true → u.testBit i = true) (i : Nat) : (u - low).testBit i = (u.testBit i && !low.testBit i) := by
  have h1 : u &&& low = low := by
    apply Nat.eq_of_testBit_eq; intro i
    have := hs i
    rw [Nat.testBit_and]; revert this; cases u.testBit i <;> cases low.testBit i <;> simp
  have h2 : andN u low &&& low = 0 := by
    apply and_zero_of; intro i
    rw [andN_bit]; cases u.testBit i <;> cases low.testBit i <;> simp
  have h3 : andN u low ||| low = u := by
    apply Nat.eq_of_testBit_eq; intro i
    have := hs i
    rw [Nat.testBit_or, andN_bit]; revert this; cases u.testBit i <;> cases low.testBit i <;> simp
  have h4 := or_add h2
  rw [h3] at h4
  rw [show u - low = andN u low by omega, andN_bit]
/-- the lowest 1 bit, as Go finds it -/
theorem low_and {u low : Nat} (hu : u < 65536) (h0 : 0 < low) (h : low ≤ u) (hs : ∀ i, low.testBit i = true → u.testBit i = true) (h3 : u &&& (u - 1) = u - low) : bits .and .i64 (u : Int) (-(u : Int)) = (low : Int) := by
  have hn : (BitVec.ofInt 64 (-(u : Int))).toNat = 2 ^ 64 - (u - 1 + 1) := by
    rw [BitVec.toNat_ofInt]; omega
  show IntKind.i64.wrap ((BitVec.ofInt 64 (u : Int) &&& BitVec.ofInt 64 (-(u : Int))).toNat : Int) = _
  rw [BitVec.toNat_and, ofInt_i64 u (by omega), hn]
  have key : u &&& (2 ^ 64 - (u - 1 + 1)) = low := by
    apply Nat.eq_of_testBit_eq; intro i
    have e := congrArg (fun n => n.testBit i) h3
    simp only [Nat.testBit_and, low_sub h hs] at e
    have q := hs i
    rw [Nat.testBit_and, Nat.testBit_two_pow_sub_succ (by omega)]
    have hb : 64 ≤ i → u.testBit i = false := fun hi => lt16_bit hu (by omega)
    by_cases hi : i < 64
    · simp only [hi, decide_true, Bool.true_and]
      revert e q
      cases u.testBit i <;> cases (u - 1).testBit i <;> cases low.testBit i <;> simp
    · have := hb (by omega)
      rw [this] at q ⊢
      revert q; cases low.testBit i <;> simp
  rw [key, IntKind.wrap_i64]
  omega
/-- the number of words is that of the unknown bits -/
theorem ways_step {u k : Nat} (h : u < 2 ^ k) : pcF (k + 1) u = pcF k u := by
  induction k generalizing u with
  | zero => have : u = 0 := by simpa using h
            subst this; rfl
  | succ k ih =>
    rw [Nat.pow_succ] at h
    show u % 2 + pcF (k + 1) (u / 2) = u % 2 + pcF k (u / 2)
    rw [ih (by omega)]
theorem pc_half {u : Nat} (h : u < 65536) : pcF 16 u = u % 2 + pcF 16 (u / 2) := by
  show u % 2 + pcF 15 (u / 2) = _
  rw [ways_step (k := 15) (by simp; omega)]
end Go.Proofs.YtmfganodnlnjcaaDoor.Op
