/-
  Intervals of words: what an operation gives on words of two intervals lies in the interval of the table. Plain mathematics.
-/
import Derived.Test.YtkffggnajoohfaaDoorODoOps
namespace Go.Proofs.YtkffggnajoohfaaDoor.Op

/-- an interval -/
structure St where
  lo : Int
  hi : Int
deriving DecidableEq
def goodS (s : St) : Bool := decide (0 ≤ s.lo ∧ s.lo ≤ s.hi ∧ s.hi < 65536)
def inSt (s : St) (n : Int) : Bool := decide (s.lo ≤ n ∧ n ≤ s.hi)
theorem goodS_yes {s : St} (h : goodS s = true) : 0 ≤ s.lo ∧ s.lo ≤ s.hi ∧ s.hi < 65536 := by simpa [goodS] using h
theorem inSt_yes {s : St} {n : Int} (h : inSt s n = true) : s.lo ≤ n ∧ n ≤ s.hi := by simpa [inSt] using h
theorem inSt_mk {s : St} {n : Int} (h1 : s.lo ≤ n) (h2 : n ≤ s.hi) : inSt s n = true := by simp [inSt, h1, h2]
/-- the interval between two integers, reduced -/
def wrapS (l h : Int) : St := if l / 65536 = h / 65536 then ⟨wd l, wd h⟩ else ⟨0, 65535⟩
theorem wrapS_good {l h : Int} (hl : l ≤ h) : goodS (wrapS l h) = true := by
  unfold wrapS wd goodS
  split <;> simp <;> omega
theorem wrapS_mem {l h n : Int} (h1 : l ≤ n) (h2 : n ≤ h) : inSt (wrapS l h) (wd n) = true := by
  unfold wrapS wd inSt
  split <;> simp <;> omega
/-- the least 2^k - 1 that is at least n -/
def onesN (n : Nat) : Nat := if h : n = 0 then 0 else 2 * onesN (n / 2) + 1
termination_by n
decreasing_by omega
theorem onesN_ge (n : Nat) : n ≤ onesN n := by
  induction n using Nat.strongRecOn with
  | ind n ih =>
    rw [onesN]; split
    · omega
    · have := ih (n / 2) (by omega); omega
theorem onesN_pow (n : Nat) : ∃ k, onesN n = 2 ^ k - 1 := by
  induction n using Nat.strongRecOn with
  | ind n ih =>
    rw [onesN]; split
    · exact ⟨0, rfl⟩
    · obtain ⟨k, hk⟩ := ih (n / 2) (by omega)
      refine ⟨k + 1, ?_⟩
      have := Nat.two_pow_pos k
      rw [hk, Nat.pow_succ]; omega
theorem onesN_least (n k : Nat) (h : n ≤ 2 ^ k - 1) : onesN n ≤ 2 ^ k - 1 := by
  induction k generalizing n with
  | zero =>
    have h0 : n = 0 := by simpa using h
    subst h0; rw [onesN]; simp
  | succ k ih =>
    have := Nat.two_pow_pos k
    rw [onesN]; split
    · omega
    · rw [Nat.pow_succ] at h ⊢
      have := ih (n / 2) (by omega); omega
theorem onesN_lt {n : Nat} (h : n < 65536) : onesN n < 65536 := by
  have := onesN_least n 16 (by simp; omega)
  simp at this; omega
theorem or_ones {x y n : Nat} (hx : x ≤ n) (hy : y ≤ n) : x ||| y ≤ onesN n := by
  obtain ⟨k, hk⟩ := onesN_pow n
  have h1 := onesN_ge n
  have h2 := Nat.two_pow_pos k
  have := Nat.or_lt_two_pow (x := x) (y := y) (n := k) (by omega) (by omega)
  omega
theorem xor_ones {x y n : Nat} (hx : x ≤ n) (hy : y ≤ n) : x ^^^ y ≤ onesN n := by
  obtain ⟨k, hk⟩ := onesN_pow n
  have h1 := onesN_ge n
  have h2 := Nat.two_pow_pos k
  have := Nat.xor_lt_two_pow (x := x) (y := y) (n := k) (by omega) (by omega)
  omega
def maxI (a b : Int) : Int := if a < b then b else a
def minI (a b : Int) : Int := if b < a then b else a
/-- the table -/
def doSt (op : Int) (a b : St) : St :=
  if op = 1 then wrapS (a.lo + b.lo) (a.hi + b.hi)
  else if op = 2 then wrapS (a.lo - b.hi) (a.hi - b.lo)
  else if op = 3 then wrapS (a.lo * b.lo) (a.hi * b.hi)
  else if op = 4 then (if b.lo = 0 then ⟨0, a.hi⟩ else ⟨a.lo / b.hi, a.hi / b.lo⟩)
  else if op = 5 then (if a.hi < b.lo then a else if b.lo = 0 then ⟨0, a.hi⟩ else ⟨0, minI a.hi (b.hi - 1)⟩)
  else if op = 6 then ⟨0, minI a.hi b.hi⟩
  else if op = 7 then ⟨maxI a.lo b.lo, onesN (maxI a.hi b.hi).toNat⟩
  else if op = 8 then ⟨0, onesN (maxI a.hi b.hi).toNat⟩
  else if op = 9 then (if b.lo = b.hi then wrapS (a.lo * sf b.lo) (a.hi * sf b.lo) else ⟨0, 65535⟩)
  else (if b.lo = b.hi then ⟨a.lo / sf b.lo, a.hi / sf b.lo⟩ else ⟨0, a.hi⟩)
theorem sf_pos (b : Int) : 1 ≤ sf b := by
  unfold sf
  have := Int.pow_pos (n := (2 : Int)) (m := (b % 16).toNat) (by omega)
  omega
theorem div_between {a x c : Int} (h : a ≤ x) (hc : 1 ≤ c) : a / c ≤ x / c := Int.ediv_le_ediv (by omega) h
theorem div_le_num {x c : Int} (h0 : 0 ≤ x) (hc : 1 ≤ c) : 0 ≤ x / c ∧ x / c ≤ x := ⟨Int.ediv_nonneg h0 (by omega), Int.ediv_le_self _ h0⟩
theorem div_anti {x c d : Int} (h0 : 0 ≤ x) (hc : 1 ≤ c) (h : c ≤ d) : x / d ≤ x / c := by
  obtain ⟨x', rfl⟩ := Int.eq_ofNat_of_zero_le h0
  obtain ⟨c', rfl⟩ := Int.eq_ofNat_of_zero_le (a := c) (by omega)
  obtain ⟨d', rfl⟩ := Int.eq_ofNat_of_zero_le (a := d) (by omega)
  have : x' / d' ≤ x' / c' := Nat.div_le_div_left (by omega) (by omega)
  exact_mod_cast this
theorem mem_add {a b : St} {x y : Int} (hx : inSt a x = true) (hy : inSt b y = true) : inSt (wrapS (a.lo + b.lo) (a.hi + b.hi)) (wd (x + y)) = true := by
  have h1 := inSt_yes hx; have h2 := inSt_yes hy
  exact wrapS_mem (by omega) (by omega)
theorem mem_sub {a b : St} {x y : Int} (hx : inSt a x = true) (hy : inSt b y = true) : inSt (wrapS (a.lo - b.hi) (a.hi - b.lo)) (wd (x - y)) = true := by
  have h1 := inSt_yes hx; have h2 := inSt_yes hy
  exact wrapS_mem (by omega) (by omega)
theorem mem_mul {a b : St} {x y : Int} (ga : goodS a = true) (gb : goodS b = true) (hx : inSt a x = true) (hy : inSt b y = true) :
    inSt (wrapS (a.lo * b.lo) (a.hi * b.hi)) (wd (x * y)) = true := by
  have h1 := inSt_yes hx; have h2 := inSt_yes hy; have h3 := goodS_yes ga; have h4 := goodS_yes gb
  exact wrapS_mem (Int.mul_le_mul h1.1 h2.1 h4.1 (by omega)) (Int.mul_le_mul h1.2 h2.2 (by omega) (by omega))
theorem mem_div {a b : St} {x y : Int} (ga : goodS a = true) (gb : goodS b = true) (hx : inSt a x = true) (hy : inSt b y = true) :
    inSt (if b.lo = 0 then ⟨0, a.hi⟩ else ⟨a.lo / b.hi, a.hi / b.lo⟩) (qt x y) = true := by
  have h1 := inSt_yes hx; have h2 := inSt_yes hy; have h3 := goodS_yes ga; have h4 := goodS_yes gb
  unfold qt
  by_cases hz : y = 0
  · rw [if_pos hz, if_pos (by omega)]; exact inSt_mk (by simp) (by simp only; omega)
  · rw [if_neg hz]
    by_cases hb : b.lo = 0
    · have := div_le_num (x := x) (c := y) (by omega) (by omega)
      rw [if_pos hb]; exact inSt_mk (by simp only; omega) (by simp only; omega)
    · have e1 := div_between (a := a.lo) (x := x) (c := b.hi) (by omega) (by omega)
      have e2 := div_anti (x := x) (c := y) (d := b.hi) (by omega) (by omega) (by omega)
      have e3 := div_between (a := x) (x := a.hi) (c := y) (by omega) (by omega)
      have e4 := div_anti (x := a.hi) (c := b.lo) (d := y) (by omega) (by omega) (by omega)
      rw [if_neg hb]; exact inSt_mk (by simp only; omega) (by simp only; omega)
theorem mem_mod {a b : St} {x y : Int} (ga : goodS a = true) (gb : goodS b = true) (hx : inSt a x = true) (hy : inSt b y = true) :
    inSt (if a.hi < b.lo then a else if b.lo = 0 then ⟨0, a.hi⟩ else ⟨0, minI a.hi (b.hi - 1)⟩) (rm x y) = true := by
  have h1 := inSt_yes hx; have h2 := inSt_yes hy; have h3 := goodS_yes ga; have h4 := goodS_yes gb
  have hr : 0 ≤ rm x y ∧ rm x y ≤ x ∧ (y ≠ 0 → rm x y < y) ∧ (x < y → rm x y = x) := by
    unfold rm
    by_cases hz : y = 0
    · rw [if_pos hz]; exact ⟨by omega, by omega, fun h => absurd hz h, fun _ => rfl⟩
    · rw [if_neg hz]
      have m1 := Int.emod_nonneg x hz
      have m2 := Int.emod_lt_of_pos x (b := y) (by omega)
      refine ⟨m1, ?_, fun _ => m2, fun h => Int.emod_eq_of_lt (by omega) h⟩
      by_cases h : x < y
      · rw [Int.emod_eq_of_lt (by omega) h]; omega
      · omega
  obtain ⟨r1, r2, r3, r4⟩ := hr
  by_cases hl : a.hi < b.lo
  · rw [if_pos hl, r4 (by omega)]; exact hx
  · rw [if_neg hl]
    by_cases hb : b.lo = 0
    · rw [if_pos hb]; exact inSt_mk r1 (by simp only; omega)
    · have := r3 (by omega)
      rw [if_neg hb]; exact inSt_mk r1 (by simp only [minI]; split <;> omega)
theorem two_nats {a b : St} {x y : Int} (ga : goodS a = true) (gb : goodS b = true) (hx : inSt a x = true) (hy : inSt b y = true) :
    ∃ n m : Nat, x = n ∧ y = m ∧ n < 65536 ∧ m < 65536 := by
  have h1 := inSt_yes hx; have h2 := inSt_yes hy; have h3 := goodS_yes ga; have h4 := goodS_yes gb
  exact ⟨x.toNat, y.toNat, by omega, by omega, by omega, by omega⟩
theorem mem_and {a b : St} {x y : Int} (ga : goodS a = true) (gb : goodS b = true) (hx : inSt a x = true) (hy : inSt b y = true) :
    inSt ⟨0, minI a.hi b.hi⟩ (bits .and .i64 x y) = true := by
  have h1 := inSt_yes hx; have h2 := inSt_yes hy
  obtain ⟨n, m, rfl, rfl, hn, hm⟩ := two_nats ga gb hx hy
  rw [i64_and_nat n m (by omega) (by omega)]
  have l1 : n &&& m ≤ n := Nat.and_le_left
  have l2 : n &&& m ≤ m := Nat.and_le_right
  exact inSt_mk (by simp only; omega) (by simp only [minI]; split <;> omega)
theorem mem_or {a b : St} {x y : Int} (ga : goodS a = true) (gb : goodS b = true) (hx : inSt a x = true) (hy : inSt b y = true) :
    inSt ⟨maxI a.lo b.lo, onesN (maxI a.hi b.hi).toNat⟩ (bits .or .i64 x y) = true := by
  have h1 := inSt_yes hx; have h2 := inSt_yes hy
  obtain ⟨n, m, rfl, rfl, hn, hm⟩ := two_nats ga gb hx hy
  rw [i64_or_nat n m (by omega) (by omega)]
  have l1 : n ≤ n ||| m := Nat.left_le_or
  have l2 : m ≤ n ||| m := Nat.right_le_or
  have l3 : n ||| m ≤ onesN (maxI a.hi b.hi).toNat := or_ones (by unfold maxI; split <;> omega) (by unfold maxI; split <;> omega)
  exact inSt_mk (by simp only [maxI]; split <;> omega) (by simp only; omega)
theorem mem_xor {a b : St} {x y : Int} (ga : goodS a = true) (gb : goodS b = true) (hx : inSt a x = true) (hy : inSt b y = true) :
    inSt ⟨0, onesN (maxI a.hi b.hi).toNat⟩ (bits .xor .i64 x y) = true := by
  have h1 := inSt_yes hx; have h2 := inSt_yes hy
  obtain ⟨n, m, rfl, rfl, hn, hm⟩ := two_nats ga gb hx hy
  rw [i64_xor_nat n m (by omega) (by omega)]
  have l3 : n ^^^ m ≤ onesN (maxI a.hi b.hi).toNat := xor_ones (by unfold maxI; split <;> omega) (by unfold maxI; split <;> omega)
  exact inSt_mk (by simp only; omega) (by simp only; omega)
theorem mem_shl {a b : St} {x y : Int} (hx : inSt a x = true) (hy : inSt b y = true) :
    inSt (if b.lo = b.hi then wrapS (a.lo * sf b.lo) (a.hi * sf b.lo) else ⟨0, 65535⟩) (wd (x * sf y)) = true := by
  have h1 := inSt_yes hx; have h2 := inSt_yes hy
  by_cases h : b.lo = b.hi
  · have hyl : y = b.lo := by omega
    have hs := sf_pos b.lo
    rw [if_pos h, hyl]
    exact wrapS_mem (Int.mul_le_mul_of_nonneg_right h1.1 (by omega)) (Int.mul_le_mul_of_nonneg_right h1.2 (by omega))
  · have := wd_lt (x * sf y)
    rw [if_neg h]; exact inSt_mk this.1 (by simp only; omega)
theorem mem_shr {a b : St} {x y : Int} (ga : goodS a = true) (hx : inSt a x = true) (hy : inSt b y = true) :
    inSt (if b.lo = b.hi then ⟨a.lo / sf b.lo, a.hi / sf b.lo⟩ else ⟨0, a.hi⟩) (x / sf y) = true := by
  have h1 := inSt_yes hx; have h2 := inSt_yes hy; have h3 := goodS_yes ga
  have hs := sf_pos y
  by_cases h : b.lo = b.hi
  · have hyl : b.lo = y := by omega
    rw [if_pos h, hyl]
    exact inSt_mk (div_between (by omega) hs) (div_between (by omega) hs)
  · have := div_le_num (x := x) (c := sf y) (by omega) hs
    rw [if_neg h]; exact inSt_mk (by simp only; omega) (by simp only; omega)
/-- what an operation gives lies in the interval of the table -/
theorem doSt_mem {op : Int} {a b : St} {x y : Int} (ga : goodS a = true) (gb : goodS b = true) (hx : inSt a x = true) (hy : inSt b y = true) :
    inSt (doSt op a b) (opv op x y) = true := by
  unfold doSt opv
  split
  · exact mem_add hx hy
  split
  · exact mem_sub hx hy
  split
  · exact mem_mul ga gb hx hy
  split
  · exact mem_div ga gb hx hy
  split
  · exact mem_mod ga gb hx hy
  split
  · exact mem_and ga gb hx hy
  split
  · exact mem_or ga gb hx hy
  split
  · exact mem_xor ga gb hx hy
  split
  · exact mem_shl hx hy
  · exact mem_shr ga hx hy
/-- what the table gives is an interval -/
theorem doSt_good {op : Int} {a b : St} (ga : goodS a = true) (gb : goodS b = true) : goodS (doSt op a b) = true := by
  have h3 := goodS_yes ga; have h4 := goodS_yes gb
  have hx : inSt a a.lo = true := inSt_mk (by omega) (by omega)
  have hy : inSt b b.lo = true := inSt_mk (by omega) (by omega)
  have hm : ∀ s : St, 0 ≤ s.lo → s.lo ≤ s.hi → s.hi < 65536 → goodS s = true := fun s h1 h2 h5 => by simp [goodS, h1, h2, h5]
  have hmax : 0 ≤ maxI a.hi b.hi ∧ maxI a.hi b.hi < 65536 := by unfold maxI; split <;> omega
  have hon := onesN_lt (n := (maxI a.hi b.hi).toNat) (by omega)
  have hge := onesN_ge (maxI a.hi b.hi).toNat
  unfold doSt
  split
  · exact wrapS_good (by omega)
  split
  · exact wrapS_good (by omega)
  split
  · exact wrapS_good (Int.mul_le_mul (by omega) (by omega) (by omega) (by omega))
  split
  · split
    · exact hm _ (by simp) (by simp only; omega) (by simp only; omega)
    · have e1 := div_le_num (x := a.lo) (c := b.hi) (by omega) (by omega)
      have e2 := div_between (a := a.lo) (x := a.hi) (c := b.hi) (by omega) (by omega)
      have e3 := div_anti (x := a.hi) (c := b.lo) (d := b.hi) (by omega) (by omega) (by omega)
      have e4 := div_le_num (x := a.hi) (c := b.lo) (by omega) (by omega)
      exact hm _ (by simp only; omega) (by simp only; omega) (by simp only; omega)
  split
  · split
    · exact ga
    · split
      · exact hm _ (by simp) (by simp only; omega) (by simp only; omega)
      · have : 0 ≤ minI a.hi (b.hi - 1) ∧ minI a.hi (b.hi - 1) ≤ a.hi := by unfold minI; split <;> omega
        exact hm _ (by simp) (by simp only; omega) (by simp only; omega)
  split
  · have : 0 ≤ minI a.hi b.hi ∧ minI a.hi b.hi ≤ a.hi := by unfold minI; split <;> omega
    exact hm _ (by simp) (by simp only; omega) (by simp only; omega)
  split
  · have : 0 ≤ maxI a.lo b.lo ∧ maxI a.lo b.lo ≤ maxI a.hi b.hi := by unfold maxI; split <;> split <;> omega
    exact hm _ (by simp only; omega) (by simp only; omega) (by simp only; omega)
  split
  · exact hm _ (by simp) (by simp only; omega) (by simp only; omega)
  split
  · split
    · have := sf_pos b.lo
      exact wrapS_good (Int.mul_le_mul_of_nonneg_right (by omega) (by omega))
    · exact hm _ (by simp) (by simp) (by simp)
  · split
    · have hs := sf_pos b.lo
      have e1 := div_le_num (x := a.lo) (c := sf b.lo) (by omega) hs
      have e2 := div_between (a := a.lo) (x := a.hi) (c := sf b.lo) (by omega) hs
      have e4 := div_le_num (x := a.hi) (c := sf b.lo) (by omega) hs
      exact hm _ (by simp only; omega) (by simp only; omega) (by simp only; omega)
    · exact hm _ (by simp) (by simp only; omega) (by simp only; omega)

/-- the least interval around two -/
def joinSt (a b : St) : St := ⟨minI a.lo b.lo, maxI a.hi b.hi⟩
/-- what two intervals share, if they do -/
def meetSt (a b : St) : St := ⟨maxI a.lo b.lo, minI a.hi b.hi⟩
def meetB (a b : St) : Bool := decide (maxI a.lo b.lo ≤ minI a.hi b.hi)
def withinB (a b : St) : Bool := decide (b.lo ≤ a.lo ∧ a.hi ≤ b.hi)
/-- the words of a that are less than some word of b; the words of b that are greater than some word of a -/
def splitL (a b : St) : St := ⟨a.lo, minI a.hi (b.hi - 1)⟩
def splitR (a b : St) : St := ⟨maxI b.lo (a.lo + 1), b.hi⟩
def splitB (a b : St) : Bool := decide (a.lo < b.hi)
def sizeSt (a : St) : Int := a.hi - a.lo + 1
theorem goodS_mk {s : St} (h1 : 0 ≤ s.lo) (h2 : s.lo ≤ s.hi) (h3 : s.hi < 65536) : goodS s = true := by simp [goodS, h1, h2, h3]
theorem minI_is (a b : Int) : minI a b ≤ a ∧ minI a b ≤ b ∧ (minI a b = a ∨ minI a b = b) := by unfold minI; split <;> omega
theorem maxI_is (a b : Int) : a ≤ maxI a b ∧ b ≤ maxI a b ∧ (maxI a b = a ∨ maxI a b = b) := by unfold maxI; split <;> omega
theorem inSt_iff {s : St} {n : Int} : inSt s n = true ↔ s.lo ≤ n ∧ n ≤ s.hi := ⟨inSt_yes, fun h => inSt_mk h.1 h.2⟩
theorem within_yes {a b : St} : withinB a b = true ↔ b.lo ≤ a.lo ∧ a.hi ≤ b.hi := by simp [withinB]
theorem meetB_yes {a b : St} : meetB a b = true ↔ maxI a.lo b.lo ≤ minI a.hi b.hi := by simp [meetB]
theorem splitB_yes {a b : St} : splitB a b = true ↔ a.lo < b.hi := by simp [splitB]
theorem joinSt_good {a b : St} (ga : goodS a = true) (gb : goodS b = true) : goodS (joinSt a b) = true := by
  have h3 := goodS_yes ga; have h4 := goodS_yes gb; have h5 := minI_is a.lo b.lo; have h6 := maxI_is a.hi b.hi
  exact goodS_mk (by simp only [joinSt]; omega) (by simp only [joinSt]; omega) (by simp only [joinSt]; omega)
theorem meetSt_good {a b : St} (ga : goodS a = true) (gb : goodS b = true) (h : meetB a b = true) : goodS (meetSt a b) = true := by
  have h3 := goodS_yes ga; have h4 := goodS_yes gb; have h5 := maxI_is a.lo b.lo; have h6 := minI_is a.hi b.hi; have h7 := meetB_yes.1 h
  exact goodS_mk (by simp only [meetSt]; omega) (by simp only [meetSt]; omega) (by simp only [meetSt]; omega)
theorem join_in {a b : St} {n : Int} (h : inSt a n = true ∨ inSt b n = true) : inSt (joinSt a b) n = true := by
  have h5 := minI_is a.lo b.lo; have h6 := maxI_is a.hi b.hi
  rw [inSt_iff, inSt_iff] at h
  exact inSt_mk (by simp only [joinSt]; omega) (by simp only [joinSt]; omega)
theorem join_least {a b c : St} (h1 : withinB a c = true) (h2 : withinB b c = true) : withinB (joinSt a b) c = true := by
  have h5 := minI_is a.lo b.lo; have h6 := maxI_is a.hi b.hi
  rw [within_yes] at h1 h2 ⊢
  simp only [joinSt]; omega
theorem meet_in {a b : St} {n : Int} : inSt (meetSt a b) n = true ↔ inSt a n = true ∧ inSt b n = true := by
  have h5 := maxI_is a.lo b.lo; have h6 := minI_is a.hi b.hi
  rw [inSt_iff, inSt_iff, inSt_iff]
  simp only [meetSt]; omega
theorem meet_none {a b : St} {n : Int} (h : meetB a b = false) : ¬ (inSt a n = true ∧ inSt b n = true) := by
  intro hq
  have := inSt_yes (meet_in.2 hq)
  have h7 : meetB a b = true := meetB_yes.2 (by simp only [meetSt] at this; omega)
  rw [h7] at h; cases h
theorem within_in {a b : St} {n : Int} (h : withinB a b = true) (hn : inSt a n = true) : inSt b n = true := by
  rw [within_yes] at h; rw [inSt_iff] at hn ⊢; omega
theorem within_iff {a b : St} (ga : goodS a = true) : withinB a b = true ↔ ∀ n, inSt a n = true → inSt b n = true := by
  have h3 := goodS_yes ga
  constructor
  · exact fun h n hn => within_in h hn
  · intro h
    have h1 := inSt_yes (h a.lo (inSt_mk (by omega) (by omega)))
    have h2 := inSt_yes (h a.hi (inSt_mk (by omega) (by omega)))
    exact within_yes.2 (by omega)
theorem split_left {a b : St} {n : Int} (gb : goodS b = true) : inSt (splitL a b) n = true ↔ inSt a n = true ∧ ∃ m, inSt b m = true ∧ n < m := by
  have h4 := goodS_yes gb; have h5 := minI_is a.hi (b.hi - 1)
  constructor
  · intro h
    have := inSt_yes h
    simp only [splitL] at this
    exact ⟨inSt_mk (by omega) (by omega), b.hi, inSt_mk (by omega) (by omega), by omega⟩
  · rintro ⟨h, m, hm, hlt⟩
    have h1 := inSt_yes h; have h2 := inSt_yes hm
    exact inSt_mk (by simp only [splitL]; omega) (by simp only [splitL]; omega)
theorem split_right {a b : St} {m : Int} (ga : goodS a = true) : inSt (splitR a b) m = true ↔ inSt b m = true ∧ ∃ n, inSt a n = true ∧ n < m := by
  have h4 := goodS_yes ga; have h5 := maxI_is b.lo (a.lo + 1)
  constructor
  · intro h
    have := inSt_yes h
    simp only [splitR] at this
    exact ⟨inSt_mk (by omega) (by omega), a.lo, inSt_mk (by omega) (by omega), by omega⟩
  · rintro ⟨h, n, hn, hlt⟩
    have h1 := inSt_yes h; have h2 := inSt_yes hn
    exact inSt_mk (by simp only [splitR]; omega) (by simp only [splitR]; omega)
theorem split_good {a b : St} (ga : goodS a = true) (gb : goodS b = true) (h : splitB a b = true) : goodS (splitL a b) = true ∧ goodS (splitR a b) = true := by
  have h3 := goodS_yes ga; have h4 := goodS_yes gb; have h5 := minI_is a.hi (b.hi - 1); have h6 := maxI_is b.lo (a.lo + 1); have h7 := splitB_yes.1 h
  exact ⟨goodS_mk (by simp only [splitL]; omega) (by simp only [splitL]; omega) (by simp only [splitL]; omega),
    goodS_mk (by simp only [splitR]; omega) (by simp only [splitR]; omega) (by simp only [splitR]; omega)⟩
theorem within_join {a b : St} : withinB a (joinSt a b) = true ∧ withinB b (joinSt a b) = true := by
  have h5 := minI_is a.lo b.lo; have h6 := maxI_is a.hi b.hi
  rw [within_yes, within_yes]
  simp only [joinSt]; omega
theorem within_meet {a b : St} : withinB (meetSt a b) a = true ∧ withinB (meetSt a b) b = true := by
  have h5 := maxI_is a.lo b.lo; have h6 := minI_is a.hi b.hi
  rw [within_yes, within_yes]
  simp only [meetSt]; omega
theorem meetB_iff {a b : St} (ga : goodS a = true) (gb : goodS b = true) : meetB a b = true ↔ a.lo ≤ b.hi ∧ b.lo ≤ a.hi := by
  have h3 := goodS_yes ga; have h4 := goodS_yes gb; have h5 := maxI_is a.lo b.lo; have h6 := minI_is a.hi b.hi
  rw [meetB_yes]; omega
/-- a number on the way to 'onesN n' -/
def OnesAt (k n : Nat) : Prop := (∃ i, k = 2 ^ i - 1) ∧ k ≤ onesN n
theorem ones_zero (n : Nat) : OnesAt 0 n := ⟨⟨0, rfl⟩, Nat.zero_le _⟩
theorem ones_more {k n : Nat} (h : OnesAt k n) (hk : k < n) : OnesAt (2 * k + 1) n := by
  obtain ⟨⟨i, hi⟩, _⟩ := h
  have h2 := Nat.two_pow_pos i
  refine ⟨⟨i + 1, by rw [Nat.pow_succ]; omega⟩, ?_⟩
  obtain ⟨j, hj⟩ := onesN_pow n
  have h3 := onesN_ge n
  have h4 : i < j := by
    apply Nat.lt_of_not_le; intro hji
    have := Nat.pow_le_pow_right (n := 2) (by omega) hji
    omega
  have h5 := Nat.pow_le_pow_right (n := 2) (by omega) h4
  rw [Nat.pow_succ] at h5
  omega
theorem ones_end {k n : Nat} (h : OnesAt k n) (hk : n ≤ k) : onesN n = k := by
  obtain ⟨⟨i, rfl⟩, h1⟩ := h
  have := onesN_least n i hk
  omega
/-- a number divided by the size of words, down, as the model does it -/
theorem floor_tdiv (n : Int) : (n - n % 65536).tdiv 65536 = n / 65536 := by
  have h : n - n % 65536 = n / 65536 * 65536 := by omega
  rw [h, Int.mul_tdiv_cancel _ (by decide)]
/-- the interval's number k steps on, round at its end -/
theorem in_step {s : St} {k : Int} (gs : goodS s = true) : inSt s (s.lo + k % sizeSt s) = true := by
  have h3 := goodS_yes gs
  have h1 := Int.emod_nonneg k (b := sizeSt s) (by unfold sizeSt; omega)
  have h2 := Int.emod_lt_of_pos k (b := sizeSt s) (by unfold sizeSt; omega)
  unfold sizeSt at h1 h2 ⊢
  exact inSt_mk (by omega) (by omega)
theorem inSt_word {s : St} {n : Int} (gs : goodS s = true) (h : inSt s n = true) : isW n = true := by
  have h3 := goodS_yes gs; have h1 := inSt_yes h
  exact isW_mk (by omega) (by omega)
/-- there are such words just where 'splitB' says so -/
theorem split_none {a b : St} (h : splitB a b = false) : ∀ n m, inSt a n = true → inSt b m = true → ¬ n < m := by
  intro n m hn hm hlt
  have h1 := inSt_yes hn; have h2 := inSt_yes hm
  have : splitB a b = true := splitB_yes.2 (by omega)
  rw [this] at h; cases h
end Go.Proofs.YtkffggnajoohfaaDoor.Op
