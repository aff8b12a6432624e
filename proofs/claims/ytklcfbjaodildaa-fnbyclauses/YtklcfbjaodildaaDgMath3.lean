/-
  Binary decision diagrams: how the number of models moves down to the constants; plain lists.
-/
import Derived.Test.YtklcfbjaodildaaDgMath2
namespace Go.Proofs.Ytklcfbjaodildaa

theorem wg_dvd {n : Nat} {ns : List Nd} (ha : Ahead ns) (hr : Rises n ns) : ∀ (f : Nat) (k : Int), k.toNat ≤ f → (k < 2 → 2 ^ n ∣ wg n ns k) ∧ (∀ x, 2 ≤ k → ns[(k - 2).toNat]? = some x → 2 ^ (x.v - 1).toNat ∣ wg n ns k)
  | f, k, hf => by
    constructor
    · intro hk
      rw [wg_low n ns hk]
      split
      · exact Nat.dvd_refl _
      · exact Nat.dvd_zero _
    · intro x hk hx
      obtain ⟨a1, a2, a3, a4⟩ := ha _ x hx
      obtain ⟨r1, r2, r3, r4, r5⟩ := hr _ x hx
      obtain ⟨g, rfl⟩ : ∃ g, f = g + 1 := ⟨f - 1, by omega⟩
      have child : ∀ c : Int, 0 ≤ c → c < k → (∀ y, 2 ≤ c → ns[(c - 2).toNat]? = some y → x.v < y.v) → c - 2 < ns.length → 2 ^ x.v.toNat ∣ wg n ns c := by
        intro c h0 h1 h2 h3
        obtain ⟨i1, i2⟩ := wg_dvd ha hr g c (by omega)
        by_cases hc : c < 2
        · exact Nat.dvd_trans (Nat.pow_dvd_pow 2 (by omega)) (i1 hc)
        · have hl : (c - 2).toNat < ns.length := by omega
          have hy := List.getElem?_eq_getElem hl
          have := h2 _ (by omega) hy
          exact Nat.dvd_trans (Nat.pow_dvd_pow 2 (by omega)) (i2 _ (by omega) hy)
      have hlt := (List.getElem?_eq_some_iff.1 hx).1
      have d1 := child x.l a1 (by omega) r4 (by omega)
      have d2 := child x.h a3 (by omega) r5 (by omega)
      rw [wg_step ha n hk hx]
      have e : 2 ^ x.v.toNat = 2 ^ (x.v - 1).toNat * 2 := by rw [← Nat.pow_succ]; congr 1; omega
      obtain ⟨q, hq⟩ := Nat.dvd_add d1 d2
      rw [hq, e]
      refine ⟨q, ?_⟩
      rw [Nat.mul_assoc, Nat.mul_comm 2 q, ← Nat.mul_assoc, Nat.mul_div_cancel _ (by omega)]

theorem wg_two {n : Nat} {ns : List Nd} (ha : Ahead ns) (hr : Rises n ns) {k : Int} {x : Nd} (hk : 2 ≤ k) (hx : ns[(k - 2).toNat]? = some x) : wg n ns x.l + wg n ns x.h = 2 * wg n ns k := by
  obtain ⟨a1, a2, a3, a4⟩ := ha _ x hx
  obtain ⟨r1, r2, r3, r4, r5⟩ := hr _ x hx
  have hlt := (List.getElem?_eq_some_iff.1 hx).1
  have child : ∀ c : Int, 0 ≤ c → c < k → (∀ y, 2 ≤ c → ns[(c - 2).toNat]? = some y → x.v < y.v) → c - 2 < ns.length → 2 ∣ wg n ns c := by
    intro c h0 h1 h2 h3
    obtain ⟨i1, i2⟩ := wg_dvd ha hr c.toNat c (Nat.le_refl _)
    by_cases hc : c < 2
    · exact Nat.dvd_trans (by simpa using Nat.pow_dvd_pow 2 (show 1 ≤ n by omega)) (i1 hc)
    · have hl : (c - 2).toNat < ns.length := by omega
      have hy := List.getElem?_eq_getElem hl
      have := h2 _ (by omega) hy
      exact Nat.dvd_trans (by simpa using Nat.pow_dvd_pow 2 (show 1 ≤ (ns[(c - 2).toNat].v - 1).toNat by omega)) (i2 _ (by omega) hy)
  have d1 := child x.l a1 (by omega) r4 (by omega)
  have d2 := child x.h a3 (by omega) r5 (by omega)
  rw [wg_step ha n hk hx]
  omega

/-- the sum over the numbers below m -/
def sumN : Nat → (Nat → Nat) → Nat
  | 0, _ => 0
  | m + 1, f => sumN m f + f m
theorem sumN_congr {f g : Nat → Nat} : ∀ m, (∀ k, k < m → f k = g k) → sumN m f = sumN m g
  | 0, _ => rfl
  | m + 1, h => by unfold sumN; rw [sumN_congr m (fun k hk => h k (by omega)), h m (by omega)]
/-- a value more at one place -/
def addAt (f : Nat → Nat) (j c : Nat) : Nat → Nat := fun k => if k = j then f k + c else f k
theorem sumN_addAt (f u : Nat → Nat) (j c : Nat) : ∀ m, sumN m (fun k => addAt f j c k * u k) = sumN m (fun k => f k * u k) + if j < m then c * u j else 0
  | 0 => by simp [sumN]
  | m + 1 => by
    unfold sumN
    rw [sumN_addAt f u j c m]
    by_cases h1 : j < m
    · have h2 : m ≠ j := by omega
      rw [if_pos h1, if_pos (by omega)]
      simp only [addAt, if_neg h2]
      omega
    · by_cases h2 : m = j
      · subst h2
        rw [if_neg h1, if_pos (by omega)]
        simp only [addAt, if_true, Nat.add_mul]
        omega
      · rw [if_neg h1, if_neg (by omega)]
        simp only [addAt, if_neg h2]
        omega
theorem sumN_one (f : Nat → Nat) (m : Nat) : sumN m (fun _k => f _k * 1) = sumN m f := sumN_congr m (fun _k _ => Nat.mul_one _)
theorem sumN_le {f : Nat → Nat} : ∀ {m k : Nat}, k < m → f k ≤ sumN m f
  | 0, _, h => by omega
  | m + 1, k, h => by
    unfold sumN
    by_cases hk : k = m
    · subst hk; omega
    · have := sumN_le (f := f) (m := m) (k := k) (by omega)
      omega
theorem sumN_cut {f : Nat → Nat} : ∀ {m m' : Nat}, m' ≤ m → (∀ k, m' ≤ k → k < m → f k = 0) → sumN m f = sumN m' f
  | 0, m', h, _ => by obtain rfl : m' = 0 := by omega
                      rfl
  | m + 1, m', h, hz => by
    by_cases hk : m' = m + 1
    · rw [hk]
    · have e := sumN_cut (f := f) (m := m) (m' := m') (by omega) (fun k h1 h2 => hz k h1 (by omega))
      show sumN m f + f m = _
      rw [e, hz m (by omega) (by omega)]
      rfl

/-- the models moved down so far: mm k of them stand at the number k, all at numbers up to at -/
structure Mv (n : Nat) (ns : List Nd) (r : Int) (at_ : Nat) (mm : Nat → Nat) : Prop where
  all : sumN (at_ + 1) mm = 2 ^ n
  up : ∀ k, at_ < k → mm k = 0
  ones : sumN (at_ + 1) (fun k => mm k * wg n ns k) = 2 ^ n * wg n ns r
  div : ∀ k x, 2 ≤ k → ns[k - 2]? = some x → 2 ^ (n + 1 - x.v.toNat) ∣ mm k
/-- all stand at the root -/
def mm0 (n : Nat) (r : Nat) : Nat → Nat := fun k => if k = r then 2 ^ n else 0
theorem Mv.start {n : Int} {ns : List Nd} {r : Nat} (h : GoodD n ns r) : Mv n.toNat ns r r (mm0 n.toNat r) := by
  have hz : ∀ u : Nat → Nat, sumN r (fun k => mm0 n.toNat r k * u k) = 0 := by
    intro u
    rw [sumN_cut (m' := 0) (by omega) (fun k _ hk => by simp [mm0, show k ≠ r by omega])]
    rfl
  refine ⟨?_, fun k hk => by simp [mm0, show k ≠ r by omega], ?_, fun k x _ hx => ?_⟩
  · have := hz (fun _ => 1)
    rw [sumN_one] at this
    unfold sumN
    rw [this]
    simp [mm0]
  · unfold sumN
    rw [hz]
    simp [mm0]
  · obtain ⟨r1, r2, _⟩ := h.facts.1 _ x hx
    unfold mm0
    split
    · exact Nat.pow_dvd_pow 2 (by omega)
    · exact Nat.dvd_zero _
/-- one number is taken out -/
def drop0 (f : Nat → Nat) (j : Nat) : Nat → Nat := fun k => if k = j then 0 else f k
/-- the models at a node go to its two sides -/
def mvStep (mm : Nat → Nat) (k l h : Nat) : Nat → Nat := addAt (addAt (drop0 mm k) l (mm k / 2)) h (mm k / 2)
theorem sumN_drop (f u : Nat → Nat) (k : Nat) : sumN k (fun j => drop0 f k j * u j) = sumN k (fun j => f j * u j) := sumN_congr k (fun j hj => by simp [drop0, show j ≠ k by omega])
theorem Mv.step {n : Nat} {ns : List Nd} {r : Int} {k : Nat} {mm : Nat → Nat} (h : Mv n ns r k mm) (ha : Ahead ns) (hr : Rises n ns) (hk : 2 ≤ k) {x : Nd} (hx : ns[k - 2]? = some x) : Mv n ns r (k - 1) (mvStep mm k x.l.toNat x.h.toNat) := by
  obtain ⟨a1, a2, a3, a4⟩ := ha _ x hx
  obtain ⟨r1, r2, r3, r4, r5⟩ := hr _ x hx
  have hx' : ns[((k : Int) - 2).toNat]? = some x := by rw [show ((k : Int) - 2).toNat = k - 2 by omega]; exact hx
  have hw := wg_two ha hr (k := k) (by omega) hx'
  have hev : mm k = 2 * (mm k / 2) := by
    have : 2 ∣ mm k := Nat.dvd_trans (by simpa using Nat.pow_dvd_pow 2 (show 1 ≤ n + 1 - x.v.toNat by omega)) (h.div k x hk hx)
    omega
  have hl : x.l.toNat < k := by omega
  have hh : x.h.toNat < k := by omega
  have e1 : k - 1 + 1 = k := by omega
  have gen : ∀ u : Nat → Nat, sumN k (fun j => mvStep mm k x.l.toNat x.h.toNat j * u j) = sumN k (fun j => mm j * u j) + mm k / 2 * u x.l.toNat + mm k / 2 * u x.h.toNat := by
    intro u
    unfold mvStep
    rw [sumN_addAt, sumN_addAt, if_pos hl, if_pos hh, sumN_drop]
  refine ⟨?_, fun j hj => ?_, ?_, fun j y hj hy => ?_⟩
  · have := gen (fun _ => 1)
    rw [sumN_one, sumN_one] at this
    have e2 := h.all
    unfold sumN at e2
    rw [e1, this]
    omega
  · have hj' : k ≤ j := by omega
    have : drop0 mm k j = 0 := by
      unfold drop0
      split
      · rfl
      · exact h.up j (by omega)
    unfold mvStep addAt
    rw [if_neg (by omega), if_neg (by omega)]
    exact this
  · have := gen (fun j => wg n ns j)
    have e2 := h.ones
    unfold sumN at e2
    rw [e1, this, ← e2]
    have c1 : ((x.l.toNat : Nat) : Int) = x.l := by omega
    have c2 : ((x.h.toNat : Nat) : Int) = x.h := by omega
    simp only [c1, c2]
    rw [Nat.add_assoc, ← Nat.mul_add, hw]
    congr 1
    rw [hev]
    generalize mm k / 2 = q
    rw [show 2 * q / 2 = q by omega, ← Nat.mul_assoc, Nat.mul_comm q 2]
  · have hd : 2 ^ (n + 1 - y.v.toNat) ∣ drop0 mm k j := by
      unfold drop0
      split
      · exact Nat.dvd_zero _
      · exact h.div j y hj hy
    have half : (j = x.l.toNat ∨ j = x.h.toNat) → 2 ^ (n + 1 - y.v.toNat) ∣ mm k / 2 := by
      intro hjj
      have hv : x.v < y.v := by
        rcases hjj with rfl | rfl
        · exact r4 y (by omega) (by rw [show (x.l - 2).toNat = x.l.toNat - 2 by omega]; exact hy)
        · exact r5 y (by omega) (by rw [show (x.h - 2).toNat = x.h.toNat - 2 by omega]; exact hy)
      obtain ⟨q, hq⟩ := h.div k x hk hx
      have e : n + 1 - x.v.toNat = (n - x.v.toNat) + 1 := by omega
      rw [e, Nat.pow_succ] at hq
      refine Nat.dvd_trans (Nat.pow_dvd_pow 2 (show n + 1 - y.v.toNat ≤ n - x.v.toNat by omega)) ⟨q, ?_⟩
      rw [hq, Nat.mul_assoc, Nat.mul_comm 2 q, ← Nat.mul_assoc]
      exact Nat.mul_div_cancel _ (by omega)
    unfold mvStep addAt
    split
    · rename_i h1
      split
      · rename_i h2
        exact Nat.dvd_add (Nat.dvd_add hd (half (.inl h2))) (half (.inr h1))
      · exact Nat.dvd_add hd (half (.inr h1))
    · split
      · rename_i h2
        exact Nat.dvd_add hd (half (.inl h2))
      · exact hd
theorem Mv.down {n : Nat} {ns : List Nd} {r : Int} {k k' : Nat} {mm : Nat → Nat} (h : Mv n ns r k mm) (hk : k' ≤ k) (hz : ∀ j, k' < j → mm j = 0) : Mv n ns r k' mm := by
  refine ⟨?_, hz, ?_, h.div⟩
  · rw [← h.all, sumN_cut (m := k + 1) (m' := k' + 1) (by omega) (fun j h1 _ => hz j (by omega))]
  · rw [← h.ones, sumN_cut (f := fun j => mm j * wg n ns j) (m := k + 1) (m' := k' + 1) (by omega) (fun j h1 _ => by simp [hz j (by omega)])]
theorem Mv.le {n : Nat} {ns : List Nd} {r : Int} {k : Nat} {mm : Nat → Nat} (h : Mv n ns r k mm) (j : Nat) : mm j ≤ 2 ^ n := by
  by_cases hj : j < k + 1
  · rw [← h.all]; exact sumN_le hj
  · rw [h.up j (by omega)]; exact Nat.zero_le _
theorem Mv.end_ {n : Nat} {ns : List Nd} {r : Int} {k : Nat} {mm : Nat → Nat} (h : Mv n ns r k mm) (hk : k < 2) : mm 1 = wg n ns r := by
  have h' := h.ones
  have e : sumN 2 (fun k => mm k * wg n ns k) = sumN (k + 1) (fun k => mm k * wg n ns k) := sumN_cut (by omega) (fun j h1 _ => by simp [h.up j (by omega)])
  rw [← e] at h'
  have w0 : wg n ns (0 : Nat) = 0 := by rw [wg_low n ns (by omega)]; simp
  have w1 : wg n ns (1 : Nat) = 2 ^ n := by rw [wg_low n ns (by omega)]; simp
  simp only [sumN, w0, w1] at h'
  have hp : 0 < 2 ^ n := Nat.pow_pos (by omega)
  have : 2 ^ n * mm 1 = 2 ^ n * wg n ns r := by rw [← h', Nat.mul_comm]; omega
  exact Nat.eq_of_mul_eq_mul_left hp this
end Go.Proofs.Ytklcfbjaodildaa
