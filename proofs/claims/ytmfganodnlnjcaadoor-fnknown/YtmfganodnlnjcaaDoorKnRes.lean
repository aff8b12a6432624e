/-
  The join of all results of an operation on words of two knowns. Plain mathematics.
-/
import Derived.Test.YtmfganodnlnjcaaDoorKnI
namespace Go.Proofs.YtmfganodnlnjcaaDoor.Op
open Go.Proofs.YtmfganodnlnjcaaDoor

/-- the q-th result, M words of b to each of a -/
def resN (op : Int) (a b : Kn) (M q : Nat) : Nat := opN op (numAt a (q / M)) (numAt b (q % M))
/-- the join of the first t results -/
def LR (op : Int) (a b : Kn) (M t : Nat) : Kn := if t = 0 then ⟨0, 0⟩ else joinL (resN op a b M 0) ((List.range (t - 1)).map (fun q => resN op a b M (q + 1)))
theorem LR_zero (op : Int) (a b : Kn) (M : Nat) : LR op a b M 0 = ⟨0, 0⟩ := rfl
theorem LR_one (op : Int) (a b : Kn) (M : Nat) : LR op a b M 1 = ⟨resN op a b M 0, 0⟩ := rfl
theorem LR_succ (op : Int) (a b : Kn) (M t : Nat) (h : 0 < t) : LR op a b M (t + 1) = joinK (LR op a b M t) ⟨resN op a b M t, 0⟩ := by
  obtain ⟨s, rfl⟩ : ∃ s, t = s + 1 := ⟨t - 1, by omega⟩
  unfold LR
  rw [if_neg (by omega), if_neg (by omega), Nat.add_sub_cancel, Nat.add_sub_cancel, List.range_succ, List.map_append]
  unfold joinL
  rw [List.foldl_append]
  rfl
theorem res_at (op : Int) (a b : Kn) {M i j : Nat} (hj : j < M) : resN op a b M (i * M + j) = opN op (numAt a i) (numAt b j) := by
  unfold resN
  rw [Nat.mul_comm, Nat.mul_add_div (by omega), Nat.div_eq_of_lt hj, Nat.add_zero, Nat.mul_add_mod, Nat.mod_eq_of_lt hj]
theorem res_lt {op : Int} {a b : Kn} (ga : goodK a = true) (gb : goodK b = true) (M q : Nat) : resN op a b M q < 65536 := opN_lt (numAt_lt ga _) (numAt_lt gb _)
theorem known_good {n : Nat} (h : n < 65536) : goodK ⟨n, 0⟩ = true := goodK_mk h (by decide) (fun i => by simp)
theorem LR_good {op : Int} {a b : Kn} (ga : goodK a = true) (gb : goodK b = true) (M t : Nat) : goodK (LR op a b M t) = true := by
  induction t with
  | zero => exact known_good (by decide)
  | succ t ih =>
    by_cases h : t = 0
    · subst h; rw [LR_one]; exact known_good (res_lt ga gb M 0)
    · rw [LR_succ op a b M t (by omega)]
      exact joinK_good ih (known_good (res_lt ga gb M t))
theorem res_may {op : Int} {a b : Kn} (ho : isOp op = true) (ga : goodK a = true) (gb : goodK b = true) (M q : Nat) : mayK (doK op a b) (resN op a b M q) = true :=
  doK_may ho ga gb (numAt_lt ga _) (numAt_lt gb _) (numAt_may ga _) (numAt_may gb _)
/-- for sums and differences the join of all results is what the table says -/
theorem LR_all {op : Int} {a b : Kn} (ho : op = 1 ∨ op = 2) (ga : goodK a = true) (gb : goodK b = true) : LR op a b (waysN b) (waysN a * waysN b) = doK op a b := by
  have hn : 0 < waysN a := Nat.two_pow_pos _
  have hm : 0 < waysN b := Nat.two_pow_pos _
  have io : isOp op = true := by unfold isOp; rw [decide_eq_true_eq]; omega
  obtain ⟨v, m, hd, hopt⟩ : ∃ v m, doK op a b = notK v m ∧ ∀ i, m.testBit i = true → ∃ x y x' y', x < 65536 ∧ y < 65536 ∧ x' < 65536 ∧ y' < 65536 ∧ mayK a x = true ∧ mayK b y = true ∧ mayK a x' = true ∧ mayK b y' = true ∧ (opN op x y).testBit i ≠ (opN op x' y').testBit i := by
    rcases ho with rfl | rfl
    · exact ⟨_, _, rfl, fun i hi => sum_opt ga gb hi⟩
    · exact ⟨_, _, rfl, fun i hi => dif_opt ga gb hi⟩
  have hp : 0 < waysN a * waysN b := Nat.mul_pos hn hm
  have hmay : ∀ q i, m.testBit i = false → (resN op a b (waysN b) q).testBit i = v.testBit i := by
    intro q i hi
    have := mayK_iff.1 (res_may io ga gb (waysN b) q) i
    rw [hd] at this
    simp only [notK, andN_bit] at this
    rw [hi] at this
    simpa using this
  have hin : ∀ x y, x < 65536 → y < 65536 → mayK a x = true → mayK b y = true → ∃ q, q < waysN a * waysN b ∧ resN op a b (waysN b) q = opN op x y := by
    intro x y hx hy h1 h2
    obtain ⟨i, hi, rfl⟩ := numAt_all hx h1
    obtain ⟨j, hj, rfl⟩ := numAt_all hy h2
    refine ⟨i * waysN b + j, ?_, res_at op a b hj⟩
    have : (i + 1) * waysN b ≤ waysN a * waysN b := Nat.mul_le_mul_right _ hi
    rw [Nat.add_mul] at this
    omega
  unfold LR
  rw [if_neg (by omega), hd]
  apply joinL_is
  · exact fun i hi => hmay 0 i hi
  · intro i hi n hn'
    obtain ⟨q, _, rfl⟩ := List.mem_map.1 hn'
    exact hmay (q + 1) i hi
  · intro i hi
    obtain ⟨x, y, x', y', h1, h2, h3, h4, m1, m2, m3, m4, hne⟩ := hopt i hi
    obtain ⟨q, hq, e⟩ := hin x y h1 h2 m1 m2
    obtain ⟨q', hq', e'⟩ := hin x' y' h3 h4 m3 m4
    have pick : ∀ r, r < waysN a * waysN b → (resN op a b (waysN b) r).testBit i ≠ (resN op a b (waysN b) 0).testBit i → ∃ n ∈ (List.range (waysN a * waysN b - 1)).map (fun q => resN op a b (waysN b) (q + 1)), n.testBit i ≠ (resN op a b (waysN b) 0).testBit i := by
      intro r hr hr2
      have h0 : r ≠ 0 := by rintro rfl; exact hr2 rfl
      refine ⟨resN op a b (waysN b) r, List.mem_map.2 ⟨r - 1, by simp; omega, by congr 1; omega⟩, hr2⟩
    by_cases hz : (resN op a b (waysN b) q).testBit i = (resN op a b (waysN b) 0).testBit i
    · refine pick q' hq' ?_
      intro hz'
      apply hne
      rw [← e, ← e', hz, hz']
    · exact pick q hq hz
end Go.Proofs.YtmfganodnlnjcaaDoor.Op
