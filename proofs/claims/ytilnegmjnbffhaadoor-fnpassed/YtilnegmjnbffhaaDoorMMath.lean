/-
  What a step does to a machine, and what a run is: plain functions, and what stays true along them.
-/
import Derived.Test.YtilnegmjnbffhaaDoorGood
import Derived.Test.YtilnegmjnbffhaaDoorMach
import Derived.Test.YtilnegmjnbffhaaDoorODoOps
namespace Go.Proofs.YtilnegmjnbffhaaDoor
open Go.ChangeShapes Go.WideShapes Go.ChangeAt Go.RowKit

def reg (m : Mch) (j : Int) : Int := m.r.getD j.toNat 0
def setR (m : Mch) (j v : Int) : Mch := ⟨m.a + 1, m.r.set j.toNat v, m.c, m.s⟩
def taken (x : Stp) (m : Mch) : Bool := decide (x.k = 8) || (decide (x.k = 9) && decide (reg m x.d = reg m x.s)) || (decide (x.k = 10) && decide (reg m x.d < reg m x.s))
/-- a step: the machine behind it, a fault, whether the program has ended -/
def doM (x : Stp) (ctx : List Int) (m : Mch) : Mch × Int × Bool :=
  if x.k = 11 then (m, 0, true)
  else if x.k = 1 then (setR m x.d (Op.opv x.o (reg m x.d) (reg m x.s)), 0, false)
  else if x.k = 2 then (setR m x.d (Op.opv x.o (reg m x.d) x.i), 0, false)
  else if x.k = 3 ∨ x.k = 4 then (setR m x.d x.i, 0, false)
  else if x.k = 5 then (if 8 ≤ reg m x.s + x.i then (m, 1, false) else (setR m x.d (ctx.getD (reg m x.s + x.i).toNat 0), 0, false))
  else if x.k = 6 ∨ x.k = 7 then
    (if 16 ≤ x.i then (m, 2, false)
     else if x.k = 7 then (⟨m.a + 1, m.r, m.c.set x.i.toNat (reg m x.d), m.s.set x.i.toNat true⟩, 0, false)
     else if m.s.getD x.i.toNat false then (setR m x.d (m.c.getD x.i.toNat 0), 0, false) else (m, 3, false))
  else (⟨if taken x m then m.a + x.t + 1 else m.a + 1, m.r, m.c, m.s⟩, 0, false)

/-- valid machines -/
structure GoodM (m : Mch) : Prop where
  a : 0 ≤ m.a ∧ m.a ≤ 19
  r : m.r.length = 6
  c : m.c.length = 16
  s : m.s.length = 16
  rw : allB 0 65535 m.r = true
  cw : allB 0 65535 m.c = true
theorem goodM_iff (m : Mch) : goodMB m = true ↔ GoodM m := by
  unfold goodMB
  simp only [Bool.and_eq_true, decide_eq_true_eq]
  constructor
  · rintro ⟨⟨⟨⟨⟨h1, h2⟩, h3⟩, h4⟩, h5⟩, h6⟩
    exact ⟨inB_yes h1, h2, h3, h4, h5, h6⟩
  · rintro ⟨h1, h2, h3, h4, h5, h6⟩
    exact ⟨⟨⟨⟨⟨by simp [inB, h1], h2⟩, h3⟩, h4⟩, h5⟩, h6⟩
theorem reg_word {m : Mch} (h : GoodM m) {j : Int} (h1 : 0 ≤ j) (h2 : j ≤ 5) : 0 ≤ reg m j ∧ reg m j ≤ 65535 := by
  have hlt : j.toNat < m.r.length := by rw [h.r]; omega
  have e : m.r[j.toNat]? = some (reg m j) := by simp [reg, List.getD, List.getElem?_eq_getElem hlt]
  exact allB_at h.rw e
theorem reg_at {m : Mch} (h : GoodM m) {j : Int} (h1 : 0 ≤ j) (h2 : j ≤ 5) : m.r[j.toNat]? = some (reg m j) := by
  have hlt : j.toNat < m.r.length := by rw [h.r]; omega
  simp [reg, List.getD, List.getElem?_eq_getElem hlt]
theorem allB_set {lo hi : Int} {l : List Int} (h : allB lo hi l = true) (j : Nat) {v : Int} (h1 : lo ≤ v) (h2 : v ≤ hi) : allB lo hi (l.set j v) = true := by
  unfold allB at h ⊢
  rw [List.all_eq_true] at h ⊢
  intro x hx
  rcases List.mem_or_eq_of_mem_set hx with h' | rfl
  · exact h x h'
  · simp [inB, h1, h2]
theorem opv_word {op a b : Int} (_ho : 1 ≤ op ∧ op ≤ 10) (a1 : 0 ≤ a) (a2 : a ≤ 65535) (b1 : 0 ≤ b) (b2 : b ≤ 65535) : 0 ≤ Op.opv op a b ∧ Op.opv op a b ≤ 65535 := by
  have hw := fun n => Op.wd_lt n
  obtain ⟨na, rfl⟩ := Int.eq_ofNat_of_zero_le a1
  obtain ⟨nb, rfl⟩ := Int.eq_ofNat_of_zero_le b1
  have hand : (na &&& nb) < 2 ^ 16 := Nat.and_lt_two_pow _ (by omega)
  have hor : (na ||| nb) < 2 ^ 16 := Nat.or_lt_two_pow (by omega) (by omega)
  have hxor : (na ^^^ nb) < 2 ^ 16 := Nat.xor_lt_two_pow (by omega) (by omega)
  have hsf := Op.sf_le (nb : Int)
  unfold Op.opv
  split
  · have := hw ((na : Int) + nb); omega
  split
  · have := hw ((na : Int) - nb); omega
  split
  · have := hw ((na : Int) * nb); omega
  split
  · unfold Op.qt
    split
    · omega
    · have h1 : 0 ≤ (na : Int) / nb := Int.ediv_nonneg a1 b1
      have h2 : (na : Int) / nb ≤ na := Int.ediv_le_self _ a1
      omega
  split
  · unfold Op.rm
    split
    · omega
    · have h1 : 0 ≤ (na : Int) % nb := Int.emod_nonneg _ (by omega)
      have h2 : (na : Int) % nb < nb := Int.emod_lt_of_pos _ (by omega)
      omega
  split
  · rw [Op.i64_and_nat _ _ (by omega) (by omega)]; omega
  split
  · rw [Op.i64_or_nat _ _ (by omega) (by omega)]; omega
  split
  · rw [Op.i64_xor_nat _ _ (by omega) (by omega)]; omega
  split
  · have := hw ((na : Int) * Op.sf nb); omega
  · have h1 : 0 ≤ (na : Int) / Op.sf nb := Int.ediv_nonneg a1 (by omega)
    have h2 : (na : Int) / Op.sf nb ≤ na := Int.ediv_le_self _ a1
    omega
theorem good_setR {m : Mch} (h : GoodM m) (ha : m.a ≤ 18) {j v : Int} (h1 : 0 ≤ v) (h2 : v ≤ 65535) : GoodM (setR m j v) :=
  ⟨by have := h.a; simp only [setR]; omega, by simp [setR, h.r], h.c, h.s, allB_set h.rw _ h1 h2, h.cw⟩
theorem good_at {m : Mch} (h : GoodM m) {a : Int} (h1 : 0 ≤ a) (h2 : a ≤ 19) : GoodM ⟨a, m.r, m.c, m.s⟩ := ⟨⟨h1, h2⟩, h.r, h.c, h.s, h.rw, h.cw⟩
/-- behind a step that neither faults nor ends: the machine is valid, and stands at a step that may follow -/
theorem doM_good {x : Stp} {ctx : List Int} {m : Mch} {n : Nat} (hn : n ≤ 20) (hm : GoodM m) (hc : allB 0 255 ctx = true) (hl : ctx.length = 8) (hf : fitAt n m.a.toNat x) (h0 : (doM x ctx m).2.1 = 0) (he : (doM x ctx m).2.2 = false) :
    GoodM (doM x ctx m).1 ∧ (doM x ctx m).1.a ∈ nextsI x.k x.t m.a ∧ (doM x ctx m).1.a < n ∧ m.a < (doM x ctx m).1.a := by
  obtain ⟨hok, hj⟩ := hf
  have hk := okB_yes hok
  have ha0 : ((m.a.toNat : Nat) : Int) = m.a := by have := hm.a; omega
  rw [ha0] at hj
  have hb := okP_bounds hk
  have hrd := reg_word hm hb.2.2.1.1 hb.2.2.1.2
  have hrs := reg_word hm hb.2.2.2.1.1 hb.2.2.2.1.2
  have plain : ∀ q : x.k ≠ 11 ∧ x.k ≠ 8, m.a + 1 ∈ nextsI x.k x.t m.a ∧ m.a + 1 < n := by
    intro q
    have hin : m.a + 1 ∈ nextsI x.k x.t m.a := by unfold nextsI; rw [if_neg q.1, if_neg q.2]; split <;> simp
    exact ⟨hin, hj _ hin⟩
  have setr : ∀ v : Int, x.k ≠ 11 ∧ x.k ≠ 8 → 0 ≤ v → v ≤ 65535 → GoodM (setR m x.d v) ∧ (setR m x.d v).a ∈ nextsI x.k x.t m.a ∧ (setR m x.d v).a < n ∧ m.a < (setR m x.d v).a := by
    intro v q h1 h2
    obtain ⟨p1, p2⟩ := plain q
    exact ⟨good_setR hm (by omega) h1 h2, p1, p2, by show m.a < m.a + 1; omega⟩
  unfold okP at hk
  unfold doM at h0 he ⊢
  by_cases k11 : x.k = 11
  · rw [if_pos k11] at he; simp at he
  rw [if_neg k11] at h0 he ⊢
  by_cases k1 : x.k = 1
  · rw [if_pos k1]
    have := opv_word (op := x.o) (a := reg m x.d) (b := reg m x.s) (by omega) hrd.1 hrd.2 hrs.1 hrs.2
    exact setr _ (by omega) this.1 this.2
  rw [if_neg k1] at h0 he ⊢
  by_cases k2 : x.k = 2
  · rw [if_pos k2]
    have := opv_word (op := x.o) (a := reg m x.d) (b := x.i) (by omega) hrd.1 hrd.2 (by omega) (by omega)
    exact setr _ (by omega) this.1 this.2
  rw [if_neg k2] at h0 he ⊢
  by_cases k3 : x.k = 3 ∨ x.k = 4
  · rw [if_pos k3]
    exact setr _ (by omega) (by omega) (by omega)
  rw [if_neg k3] at h0 he ⊢
  by_cases k5 : x.k = 5
  · rw [if_pos k5] at h0 he ⊢
    by_cases h8 : 8 ≤ reg m x.s + x.i
    · rw [if_pos h8] at h0; simp at h0
    · rw [if_neg h8]
      have hlt : (reg m x.s + x.i).toNat < ctx.length := by omega
      have hv := allB_at hc (List.getElem?_eq_getElem hlt)
      have e : ctx.getD (reg m x.s + x.i).toNat 0 = ctx[(reg m x.s + x.i).toNat] := by simp [List.getD, List.getElem?_eq_getElem hlt]
      exact setr _ (by omega) (by omega) (by omega)
  rw [if_neg k5] at h0 he ⊢
  by_cases k6 : x.k = 6 ∨ x.k = 7
  · rw [if_pos k6] at h0 he ⊢
    by_cases h16 : 16 ≤ x.i
    · rw [if_pos h16] at h0; simp at h0
    rw [if_neg h16] at h0 he ⊢
    by_cases k7 : x.k = 7
    · rw [if_pos k7]
      obtain ⟨p1, p2⟩ := plain (by omega)
      exact ⟨⟨by have := hm.a; show 0 ≤ m.a + 1 ∧ m.a + 1 ≤ 19; omega, hm.r, by simp [hm.c], by simp [hm.s], hm.rw, allB_set hm.cw _ hrd.1 hrd.2⟩, p1, p2, by show m.a < m.a + 1; omega⟩
    rw [if_neg k7] at h0 he ⊢
    by_cases hs : m.s.getD x.i.toNat false = true
    · rw [if_pos hs]
      have hlt : x.i.toNat < m.c.length := by rw [hm.c]; omega
      have hv := allB_at hm.cw (List.getElem?_eq_getElem hlt)
      have e : m.c.getD x.i.toNat 0 = m.c[x.i.toNat] := by simp [List.getD, List.getElem?_eq_getElem hlt]
      exact setr _ (by omega) (by omega) (by omega)
    · rw [if_neg hs] at h0; simp at h0
  rw [if_neg k6]
  have hin : (if taken x m = true then m.a + x.t + 1 else m.a + 1) ∈ nextsI x.k x.t m.a := by
    unfold nextsI
    rw [if_neg k11]
    by_cases k8 : x.k = 8
    · rw [if_pos k8, if_pos (by simp [taken, k8])]; simp
    · rw [if_neg k8, if_pos (by omega)]; split <;> simp
  have hlt := hj _ hin
  have hgt : m.a < (if taken x m = true then m.a + x.t + 1 else m.a + 1) := by split <;> omega
  have hm0 := hm.a
  exact ⟨good_at hm (by omega) (by omega), hin, hlt, hgt⟩

/-- a run: register 0, a fault, where, and the steps begun -/
def runM (xs : List Stp) (ctx : List Int) : Nat → Mch → Int × Int × Int × List Int
  | 0, m => (0, 4, m.a, [])
  | n + 1, m =>
    match xs[m.a.toNat]? with
    | none => (0, 0, 0, [])
    | some x =>
      if (doM x ctx m).2.1 ≠ 0 then (0, (doM x ctx m).2.1, m.a, [m.a])
      else if (doM x ctx m).2.2 = true then (reg (doM x ctx m).1 0, 0, 0, [m.a])
      else ((runM xs ctx n (doM x ctx m).1).1, (runM xs ctx n (doM x ctx m).1).2.1, (runM xs ctx n (doM x ctx m).1).2.2.1, m.a :: (runM xs ctx n (doM x ctx m).1).2.2.2)
theorem newM_good : GoodM newM := ⟨by decide, by decide, by decide, by decide, by decide, by decide⟩
end Go.Proofs.YtilnegmjnbffhaaDoor
