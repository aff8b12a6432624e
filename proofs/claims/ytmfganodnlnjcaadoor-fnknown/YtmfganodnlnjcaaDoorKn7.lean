/-
  Contracts of chapter 10: WaysOf, NumberAt, of the program and of the model.
-/
import Derived.Test.YtmfganodnlnjcaaDoorKn3
namespace Go.Proofs.YtmfganodnlnjcaaDoor.Op
open Go.Proofs.YtmfganodnlnjcaaDoor
open Go.ChangeShapes Go.WideShapes Go.ChangeAt Go.RowKit

/-- the table of nibbles, as it lies in memory -/
def NibTab (w : World) : Prop := ∀ i : Nat, i < 16 → w.cell? ⟨0, i, none⟩ = some (.int .i64 (nib i))

theorem two_pow_le {k : Nat} (h : k ≤ 16) : 2 ^ k ≤ 65536 := Nat.pow_le_pow_right (by decide) h
theorem nib_le (i : Nat) : nib i ≤ 4 := by unfold nib; omega
/-- what a round of the model's loop keeps -/
theorem step_two {k m rest c : Nat} (h : m + pcF k rest = c) (hr : rest < 2 ^ k) (h0 : 0 < rest) : ∃ k', k = k' + 1 ∧ (m + rest % 2) + pcF k' (rest / 2) = c ∧ rest / 2 < 2 ^ k' := by
  cases k with
  | zero => simp at hr; omega
  | succ k => exact ⟨k, rfl, by simp only [pcF] at h; omega, by rw [Nat.pow_succ] at hr; omega⟩
/-- what a round of the program's loop keeps -/
theorem step_four {j m rest c : Nat} (h : m + pcF (4 * j) rest = c) (hr : rest < 2 ^ (4 * j)) (h0 : 0 < rest) : ∃ j', j = j' + 1 ∧ (m + nib (rest % 16)) + pcF (4 * j') (rest / 16) = c ∧ rest / 16 < 2 ^ (4 * j') := by
  cases j with
  | zero => simp at hr; omega
  | succ j => exact ⟨j, rfl, by rw [show 4 * (j + 1) = 4 * j + 4 from by omega, pcF_four] at h; omega, by rw [show 4 * (j + 1) = 4 * j + 4 from by omega, Nat.pow_add] at hr; omega⟩
theorem count_end {n m k rest : Nat} (h : m + pcF k rest = pc n) (h0 : ¬ 0 < rest) (H : isW n = true) : (m : Int) = cbOf n := by
  have e : rest = 0 := by omega
  rw [e, pcF_zero] at h
  simp [cbOf, H]
  omega
/-- what the loops keep: the bits counted, and those left -/
def Counting (n : Nat) (c r : Value) (step : Nat) : Prop := ∃ m j rest : Nat, m + pcF (step * j) rest = pc n ∧ rest < 2 ^ (step * j) ∧ step * j ≤ 16 ∧ c = .int .i64 m ∧ r = .int .i64 rest

set_option maxRecDepth 100000 in
set_option maxHeartbeats 400000 in
theorem count_any (a : Int) (w : World) (ht : Hid (NibTab w)) :
    Calls Tryd.prog 42 #[.int .i64 a] w fun e w' => e = .returned (.tuple #[.int .i64 (cbOf a), .bool (isW a)]) ∧ w = w' := by
  cases hb : isW a
  · have H := Lib.hid hb
    clear hb
    go_enter Tryd.func42, Tryd.ntmps42
    go_wp2_with (go_at_call 40; refine (isWord_any _ _ false H.out).mono ?_; rintro e w' ⟨rfl, rfl⟩)
    go_ret2
    exact ⟨ret_two (by simp [cbOf, H.out]) rfl, rfl⟩
  · obtain ⟨h1, h2⟩ := isW_yes hb
    have H := Lib.hid hb
    clear hb
    obtain ⟨n, rfl⟩ := Int.eq_ofNat_of_zero_le h1
    go_enter Tryd.func42, Tryd.ntmps42
    go_wp2_with (first | (go_at_call 40; refine (isWord_any _ _ true H.out).mono ?_; rintro e w' ⟨rfl, rfl⟩) | fail)
    go_loop [4, 5] (fun c r => Counting n c r 4) (fun _ r => (intOf r).toNat)
    case atStart => exact ⟨0, 4, n, by simp [pc], by omega, by omega, rfl, rfl⟩
    case round =>
      obtain ⟨m, j, rest, hm, hr, hk, rfl, rfl⟩ := hrel
      have hlt : rest < 65536 := Nat.lt_of_lt_of_le hr (two_pow_le hk)
      have hm16 : m ≤ 16 := by have := pcF_le 16 n; unfold pc at hm; omega
      have hnib := nib_le (rest % 16)
      have HM := Lib.hid hm
      have HR := Lib.hid hr
      clear hm hr
      by_cases h0 : 0 < rest
      · obtain ⟨j', hj', e1, e2⟩ := step_four HM.out HR.out h0
        have E1 := Lib.hid e1
        have E2 := Lib.hid e2
        have HK : Hid (4 * j' ≤ 16) := (by omega : 4 * j' ≤ 16)
        clear e1 e2 hj'
        have hc := ht.out (rest % 16) (by omega)
        go_wp2
        go_round
        case rel => exact ⟨m + nib (rest % 16), j', rest / 16, E1.out, E2.out, HK.out, by go_num, by go_num⟩
        case measure => simp [intOf]; omega
      · go_wp2
        go_ret2
        exact ⟨ret_two (count_end HM.out h0 H.out) rfl, rfl⟩

theorem NibTab.bel {w w' : World} (h : NibTab w) (hb : Below w.heap.size w w') : NibTab w' := fun i hi =>
  (hb.cell (p := ⟨0, i, none⟩) (World.block_lt_of_cell? w _ (h i hi))).trans (h i hi)
theorem waysA_yes {v m : Nat} (g : goodK ⟨v, m⟩ = true) : waysA v m = (((2 ^ pcF 16 m : Nat) : Int), true) := by
  unfold waysA
  rw [gK_nat, g, kn_nat]; rfl
theorem waysA_no {v m : Int} (h : gK v m = false) : waysA v m = (0, false) := by unfold waysA; rw [h]; rfl
theorem cb_nat {m : Nat} (h : m < 65536) : cbOf m = (pcF 16 m : Nat) ∧ isW (m : Int) = true := by
  have hw : isW (m : Int) = true := isW_mk (by omega) (by omega)
  unfold cbOf
  rw [hw]
  exact ⟨rfl, rfl⟩
theorem wrap_pow {p : Nat} (h : p ≤ 16) : wrap64 (2 ^ p) = ((2 ^ p : Nat) : Int) := by
  have := two_pow_le h
  have e : ((2 : Int) ^ p) = ((2 ^ p : Nat) : Int) := by simp
  rw [e]; generalize 2 ^ p = x at this ⊢; unfold wrap64; omega
theorem pow_small {p : Nat} (h : p ≤ 16) : 1 ≤ 2 ^ p ∧ 2 ^ p ≤ 65536 := ⟨Nat.one_le_two_pow, two_pow_le h⟩
set_option maxRecDepth 100000 in
set_option maxHeartbeats 2000000 in
theorem waysI_any (v m : Int) (w : World) (ht : Hid (NibTab w)) :
    Calls Tryd.prog 13 #[.agg #[.int .i64 v, .int .i64 m]] w fun e w' => e = .returned (.tuple #[.int .i64 (waysA v m).1, .bool (waysA v m).2]) ∧ Below w.heap.size w w' := by
  cases h1 : gK v m
  · have G1 := Lib.hid h1
    have E := Lib.hid (waysA_no h1)
    clear h1
    have N0 := one_newk w v m
    go_enter Tryd.func13, Tryd.ntmps13
    go_wp2_with fail
    unfold kO at N0
    generalize (w.alloc (.cells #[.int .i64 v, .int .i64 m] 24)) = v0 at N0 ⊢
    refine (goodKI_any _ _ _).mono ?_
    rw [G1.out]
    rintro e v1 ⟨rfl, hb⟩
    have D1 := Lib.hid (Below.tr N0.out.2 hb)
    clear hb
    go_wp2
    go_ret2
    exact ⟨by rw [E.out]; rfl, D1.out⟩
  · obtain ⟨a, b, rfl, rfl, g⟩ := gK_open h1
    have hb := (goodK_yes g).2.1
    simp only at hb
    obtain ⟨c1, c2⟩ := cb_nat hb
    have C1 := Lib.hid c1
    have C2 := Lib.hid c2
    have E := Lib.hid (waysA_yes g)
    have hp := pcF_le 16 b
    have G1 := Lib.hid h1
    clear h1 g c1 c2 hb
    obtain ⟨p, hpp⟩ : ∃ p, pcF 16 b = p := ⟨_, rfl⟩
    rw [hpp] at C1 E hp
    clear hpp
    obtain ⟨p1, p2⟩ := pow_small hp
    have N0 := one_newk w a b
    go_enter Tryd.func13, Tryd.ntmps13
    go_wp2_with fail
    unfold kO at N0
    have T0 : Hid (NibTab (w.alloc (.cells #[.int .i64 a, .int .i64 b] 24))) := Lib.hid (ht.out.bel (below1 _ _))
    generalize (w.alloc (.cells #[.int .i64 a, .int .i64 b] 24)) = v0 at N0 T0 ⊢
    refine (goodKI_any _ _ _).mono ?_
    rw [G1.out]
    rintro e v1 ⟨rfl, hb⟩
    have k0 := (KB.below N0.out.1 hb).c0
    have m0 := (KB.below N0.out.1 hb).c1
    have D1 := Lib.hid (Below.tr N0.out.2 hb)
    have T1 : Hid (NibTab v1) := Lib.hid (T0.out.bel hb)
    clear hb
    go_wp2_with fail
    refine (count_any _ _ T1).mono ?_
    rw [C1.out, C2.out]
    rintro e v9 ⟨rfl, rfl⟩
    go_wp2
    go_ret2
    exact ⟨ret_two (by rw [E.out]; exact wrap_pow hp) (by rw [E.out]), D1.out⟩

theorem ways_round {c u t : Nat} (hu : u < 65536) (h : c * 2 ^ pcF 16 u = t) : (u % 2 = 1 → c * 2 * 2 ^ pcF 16 (u / 2) = t) ∧ (u % 2 = 0 → c * 2 ^ pcF 16 (u / 2) = t) := by
  rw [pc_half hu] at h
  constructor
  · intro e; rw [e, Nat.add_comm, Nat.pow_succ] at h; rw [← h, Nat.mul_assoc, Nat.mul_comm 2]
  · intro e; rw [e, Nat.zero_add] at h; exact h
set_option maxRecDepth 100000 in
set_option maxHeartbeats 2000000 in
theorem waysM_any (v m : Int) (w : World) :
    Calls Tryd.prog 22 #[.agg #[.int .i64 v, .int .i64 m]] w fun e w' => e = .returned (.tuple #[.int .i64 (waysA v m).1, .bool (waysA v m).2]) ∧ Below w.heap.size w w' := by
  cases h1 : gK v m
  · have G1 := Lib.hid h1
    have E := Lib.hid (waysA_no h1)
    clear h1
    have N0 := one_newk w v m
    go_enter Tryd.func22, Tryd.ntmps22
    go_wp2_with fail
    unfold kO at N0
    generalize (w.alloc (.cells #[.int .i64 v, .int .i64 m] 24)) = v0 at N0 ⊢
    refine (goodKM_any _ _ _).mono ?_
    rw [G1.out]
    rintro e v1 ⟨rfl, hb⟩
    have D1 := Lib.hid (Below.tr N0.out.2 hb)
    clear hb
    go_wp2
    go_ret2
    exact ⟨by rw [E.out]; rfl, D1.out⟩
  · obtain ⟨a, b, rfl, rfl, g⟩ := gK_open h1
    have hbl := (goodK_yes g).2.1
    simp only at hbl
    have E := Lib.hid (waysA_yes g)
    have hp := pcF_le 16 b
    have G1 := Lib.hid h1
    have HT : Hid (1 * 2 ^ pcF 16 b = 2 ^ pcF 16 b) := Lib.hid (Nat.one_mul _)
    clear h1 g
    obtain ⟨t, ht⟩ : ∃ t, 2 ^ pcF 16 b = t := ⟨_, rfl⟩
    have htl : t ≤ 65536 := by rw [← ht]; exact (pow_small hp).2
    have HT : Hid (1 * 2 ^ pcF 16 b = t) := Lib.hid ((Nat.one_mul _).trans ht)
    rw [ht] at E
    clear ht hp
    have N0 := one_newk w a b
    go_enter Tryd.func22, Tryd.ntmps22
    go_wp2_with fail
    unfold kO at N0
    generalize (w.alloc (.cells #[.int .i64 a, .int .i64 b] 24)) = v0 at N0 ⊢
    refine (goodKM_any _ _ _).mono ?_
    rw [G1.out]
    rintro e v1 ⟨rfl, hb⟩
    have k0 := (KB.below N0.out.1 hb).c0
    have m0 := (KB.below N0.out.1 hb).c1
    have D1 := Lib.hid (Below.tr N0.out.2 hb)
    clear hb
    go_wp2_with fail
    go_loop [4, 5] (fun x y => ∃ c u : Nat, x = .int .i64 c ∧ y = .int .i64 u ∧ u < 65536 ∧ c * 2 ^ pcF 16 u = t) (fun _ y => (intOf y).toNat)
    case atStart => exact ⟨1, b, rfl, rfl, hbl, HT.out⟩
    case round =>
      obtain ⟨c, u, rfl, rfl, hu, hc⟩ := hrel
      have hcl : c ≤ 65536 := by
        have := Nat.le_mul_of_pos_right c (Nat.two_pow_pos (pcF 16 u))
        omega
      have HR := Lib.hid (ways_round hu hc)
      have HC := Lib.hid hc
      clear hc
      by_cases h0 : 0 < u
      · by_cases ho : u % 2 = 1
        · have HN := Lib.hid (HR.out.1 ho)
          have e1 : (u : Int) % 2 = 1 := by omega
          go_wp2
          go_round
          case rel => exact ⟨c * 2, u / 2, by go_num, by go_num, by omega, HN.out⟩
          case measure => simp [intOf]; omega
        · have HN := Lib.hid (HR.out.2 (by omega))
          have e1 : (u : Int) % 2 = 0 := by omega
          go_wp2
          go_round
          case rel => exact ⟨c, u / 2, by go_num, by go_num, by omega, HN.out⟩
          case measure => simp [intOf]; omega
      · have hz : u = 0 := by omega
        have HE : Hid (c = t) := Lib.hid (by have := HC.out; rw [hz, pcF_zero] at this; simpa using this)
        subst hz
        go_wp2
        go_ret2
        exact ⟨ret_two (by rw [E.out, HE.out]) (by rw [E.out]), D1.out⟩

theorem numA_yes {v m n : Nat} (g : goodK ⟨v, m⟩ = true) (h : n < 2 ^ pcF 16 m) : numA v m n = (((numAt ⟨v, m⟩ n : Nat) : Int), true) := by
  unfold numA
  rw [gK_nat, g, kn_nat, decide_eq_true (show (0 : Int) ≤ (n : Int) ∧ (n : Int) < (waysN ⟨v, m⟩ : Int) from ⟨by omega, by unfold waysN; exact_mod_cast h⟩)]
  rfl
theorem numA_no {v m : Int} {n : Int} (h : gK v m = false) : numA v m n = (0, false) := by unfold numA; rw [h]; rfl
theorem numA_out {v m : Nat} {n : Int} (h : ¬ (0 ≤ n ∧ n < ((2 ^ pcF 16 m : Nat) : Int))) : numA v m n = (0, false) := by
  unfold numA
  rw [kn_nat, decide_eq_false (show ¬ ((0 : Int) ≤ n ∧ n < (waysN ⟨v, m⟩ : Int)) from h)]
  simp
/-- one round of the program's loop -/
theorem num_round {u r x t : Nat} (hu : u ≠ 0) (hu2 : u < 65536) (h : x + spr 16 u r = t) : ∃ low : Nat, 0 < low ∧ low ≤ u ∧ bits .and .i64 (u : Int) (-(u : Int)) = (low : Int) ∧ bits .and .i64 (u : Int) ((u : Int) - 1) = ((u - low : Nat) : Int) ∧ (r % 2 = 1 → x + low + spr 16 (u - low) (r / 2) = t) ∧ (r % 2 = 0 → x + spr 16 (u - low) (r / 2) = t) := by
  obtain ⟨low, l0, l1, l2, l3, l4⟩ := low_step 16 u r hu (by simpa using hu2)
  refine ⟨low, l0, l1, low_and hu2 l0 l1 l2 l3, ?_, ?_, ?_⟩
  · have e : ((u : Int) - 1) = ((u - 1 : Nat) : Int) := by omega
    rw [e, and_int hu2 (by omega), l3]
  · intro e; rw [l4, e] at h; omega
  · intro e; rw [l4, e] at h; omega
set_option maxRecDepth 100000 in
set_option maxHeartbeats 4000000 in
theorem numI_any (v m n : Int) (w : World) (ht : Hid (NibTab w)) :
    Calls Tryd.prog 14 #[.agg #[.int .i64 v, .int .i64 m], .int .i64 n] w fun e w' => e = .returned (.tuple #[.int .i64 (numA v m n).1, .bool (numA v m n).2]) ∧ Below w.heap.size w w' := by
  cases h1 : gK v m
  · have WA := Lib.hid (waysA_no h1)
    have E := Lib.hid (numA_no (n := n) h1)
    clear h1
    have N0 := one_newk w v m
    go_enter Tryd.func14, Tryd.ntmps14
    go_wp2_with fail
    unfold kO at N0
    have T0 : Hid (NibTab (w.alloc (.cells #[.int .i64 v, .int .i64 m] 24))) := Lib.hid (ht.out.bel (below1 _ _))
    generalize (w.alloc (.cells #[.int .i64 v, .int .i64 m] 24)) = v0 at N0 T0 ⊢
    refine (waysI_any _ _ _ T0).mono ?_
    rw [WA.out]
    rintro e v1 ⟨rfl, hb⟩
    have D1 := Lib.hid (Below.tr N0.out.2 hb)
    clear hb
    go_wp2
    go_ret2
    exact ⟨by rw [E.out]; rfl, D1.out⟩
  · obtain ⟨a, b, rfl, rfl, g⟩ := gK_open h1
    have WA := Lib.hid (waysA_yes g)
    have hbl := (goodK_yes g).2.1
    simp only at hbl
    have htl := (pow_small (pcF_le 16 b)).2
    obtain ⟨t, hT⟩ : ∃ t, 2 ^ pcF 16 b = t := ⟨_, rfl⟩
    by_cases hin : 0 ≤ n ∧ n < ((2 ^ pcF 16 b : Nat) : Int)
    · obtain ⟨N, hnN⟩ := Int.eq_ofNat_of_zero_le hin.1
      have hN : N < 2 ^ pcF 16 b := by have := hin.2; omega
      have E := Lib.hid (numA_yes g hN)
      obtain ⟨s, hs⟩ : ∃ s, numAt ⟨a, b⟩ N = s := ⟨_, rfl⟩
      have hs2 : s < 65536 := by rw [← hs]; exact numAt_lt g N
      have HS : Hid (a + spr 16 b N = s) := Lib.hid ((numAt_add g N).symm.trans hs)
      rw [hs] at E
      rw [← hnN] at E
      rw [hT] at WA hN htl
      have HN3 : Hid (N < 65536) := Lib.hid (by omega)
      have HNN := Lib.hid hnN
      have d1 : decide (n < 0) = false := by simp; omega
      have d2 : decide ((t : Int) ≤ n) = false := by simp; omega
      clear hs hin hT g h1 hN htl hnN
      have N0 := one_newk w a b
      go_enter Tryd.func14, Tryd.ntmps14
      go_wp2_with fail
      unfold kO at N0
      have T0 : Hid (NibTab (w.alloc (.cells #[.int .i64 a, .int .i64 b] 24))) := Lib.hid (ht.out.bel (below1 _ _))
      generalize (w.alloc (.cells #[.int .i64 a, .int .i64 b] 24)) = v0 at N0 T0 ⊢
      refine (waysI_any _ _ _ T0).mono ?_
      rw [WA.out]
      rintro e v1 ⟨rfl, hb⟩
      have k0 := (KB.below N0.out.1 hb).c0
      have m0 := (KB.below N0.out.1 hb).c1
      have D1 := Lib.hid (Below.tr N0.out.2 hb)
      clear hb
      go_wp2_with fail
      go_loop [8, 9, 10] (fun x y z => ∃ X r u : Nat, x = .int .i64 X ∧ y = .int .i64 r ∧ z = .int .i64 u ∧ u < 65536 ∧ r < 65536 ∧ X + spr 16 u r = s) (fun _ _ z => (intOf z).toNat)
      case atStart => exact ⟨a, N, b, rfl, by rw [HNN.out], rfl, hbl, HN3.out, HS.out⟩
      case round =>
        obtain ⟨X, r, u, rfl, rfl, rfl, hu, hr, hX⟩ := hrel
        have hXl : X ≤ s := by omega
        by_cases h0 : u = 0
        · have HE : Hid (X = s) := Lib.hid (by
            rw [h0] at hX
            have := spr_sub 16 0 r
            have hz : spr 16 0 r = 0 := by
              apply Nat.eq_of_testBit_eq; intro i
              rw [Nat.zero_testBit]
              cases hq : (spr 16 0 r).testBit i
              · rfl
              · have := spr_sub 16 0 r i hq; simp at this
            rw [hz] at hX; exact hX)
          subst h0
          go_wp2
          go_ret2
          exact ⟨ret_two (by rw [E.out, HE.out]) (by rw [E.out]), D1.out⟩
        · obtain ⟨low, l0, l1, l2, l3, l4, l5⟩ := num_round h0 hu hX
          have L4 := Lib.hid l4
          have L5 := Lib.hid l5
          clear l4 l5 hX
          have ne : ((u : Int) != 0) = true := by simp; omega
          rcases (by omega : r % 2 = 1 ∨ r % 2 = 0) with ho | ho
          · have HN := Lib.hid (L4.out ho)
            have e1 : (r : Int) % 2 = 1 := by omega
            have hXl2 : X + low ≤ s := by have := HN.out; omega
            go_wp2
            go_round
            case rel => exact ⟨X + low, r / 2, u - low, by go_num, by go_num, by go_num, by omega, by omega, HN.out⟩
            case measure => simp [intOf]; omega
          · have HN := Lib.hid (L5.out ho)
            have e1 : (r : Int) % 2 = 0 := by omega
            go_wp2
            go_round
            case rel => exact ⟨X, r / 2, u - low, by go_num, by go_num, by go_num, by omega, by omega, HN.out⟩
            case measure => simp [intOf]; omega
    · have E := Lib.hid (numA_out (v := a) hin)
      rw [hT] at WA hin htl
      have hin' : n < 0 ∨ (0 ≤ n ∧ (t : Int) ≤ n) := by omega
      clear hT g h1 hin htl
      rcases hin' with h1 | ⟨h1, h2⟩
      · skip
        have N0 := one_newk w a b
        go_enter Tryd.func14, Tryd.ntmps14
        go_wp2_with fail
        unfold kO at N0
        have T0 : Hid (NibTab (w.alloc (.cells #[.int .i64 a, .int .i64 b] 24))) := Lib.hid (ht.out.bel (below1 _ _))
        generalize (w.alloc (.cells #[.int .i64 a, .int .i64 b] 24)) = v0 at N0 T0 ⊢
        refine (waysI_any _ _ _ T0).mono ?_
        rw [WA.out]
        rintro e v1 ⟨rfl, hb⟩
        have D1 := Lib.hid (Below.tr N0.out.2 hb)
        clear hb
        go_wp2
        go_ret2
        exact ⟨by rw [E.out]; rfl, D1.out⟩
      · have d1 : decide (n < 0) = false := by simp; omega
        have d2 : decide ((t : Int) ≤ n) = true := by simp; omega
        clear h1 h2
        have N0 := one_newk w a b
        go_enter Tryd.func14, Tryd.ntmps14
        go_wp2_with fail
        unfold kO at N0
        have T0 : Hid (NibTab (w.alloc (.cells #[.int .i64 a, .int .i64 b] 24))) := Lib.hid (ht.out.bel (below1 _ _))
        generalize (w.alloc (.cells #[.int .i64 a, .int .i64 b] 24)) = v0 at N0 T0 ⊢
        refine (waysI_any _ _ _ T0).mono ?_
        rw [WA.out]
        rintro e v1 ⟨rfl, hb⟩
        have D1 := Lib.hid (Below.tr N0.out.2 hb)
        clear hb
        go_wp2
        go_ret2
        exact ⟨by rw [E.out]; rfl, D1.out⟩

end Go.Proofs.YtmfganodnlnjcaaDoor.Op
