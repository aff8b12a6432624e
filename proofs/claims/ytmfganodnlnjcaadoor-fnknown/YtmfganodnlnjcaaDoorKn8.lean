/-
  Contracts of chapter 10: NumberAt of the model.
-/
import Derived.Test.YtmfganodnlnjcaaDoorKn7
namespace Go.Proofs.YtmfganodnlnjcaaDoor.Op
open Go.Proofs.YtmfganodnlnjcaaDoor
open Go.ChangeShapes Go.WideShapes Go.ChangeAt Go.RowKit

theorem or_shift (o x y : Nat) (j : Nat) : o ||| 2 ^ j * (x ||| y) = (o ||| 2 ^ j * x) ||| 2 ^ j * y := by
  apply Nat.eq_of_testBit_eq; intro i
  simp only [Nat.testBit_or, Nat.testBit_two_pow_mul]
  cases o.testBit i <;> cases x.testBit (i - j) <;> cases y.testBit (i - j) <;> cases (decide (i ≥ j)) <;> rfl
theorem bit_even (r y : Nat) : r % 2 + 2 * y = (r % 2) ||| 2 * y := by
  have h : (r % 2) &&& (2 * y) = 0 := by
    apply and_zero_of; intro i
    cases i with
    | zero => rw [Nat.testBit_zero, Nat.testBit_zero]; simp
    | succ i => rw [Nat.testBit_succ]; have : r % 2 / 2 = 0 := by omega
                rw [this, Nat.zero_testBit]; simp
  exact (or_add h).symm
/-- one round of the model's loop -/
theorem at_round {m o r s : Nat} (j : Nat) (hj : j < 16) (h : o ||| 2 ^ j * spr (16 - j) (m / 2 ^ j) r = s) :
    (m.testBit j = false → o ||| 2 ^ (j + 1) * spr (16 - (j + 1)) (m / 2 ^ (j + 1)) r = s) ∧
    (m.testBit j = true → r % 2 = 0 → o ||| 2 ^ (j + 1) * spr (16 - (j + 1)) (m / 2 ^ (j + 1)) (r / 2) = s) ∧
    (m.testBit j = true → r % 2 = 1 → (o ||| 2 ^ j) ||| 2 ^ (j + 1) * spr (16 - (j + 1)) (m / 2 ^ (j + 1)) (r / 2) = s) := by
  have e : 16 - j = (16 - (j + 1)) + 1 := by omega
  have hd : m / 2 ^ j / 2 = m / 2 ^ (j + 1) := by rw [Nat.div_div_eq_div_mul, Nat.pow_succ]
  have hb : m.testBit j = decide (m / 2 ^ j % 2 = 1) := by rw [Nat.testBit_eq_decide_div_mod_eq]
  rw [e] at h
  unfold spr at h
  rw [hd] at h
  have e2 : ∀ y, 2 ^ j * (2 * y) = 2 ^ (j + 1) * y := fun y => by rw [Nat.pow_succ, Nat.mul_assoc]
  refine ⟨fun hm => ?_, fun hm hr => ?_, fun hm hr => ?_⟩
  · rw [hb] at hm
    rw [if_neg (by simpa using hm), e2] at h
    exact h
  · rw [hb] at hm
    rw [if_pos (by simpa using hm), hr, Nat.zero_add, e2] at h
    exact h
  · rw [hb] at hm
    rw [if_pos (by simpa using hm), bit_even, hr, or_shift, Nat.mul_one, e2] at h
    exact h
theorem and_pow {m b j : Nat} (hm : m < 65536) (hb : b < 65536) (e : b = 2 ^ j) : (bits .and .i64 (m : Int) (b : Int) != 0) = m.testBit j := by
  rw [and_int hm hb, e]
  have key : (m &&& 2 ^ j = 0) ↔ m.testBit j = false := by
    constructor
    · intro h
      have := and_zero_bit h j
      rw [Nat.testBit_two_pow_self] at this
      cases hm : m.testBit j
      · rfl
      · exact absurd ⟨hm, rfl⟩ this
    · intro h
      apply and_zero_of; rintro i ⟨h1, h2⟩
      rw [Nat.testBit_two_pow, decide_eq_true_eq] at h2
      subst h2
      rw [h] at h1; cases h1
  cases hq : m.testBit j
  · rw [key.2 hq]; rfl
  · have : m &&& 2 ^ j ≠ 0 := fun h => by rw [key.1 h] at hq; cases hq
    simp only [bne_iff_ne, ne_eq]
    omega
set_option maxRecDepth 100000 in
set_option maxHeartbeats 4000000 in
theorem l10At_any (a b n : Nat) (w : World) (g : Hid (goodK ⟨a, b⟩ = true)) (hn : n < 65536) :
    Calls Tryd.prog 50 #[.agg #[.int .i64 a, .int .i64 b], .int .i64 n] w fun e w' => e = .returned (.int .i64 (numAt ⟨a, b⟩ n)) ∧ Below w.heap.size w w' := by
  obtain ⟨s, hs⟩ : ∃ s, numAt ⟨a, b⟩ n = s := ⟨_, rfl⟩
  have hal := (goodK_yes g.out).1
  have hbl := (goodK_yes g.out).2.1
  simp only at hal hbl
  have HS : Hid (a ||| 2 ^ 0 * spr (16 - 0) (b / 2 ^ 0) n = s) := Lib.hid (by rw [← hs]; simp [numAt])
  rw [hs]
  clear hs
  have N0 := one_newk w a b
  go_enter Tryd.func50, Tryd.ntmps50
  go_wp2_with fail
  unfold kO at N0
  have k0 := N0.out.1.c0
  have m0 := N0.out.1.c1
  generalize (w.alloc (.cells #[.int .i64 a, .int .i64 b] 24)) = v0 at N0 k0 m0 ⊢
  go_loop [1, 5, 6] (fun x y z => ∃ (r o j : Nat) (B : Int), x = .int .i64 r ∧ y = .int .i64 o ∧ z = .int .i64 B ∧ j ≤ 16 ∧ B = ((2 ^ j : Nat) : Int) ∧ r < 65536 ∧ o < 65536 ∧ o ||| 2 ^ j * spr (16 - j) (b / 2 ^ j) r = s) (fun _ _ z => 65536 - (intOf z).toNat)
  case atStart => exact ⟨n, a, 0, 1, rfl, rfl, rfl, by omega, rfl, hn, hal, HS.out⟩
  case round =>
    obtain ⟨r, o, j, B, rfl, rfl, rfl, hj, hB, hr, ho, hX⟩ := hrel
    by_cases hlt : j < 16
    · have hq : 2 ^ j ≤ 32768 := Nat.pow_le_pow_right (by decide) (show j ≤ 15 by omega)
      have hq0 : 0 < 2 ^ j := Nat.two_pow_pos j
      obtain ⟨bb, hbb⟩ : ∃ bb, 2 ^ j = bb := ⟨_, rfl⟩
      have hE := and_pow (b := bb) hbl (by omega) hbb.symm
      obtain ⟨r1, r2, r3⟩ := at_round j hlt hX
      have HB : Hid (B * 2 = ((2 ^ (j + 1) : Nat) : Int)) := Lib.hid (by rw [hB, Nat.pow_succ]; push_cast; rfl)
      have HJ : Hid (j + 1 ≤ 16) := Lib.hid hlt
      have hO := or_int (b := bb) ho (by omega)
      have HO : Hid (o ||| 2 ^ j < 65536) := Lib.hid (or_lt16 ho (by omega))
      rw [← hbb] at hO
      obtain ⟨oo, hoo⟩ : ∃ x, o ||| 2 ^ j = x := ⟨_, rfl⟩
      rw [hoo] at hO HO r3
      rw [← hbb, ← hB] at hE
      rw [← hB] at hO
      have b1 : 0 < B := by rw [hB]; omega
      have b2 : B ≤ 32768 := by rw [hB]; omega
      have R1 := Lib.hid r1
      have R2 := Lib.hid r2
      have R3 := Lib.hid r3
      clear r1 r2 r3 hX hB hj hlt hq hq0 hbb hoo
      cases hm : b.testBit j
      · have HN := Lib.hid (R1.out hm)
        rw [hm] at hE
        clear hm
        go_wp2
        go_round
        case rel => exact ⟨r, o, j + 1, B * 2, rfl, rfl, by go_num, HJ.out, HB.out, hr, ho, HN.out⟩
        case measure => simp [intOf]; omega
      · rw [hm] at hE
        rcases (by omega : r % 2 = 0 ∨ r % 2 = 1) with q | q
        · have HN := Lib.hid (R2.out hm q)
          have e1 : (r : Int) % 2 = 0 := by omega
          clear hm
          go_wp2
          go_round
          case rel => exact ⟨r / 2, o, j + 1, B * 2, by go_num, rfl, by go_num, HJ.out, HB.out, by omega, ho, HN.out⟩
          case measure => simp [intOf]; omega
        · have HN := Lib.hid (R3.out hm q)
          have e1 : (r : Int) % 2 = 1 := by omega
          clear hm
          go_wp2
          go_round
          case rel => exact ⟨r / 2, oo, j + 1, B * 2, by go_num, by go_num, by go_num, HJ.out, HB.out, by omega, HO.out, HN.out⟩
          case measure => simp [intOf]; omega
    · obtain rfl : j = 16 := by omega
      have hB2 : B = 65536 := hB
      have HE : Hid (o = s) := Lib.hid (by rw [← hX]; simp [spr])
      subst hB2
      clear hB hX
      go_wp2
      go_ret
      exact ⟨ret_int (by rw [HE.out]), N0.out.2⟩
set_option maxRecDepth 100000 in
set_option maxHeartbeats 4000000 in
theorem numM_any (v m n : Int) (w : World) :
    Calls Tryd.prog 19 #[.agg #[.int .i64 v, .int .i64 m], .int .i64 n] w fun e w' => e = .returned (.tuple #[.int .i64 (numA v m n).1, .bool (numA v m n).2]) ∧ Below w.heap.size w w' := by
  cases h1 : gK v m
  · have WA := Lib.hid (waysA_no h1)
    have E := Lib.hid (numA_no (n := n) h1)
    clear h1
    have N0 := one_newk w v m
    go_enter Tryd.func19, Tryd.ntmps19
    go_wp2_with fail
    unfold kO at N0
    generalize (w.alloc (.cells #[.int .i64 v, .int .i64 m] 24)) = v0 at N0 ⊢
    refine (waysM_any _ _ _).mono ?_
    rw [WA.out]
    rintro e v1 ⟨rfl, hb⟩
    have D1 := Lib.hid (Below.tr N0.out.2 hb)
    clear hb
    go_wp2
    go_ret2
    exact ⟨by rw [E.out]; rfl, D1.out⟩
  · obtain ⟨a, b, rfl, rfl, g⟩ := gK_open h1
    have WA := Lib.hid (waysA_yes g)
    have htl := pow_small (pcF_le 16 b)
    obtain ⟨t, hT⟩ : ∃ t, 2 ^ pcF 16 b = t := ⟨_, rfl⟩
    obtain ⟨q, hq⟩ : ∃ q, decide ((0 : Int) ≤ n ∧ n ≤ (t : Int) - 1) = q := ⟨_, rfl⟩
    have HQ := Lib.hid hq
    have GG := Lib.hid g
    by_cases hin : 0 ≤ n ∧ n < ((2 ^ pcF 16 b : Nat) : Int)
    · obtain ⟨N, hnN⟩ := Int.eq_ofNat_of_zero_le hin.1
      have hN : N < 2 ^ pcF 16 b := by have := hin.2; omega
      have E := Lib.hid (numA_yes g hN)
      rw [← hnN] at E
      have hq2 : q = true := by rw [← hq]; rw [← hT]; exact decide_eq_true ⟨hin.1, by omega⟩
      rw [hT] at WA hN htl
      have HN3 : N < 65536 := by omega
      have HNN := Lib.hid hnN
      subst hq2
      have t1 : (1 : Int) ≤ (t : Int) := by omega
      have t2 : (t : Int) ≤ 65536 := by omega
      clear hin hT g h1 hN htl hnN hq
      have N0 := one_newk w a b
      go_enter Tryd.func19, Tryd.ntmps19
      go_wp2_with fail
      unfold kO at N0
      generalize (w.alloc (.cells #[.int .i64 a, .int .i64 b] 24)) = v0 at N0 ⊢
      refine (waysM_any _ _ _).mono ?_
      rw [WA.out]
      rintro e v1 ⟨rfl, hb⟩
      have k0 := (KB.below N0.out.1 hb).c0
      have m0 := (KB.below N0.out.1 hb).c1
      have D1 := Lib.hid (Below.tr N0.out.2 hb)
      clear hb
      go_wp2_with fail
      refine (l1In_any _ _ _ _ true HQ.out).mono ?_
      rintro e v9 ⟨rfl, rfl⟩
      go_wp2_with fail
      rw [HNN.out]
      refine (l10At_any _ _ _ _ GG HN3).mono ?_
      rintro e v2 ⟨rfl, hb⟩
      have D2 := Lib.hid (Below.tr D1.out hb)
      clear hb
      go_wp2
      go_ret2
      exact ⟨ret_two (by rw [E.out]) (by rw [E.out]), D2.out⟩
    · have E := Lib.hid (numA_out (v := a) hin)
      have hq2 : q = false := by rw [← hq]; rw [← hT]; exact decide_eq_false (fun h => hin ⟨h.1, by omega⟩)
      rw [hT] at WA hin htl
      subst hq2
      have t1 : (1 : Int) ≤ (t : Int) := by omega
      have t2 : (t : Int) ≤ 65536 := by omega
      clear hT g h1 hin hq htl
      have N0 := one_newk w a b
      go_enter Tryd.func19, Tryd.ntmps19
      go_wp2_with fail
      unfold kO at N0
      generalize (w.alloc (.cells #[.int .i64 a, .int .i64 b] 24)) = v0 at N0 ⊢
      refine (waysM_any _ _ _).mono ?_
      rw [WA.out]
      rintro e v1 ⟨rfl, hb⟩
      have D1 := Lib.hid (Below.tr N0.out.2 hb)
      clear hb
      go_wp2_with fail
      refine (l1In_any _ _ _ _ false HQ.out).mono ?_
      rintro e v9 ⟨rfl, rfl⟩
      go_wp2
      go_ret2
      exact ⟨by rw [E.out]; rfl, D1.out⟩

end Go.Proofs.YtmfganodnlnjcaaDoor.Op
