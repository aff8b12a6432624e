/-
  The walk of the law FnEnough.
-/
import Derived.Test.YtbmmajdacebncaaAc10
import Derived.Test.YtbmmajdacebncaaAc11
import Derived.Test.YtbmmajdacebncaaAcDx
import Derived.Test.YtbmmajdacebncaaAcHp
namespace Go.Proofs.Ytbmmajdacebncaa
open Go.ChangeShapes Go.WideShapes Go.ChangeAt Go.RowKit

theorem sumTo_le {f : Nat → Nat} {B : Nat} (h : ∀ a, f a ≤ B) (s : Nat) : sumTo f s ≤ s * B := by
  induction s with
  | zero => simp [sumTo]
  | succ s ih =>
    simp only [sumTo]
    rw [Nat.add_mul, Nat.one_mul]
    exact Nat.add_le_add ih (h s)
theorem wsum_le {E : Nat → Nat → Bool} {n f k T s : Nat} (hn : n ≤ 6) (hk : k ≤ 8) (hs : s ≤ 6) : sumTo (fun a => if E a T then wk E n f k a else 0) s ≤ 10077696 := by
  refine Nat.le_trans (sumTo_le (B := 1679616) (fun a => ?_) s) (Nat.le_trans (Nat.mul_le_mul_right _ hs) (by decide))
  split
  · exact wk_small hn hk
  · exact Nat.zero_le _
set_option maxRecDepth 100000 in
set_option maxHeartbeats 16000000 in
theorem lawEnough (a0 : Option Addr) (len0 cap0 : Nat) (a1 : Option Addr) (len1 cap1 : Nat) (w : World) (h0 : Hid (Bytes w a0 len0)) (h1 : Hid (Bytes w a1 len1)) :
    Calls Try.prog 4 #[.slice a0 len0 cap0, .slice a1 len1 cap1] w fun e w' => e = .returned (.bool true) ∧ Below w.heap.size w w' := by
  go_enter Try.func4, Try.ntmps4
  go_wp2_with fail
  · go_ret
    exact ⟨rfl, Below.refl _ _⟩
  refine (drawEno_any a0 len0 cap0 _ h0).mono ?_
  rintro e w1 ⟨N, xs, A, cp, f, hN7, hx30, rfl, ho, hb⟩
  have O1 := Lib.hid ho
  clear ho
  have B1 := Lib.hid (Below.tr (Below.refl _ _) hb)
  clear hb
  obtain ⟨n, hn⟩ : ∃ n, xs.length = n := ⟨_, rfl⟩
  rw [hn] at O1 hx30 ⊢
  have HX := Lib.hid hn
  have hn30 : n ≤ 30 := hx30
  clear hn hx30
  obtain ⟨⟨r0, r1⟩, hr⟩ : ∃ x, rEno (N : Int) xs f = x := ⟨_, rfl⟩
  have RI := Lib.hid hr
  clear hr
  have hb0 : (r0 != r0) = false := by simp
  have hb1 : (r1 != r1) = false := by simp
  go_wp2_with fail
  refine (implEno_any N f _ n _ xs _ r0 r1 RI (Lib.hid (own_alies HX.out O1.out)) HX (by omega)).mono ?_
  rintro e w2 ⟨rfl, hb⟩
  have B2 := Lib.hid (Below.tr B1.out hb)
  have Fxs_2 := Lib.hid (own_below O1.out hb)
  clear O1
  clear hb
  go_wp2_with fail
  refine (specEno_any N f _ n _ xs _ r0 r1 RI (Lib.hid (own_alies HX.out Fxs_2.out)) HX (by omega)).mono ?_
  rintro e w3 ⟨rfl, hb⟩
  have B3 := Lib.hid (Below.tr B2.out hb)
  have Fxs_3 := Lib.hid (own_below Fxs_2.out hb)
  clear Fxs_2
  clear hb
  cases r1 with
  | false =>
    go_wp2_with fail
    refine (drawWlk_any a1 len1 cap1 _ (Lib.hid (h1.out.below B3.out))).mono ?_
    rintro e w4 ⟨M, es, E, ce2, a, b, c, hM7, hx30, rfl, ho, hb⟩
    have O4 := Lib.hid ho
    clear ho
    have B4 := Lib.hid (Below.tr B3.out hb)
    clear hb
    obtain ⟨v, hv⟩ : ∃ n, es.length = n := ⟨_, rfl⟩
    rw [hv] at O4 hx30 ⊢
    have HV := Lib.hid hv
    have hv30 : v ≤ 30 := hx30
    clear hv hx30
    obtain ⟨⟨y0, y1⟩, hr⟩ : ∃ x, rWlk (M : Int) es a b c = x := ⟨_, rfl⟩
    have RY := Lib.hid hr
    clear hr
    have hby : (y0 != y0) = false := by simp
    have hby1 : (y1 != y1) = false := by simp
    go_wp2_with fail
    refine (implWlk_any M a b c _ v _ es _ y0 y1 RY (Lib.hid (own_alies HV.out O4.out)) HV (by omega)).mono ?_
    rintro e w5 ⟨rfl, hb⟩
    have B5 := Lib.hid (Below.tr B4.out hb)
    have Fes_5 := Lib.hid (own_below O4.out hb)
    clear O4
    clear hb
    go_wp2_with fail
    refine (specWlk_any M a b c _ v _ es _ y0 y1 RY (Lib.hid (own_alies HV.out Fes_5.out)) HV (by omega)).mono ?_
    rintro e w6 ⟨rfl, hb⟩
    have B6 := Lib.hid (Below.tr B5.out hb)
    have Fes_6 := Lib.hid (own_below Fes_5.out hb)
    clear Fes_5
    clear hb
    cases y1 with
    | false =>
      go_wp2_with fail
      refine (drawReach_any a1 len1 cap1 _ (Lib.hid (h1.out.below B6.out))).mono ?_
      rintro e w7 ⟨O, gs, G, cg, s2, t2, hO7, hx30, rfl, ho, hb⟩
      have O7 := Lib.hid ho
      clear ho
      have B7 := Lib.hid (Below.tr B6.out hb)
      clear hb
      obtain ⟨v2, hv2⟩ : ∃ n, gs.length = n := ⟨_, rfl⟩
      rw [hv2] at O7 hx30 ⊢
      have HV2 := Lib.hid hv2
      have hv230 : v2 ≤ 30 := hx30
      clear hv2 hx30
      obtain ⟨⟨q0, q1⟩, hr⟩ : ∃ x, rReach (O : Int) gs s2 t2 = x := ⟨_, rfl⟩
      have RQ := Lib.hid hr
      have hql : q0.length ≤ 1000 := rReach_len hr
      clear hr
      have hbq : (q1 == q1) = true := by simp
      go_wp2_with fail
      refine (implReach_any O s2 t2 _ v2 _ gs _ q0 q1 RQ (Lib.hid (own_alies HV2.out O7.out)) HV2 (by omega)).mono ?_
      rintro e w8 ⟨Aq, cq, rfl, ho, hb⟩
      have O8 := Lib.hid ho
      clear ho
      have B8 := Lib.hid (Below.tr B7.out hb)
      have Fgs_8 := Lib.hid (own_below O7.out hb)
      clear O7
      clear hb
      go_wp2_with fail
      refine (specReach_any O s2 t2 _ v2 _ gs _ q0 q1 RQ (Lib.hid (own_alies HV2.out Fgs_8.out)) HV2 (by omega)).mono ?_
      rintro e w9 ⟨Aq2, cq2, rfl, ho, hb⟩
      have O9 := Lib.hid ho
      clear ho
      have B9 := Lib.hid (Below.tr B8.out hb)
      have Fgs_9 := Lib.hid (own_below Fgs_8.out hb)
      clear Fgs_8
      have Fq_9 := Lib.hid (own_below O8.out hb)
      clear O8
      clear hb
      go_wp2_with fail
      refine (sameInts_same _ _ _ _ _ q0 _ (Lib.hid (own_ilies Fq_9.out)) (Lib.hid (own_ilies O9.out)) (Lib.hid rfl) (by omega)).mono ?_
      rintro e w10 ⟨rfl, hb⟩
      have B10 := Lib.hid (Below.tr B9.out hb)
      have Fgs_10 := Lib.hid (own_below Fgs_9.out hb)
      clear Fgs_9
      have Fq_10 := Lib.hid (own_below Fq_9.out hb)
      clear Fq_9
      have Fqq_10 := Lib.hid (own_below O9.out hb)
      clear O9
      clear hb
      go_wp2
      go_ret
      exact ⟨rfl, B10.out⟩
    | true =>
      have GO : Hid (goodAB (M : Int) es = true ∧ ixB a M = true ∧ ixB b M = true ∧ inB 1 8 c = true) := Lib.hid (by
        have h := RY.out
        cases q : goodAB (M : Int) es with
        | false => rw [rWlk_1 q] at h; cases h
        | true =>
          cases q2 : ixB a M with
          | false => rw [rWlk_2 q2] at h; cases h
          | true =>
            cases q3 : ixB b M with
            | false => rw [rWlk_3 q3] at h; cases h
            | true =>
              cases q4 : inB 1 8 c with
              | false => rw [rWlk_4 q4] at h; cases h
              | true => exact ⟨rfl, rfl, rfl, rfl⟩)
      by_cases hc1 : c ≤ 1
      · skip
        go_wp2_with fail
        refine (drawReach_any a1 len1 cap1 _ (Lib.hid (h1.out.below B6.out))).mono ?_
        rintro e w7 ⟨O, gs, G, cg, s2, t2, hO7, hx30, rfl, ho, hb⟩
        have O7 := Lib.hid ho
        clear ho
        have B7 := Lib.hid (Below.tr B6.out hb)
        clear hb
        obtain ⟨v2, hv2⟩ : ∃ n, gs.length = n := ⟨_, rfl⟩
        rw [hv2] at O7 hx30 ⊢
        have HV2 := Lib.hid hv2
        have hv230 : v2 ≤ 30 := hx30
        clear hv2 hx30
        obtain ⟨⟨q0, q1⟩, hr⟩ : ∃ x, rReach (O : Int) gs s2 t2 = x := ⟨_, rfl⟩
        have RQ := Lib.hid hr
        have hql : q0.length ≤ 1000 := rReach_len hr
        clear hr
        have hbq : (q1 == q1) = true := by simp
        go_wp2_with fail
        refine (implReach_any O s2 t2 _ v2 _ gs _ q0 q1 RQ (Lib.hid (own_alies HV2.out O7.out)) HV2 (by omega)).mono ?_
        rintro e w8 ⟨Aq, cq, rfl, ho, hb⟩
        have O8 := Lib.hid ho
        clear ho
        have B8 := Lib.hid (Below.tr B7.out hb)
        have Fgs_8 := Lib.hid (own_below O7.out hb)
        clear O7
        clear hb
        go_wp2_with fail
        refine (specReach_any O s2 t2 _ v2 _ gs _ q0 q1 RQ (Lib.hid (own_alies HV2.out Fgs_8.out)) HV2 (by omega)).mono ?_
        rintro e w9 ⟨Aq2, cq2, rfl, ho, hb⟩
        have O9 := Lib.hid ho
        clear ho
        have B9 := Lib.hid (Below.tr B8.out hb)
        have Fgs_9 := Lib.hid (own_below Fgs_8.out hb)
        clear Fgs_8
        have Fq_9 := Lib.hid (own_below O8.out hb)
        clear O8
        clear hb
        go_wp2_with fail
        refine (sameInts_same _ _ _ _ _ q0 _ (Lib.hid (own_ilies Fq_9.out)) (Lib.hid (own_ilies O9.out)) (Lib.hid rfl) (by omega)).mono ?_
        rintro e w10 ⟨rfl, hb⟩
        have B10 := Lib.hid (Below.tr B9.out hb)
        have Fgs_10 := Lib.hid (own_below Fgs_9.out hb)
        clear Fgs_9
        have Fq_10 := Lib.hid (own_below Fq_9.out hb)
        clear Fq_9
        have Fqq_10 := Lib.hid (own_below O9.out hb)
        clear O9
        clear hb
        go_wp2
        go_ret
        exact ⟨rfl, B10.out⟩
      have hc8 := inB_yes GO.out.2.2.2
      obtain ⟨k, hk⟩ : ∃ k : Nat, c = (k : Int) + 2 := ⟨(c - 2).toNat, by omega⟩
      have hk6 : k ≤ 6 := by omega
      subst hk
      have hia := ixB_iff.1 GO.out.2.1
      have hib := ixB_iff.1 GO.out.2.2.1
      obtain ⟨F, rfl⟩ := Int.eq_ofNat_of_zero_le hia.1
      obtain ⟨T, rfl⟩ := Int.eq_ofNat_of_zero_le hib.1
      have hgA : GoodA M es := by have := (good_s GO.out.1).2.2; simpa using this
      have GA := Lib.hid hgA
      have hM6 := hgA.hi
      clear hgA
      have YE : Hid (y0 = (wk (arcE es) M F (k + 1) T : Int)) := Lib.hid (by have h := RY.out; rw [rWlk_yes GO.out.1 GO.out.2.1 GO.out.2.2.1 GO.out.2.2.2] at h; have h2 := (Prod.mk.inj h).1; rw [← h2]; rw [show ((k : Int) + 2 - 1).toNat = k + 1 by omega]; simp)
      have hck : (k : Int) + 2 - 1 = (k : Int) + 1 := by omega
      have SL : Hid (∀ s, s ≤ M → sumTo (fun a => if arcE es a T then wk (arcE es) M F k a else 0) s ≤ 10077696) := Lib.hid (fun s hs => wsum_le hM6 (by omega) (by omega))
      go_wp2_with fail
      go_loopw [27, 28] (fun sv iv wr => ∃ i : Nat, i ≤ M ∧ iv = .int .i64 i ∧ sv = .int .i64 (sumTo (fun a => if arcE es a T then wk (arcE es) M F k a else 0) i : Nat) ∧ Below w6.heap.size w6 wr) (fun _ iv _ => M - (intOf iv).toNat)
      case atStart => exact ⟨0, Nat.zero_le _, rfl, rfl, Below.refl _ _⟩
      case round =>
        obtain ⟨i, hi, rfl, rfl, hbr⟩ := hrel
        have R1 := Lib.hid hbr
        clear hbr
        obtain ⟨S, hS⟩ : ∃ S, sumTo (fun a => if arcE es a T then wk (arcE es) M F k a else 0) i = S := ⟨_, rfl⟩
        have HS := Lib.hid hS
        have hS7 : S ≤ 10077696 := by rw [← hS]; exact SL.out i hi
        rw [hS]
        clear hS
        by_cases hlt : i < M
        · skip
          obtain ⟨u, hu⟩ : ∃ u, wk (arcE es) M F k i = u := ⟨_, rfl⟩
          have HU := Lib.hid hu
          have hu7 : u ≤ 1679616 := by rw [← hu]; exact wk_small hM6 (by omega)
          clear hu
          have RW : Hid (rWlk (M : Int) es (F : Int) (i : Int) ((k : Int) + 1) = ((u : Int), true)) := Lib.hid (by rw [rWlk_yes GO.out.1 GO.out.2.1 (ixB_iff.2 ⟨by omega, by omega⟩) (by unfold inB; rw [decide_eq_true_eq]; omega)]; rw [show ((k : Int) + 1 - 1).toNat = k by omega]; simp only [Int.toNat_natCast]; rw [HU.out])
          have LE := Lib.hid ((own_alies HV.out Fes_6.out).below R1.out)
          go_wp2_with fail
          refine (implWlk_any M F i ((k : Int) + 1) _ v _ es _ (u : Int) true RW LE HV (by omega)).mono ?_
          rintro e w40 ⟨rfl, hb⟩
          have R2 := Lib.hid (Below.tr R1.out hb)
          have LE2 := Lib.hid (LE.out.below hb)
          clear hb
          obtain ⟨dd, hdd⟩ : ∃ dd, decide (((i : Int), (T : Int)) ∈ es) = dd := ⟨_, rfl⟩
          have DD := Lib.hid hdd
          have HE : Hid (arcE es i T = dd) := Lib.hid (by unfold arcE; exact hdd)
          clear hdd
          go_wp2_with fail
          refine (hasArc_any _ v _ es i T _ dd DD LE2 HV (by omega)).mono ?_
          rintro e w41 ⟨rfl, hb⟩
          have R3 := Lib.hid (Below.tr R2.out hb)
          clear hb
          cases dd with
          | false =>
            have HN : Hid (sumTo (fun a => if arcE es a T then wk (arcE es) M F k a else 0) (i + 1) = S) := Lib.hid (by simp only [sumTo]; rw [HS.out, HE.out]; simp)
            go_wp2
            go_roundw
            case rel => exact ⟨i + 1, by omega, by go_num, by rw [HN.out], R3.out⟩
            case measure => simp [intOf]; omega
          | true =>
            have HN : Hid (sumTo (fun a => if arcE es a T then wk (arcE es) M F k a else 0) (i + 1) = S + u) := Lib.hid (by simp only [sumTo]; rw [HS.out, HE.out, HU.out]; simp)
            go_wp2
            go_roundw
            case rel => exact ⟨i + 1, by omega, by go_num, by rw [HN.out]; push_cast; rfl, R3.out⟩
            case measure => simp [intOf]; omega
        · skip
          obtain rfl : i = M := by omega
          have W3 : Hid ((S : Int) = y0) := Lib.hid (by rw [YE.out, ← HS.out]; rfl)
          rw [W3.out]
          have hb := R1.out
          have B7 := Lib.hid (Below.tr B6.out hb)
          have Fes_7 := Lib.hid (own_below Fes_6.out hb)
          clear Fes_6
          clear hb
          go_wp2_with fail
          refine (drawReach_any a1 len1 cap1 _ (Lib.hid (h1.out.below B7.out))).mono ?_
          rintro e w8 ⟨O, gs, G, cg, s2, t2, hO7, hx30, rfl, ho, hb⟩
          have O8 := Lib.hid ho
          clear ho
          have B8 := Lib.hid (Below.tr B7.out hb)
          clear hb
          obtain ⟨v2, hv2⟩ : ∃ n, gs.length = n := ⟨_, rfl⟩
          rw [hv2] at O8 hx30 ⊢
          have HV2 := Lib.hid hv2
          have hv230 : v2 ≤ 30 := hx30
          clear hv2 hx30
          obtain ⟨⟨q0, q1⟩, hr⟩ : ∃ x, rReach (O : Int) gs s2 t2 = x := ⟨_, rfl⟩
          have RQ := Lib.hid hr
          have hql : q0.length ≤ 1000 := rReach_len hr
          clear hr
          have hbq : (q1 == q1) = true := by simp
          go_wp2_with fail
          refine (implReach_any O s2 t2 _ v2 _ gs _ q0 q1 RQ (Lib.hid (own_alies HV2.out O8.out)) HV2 (by omega)).mono ?_
          rintro e w9 ⟨Aq, cq, rfl, ho, hb⟩
          have O9 := Lib.hid ho
          clear ho
          have B9 := Lib.hid (Below.tr B8.out hb)
          have Fgs_9 := Lib.hid (own_below O8.out hb)
          clear O8
          clear hb
          go_wp2_with fail
          refine (specReach_any O s2 t2 _ v2 _ gs _ q0 q1 RQ (Lib.hid (own_alies HV2.out Fgs_9.out)) HV2 (by omega)).mono ?_
          rintro e w10 ⟨Aq2, cq2, rfl, ho, hb⟩
          have O10 := Lib.hid ho
          clear ho
          have B10 := Lib.hid (Below.tr B9.out hb)
          have Fgs_10 := Lib.hid (own_below Fgs_9.out hb)
          clear Fgs_9
          have Fq_10 := Lib.hid (own_below O9.out hb)
          clear O9
          clear hb
          go_wp2_with fail
          refine (sameInts_same _ _ _ _ _ q0 _ (Lib.hid (own_ilies Fq_10.out)) (Lib.hid (own_ilies O10.out)) (Lib.hid rfl) (by omega)).mono ?_
          rintro e w11 ⟨rfl, hb⟩
          have B11 := Lib.hid (Below.tr B10.out hb)
          have Fgs_11 := Lib.hid (own_below Fgs_10.out hb)
          clear Fgs_10
          have Fq_11 := Lib.hid (own_below Fq_10.out hb)
          clear Fq_10
          have Fqq_11 := Lib.hid (own_below O10.out hb)
          clear O10
          clear hb
          go_wp2
          go_ret
          exact ⟨rfl, B11.out⟩
  | true =>
    have GO0 : Hid (goodAB (N : Int) xs = true ∧ ixB f N = true) := Lib.hid (by
      have h := RI.out
      cases q : goodAB (N : Int) xs with
      | false => rw [rEno_1 q] at h; cases h
      | true =>
        cases q2 : ixB f N with
        | false => rw [rEno_2 q2] at h; cases h
        | true => exact ⟨rfl, rfl⟩)
    have hif := ixB_iff.1 GO0.out.2
    obtain ⟨F0, rfl⟩ := Int.eq_ofNat_of_zero_le hif.1
    have hFN : F0 < N := by omega
    have hgA : GoodA N xs := by have := (good_s GO0.out.1).2.2; simpa using this
    have hN6 := hgA.hi
    clear hgA
    obtain ⟨K, hK⟩ : ∃ K, enK (arcE xs) N F0 = K := ⟨_, rfl⟩
    have HK := Lib.hid hK
    have ER : Hid (EnoughR (arcE xs) N F0 K) := Lib.hid (by rw [← hK]; exact enK_is hFN)
    have hKN : K < N := enough_lt hFN ER.out
    clear hK
    have hr0 : r0 = (K : Int) := by have h := RI.out; rw [rEno_yes GO0.out.1 GO0.out.2] at h; have h2 := (Prod.mk.inj h).1; rw [← h2]; simp only [Int.toNat_natCast]; rw [HK.out]
    subst hr0
    have RR : Hid (∀ m : Nat, m ≤ 8 → rReach (N : Int) xs (F0 : Int) (m : Int) = (castL (rwL (arcE xs) N F0 m), true)) := Lib.hid (fun m hm => by rw [rReach_yes GO0.out.1 GO0.out.2 (by unfold inB; rw [decide_eq_true_eq]; omega)]; simp)
    obtain ⟨L, hL⟩ : ∃ L, castL (rwL (arcE xs) N F0 K) = L := ⟨_, rfl⟩
    have hLl : L.length ≤ 6 := by rw [← hL]; exact Nat.le_trans (rwL_len _ _ _ _) hN6
    have R1' : Hid (rReach (N : Int) xs (F0 : Int) (K : Int) = (L, true)) := Lib.hid (by rw [RR.out K (by omega), hL])
    have R2' : Hid (rReach (N : Int) xs (F0 : Int) 8 = (L, true)) := Lib.hid (by have := RR.out 8 (by omega); rw [enough_all ER.out (show K ≤ 8 by omega), hL] at this; exact this)
    have HL := Lib.hid hL
    clear hL
    have hKi : (K : Int) < (N : Int) := by omega
    go_wp2_with fail
    refine (implReach_any N F0 K _ n _ xs _ L true R1' (Lib.hid (own_alies HX.out Fxs_3.out)) HX (by omega)).mono ?_
    rintro e w4 ⟨A1, c1', rfl, ho, hb⟩
    have O4 := Lib.hid ho
    clear ho
    have B4 := Lib.hid (Below.tr B3.out hb)
    have Fxs_4 := Lib.hid (own_below Fxs_3.out hb)
    clear Fxs_3
    clear hb
    go_wp2_with fail
    refine (implReach_any N F0 8 _ n _ xs _ L true R2' (Lib.hid (own_alies HX.out Fxs_4.out)) HX (by omega)).mono ?_
    rintro e w5 ⟨A2, c2', rfl, ho, hb⟩
    have O5 := Lib.hid ho
    clear ho
    have B5 := Lib.hid (Below.tr B4.out hb)
    have Fxs_5 := Lib.hid (own_below Fxs_4.out hb)
    clear Fxs_4
    have FL_5 := Lib.hid (own_below O4.out hb)
    clear O4
    clear hb
    go_wp2_with fail
    refine (sameInts_same _ _ _ _ _ L _ (Lib.hid (own_ilies FL_5.out)) (Lib.hid (own_ilies O5.out)) (Lib.hid rfl) (by omega)).mono ?_
    rintro e w6 ⟨rfl, hb⟩
    have B6 := Lib.hid (Below.tr B5.out hb)
    have Fxs_6 := Lib.hid (own_below Fxs_5.out hb)
    clear Fxs_5
    have FL_6 := Lib.hid (own_below FL_5.out hb)
    clear FL_5
    have FL2_6 := Lib.hid (own_below O5.out hb)
    clear O5
    clear hb
    by_cases hK0 : 0 < K
    · skip
      obtain ⟨q, hq⟩ : ∃ q, K = q + 1 := ⟨K - 1, by omega⟩
      have hqi : (K : Int) - 1 = (q : Int) := by omega
      have hqw : IntKind.i64.wrap (q : Int) = (q : Int) := by rw [IntKind.wrap_i64]; omega
      obtain ⟨L3, hL3⟩ : ∃ L3, castL (rwL (arcE xs) N F0 q) = L3 := ⟨_, rfl⟩
      have hll : L3.length < L.length := by rw [← hL3, ← HL.out, castL_len, castL_len, hq]; exact ER.out.2 q (by omega)
      have hlli : ¬ ((L.length : Int) ≤ (L3.length : Int)) := by omega
      have R3' : Hid (rReach (N : Int) xs (F0 : Int) (q : Int) = (L3, true)) := Lib.hid (by rw [RR.out q (by omega), hL3])
      clear hq hL3
      go_wp2_with fail
      refine (implReach_any N F0 q _ n _ xs _ L3 true R3' (Lib.hid (own_alies HX.out Fxs_6.out)) HX (by omega)).mono ?_
      rintro e w7 ⟨A3, c3', rfl, ho, hb⟩
      have O7 := Lib.hid ho
      clear ho
      have B7 := Lib.hid (Below.tr B6.out hb)
      have Fxs_7 := Lib.hid (own_below Fxs_6.out hb)
      clear Fxs_6
      have FL_7 := Lib.hid (own_below FL_6.out hb)
      clear FL_6
      have FL2_7 := Lib.hid (own_below FL2_6.out hb)
      clear FL2_6
      clear hb
      go_wp2_with fail
      refine (drawWlk_any a1 len1 cap1 _ (Lib.hid (h1.out.below B7.out))).mono ?_
      rintro e w8 ⟨M, es, E, ce2, a, b, c, hM7, hx30, rfl, ho, hb⟩
      have O8 := Lib.hid ho
      clear ho
      have B8 := Lib.hid (Below.tr B7.out hb)
      clear hb
      obtain ⟨v, hv⟩ : ∃ n, es.length = n := ⟨_, rfl⟩
      rw [hv] at O8 hx30 ⊢
      have HV := Lib.hid hv
      have hv30 : v ≤ 30 := hx30
      clear hv hx30
      obtain ⟨⟨y0, y1⟩, hr⟩ : ∃ x, rWlk (M : Int) es a b c = x := ⟨_, rfl⟩
      have RY := Lib.hid hr
      clear hr
      have hby : (y0 != y0) = false := by simp
      have hby1 : (y1 != y1) = false := by simp
      go_wp2_with fail
      refine (implWlk_any M a b c _ v _ es _ y0 y1 RY (Lib.hid (own_alies HV.out O8.out)) HV (by omega)).mono ?_
      rintro e w9 ⟨rfl, hb⟩
      have B9 := Lib.hid (Below.tr B8.out hb)
      have Fes_9 := Lib.hid (own_below O8.out hb)
      clear O8
      clear hb
      go_wp2_with fail
      refine (specWlk_any M a b c _ v _ es _ y0 y1 RY (Lib.hid (own_alies HV.out Fes_9.out)) HV (by omega)).mono ?_
      rintro e w10 ⟨rfl, hb⟩
      have B10 := Lib.hid (Below.tr B9.out hb)
      have Fes_10 := Lib.hid (own_below Fes_9.out hb)
      clear Fes_9
      clear hb
      cases y1 with
      | false =>
        go_wp2_with fail
        refine (drawReach_any a1 len1 cap1 _ (Lib.hid (h1.out.below B10.out))).mono ?_
        rintro e w11 ⟨O, gs, G, cg, s2, t2, hO7, hx30, rfl, ho, hb⟩
        have O11 := Lib.hid ho
        clear ho
        have B11 := Lib.hid (Below.tr B10.out hb)
        clear hb
        obtain ⟨v2, hv2⟩ : ∃ n, gs.length = n := ⟨_, rfl⟩
        rw [hv2] at O11 hx30 ⊢
        have HV2 := Lib.hid hv2
        have hv230 : v2 ≤ 30 := hx30
        clear hv2 hx30
        obtain ⟨⟨q0, q1⟩, hr⟩ : ∃ x, rReach (O : Int) gs s2 t2 = x := ⟨_, rfl⟩
        have RQ := Lib.hid hr
        have hql : q0.length ≤ 1000 := rReach_len hr
        clear hr
        have hbq : (q1 == q1) = true := by simp
        go_wp2_with fail
        refine (implReach_any O s2 t2 _ v2 _ gs _ q0 q1 RQ (Lib.hid (own_alies HV2.out O11.out)) HV2 (by omega)).mono ?_
        rintro e w12 ⟨Aq, cq, rfl, ho, hb⟩
        have O12 := Lib.hid ho
        clear ho
        have B12 := Lib.hid (Below.tr B11.out hb)
        have Fgs_12 := Lib.hid (own_below O11.out hb)
        clear O11
        clear hb
        go_wp2_with fail
        refine (specReach_any O s2 t2 _ v2 _ gs _ q0 q1 RQ (Lib.hid (own_alies HV2.out Fgs_12.out)) HV2 (by omega)).mono ?_
        rintro e w13 ⟨Aq2, cq2, rfl, ho, hb⟩
        have O13 := Lib.hid ho
        clear ho
        have B13 := Lib.hid (Below.tr B12.out hb)
        have Fgs_13 := Lib.hid (own_below Fgs_12.out hb)
        clear Fgs_12
        have Fq_13 := Lib.hid (own_below O12.out hb)
        clear O12
        clear hb
        go_wp2_with fail
        refine (sameInts_same _ _ _ _ _ q0 _ (Lib.hid (own_ilies Fq_13.out)) (Lib.hid (own_ilies O13.out)) (Lib.hid rfl) (by omega)).mono ?_
        rintro e w14 ⟨rfl, hb⟩
        have B14 := Lib.hid (Below.tr B13.out hb)
        have Fgs_14 := Lib.hid (own_below Fgs_13.out hb)
        clear Fgs_13
        have Fq_14 := Lib.hid (own_below Fq_13.out hb)
        clear Fq_13
        have Fqq_14 := Lib.hid (own_below O13.out hb)
        clear O13
        clear hb
        go_wp2
        go_ret
        exact ⟨rfl, B14.out⟩
      | true =>
        have GO : Hid (goodAB (M : Int) es = true ∧ ixB a M = true ∧ ixB b M = true ∧ inB 1 8 c = true) := Lib.hid (by
          have h := RY.out
          cases q : goodAB (M : Int) es with
          | false => rw [rWlk_1 q] at h; cases h
          | true =>
            cases q2 : ixB a M with
            | false => rw [rWlk_2 q2] at h; cases h
            | true =>
              cases q3 : ixB b M with
              | false => rw [rWlk_3 q3] at h; cases h
              | true =>
                cases q4 : inB 1 8 c with
                | false => rw [rWlk_4 q4] at h; cases h
                | true => exact ⟨rfl, rfl, rfl, rfl⟩)
        by_cases hc1 : c ≤ 1
        · skip
          go_wp2_with fail
          refine (drawReach_any a1 len1 cap1 _ (Lib.hid (h1.out.below B10.out))).mono ?_
          rintro e w11 ⟨O, gs, G, cg, s2, t2, hO7, hx30, rfl, ho, hb⟩
          have O11 := Lib.hid ho
          clear ho
          have B11 := Lib.hid (Below.tr B10.out hb)
          clear hb
          obtain ⟨v2, hv2⟩ : ∃ n, gs.length = n := ⟨_, rfl⟩
          rw [hv2] at O11 hx30 ⊢
          have HV2 := Lib.hid hv2
          have hv230 : v2 ≤ 30 := hx30
          clear hv2 hx30
          obtain ⟨⟨q0, q1⟩, hr⟩ : ∃ x, rReach (O : Int) gs s2 t2 = x := ⟨_, rfl⟩
          have RQ := Lib.hid hr
          have hql : q0.length ≤ 1000 := rReach_len hr
          clear hr
          have hbq : (q1 == q1) = true := by simp
          go_wp2_with fail
          refine (implReach_any O s2 t2 _ v2 _ gs _ q0 q1 RQ (Lib.hid (own_alies HV2.out O11.out)) HV2 (by omega)).mono ?_
          rintro e w12 ⟨Aq, cq, rfl, ho, hb⟩
          have O12 := Lib.hid ho
          clear ho
          have B12 := Lib.hid (Below.tr B11.out hb)
          have Fgs_12 := Lib.hid (own_below O11.out hb)
          clear O11
          clear hb
          go_wp2_with fail
          refine (specReach_any O s2 t2 _ v2 _ gs _ q0 q1 RQ (Lib.hid (own_alies HV2.out Fgs_12.out)) HV2 (by omega)).mono ?_
          rintro e w13 ⟨Aq2, cq2, rfl, ho, hb⟩
          have O13 := Lib.hid ho
          clear ho
          have B13 := Lib.hid (Below.tr B12.out hb)
          have Fgs_13 := Lib.hid (own_below Fgs_12.out hb)
          clear Fgs_12
          have Fq_13 := Lib.hid (own_below O12.out hb)
          clear O12
          clear hb
          go_wp2_with fail
          refine (sameInts_same _ _ _ _ _ q0 _ (Lib.hid (own_ilies Fq_13.out)) (Lib.hid (own_ilies O13.out)) (Lib.hid rfl) (by omega)).mono ?_
          rintro e w14 ⟨rfl, hb⟩
          have B14 := Lib.hid (Below.tr B13.out hb)
          have Fgs_14 := Lib.hid (own_below Fgs_13.out hb)
          clear Fgs_13
          have Fq_14 := Lib.hid (own_below Fq_13.out hb)
          clear Fq_13
          have Fqq_14 := Lib.hid (own_below O13.out hb)
          clear O13
          clear hb
          go_wp2
          go_ret
          exact ⟨rfl, B14.out⟩
        have hc8 := inB_yes GO.out.2.2.2
        obtain ⟨k, hk⟩ : ∃ k : Nat, c = (k : Int) + 2 := ⟨(c - 2).toNat, by omega⟩
        have hk6 : k ≤ 6 := by omega
        subst hk
        have hia := ixB_iff.1 GO.out.2.1
        have hib := ixB_iff.1 GO.out.2.2.1
        obtain ⟨F, rfl⟩ := Int.eq_ofNat_of_zero_le hia.1
        obtain ⟨T, rfl⟩ := Int.eq_ofNat_of_zero_le hib.1
        have hgA : GoodA M es := by have := (good_s GO.out.1).2.2; simpa using this
        have GA := Lib.hid hgA
        have hM6 := hgA.hi
        clear hgA
        have YE : Hid (y0 = (wk (arcE es) M F (k + 1) T : Int)) := Lib.hid (by have h := RY.out; rw [rWlk_yes GO.out.1 GO.out.2.1 GO.out.2.2.1 GO.out.2.2.2] at h; have h2 := (Prod.mk.inj h).1; rw [← h2]; rw [show ((k : Int) + 2 - 1).toNat = k + 1 by omega]; simp)
        have hck : (k : Int) + 2 - 1 = (k : Int) + 1 := by omega
        have SL : Hid (∀ s, s ≤ M → sumTo (fun a => if arcE es a T then wk (arcE es) M F k a else 0) s ≤ 10077696) := Lib.hid (fun s hs => wsum_le hM6 (by omega) (by omega))
        go_wp2_with fail
        go_loopw [27, 28] (fun sv iv wr => ∃ i : Nat, i ≤ M ∧ iv = .int .i64 i ∧ sv = .int .i64 (sumTo (fun a => if arcE es a T then wk (arcE es) M F k a else 0) i : Nat) ∧ Below w10.heap.size w10 wr) (fun _ iv _ => M - (intOf iv).toNat)
        case atStart => exact ⟨0, Nat.zero_le _, rfl, rfl, Below.refl _ _⟩
        case round =>
          obtain ⟨i, hi, rfl, rfl, hbr⟩ := hrel
          have R1 := Lib.hid hbr
          clear hbr
          obtain ⟨S, hS⟩ : ∃ S, sumTo (fun a => if arcE es a T then wk (arcE es) M F k a else 0) i = S := ⟨_, rfl⟩
          have HS := Lib.hid hS
          have hS7 : S ≤ 10077696 := by rw [← hS]; exact SL.out i hi
          rw [hS]
          clear hS
          by_cases hlt : i < M
          · skip
            obtain ⟨u, hu⟩ : ∃ u, wk (arcE es) M F k i = u := ⟨_, rfl⟩
            have HU := Lib.hid hu
            have hu7 : u ≤ 1679616 := by rw [← hu]; exact wk_small hM6 (by omega)
            clear hu
            have RW : Hid (rWlk (M : Int) es (F : Int) (i : Int) ((k : Int) + 1) = ((u : Int), true)) := Lib.hid (by rw [rWlk_yes GO.out.1 GO.out.2.1 (ixB_iff.2 ⟨by omega, by omega⟩) (by unfold inB; rw [decide_eq_true_eq]; omega)]; rw [show ((k : Int) + 1 - 1).toNat = k by omega]; simp only [Int.toNat_natCast]; rw [HU.out])
            have LE := Lib.hid ((own_alies HV.out Fes_10.out).below R1.out)
            go_wp2_with fail
            refine (implWlk_any M F i ((k : Int) + 1) _ v _ es _ (u : Int) true RW LE HV (by omega)).mono ?_
            rintro e w40 ⟨rfl, hb⟩
            have R2 := Lib.hid (Below.tr R1.out hb)
            have LE2 := Lib.hid (LE.out.below hb)
            clear hb
            obtain ⟨dd, hdd⟩ : ∃ dd, decide (((i : Int), (T : Int)) ∈ es) = dd := ⟨_, rfl⟩
            have DD := Lib.hid hdd
            have HE : Hid (arcE es i T = dd) := Lib.hid (by unfold arcE; exact hdd)
            clear hdd
            go_wp2_with fail
            refine (hasArc_any _ v _ es i T _ dd DD LE2 HV (by omega)).mono ?_
            rintro e w41 ⟨rfl, hb⟩
            have R3 := Lib.hid (Below.tr R2.out hb)
            clear hb
            cases dd with
            | false =>
              have HN : Hid (sumTo (fun a => if arcE es a T then wk (arcE es) M F k a else 0) (i + 1) = S) := Lib.hid (by simp only [sumTo]; rw [HS.out, HE.out]; simp)
              go_wp2
              go_roundw
              case rel => exact ⟨i + 1, by omega, by go_num, by rw [HN.out], R3.out⟩
              case measure => simp [intOf]; omega
            | true =>
              have HN : Hid (sumTo (fun a => if arcE es a T then wk (arcE es) M F k a else 0) (i + 1) = S + u) := Lib.hid (by simp only [sumTo]; rw [HS.out, HE.out, HU.out]; simp)
              go_wp2
              go_roundw
              case rel => exact ⟨i + 1, by omega, by go_num, by rw [HN.out]; push_cast; rfl, R3.out⟩
              case measure => simp [intOf]; omega
          · skip
            obtain rfl : i = M := by omega
            have W3 : Hid ((S : Int) = y0) := Lib.hid (by rw [YE.out, ← HS.out]; rfl)
            rw [W3.out]
            have hb := R1.out
            have B11 := Lib.hid (Below.tr B10.out hb)
            have Fes_11 := Lib.hid (own_below Fes_10.out hb)
            clear Fes_10
            clear hb
            go_wp2_with fail
            refine (drawReach_any a1 len1 cap1 _ (Lib.hid (h1.out.below B11.out))).mono ?_
            rintro e w12 ⟨O, gs, G, cg, s2, t2, hO7, hx30, rfl, ho, hb⟩
            have O12 := Lib.hid ho
            clear ho
            have B12 := Lib.hid (Below.tr B11.out hb)
            clear hb
            obtain ⟨v2, hv2⟩ : ∃ n, gs.length = n := ⟨_, rfl⟩
            rw [hv2] at O12 hx30 ⊢
            have HV2 := Lib.hid hv2
            have hv230 : v2 ≤ 30 := hx30
            clear hv2 hx30
            obtain ⟨⟨q0, q1⟩, hr⟩ : ∃ x, rReach (O : Int) gs s2 t2 = x := ⟨_, rfl⟩
            have RQ := Lib.hid hr
            have hql : q0.length ≤ 1000 := rReach_len hr
            clear hr
            have hbq : (q1 == q1) = true := by simp
            go_wp2_with fail
            refine (implReach_any O s2 t2 _ v2 _ gs _ q0 q1 RQ (Lib.hid (own_alies HV2.out O12.out)) HV2 (by omega)).mono ?_
            rintro e w13 ⟨Aq, cq, rfl, ho, hb⟩
            have O13 := Lib.hid ho
            clear ho
            have B13 := Lib.hid (Below.tr B12.out hb)
            have Fgs_13 := Lib.hid (own_below O12.out hb)
            clear O12
            clear hb
            go_wp2_with fail
            refine (specReach_any O s2 t2 _ v2 _ gs _ q0 q1 RQ (Lib.hid (own_alies HV2.out Fgs_13.out)) HV2 (by omega)).mono ?_
            rintro e w14 ⟨Aq2, cq2, rfl, ho, hb⟩
            have O14 := Lib.hid ho
            clear ho
            have B14 := Lib.hid (Below.tr B13.out hb)
            have Fgs_14 := Lib.hid (own_below Fgs_13.out hb)
            clear Fgs_13
            have Fq_14 := Lib.hid (own_below O13.out hb)
            clear O13
            clear hb
            go_wp2_with fail
            refine (sameInts_same _ _ _ _ _ q0 _ (Lib.hid (own_ilies Fq_14.out)) (Lib.hid (own_ilies O14.out)) (Lib.hid rfl) (by omega)).mono ?_
            rintro e w15 ⟨rfl, hb⟩
            have B15 := Lib.hid (Below.tr B14.out hb)
            have Fgs_15 := Lib.hid (own_below Fgs_14.out hb)
            clear Fgs_14
            have Fq_15 := Lib.hid (own_below Fq_14.out hb)
            clear Fq_14
            have Fqq_15 := Lib.hid (own_below O14.out hb)
            clear O14
            clear hb
            go_wp2
            go_ret
            exact ⟨rfl, B15.out⟩
    · skip
      go_wp2_with fail
      refine (drawWlk_any a1 len1 cap1 _ (Lib.hid (h1.out.below B6.out))).mono ?_
      rintro e w7 ⟨M, es, E, ce2, a, b, c, hM7, hx30, rfl, ho, hb⟩
      have O7 := Lib.hid ho
      clear ho
      have B7 := Lib.hid (Below.tr B6.out hb)
      clear hb
      obtain ⟨v, hv⟩ : ∃ n, es.length = n := ⟨_, rfl⟩
      rw [hv] at O7 hx30 ⊢
      have HV := Lib.hid hv
      have hv30 : v ≤ 30 := hx30
      clear hv hx30
      obtain ⟨⟨y0, y1⟩, hr⟩ : ∃ x, rWlk (M : Int) es a b c = x := ⟨_, rfl⟩
      have RY := Lib.hid hr
      clear hr
      have hby : (y0 != y0) = false := by simp
      have hby1 : (y1 != y1) = false := by simp
      go_wp2_with fail
      refine (implWlk_any M a b c _ v _ es _ y0 y1 RY (Lib.hid (own_alies HV.out O7.out)) HV (by omega)).mono ?_
      rintro e w8 ⟨rfl, hb⟩
      have B8 := Lib.hid (Below.tr B7.out hb)
      have Fes_8 := Lib.hid (own_below O7.out hb)
      clear O7
      clear hb
      go_wp2_with fail
      refine (specWlk_any M a b c _ v _ es _ y0 y1 RY (Lib.hid (own_alies HV.out Fes_8.out)) HV (by omega)).mono ?_
      rintro e w9 ⟨rfl, hb⟩
      have B9 := Lib.hid (Below.tr B8.out hb)
      have Fes_9 := Lib.hid (own_below Fes_8.out hb)
      clear Fes_8
      clear hb
      cases y1 with
      | false =>
        go_wp2_with fail
        refine (drawReach_any a1 len1 cap1 _ (Lib.hid (h1.out.below B9.out))).mono ?_
        rintro e w10 ⟨O, gs, G, cg, s2, t2, hO7, hx30, rfl, ho, hb⟩
        have O10 := Lib.hid ho
        clear ho
        have B10 := Lib.hid (Below.tr B9.out hb)
        clear hb
        obtain ⟨v2, hv2⟩ : ∃ n, gs.length = n := ⟨_, rfl⟩
        rw [hv2] at O10 hx30 ⊢
        have HV2 := Lib.hid hv2
        have hv230 : v2 ≤ 30 := hx30
        clear hv2 hx30
        obtain ⟨⟨q0, q1⟩, hr⟩ : ∃ x, rReach (O : Int) gs s2 t2 = x := ⟨_, rfl⟩
        have RQ := Lib.hid hr
        have hql : q0.length ≤ 1000 := rReach_len hr
        clear hr
        have hbq : (q1 == q1) = true := by simp
        go_wp2_with fail
        refine (implReach_any O s2 t2 _ v2 _ gs _ q0 q1 RQ (Lib.hid (own_alies HV2.out O10.out)) HV2 (by omega)).mono ?_
        rintro e w11 ⟨Aq, cq, rfl, ho, hb⟩
        have O11 := Lib.hid ho
        clear ho
        have B11 := Lib.hid (Below.tr B10.out hb)
        have Fgs_11 := Lib.hid (own_below O10.out hb)
        clear O10
        clear hb
        go_wp2_with fail
        refine (specReach_any O s2 t2 _ v2 _ gs _ q0 q1 RQ (Lib.hid (own_alies HV2.out Fgs_11.out)) HV2 (by omega)).mono ?_
        rintro e w12 ⟨Aq2, cq2, rfl, ho, hb⟩
        have O12 := Lib.hid ho
        clear ho
        have B12 := Lib.hid (Below.tr B11.out hb)
        have Fgs_12 := Lib.hid (own_below Fgs_11.out hb)
        clear Fgs_11
        have Fq_12 := Lib.hid (own_below O11.out hb)
        clear O11
        clear hb
        go_wp2_with fail
        refine (sameInts_same _ _ _ _ _ q0 _ (Lib.hid (own_ilies Fq_12.out)) (Lib.hid (own_ilies O12.out)) (Lib.hid rfl) (by omega)).mono ?_
        rintro e w13 ⟨rfl, hb⟩
        have B13 := Lib.hid (Below.tr B12.out hb)
        have Fgs_13 := Lib.hid (own_below Fgs_12.out hb)
        clear Fgs_12
        have Fq_13 := Lib.hid (own_below Fq_12.out hb)
        clear Fq_12
        have Fqq_13 := Lib.hid (own_below O12.out hb)
        clear O12
        clear hb
        go_wp2
        go_ret
        exact ⟨rfl, B13.out⟩
      | true =>
        have GO : Hid (goodAB (M : Int) es = true ∧ ixB a M = true ∧ ixB b M = true ∧ inB 1 8 c = true) := Lib.hid (by
          have h := RY.out
          cases q : goodAB (M : Int) es with
          | false => rw [rWlk_1 q] at h; cases h
          | true =>
            cases q2 : ixB a M with
            | false => rw [rWlk_2 q2] at h; cases h
            | true =>
              cases q3 : ixB b M with
              | false => rw [rWlk_3 q3] at h; cases h
              | true =>
                cases q4 : inB 1 8 c with
                | false => rw [rWlk_4 q4] at h; cases h
                | true => exact ⟨rfl, rfl, rfl, rfl⟩)
        by_cases hc1 : c ≤ 1
        · skip
          go_wp2_with fail
          refine (drawReach_any a1 len1 cap1 _ (Lib.hid (h1.out.below B9.out))).mono ?_
          rintro e w10 ⟨O, gs, G, cg, s2, t2, hO7, hx30, rfl, ho, hb⟩
          have O10 := Lib.hid ho
          clear ho
          have B10 := Lib.hid (Below.tr B9.out hb)
          clear hb
          obtain ⟨v2, hv2⟩ : ∃ n, gs.length = n := ⟨_, rfl⟩
          rw [hv2] at O10 hx30 ⊢
          have HV2 := Lib.hid hv2
          have hv230 : v2 ≤ 30 := hx30
          clear hv2 hx30
          obtain ⟨⟨q0, q1⟩, hr⟩ : ∃ x, rReach (O : Int) gs s2 t2 = x := ⟨_, rfl⟩
          have RQ := Lib.hid hr
          have hql : q0.length ≤ 1000 := rReach_len hr
          clear hr
          have hbq : (q1 == q1) = true := by simp
          go_wp2_with fail
          refine (implReach_any O s2 t2 _ v2 _ gs _ q0 q1 RQ (Lib.hid (own_alies HV2.out O10.out)) HV2 (by omega)).mono ?_
          rintro e w11 ⟨Aq, cq, rfl, ho, hb⟩
          have O11 := Lib.hid ho
          clear ho
          have B11 := Lib.hid (Below.tr B10.out hb)
          have Fgs_11 := Lib.hid (own_below O10.out hb)
          clear O10
          clear hb
          go_wp2_with fail
          refine (specReach_any O s2 t2 _ v2 _ gs _ q0 q1 RQ (Lib.hid (own_alies HV2.out Fgs_11.out)) HV2 (by omega)).mono ?_
          rintro e w12 ⟨Aq2, cq2, rfl, ho, hb⟩
          have O12 := Lib.hid ho
          clear ho
          have B12 := Lib.hid (Below.tr B11.out hb)
          have Fgs_12 := Lib.hid (own_below Fgs_11.out hb)
          clear Fgs_11
          have Fq_12 := Lib.hid (own_below O11.out hb)
          clear O11
          clear hb
          go_wp2_with fail
          refine (sameInts_same _ _ _ _ _ q0 _ (Lib.hid (own_ilies Fq_12.out)) (Lib.hid (own_ilies O12.out)) (Lib.hid rfl) (by omega)).mono ?_
          rintro e w13 ⟨rfl, hb⟩
          have B13 := Lib.hid (Below.tr B12.out hb)
          have Fgs_13 := Lib.hid (own_below Fgs_12.out hb)
          clear Fgs_12
          have Fq_13 := Lib.hid (own_below Fq_12.out hb)
          clear Fq_12
          have Fqq_13 := Lib.hid (own_below O12.out hb)
          clear O12
          clear hb
          go_wp2
          go_ret
          exact ⟨rfl, B13.out⟩
        have hc8 := inB_yes GO.out.2.2.2
        obtain ⟨k, hk⟩ : ∃ k : Nat, c = (k : Int) + 2 := ⟨(c - 2).toNat, by omega⟩
        have hk6 : k ≤ 6 := by omega
        subst hk
        have hia := ixB_iff.1 GO.out.2.1
        have hib := ixB_iff.1 GO.out.2.2.1
        obtain ⟨F, rfl⟩ := Int.eq_ofNat_of_zero_le hia.1
        obtain ⟨T, rfl⟩ := Int.eq_ofNat_of_zero_le hib.1
        have hgA : GoodA M es := by have := (good_s GO.out.1).2.2; simpa using this
        have GA := Lib.hid hgA
        have hM6 := hgA.hi
        clear hgA
        have YE : Hid (y0 = (wk (arcE es) M F (k + 1) T : Int)) := Lib.hid (by have h := RY.out; rw [rWlk_yes GO.out.1 GO.out.2.1 GO.out.2.2.1 GO.out.2.2.2] at h; have h2 := (Prod.mk.inj h).1; rw [← h2]; rw [show ((k : Int) + 2 - 1).toNat = k + 1 by omega]; simp)
        have hck : (k : Int) + 2 - 1 = (k : Int) + 1 := by omega
        have SL : Hid (∀ s, s ≤ M → sumTo (fun a => if arcE es a T then wk (arcE es) M F k a else 0) s ≤ 10077696) := Lib.hid (fun s hs => wsum_le hM6 (by omega) (by omega))
        go_wp2_with fail
        go_loopw [27, 28] (fun sv iv wr => ∃ i : Nat, i ≤ M ∧ iv = .int .i64 i ∧ sv = .int .i64 (sumTo (fun a => if arcE es a T then wk (arcE es) M F k a else 0) i : Nat) ∧ Below w9.heap.size w9 wr) (fun _ iv _ => M - (intOf iv).toNat)
        case atStart => exact ⟨0, Nat.zero_le _, rfl, rfl, Below.refl _ _⟩
        case round =>
          obtain ⟨i, hi, rfl, rfl, hbr⟩ := hrel
          have R1 := Lib.hid hbr
          clear hbr
          obtain ⟨S, hS⟩ : ∃ S, sumTo (fun a => if arcE es a T then wk (arcE es) M F k a else 0) i = S := ⟨_, rfl⟩
          have HS := Lib.hid hS
          have hS7 : S ≤ 10077696 := by rw [← hS]; exact SL.out i hi
          rw [hS]
          clear hS
          by_cases hlt : i < M
          · skip
            obtain ⟨u, hu⟩ : ∃ u, wk (arcE es) M F k i = u := ⟨_, rfl⟩
            have HU := Lib.hid hu
            have hu7 : u ≤ 1679616 := by rw [← hu]; exact wk_small hM6 (by omega)
            clear hu
            have RW : Hid (rWlk (M : Int) es (F : Int) (i : Int) ((k : Int) + 1) = ((u : Int), true)) := Lib.hid (by rw [rWlk_yes GO.out.1 GO.out.2.1 (ixB_iff.2 ⟨by omega, by omega⟩) (by unfold inB; rw [decide_eq_true_eq]; omega)]; rw [show ((k : Int) + 1 - 1).toNat = k by omega]; simp only [Int.toNat_natCast]; rw [HU.out])
            have LE := Lib.hid ((own_alies HV.out Fes_9.out).below R1.out)
            go_wp2_with fail
            refine (implWlk_any M F i ((k : Int) + 1) _ v _ es _ (u : Int) true RW LE HV (by omega)).mono ?_
            rintro e w40 ⟨rfl, hb⟩
            have R2 := Lib.hid (Below.tr R1.out hb)
            have LE2 := Lib.hid (LE.out.below hb)
            clear hb
            obtain ⟨dd, hdd⟩ : ∃ dd, decide (((i : Int), (T : Int)) ∈ es) = dd := ⟨_, rfl⟩
            have DD := Lib.hid hdd
            have HE : Hid (arcE es i T = dd) := Lib.hid (by unfold arcE; exact hdd)
            clear hdd
            go_wp2_with fail
            refine (hasArc_any _ v _ es i T _ dd DD LE2 HV (by omega)).mono ?_
            rintro e w41 ⟨rfl, hb⟩
            have R3 := Lib.hid (Below.tr R2.out hb)
            clear hb
            cases dd with
            | false =>
              have HN : Hid (sumTo (fun a => if arcE es a T then wk (arcE es) M F k a else 0) (i + 1) = S) := Lib.hid (by simp only [sumTo]; rw [HS.out, HE.out]; simp)
              go_wp2
              go_roundw
              case rel => exact ⟨i + 1, by omega, by go_num, by rw [HN.out], R3.out⟩
              case measure => simp [intOf]; omega
            | true =>
              have HN : Hid (sumTo (fun a => if arcE es a T then wk (arcE es) M F k a else 0) (i + 1) = S + u) := Lib.hid (by simp only [sumTo]; rw [HS.out, HE.out, HU.out]; simp)
              go_wp2
              go_roundw
              case rel => exact ⟨i + 1, by omega, by go_num, by rw [HN.out]; push_cast; rfl, R3.out⟩
              case measure => simp [intOf]; omega
          · skip
            obtain rfl : i = M := by omega
            have W3 : Hid ((S : Int) = y0) := Lib.hid (by rw [YE.out, ← HS.out]; rfl)
            rw [W3.out]
            have hb := R1.out
            have B10 := Lib.hid (Below.tr B9.out hb)
            have Fes_10 := Lib.hid (own_below Fes_9.out hb)
            clear Fes_9
            clear hb
            go_wp2_with fail
            refine (drawReach_any a1 len1 cap1 _ (Lib.hid (h1.out.below B10.out))).mono ?_
            rintro e w11 ⟨O, gs, G, cg, s2, t2, hO7, hx30, rfl, ho, hb⟩
            have O11 := Lib.hid ho
            clear ho
            have B11 := Lib.hid (Below.tr B10.out hb)
            clear hb
            obtain ⟨v2, hv2⟩ : ∃ n, gs.length = n := ⟨_, rfl⟩
            rw [hv2] at O11 hx30 ⊢
            have HV2 := Lib.hid hv2
            have hv230 : v2 ≤ 30 := hx30
            clear hv2 hx30
            obtain ⟨⟨q0, q1⟩, hr⟩ : ∃ x, rReach (O : Int) gs s2 t2 = x := ⟨_, rfl⟩
            have RQ := Lib.hid hr
            have hql : q0.length ≤ 1000 := rReach_len hr
            clear hr
            have hbq : (q1 == q1) = true := by simp
            go_wp2_with fail
            refine (implReach_any O s2 t2 _ v2 _ gs _ q0 q1 RQ (Lib.hid (own_alies HV2.out O11.out)) HV2 (by omega)).mono ?_
            rintro e w12 ⟨Aq, cq, rfl, ho, hb⟩
            have O12 := Lib.hid ho
            clear ho
            have B12 := Lib.hid (Below.tr B11.out hb)
            have Fgs_12 := Lib.hid (own_below O11.out hb)
            clear O11
            clear hb
            go_wp2_with fail
            refine (specReach_any O s2 t2 _ v2 _ gs _ q0 q1 RQ (Lib.hid (own_alies HV2.out Fgs_12.out)) HV2 (by omega)).mono ?_
            rintro e w13 ⟨Aq2, cq2, rfl, ho, hb⟩
            have O13 := Lib.hid ho
            clear ho
            have B13 := Lib.hid (Below.tr B12.out hb)
            have Fgs_13 := Lib.hid (own_below Fgs_12.out hb)
            clear Fgs_12
            have Fq_13 := Lib.hid (own_below O12.out hb)
            clear O12
            clear hb
            go_wp2_with fail
            refine (sameInts_same _ _ _ _ _ q0 _ (Lib.hid (own_ilies Fq_13.out)) (Lib.hid (own_ilies O13.out)) (Lib.hid rfl) (by omega)).mono ?_
            rintro e w14 ⟨rfl, hb⟩
            have B14 := Lib.hid (Below.tr B13.out hb)
            have Fgs_14 := Lib.hid (own_below Fgs_13.out hb)
            clear Fgs_13
            have Fq_14 := Lib.hid (own_below Fq_13.out hb)
            clear Fq_13
            have Fqq_14 := Lib.hid (own_below O13.out hb)
            clear O13
            clear hb
            go_wp2
            go_ret
            exact ⟨rfl, B14.out⟩
end Go.Proofs.Ytbmmajdacebncaa
